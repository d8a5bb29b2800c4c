/-
  A slice of numbers that came in as an argument.
  A snapshot that came in as an argument: two numbers, a slice of numbers somewhere in memory, a text.
-/
import Derived.Test.YtpenpbopehbncaaDoorPack13
import Derived.ChangeSlices
import Derived.WideShapes
import Derived.Deep.Slices
import Derived.ChangeSame
namespace Go.Proofs.YtpenpbopehbncaaDoor
open Go.RowKit Go.Deep Go.ChangeShapes Go.WideShapes P5 K
set_option linter.unusedVariables false

set_option maxRecDepth 100000 in
theorem ints_in {H : Type} {enc : TypeId × Value → H} {W : World} {r : Reach} {b0 : Nat} {v : Value} {d : DataW H} {p : List MemPlace} (hv : Value.okWide Tryd.prog W r b0 24 v) (h : DataW.Trod enc Tryd.prog W 0 (fun _ => true) true 24 v d p) :
    ∃ (oa : Option Addr) (n cap : Nat) (zs : List Int), v = .slice oa n cap ∧ IntsAt W oa n cap zs := by
  obtain ⟨oa, n, cap, rfl⟩ := okWide_slice Tryd.underlying24 hv
  obtain ⟨fuel, hf⟩ := h
  rcases open_ints Tryd.underlying24 Tryd.underlying3 (by kernel_rfl) hf with ⟨hcs, _⟩ | ⟨x, l, c, zs, hcs, _, hl, hm, hz, _, hcell, hwz⟩
  · simp [Value.cells] at hcs
    obtain ⟨rfl, rfl, rfl⟩ := hcs
    exact ⟨none, 0, 0, [], rfl, ⟨rfl, Nat.le_refl _, by unfold maxLen; omega, fun z hz => by simp at hz, fun i z hz => by simp at hz⟩⟩
  · simp [Value.cells] at hcs
    obtain ⟨rfl, rfl, rfl⟩ := hcs
    have hz' : zs.length = cap := by simpa using hz
    refine ⟨_, n, cap, zs.take n, rfl, ⟨by simp; omega, hl, hm, fun z h => hwz z (List.mem_of_mem_take h), fun i z hi => ?_⟩⟩
    have hin : i < n := by have := (List.getElem?_eq_some_iff.1 hi).1; simp at this; omega
    have hzi : zs[i]? = some z := by rw [List.getElem?_take_of_lt hin] at hi; exact hi
    have h1 := hcell i (by omega)
    have h2 : zs.getD i 0 = z := by simp [List.getD_eq_getElem?_getD, hzi]
    rw [h2] at h1
    have hsp : x.spot = none := by
      have h0 := hcell 0 (by omega)
      have h3 : W.cell? x = some (.int .i64 (zs.getD 0 0)) := by simpa [Addr.add] using h0
      exact cell_spot h3
    obtain ⟨b, o, s⟩ := x
    simp only at hsp
    subst hsp
    rw [Addr.add_mid] at h1
    exact ⟨b, o, rfl, h1⟩

end Go.Proofs.YtpenpbopehbncaaDoor

namespace Go.Proofs.YtpenpbopehbncaaDoor
open Go.RowKit Go.Deep Go.ChangeShapes Go.WideShapes P5 K
set_option linter.unusedVariables false

set_option maxRecDepth 100000 in
theorem snap_in {H : Type} {enc : TypeId × Value → H} {W : World} {r : Reach} {b0 : Nat} {v : Value} {d : DataW H} {p : List MemPlace} (hv : Value.okWide Tryd.prog W r b0 26 v) (h : DataW.Trod enc Tryd.prog W 0 (fun _ => true) true 26 v d p) :
    ∃ (i t : Int) (oa : Option Addr) (n cap : Nat) (zs : List Int) (b : List UInt8), v = .agg #[.int .i64 i, .int .i64 t, .slice oa n cap, .string ⟨b.toArray⟩] ∧ IntsAt W oa n cap zs ∧ b.length ≤ maxLen ∧ (Lit.int .i64 i).wf = true ∧ (Lit.int .i64 t).wf = true := by
  obtain ⟨cs, rfl, hsz⟩ := okWide_struct Tryd.underlying26 hv
  have cJ : Tryd.prog.cellsOf 26 = 4 := by kernel_rfl
  rw [cJ] at hsz
  obtain ⟨c0, c1, c2, c3, rfl⟩ : ∃ a b c d, cs = #[a, b, c, d] := by
    obtain ⟨l⟩ := cs
    match l, hsz with
    | [a, b, c, d], _ => exact ⟨a, b, c, d, rfl⟩
  obtain ⟨fuel, hf⟩ := h
  obtain ⟨xs, n, _, _, _, hxl, hff⟩ := DataW.trod_struct Tryd.underlying26 hf
  have g0 := hff 0 _ rfl
  have g1 := hff 1 _ rfl
  have g2 := hff 2 _ rfl
  have g3 := hff 3 _ rfl
  have cI : Tryd.prog.cellsOf 3 = 1 := by kernel_rfl
  have cL : Tryd.prog.cellsOf 24 = 1 := by kernel_rfl
  have cS : Tryd.prog.cellsOf 9 = 1 := by kernel_rfl
  match xs, hxl with
  | [y0, y1, y2, y3], _ =>
    simp [cI, cL, cS, Value.cells] at g0 g1 g2 g3
    obtain ⟨k0, e0, _, m0⟩ := DataW.trod_int Tryd.underlying3 g0
    obtain ⟨k1, e1, _, m1⟩ := DataW.trod_int Tryd.underlying3 g1
    obtain ⟨s3, e3, _, m3⟩ := DataW.trod_string Tryd.underlying9 g3
    cases e0; cases e1; cases e3
    rcases open_ints Tryd.underlying24 Tryd.underlying3 (by kernel_rfl) g2 with ⟨hcs, _⟩ | ⟨x, l, c, zs, hcs, _, hl, hm, hz, _, hcell, hwz⟩
    · cases hcs
      exact ⟨k0, k1, none, 0, 0, [], s3.data.toList, rfl, ⟨rfl, Nat.le_refl _, by unfold maxLen; omega, fun z hz => by simp at hz, fun i z hz => by simp at hz⟩, by simpa using m3, m0, m1⟩
    · cases hcs
      have hz' : zs.length = c := by simpa using hz
      refine ⟨k0, k1, _, l, c, zs.take l, s3.data.toList, rfl, ⟨by simp; omega, hl, hm, fun z h => hwz z (List.mem_of_mem_take h), fun i z hi => ?_⟩, by simpa using m3, m0, m1⟩
      have hin : i < l := by have := (List.getElem?_eq_some_iff.1 hi).1; simp at this; omega
      have hzi : zs[i]? = some z := by rw [List.getElem?_take_of_lt hin] at hi; exact hi
      have h1 := hcell i (by omega)
      have h2 : zs.getD i 0 = z := by simp [List.getD_eq_getElem?_getD, hzi]
      rw [h2] at h1
      have hsp : x.spot = none := by
        have h0 := hcell 0 (by omega)
        have h3 : W.cell? x = some (.int .i64 (zs.getD 0 0)) := by simpa [Addr.add] using h0
        exact cell_spot h3
      obtain ⟨bb, o, s⟩ := x
      simp only at hsp
      subst hsp
      rw [Addr.add_mid] at h1
      exact ⟨bb, o, rfl, h1⟩

end Go.Proofs.YtpenpbopehbncaaDoor
