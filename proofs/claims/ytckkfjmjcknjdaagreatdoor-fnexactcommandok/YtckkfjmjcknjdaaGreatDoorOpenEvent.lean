/-
  An event that came in as an argument: six numbers, two slices of numbers somewhere in memory, a text.
-/
import Derived.Test.YtckkfjmjcknjdaaGreatDoorOpenInts
import Derived.Test.YtckkfjmjcknjdaaGreatDoorEv2
import Derived.Deep.Slices
import Derived.ChangeSame
namespace Go.Proofs.YtckkfjmjcknjdaaGreatDoor
open Go.RowKit Go.Deep Go.ChangeShapes Go.WideShapes P5 K
set_option linter.unusedVariables false

theorem ints_of {W : World} {x : Addr} {l c : Nat} {zs : List Int} (hl : l ≤ c) (hm : c ≤ maxLen) (hz : zs.length = c) (hcell : ∀ i, i < zs.length → W.cell? (x.add i) = some (.int .i64 (zs.getD i 0))) (hwz : ∀ z ∈ zs, (Lit.int .i64 z).wf = true) : IntsAt W (some x) l c (zs.take l) := by
  refine ⟨by simp; omega, hl, hm, fun z h => hwz z (List.mem_of_mem_take h), fun i z hi => ?_⟩
  have hin : i < l := by have := (List.getElem?_eq_some_iff.1 hi).1; simp at this; omega
  have hzi : zs[i]? = some z := by rw [List.getElem?_take_of_lt hin] at hi; exact hi
  have h1 := hcell i (by omega)
  have h2 : zs.getD i 0 = z := by simp [List.getD_eq_getElem?_getD, hzi]
  rw [h2] at h1
  have hsp : x.spot = none := by
    have h0 := hcell 0 (by omega)
    have h3 : W.cell? x = some (.int .i64 (zs.getD 0 0)) := by simpa [Addr.add] using h0
    exact cell_spot h3
  obtain ⟨bb, o, s⟩ := x
  simp only at hsp
  subst hsp
  rw [Addr.add_mid] at h1
  exact ⟨bb, o, rfl, h1⟩

theorem ints_nil (W : World) : IntsAt W none 0 0 [] := ⟨rfl, Nat.le_refl _, by unfold maxLen; omega, fun z hz => by simp at hz, fun i z hz => by simp at hz⟩

set_option maxRecDepth 100000 in
theorem event_in {H : Type} {enc : TypeId × Value → H} {W : World} {r : Reach} {b0 : Nat} {v : Value} {d : DataW H} {p : List MemPlace} (hv : Value.okWide Tryz.prog W r b0 24 v) (h : DataW.Trod enc Tryz.prog W 0 (fun _ => true) true 24 v d p) :
    ∃ (id kd sn us mb dp : Int) (oa : Option Addr) (n cl : Nat) (tx : List UInt8) (ob : Option Addr) (m cp : Nat) (zl zp : List Int), v = evval id kd sn us mb dp (.slice oa n cl) (.slice ob m cp) tx ∧ IntsAt W oa n cl zl ∧ IntsAt W ob m cp zp ∧ tx.length ≤ maxLen := by
  obtain ⟨cs, rfl, hsz⟩ := okWide_struct Tryz.underlying24 hv
  have cJ : Tryz.prog.cellsOf 24 = 9 := by kernel_rfl
  rw [cJ] at hsz
  obtain ⟨c0, c1, c2, c3, c4, c5, c6, c7, c8, rfl⟩ : ∃ a b c d e f g h i, cs = #[a, b, c, d, e, f, g, h, i] := by
    obtain ⟨l⟩ := cs
    match l, hsz with
    | [a, b, c, d, e, f, g, h, i], _ => exact ⟨a, b, c, d, e, f, g, h, i, rfl⟩
  obtain ⟨fuel, hf⟩ := h
  obtain ⟨xs, n, _, _, _, hxl, hff⟩ := DataW.trod_struct Tryz.underlying24 hf
  have g0 := hff 0 _ rfl
  have g1 := hff 1 _ rfl
  have g2 := hff 2 _ rfl
  have g3 := hff 3 _ rfl
  have g4 := hff 4 _ rfl
  have g5 := hff 5 _ rfl
  have g6 := hff 6 _ rfl
  have g7 := hff 7 _ rfl
  have g8 := hff 8 _ rfl
  have cI : Tryz.prog.cellsOf 3 = 1 := by kernel_rfl
  have cL : Tryz.prog.cellsOf 22 = 1 := by kernel_rfl
  have cS : Tryz.prog.cellsOf 9 = 1 := by kernel_rfl
  match xs, hxl with
  | [y0, y1, y2, y3, y4, y5, y6, y7, y8], _ =>
    simp [cI, cL, cS, Value.cells] at g0 g1 g2 g3 g4 g5 g6 g7 g8
    obtain ⟨k0, e0, _, m0⟩ := DataW.trod_int Tryz.underlying3 g0
    obtain ⟨k1, e1, _, m1⟩ := DataW.trod_int Tryz.underlying3 g1
    obtain ⟨k2, e2, _, m2⟩ := DataW.trod_int Tryz.underlying3 g2
    obtain ⟨k3, e3, _, m3⟩ := DataW.trod_int Tryz.underlying3 g3
    obtain ⟨k4, e4, _, m4⟩ := DataW.trod_int Tryz.underlying3 g4
    obtain ⟨k8, e8, _, m8⟩ := DataW.trod_int Tryz.underlying3 g8
    obtain ⟨s6, e6, _, m6⟩ := DataW.trod_string Tryz.underlying9 g6
    cases e0; cases e1; cases e2; cases e3; cases e4; cases e8; cases e6
    rcases open_ints Tryz.underlying22 Tryz.underlying3 (by kernel_rfl) g5 with ⟨hcs, _⟩ | ⟨x, l, c, zs, hcs, _, hl, hm, hz, _, hcell, hwz⟩
    · cases hcs
      rcases open_ints Tryz.underlying22 Tryz.underlying3 (by kernel_rfl) g7 with ⟨hcs, _⟩ | ⟨x', l', c', zs', hcs, _, hl', hm', hz', _, hcell', hwz'⟩
      · cases hcs
        exact ⟨k0, k1, k2, k3, k4, k8, none, 0, 0, s6.data.toList, none, 0, 0, [], [], rfl, ints_nil W, ints_nil W, by simpa using m6⟩
      · cases hcs
        exact ⟨k0, k1, k2, k3, k4, k8, none, 0, 0, s6.data.toList, some x', l', c', [], zs'.take l', rfl, ints_nil W, ints_of hl' hm' (by simpa using hz') hcell' hwz', by simpa using m6⟩
    · cases hcs
      rcases open_ints Tryz.underlying22 Tryz.underlying3 (by kernel_rfl) g7 with ⟨hcs, _⟩ | ⟨x', l', c', zs', hcs, _, hl', hm', hz', _, hcell', hwz'⟩
      · cases hcs
        exact ⟨k0, k1, k2, k3, k4, k8, some x, l, c, s6.data.toList, none, 0, 0, zs.take l, [], rfl, ints_of hl hm (by simpa using hz) hcell hwz, ints_nil W, by simpa using m6⟩
      · cases hcs
        exact ⟨k0, k1, k2, k3, k4, k8, some x, l, c, s6.data.toList, some x', l', c', zs.take l, zs'.take l', rfl, ints_of hl hm (by simpa using hz) hcell hwz, ints_of hl' hm' (by simpa using hz') hcell' hwz', by simpa using m6⟩

end Go.Proofs.YtckkfjmjcknjdaaGreatDoor
