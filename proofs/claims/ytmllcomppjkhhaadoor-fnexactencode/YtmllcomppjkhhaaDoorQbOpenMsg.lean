/-
  Walks and mathematics of OpenMsg.
-/
import Derived.Test.YtmllcomppjkhhaaDoorQbOpenLog
import Derived.Test.YtmllcomppjkhhaaDoorQbInts
import Derived.ChangeSlices
import Derived.WideShapes
import Derived.Test.YtmllcomppjkhhaaDoorQbMsgA
namespace Go.Proofs.YtmllcomppjkhhaaDoor.P5
end Go.Proofs.YtmllcomppjkhhaaDoor.P5
namespace Go.Proofs.YtmllcomppjkhhaaDoor
open Go.RowKit Go.Deep Go.ChangeShapes Go.WideShapes P1 P5 P9 K
set_option linter.unusedVariables false
set_option linter.unusedSimpArgs false

theorem ints_of {W : World} {x : Addr} {l c : Nat} {zs : List Int} (hl : l ≤ c) (hm : c ≤ maxLen) (hz : zs.length = c) (hcell : ∀ i, i < zs.length → W.cell? (x.add i) = some (.int .i64 (zs.getD i 0))) (hwz : ∀ z ∈ zs, (Lit.int .i64 z).wf = true) : IntsAt W (some x) l c (zs.take l) := by
  refine ⟨by simp; omega, hl, hm, fun z h => hwz z (List.mem_of_mem_take h), fun i z hi => ?_⟩
  have hin : i < l := by have := (List.getElem?_eq_some_iff.1 hi).1; simp at this; omega
  have hzi : zs[i]? = some z := by rw [List.getElem?_take_of_lt hin] at hi; exact hi
  have h1 := hcell i (by omega)
  have h2 : zs.getD i 0 = z := by simp [List.getD_eq_getElem?_getD, hzi]
  rw [h2] at h1
  have hsp : x.spot = none := by
    have h0 := hcell 0 (by omega)
    have h3 : W.cell? x = some (.int .i64 (zs.getD 0 0)) := by simpa [Addr.add] using h0
    exact cell_spot h3
  obtain ⟨bb, o, s⟩ := x
  simp only at hsp
  subst hsp
  rw [Addr.add_mid] at h1
  exact ⟨bb, o, rfl, h1⟩

theorem ints_nil (W : World) : IntsAt W none 0 0 [] := ⟨rfl, Nat.le_refl _, by unfold maxLen; omega, fun z hz => by simp at hz, fun i z hz => by simp at hz⟩

set_option maxRecDepth 100000 in
theorem message_in {H : Type} {enc : TypeId × Value → H} {W : World} {r : Reach} {b0 : Nat} {v : Value} {d : DataW H} {p : List MemPlace} (hv : Value.okWide Tryd.prog W r b0 25 v) (h : DataW.Trod enc Tryd.prog W 0 (fun _ => true) true 25 v d p) :
    ∃ (kd fr to tm ix lt cm : Int) (ok : Bool) (oa : Option Addr) (n cl : Nat) (ob : Option Addr) (m cp : Nat) (da : List UInt8) (la : Bool) (es : List EntV) (zs : List Int), v = mgval kd fr to tm ix lt cm ok (.slice oa n cl) (.slice ob m cp) da la ∧ EntsAt W oa n cl es ∧ (∀ f ∈ es, EntWide f) ∧ IntsAt W ob m cp zs ∧ da.length ≤ maxLen := by
  obtain ⟨cs, rfl, hsz⟩ := okWide_struct Tryd.underlying25 hv
  have cJ : Tryd.prog.cellsOf 25 = 12 := by kernel_rfl
  rw [cJ] at hsz
  obtain ⟨c0, c1, c2, c3, c4, c5, c6, c7, c8, c9, c10, c11, rfl⟩ : ∃ c0 c1 c2 c3 c4 c5 c6 c7 c8 c9 c10 c11, cs = #[c0, c1, c2, c3, c4, c5, c6, c7, c8, c9, c10, c11] := by
    obtain ⟨l⟩ := cs
    match l, hsz with
    | [c0, c1, c2, c3, c4, c5, c6, c7, c8, c9, c10, c11], _ => exact ⟨c0, c1, c2, c3, c4, c5, c6, c7, c8, c9, c10, c11, rfl⟩
  obtain ⟨fuel, hf⟩ := h
  obtain ⟨xs, n, _, _, _, hxl, hff⟩ := DataW.trod_struct Tryd.underlying25 hf
  have g0 := hff 0 _ rfl
  have g1 := hff 1 _ rfl
  have g2 := hff 2 _ rfl
  have g3 := hff 3 _ rfl
  have g4 := hff 4 _ rfl
  have g5 := hff 5 _ rfl
  have g6 := hff 6 _ rfl
  have g7 := hff 7 _ rfl
  have g8 := hff 8 _ rfl
  have g9 := hff 9 _ rfl
  have g10 := hff 10 _ rfl
  have g11 := hff 11 _ rfl
  have cI : Tryd.prog.cellsOf 3 = 1 := by kernel_rfl
  have cB : Tryd.prog.cellsOf 4 = 1 := by kernel_rfl
  have cS : Tryd.prog.cellsOf 9 = 1 := by kernel_rfl
  have cL : Tryd.prog.cellsOf 23 = 1 := by kernel_rfl
  have cE : Tryd.prog.cellsOf 22 = 1 := by kernel_rfl
  match xs, hxl with
  | [y0, y1, y2, y3, y4, y5, y6, y7, y8, y9, y10, y11], _ =>
    simp [cI, cB, cS, cL, cE, Value.cells] at g0 g1 g2 g3 g4 g5 g6 g7 g8 g9 g10 g11
    obtain ⟨k0, e0, _, m0⟩ := DataW.trod_int Tryd.underlying3 g0
    obtain ⟨k1, e1, _, m1⟩ := DataW.trod_int Tryd.underlying3 g1
    obtain ⟨k2, e2, _, m2⟩ := DataW.trod_int Tryd.underlying3 g2
    obtain ⟨k3, e3, _, m3⟩ := DataW.trod_int Tryd.underlying3 g3
    obtain ⟨k4, e4, _, m4⟩ := DataW.trod_int Tryd.underlying3 g4
    obtain ⟨k5, e5, _, m5⟩ := DataW.trod_int Tryd.underlying3 g5
    obtain ⟨k6, e6, _, m6⟩ := DataW.trod_int Tryd.underlying3 g6
    obtain ⟨k7, e7, _⟩ := DataW.trod_bool Tryd.underlying4 g7
    obtain ⟨s10, e10, _, m10⟩ := DataW.trod_string Tryd.underlying9 g10
    obtain ⟨k11, e11, _⟩ := DataW.trod_bool Tryd.underlying4 g11
    cases e0; cases e1; cases e2; cases e3; cases e4; cases e5; cases e6; cases e7; cases e10; cases e11
    have hE : ∃ (oa : Option Addr) (n cl : Nat) (es : List EntV), c8 = .slice oa n cl ∧ EntsAt W oa n cl es ∧ ∀ f ∈ es, EntWide f := by
      rcases open_ents (t := 22) (e := 90) (tS := 9) (tI := 3) Tryd.underlying22 Tryd.underlying90 Tryd.underlying9 Tryd.underlying3 rfl rfl rfl rfl rfl rfl (by kernel_rfl) (by kernel_rfl) (by kernel_rfl) g8 with h1 | ⟨a, len, cap, F, h1, hl, hm, hF⟩
      · cases h1
        exact ⟨none, 0, 0, [], rfl, RowsAt.nil _ _ _ (by unfold maxLen; omega), fun f hf => by simp at hf⟩
      · cases h1
        obtain ⟨h2, h3⟩ := entsAt_of_fn hl hm hF
        exact ⟨some a, len, cap, _, rfl, h2, h3⟩
    have hI : ∃ (ob : Option Addr) (m cp : Nat) (zs : List Int), c9 = .slice ob m cp ∧ IntsAt W ob m cp zs := by
      rcases open_ints Tryd.underlying23 Tryd.underlying3 (by kernel_rfl) g9 with ⟨hcs, _⟩ | ⟨x, l, c, zs, hcs, _, hl, hm, hz, _, hcell, hwz⟩
      · cases hcs
        exact ⟨none, 0, 0, [], rfl, ints_nil W⟩
      · cases hcs
        exact ⟨some x, l, c, zs.take l, rfl, ints_of hl hm (by simpa using hz) hcell hwz⟩
    obtain ⟨oa, n', cl, es, rfl, q1, q2⟩ := hE
    obtain ⟨ob, m', cp, zs, rfl, q3⟩ := hI
    exact ⟨k0, k1, k2, k3, k4, k5, k6, k7, oa, n', cl, ob, m', cp, s10.data.toList, k11, es, zs, rfl, q1, q2, q3, by simpa using m10⟩

end Go.Proofs.YtmllcomppjkhhaaDoor
