/-
  Walks and mathematics of OpenNode.
-/
import Derived.Test.YtoalbeiinlcgpaaKOpenMsg16
import Derived.Test.YtoalbeiinlcgpaaKNodeA
namespace Go.Proofs.Ytoalbeiinlcgpaa.P5
end Go.Proofs.Ytoalbeiinlcgpaa.P5
namespace Go.Proofs.Ytoalbeiinlcgpaa
open Go.RowKit Go.Deep Go.ChangeShapes Go.WideShapes P1 P5 P9 K
set_option linter.unusedVariables false
set_option linter.unusedSimpArgs false

set_option maxRecDepth 100000 in
set_option maxHeartbeats 4000000 in
theorem node_in {H : Type} {enc : TypeId × Value → H} {W : World} {r : Reach} {b0 : Nat} {v : Value} {d : DataW H} {p : List MemPlace} (hv : Value.okWide Try.prog W r b0 28 v) (h : DataW.Trod enc Try.prog W 0 (fun _ => true) true 28 v d p) :
    ∃ (x : NdV) (S : NdS), v = ndval x S ∧ NdAt W x S ∧ ∀ f ∈ x.es, EntWide f := by
  obtain ⟨cs, rfl, hsz⟩ := okWide_struct Try.underlying28 hv
  have cJ : Try.prog.cellsOf 28 = 14 := by kernel_rfl
  rw [cJ] at hsz
  obtain ⟨c0, c1, c2, c3, c4, c5, c6, c7, c8, c9, c10, c11, c12, c13, rfl⟩ : ∃ c0 c1 c2 c3 c4 c5 c6 c7 c8 c9 c10 c11 c12 c13, cs = #[c0, c1, c2, c3, c4, c5, c6, c7, c8, c9, c10, c11, c12, c13] := by
    obtain ⟨l⟩ := cs
    match l, hsz with
    | [c0, c1, c2, c3, c4, c5, c6, c7, c8, c9, c10, c11, c12, c13], _ => exact ⟨c0, c1, c2, c3, c4, c5, c6, c7, c8, c9, c10, c11, c12, c13, rfl⟩
  obtain ⟨fuel, hf⟩ := h
  obtain ⟨xs, n, _, _, _, hxl, hff⟩ := DataW.trod_struct Try.underlying28 hf
  have g0 := hff 0 _ rfl
  have g1 := hff 1 _ rfl
  have g2 := hff 2 _ rfl
  have g3 := hff 3 _ rfl
  have g4 := hff 4 _ rfl
  have g5 := hff 5 _ rfl
  have g6 := hff 6 _ rfl
  have g7 := hff 7 _ rfl
  have g8 := hff 8 _ rfl
  have g9 := hff 9 _ rfl
  have g10 := hff 10 _ rfl
  have g11 := hff 11 _ rfl
  have cI : Try.prog.cellsOf 3 = 1 := by kernel_rfl
  have cL : Try.prog.cellsOf 22 = 1 := by kernel_rfl
  have cG : Try.prog.cellsOf 25 = 3 := by kernel_rfl
  have cE : Try.prog.cellsOf 23 = 1 := by kernel_rfl
  have cP : Try.prog.cellsOf 26 = 1 := by kernel_rfl
  match xs, hxl with
  | [y0, y1, y2, y3, y4, y5, y6, y7, y8, y9, y10, y11], _ =>
    simp [cI, cL, cG, cE, cP, Value.cells] at g0 g1 g2 g3 g4 g5 g6 g7 g8 g9 g10 g11
    obtain ⟨k0, e0, _, m0⟩ := DataW.trod_int Try.underlying3 g0
    obtain ⟨k1, e1, _, m1⟩ := DataW.trod_int Try.underlying3 g1
    obtain ⟨k2, e2, _, m2⟩ := DataW.trod_int Try.underlying3 g2
    obtain ⟨k3, e3, _, m3⟩ := DataW.trod_int Try.underlying3 g3
    obtain ⟨k4, e4, _, m4⟩ := DataW.trod_int Try.underlying3 g4
    obtain ⟨k7, e7, _, m7⟩ := DataW.trod_int Try.underlying3 g7
    obtain ⟨k8, e8, _, m8⟩ := DataW.trod_int Try.underlying3 g8
    obtain ⟨k9, e9, _, m9⟩ := DataW.trod_int Try.underlying3 g9
    obtain ⟨xs6, n6, _, _, _, hx6, hf6⟩ := DataW.trod_struct Try.underlying25 g6
    have z0 := hf6 0 _ rfl
    have z1 := hf6 1 _ rfl
    have z2 := hf6 2 _ rfl
    match xs6, hx6 with
    | [u0, u1, u2], _ =>
      simp [cI, cL, cG, cE, cP, Value.cells] at z0 z1 z2
      obtain ⟨ks, es, _, ms⟩ := DataW.trod_int Try.underlying3 z0
      obtain ⟨ku, eu, _, mu⟩ := DataW.trod_int Try.underlying3 z1
      cases e0; cases e1; cases e2; cases e3; cases e4; cases e7; cases e8; cases e9; cases es; cases eu
      have hE : ∃ (oa : Option Addr) (n cl : Nat) (es : List EntV), c8 = .slice oa n cl ∧ EntsAt W oa n cl es ∧ ∀ f ∈ es, EntWide f := by
        rcases open_ents (t := 23) (e := 93) (tS := 9) (tI := 3) Try.underlying23 Try.underlying93 Try.underlying9 Try.underlying3 rfl rfl rfl rfl rfl rfl (by kernel_rfl) (by kernel_rfl) (by kernel_rfl) z2 with h1 | ⟨a, len, cap, F, h1, hl, hm, hF⟩
        · cases h1
          exact ⟨none, 0, 0, [], rfl, RowsAt.nil _ _ _ (by unfold maxLen; omega), fun f hf => by simp at hf⟩
        · cases h1
          obtain ⟨h2, h3⟩ := entsAt_of_fn hl hm hF
          exact ⟨some a, len, cap, _, rfl, h2, h3⟩
      have hI : ∃ (ob : Option Addr) (m cp : Nat) (zs : List Int), c5 = .slice ob m cp ∧ IntsAt W ob m cp zs := by
        rcases open_ints Try.underlying22 Try.underlying3 (by kernel_rfl) g5 with ⟨hcs, _⟩ | ⟨x, l, c, zs, hcs, _, hl, hm, hz, _, hcell, hwz⟩
        · cases hcs
          exact ⟨none, 0, 0, [], rfl, ints_nil16 W⟩
        · cases hcs
          exact ⟨some x, l, c, zs.take l, rfl, ints_of16 hl hm (by simpa using hz) hcell hwz⟩
      have hV : ∃ (ob : Option Addr) (m cp : Nat) (zs : List Int), c12 = .slice ob m cp ∧ IntsAt W ob m cp zs := by
        rcases open_ints Try.underlying22 Try.underlying3 (by kernel_rfl) g10 with ⟨hcs, _⟩ | ⟨x, l, c, zs, hcs, _, hl, hm, hz, _, hcell, hwz⟩
        · cases hcs
          exact ⟨none, 0, 0, [], rfl, ints_nil16 W⟩
        · cases hcs
          exact ⟨some x, l, c, zs.take l, rfl, ints_of16 hl hm (by simpa using hz) hcell hwz⟩
      obtain ⟨op, np, cp, ps, hps, hpa, _⟩ := open_peers (tI := 3) Try.underlying26 Try.underlying78 Try.underlying3 rfl rfl rfl rfl rfl rfl rfl rfl (by kernel_rfl) (by kernel_rfl) g11
      cases hps
      obtain ⟨oe, ne, ce, es, rfl, q1, q2⟩ := hE
      obtain ⟨oc, nc, cc, cf, rfl, q3⟩ := hI
      obtain ⟨ov, nv, cv, vs, rfl, q4⟩ := hV
      have l1 := q1.len
      have l3 := q3.len
      have l4 := q4.len
      have l5 := hpa.len
      subst l1 l3 l4 l5
      exact ⟨⟨k0, k1, k2, k3, k4, cf, ks, ku, es, k7, k8, k9, vs, ps⟩, ⟨oc, cc, oe, ce, ov, cv, op, cp⟩, rfl, ⟨q3, q1, q4, hpa⟩, q2⟩

end Go.Proofs.Ytoalbeiinlcgpaa
