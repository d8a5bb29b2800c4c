/-
  Walks and mathematics of Web3.
-/
import Derived.Test.YthieilmjbefamaaQWeb2
namespace Go.Proofs.Ythieilmjbefamaa.P11
end Go.Proofs.Ythieilmjbefamaa.P11
namespace Go.Proofs.Ythieilmjbefamaa.P3
end Go.Proofs.Ythieilmjbefamaa.P3
namespace Go.Proofs.Ythieilmjbefamaa.P9
end Go.Proofs.Ythieilmjbefamaa.P9
namespace Go.Proofs.Ythieilmjbefamaa
open Go.RowKit P1 P3 P5 P9 P11 P12 P14 P15 K
set_option linter.unusedVariables false
set_option linter.unusedSimpArgs false

def depG (es : List EvV) (z : Int) : Option Int := (evFind es z).map (·.depth)

theorem deep_of {w0 w : World} {B bm m sn : Nat} {T : Int → Option Value} {D : DataW Value} {es : List EvV} {ss : List (List (Int × Int))} (h : WebOk w0 w B bm T m D es sn ss) : ∀ (prev : List Int), Deep w (prev.filterMap T) (prev.filterMap (depG es))
  | [] => ⟨rfl, fun i d hd => by simp at hd⟩
  | z :: r => by
    have ih := deep_of h r
    cases hf : evFind es z with
    | none =>
      have h1 := h.no z hf
      have h2 : depG es z = none := by unfold depG; rw [hf]; rfl
      rw [List.filterMap_cons_none h1, List.filterMap_cons_none h2]
      exact ih
    | some e =>
      obtain ⟨q, i, xa, xc, ya, yc, vs, t, h1, _, _, _, h5, _⟩ := h.yes z e hf
      have h2 : depG es z = some e.depth := by unfold depG; rw [hf]; rfl
      rw [List.filterMap_cons_some h1, List.filterMap_cons_some h2]
      refine ⟨by simp [ih.len], fun j d hd => ?_⟩
      cases j with
      | zero =>
        simp only [List.getElem?_cons_zero, Option.some.injEq] at hd ⊢
        subst hd
        exact ⟨q, rfl, blk_cell h5 8 rfl⟩
      | succ j =>
        simp only [List.getElem?_cons_succ] at hd ⊢
        exact ih.at_ j d hd

theorem depGo_max (es : List EvV) : ∀ (prev : List Int) (m : Int), depGo es prev m = (prev.filterMap (depG es)).foldl (fun m d => if m < d then d else m) m
  | [], m => rfl
  | z :: r, m => by
    have e1 : depGo es (z :: r) m = depGo es r (depStep es m z) := rfl
    rw [e1, depGo_max es r]
    cases hf : evFind es z with
    | none =>
      have h2 : depG es z = none := by unfold depG; rw [hf]; rfl
      rw [List.filterMap_cons_none h2]
      unfold depStep
      rw [hf]
    | some e =>
      have h2 : depG es z = some e.depth := by unfold depG; rw [hf]; rfl
      rw [List.filterMap_cons_some h2, List.foldl_cons]
      unfold depStep
      rw [hf]

theorem depR_of (es : List EvV) (prev : List Int) : depR (prev.filterMap (depG es)) = depthOf es prev := by
  unfold depR depthOf
  rw [depGo_max]
  rfl

set_option maxRecDepth 100000 in
set_option maxHeartbeats 2000000 in
theorem implDepthOf_any (oa : Option Addr) (n cap : Nat) (es : List EvV) (so : Option Addr) (sn sc : Nat) (ss : List (List (Int × Int))) (vg : Value) (oc : Option Addr) (p cc : Nat) (prev : List Int) (hn20 : n ≤ 1048576) (hp20 : p ≤ 1048576) (hids : ∀ e ∈ es, (Lit.int .i64 e.id).wf = true) (w : World) (hev : EvsAt w oa n cap es) (hst : StsAt w so sn sc ss) (hvg : ∃ og ng cg, vg = .slice og ng cg) (hpt : IntsAt w oc p cc prev) :
    Calls Try.prog 9 #[.agg #[.slice oa n cap, .slice so sn sc, vg], .slice oc p cc] w fun r w' => r = .returned (.int .i64 (depthOf es prev)) ∧ Below w.heap.size w w' := by
  obtain ⟨og, ng, cg, rfl⟩ := hvg
  obtain ⟨W0, hW0⟩ : ∃ W0, w.alloc (.cells #[.slice oa n cap, .slice so sn sc, .slice og ng cg] 33) = W0 := ⟨_, rfl⟩
  have hb0 : Below w.heap.size w W0 := by rw [← hW0]; exact (Below.refl _ _).alloc (Nat.le_refl _) _
  have hR0 : W0.heap[w.heap.size]? = some (.cells #[.slice oa n cap, .slice so sn sc, .slice og ng cg] 33 (0, 0)) := by rw [← hW0]; exact heap_alloc_new _ _
  have r0 := blk_cell hR0 0 rfl
  have r1 := blk_cell hR0 1 rfl
  have r2 := blk_cell hR0 2 rfl
  have HWE := hide (webOf_any oa n cap es so sn sc ss (.slice og ng cg) hn20 hids W0 (hev.below hb0) (hst.below hb0) ⟨_, _, _, rfl⟩)
  have HPT := hide (hpt.below hb0)
  have HPL := hide hpt.len
  have HB0 := hide hb0
  have HW0 := hide hW0
  clear hev hst hpt hb0 hR0 hW0
  go_enter Try.func9, Try.ntmps9
  go_upto_region 1 with fail
  rw [HW0.out]
  clear HW0
  go_upto_region 2 with (first
    | (go_at_call 25; (with_reducible refine HWE.out.mono ?_); rintro r w1 ⟨bm, T, m, D, rfl, hm, hbm, hW1, hb1⟩; have HBH := hide (behind_any W0 W0.heap.size bm T m D es sn ss oa n cap oc p cc prev hp20 w1 hW1 (HPT.out.below hb1)))
    | (go_at_call 26; (with_reducible refine HBH.out.mono ?_); rintro r w2 ⟨kb, vp, rfl, hkb, hK2, hR2, hb2⟩))
  have hDp := deep_of (hW1.on hb2) prev
  have hlp : (prev.filterMap (depG es)).length ≤ 1048576 := by
    have h1 := List.length_filterMap_le (depG es) prev
    rw [HPL.out] at h1
    omega
  have HDE := hide (depth_any kb w1.heap.size vp (prev.filterMap T) (prev.filterMap (depG es)) hlp w2 hK2 hR2 hDp)
  rw [depR_of] at HDE
  have HBB := hide (HB0.out.trans ((hb1.trans (hb2.mono hb1.size)).mono HB0.out.size))
  clear hDp hK2 hR2 hb1 hb2 hW1 r0 r1 r2 HWE HBH
  go_wp2_with (go_at_call 27; (with_reducible refine HDE.out.mono ?_); rintro r w3 ⟨rfl, rfl⟩)
  go_ret
  exact ⟨rfl, HBB.out⟩

end Go.Proofs.Ythieilmjbefamaa
