/-
  Walks and mathematics of LawSameHall.
-/
import Derived.Test.YtckkfjmjcknjdaaSHSame5
import Derived.Test.YtckkfjmjcknjdaaSHSame7
import Derived.Deep.Cut
import Derived.Deep.RegionLaw
namespace Go.Proofs.Ytckkfjmjcknjdaa.P1
end Go.Proofs.Ytckkfjmjcknjdaa.P1
namespace Go.Proofs.Ytckkfjmjcknjdaa.P11
end Go.Proofs.Ytckkfjmjcknjdaa.P11
namespace Go.Proofs.Ytckkfjmjcknjdaa.P14
end Go.Proofs.Ytckkfjmjcknjdaa.P14
namespace Go.Proofs.Ytckkfjmjcknjdaa.P3
end Go.Proofs.Ytckkfjmjcknjdaa.P3
namespace Go.Proofs.Ytckkfjmjcknjdaa.P5
end Go.Proofs.Ytckkfjmjcknjdaa.P5
namespace Go.Proofs.Ytckkfjmjcknjdaa
open Go.RowKit P1 P3 P5 P9 P11 P12 P14 K
set_option linter.unusedVariables false
set_option linter.unusedSimpArgs false

set_option maxRecDepth 100000 in
set_option maxHeartbeats 8000000 in
theorem FnExactSameHall_walk (pa0 : Option Addr) (pn0 : Nat) (pc0 : Nat) (oa0 : Option Addr) (n0 : Nat) (cap0 : Nat) (so0 : Option Addr) (sn0 : Nat) (sc0 : Nat) (go0 : Option Addr) (gn0 : Nat) (gc0 : Nat) (qa0 : Option Addr) (qn0 : Nat) (qc0 : Nat) (ps0 : List SesV) (es0 : List EvV) (ss0 : List (List (Int × Int))) (gs0 : List Bool) (os0 : List OutX) (pa1 : Option Addr) (pn1 : Nat) (pc1 : Nat) (oa1 : Option Addr) (n1 : Nat) (cap1 : Nat) (so1 : Option Addr) (sn1 : Nat) (sc1 : Nat) (go1 : Option Addr) (gn1 : Nat) (gc1 : Nat) (qa1 : Option Addr) (qn1 : Nat) (qc1 : Nat) (ps1 : List SesV) (es1 : List EvV) (ss1 : List (List (Int × Int))) (gs1 : List Bool) (os1 : List OutX) (w : World) (h0 : HallAt w pa0 pn0 pc0 oa0 n0 cap0 so0 sn0 sc0 go0 gn0 gc0 qa0 qn0 qc0 ps0 es0 ss0 gs0 os0) (k0 : HallWide ps0 es0 ss0 os0) (h1 : HallAt w pa1 pn1 pc1 oa1 n1 cap1 so1 sn1 sc1 go1 gn1 gc1 qa1 qn1 qc1 ps1 es1 ss1 gs1 os1) (k1 : HallWide ps1 es1 ss1 os1) :
    Calls Try.prog 4 #[hallv pa0 pn0 pc0 oa0 n0 cap0 so0 sn0 sc0 go0 gn0 gc0 qa0 qn0 qc0, hallv pa1 pn1 pc1 oa1 n1 cap1 so1 sn1 sc1 go1 gn1 gc1 qa1 qn1 qc1] w fun e w' => e = .returned (.bool true) ∧ Below w.heap.size w w' := by
  obtain ⟨W0, hW0⟩ : ∃ W0, (w.alloc (.cells #[.slice pa0 pn0 pc0, .slice oa0 n0 cap0, .slice so0 sn0 sc0, .slice go0 gn0 gc0, .slice qa0 qn0 qc0] 42)).alloc (.cells #[.slice pa1 pn1 pc1, .slice oa1 n1 cap1, .slice so1 sn1 sc1, .slice go1 gn1 gc1, .slice qa1 qn1 qc1] 42) = W0 := ⟨_, rfl⟩
  obtain ⟨hA0, hB0, hb0⟩ := two_new w #[.slice pa0 pn0 pc0, .slice oa0 n0 cap0, .slice so0 sn0 sc0, .slice go0 gn0 gc0, .slice qa0 qn0 qc0] #[.slice pa1 pn1 pc1, .slice oa1 n1 cap1, .slice so1 sn1 sc1, .slice go1 gn1 gc1, .slice qa1 qn1 qc1] 42 42
  rw [hW0] at hA0 hB0 hb0
  have HA := hide (fun W (h : Below W0.heap.size W0 W) => (h.block _ (blk_lt hA0)).trans hA0)
  have HB := hide (fun W (h : Below W0.heap.size W0 W) => (h.block _ (blk_lt hB0)).trans hB0)
  have HAT0 := hide (h0.below hb0)
  have HAT1 := hide (h1.below hb0)
  have HB0 := hide hb0
  have HW0 := hide hW0
  have HSZ := hide (szHall_any 1048576 (by omega) (by omega) pa0 pn0 pc0 oa0 n0 cap0 so0 sn0 sc0 go0 gn0 gc0 qa0 qn0 qc0 ps0 es0 ss0 gs0 os0 W0 (h0.below hb0) k0)
  have HSY := hide (fun (left : Int) (l0 : 0 ≤ left) (l1 : left ≤ 1048576) (W : World) (h : Below W0.heap.size W0 W) => szHall_any left l0 l1 pa1 pn1 pc1 oa1 n1 cap1 so1 sn1 sc1 go1 gn1 gc1 qa1 qn1 qc1 ps1 es1 ss1 gs1 os1 W ((h1.below hb0).below h) k1)
  have HK0 := hide k0
  have HK1 := hide k1
  clear h0 h1 k0 k1 hA0 hB0 hb0 hW0
  have a0 := blk_cell (HA.out W0 (Below.refl _ _)) 0 rfl
  have a1 := blk_cell (HA.out W0 (Below.refl _ _)) 1 rfl
  have a2 := blk_cell (HA.out W0 (Below.refl _ _)) 2 rfl
  have a3 := blk_cell (HA.out W0 (Below.refl _ _)) 3 rfl
  have a4 := blk_cell (HA.out W0 (Below.refl _ _)) 4 rfl
  go_enter Try.func4, Try.ntmps4
  go_upto_region 1 with fail
  rw [HW0.out]
  clear HW0
  go_upto_region 3 with (go_at_call 10; (with_reducible refine HSZ.out.mono ?_); rintro r w1 ⟨z, rfl, hzl, hfz, hb1⟩)
  have HB1 := hide hb1
  have HFZ := hide hfz
  clear hb1 hfz HSZ a0 a1 a2 a3 a4
  by_cases hz : z < 0
  · go_wp2_with fail
    go_ret
    exact ⟨rfl, HB0.out.trans (HB1.out.mono HB0.out.size)⟩
  · have HF := hide (HFZ.out (by omega))
    have HSX := hide (HSY.out z (by omega) hzl w1 HB1.out)
    clear HFZ HSY
    have b0 := blk_cell (HB.out w1 HB1.out) 0 rfl
    have b1 := blk_cell (HB.out w1 HB1.out) 1 rfl
    have b2 := blk_cell (HB.out w1 HB1.out) 2 rfl
    have b3 := blk_cell (HB.out w1 HB1.out) 3 rfl
    have b4 := blk_cell (HB.out w1 HB1.out) 4 rfl
    go_upto_region 6 with (go_at_call 10; (with_reducible refine HSX.out.mono ?_); rintro r w2 ⟨z2, rfl, hzl2, hfz2, hb2⟩)
    have HB2 := hide (HB1.out.trans (hb2.mono HB1.out.size))
    have HFY := hide hfz2
    clear hb2 hfz2 HSX b0 b1 b2 b3 b4
    by_cases hz2 : z2 < 0
    · go_wp2_with fail
      go_ret
      exact ⟨rfl, HB0.out.trans (HB2.out.mono HB0.out.size)⟩
    · have HG := hide (HFY.out (by omega))
      clear HFY hzl hzl2 HB1
      have HTA := hide (fun W (h : Below W0.heap.size W0 W) => toHall_any pa0 pn0 pc0 oa0 n0 cap0 so0 sn0 sc0 go0 gn0 gc0 qa0 qn0 qc0 ps0 es0 ss0 gs0 os0 HF.out HK0.out W (HAT0.out.below h))
      have HTB := hide (fun W (h : Below W0.heap.size W0 W) => toHall_any pa1 pn1 pc1 oa1 n1 cap1 so1 sn1 sc1 go1 gn1 gc1 qa1 qn1 qc1 ps1 es1 ss1 gs1 os1 HG.out HK1.out W (HAT1.out.below h))
      have HSP := hide (fun (W : World) {paa : Option Addr} {pna : Nat} {pca : Nat} {oaa : Option Addr} {na : Nat} {capa : Nat} {soa : Option Addr} {sna : Nat} {sca : Nat} {goa : Option Addr} {gna : Nat} {gca : Nat} {qaa : Option Addr} {qna : Nat} {qca : Nat} {pab : Option Addr} {pnb : Nat} {pcb : Nat} {oab : Option Addr} {nb : Nat} {capb : Nat} {sob : Option Addr} {snb : Nat} {scb : Nat} {gob : Option Addr} {gnb : Nat} {gcb : Nat} {qab : Option Addr} {qnb : Nat} {qcb : Nat} (h : HallAt W paa pna pca oaa na capa soa sna sca goa gna gca qaa qna qca ps0 es0 ss0 gs0 os0) (k : HallAt W pab pnb pcb oab nb capb sob snb scb gob gnb gcb qab qnb qcb ps1 es1 ss1 gs1 os1) => specSameHall_any ps0 ps1 es0 es1 ss0 ss1 gs0 gs1 os0 os1 HF.out paa pna pca oaa na capa soa sna sca goa gna gca qaa qna qca pab pnb pcb oab nb capb sob snb scb gob gnb gcb qab qnb qcb W h k)
      have HIM := hide (fun (W : World) {paa : Option Addr} {pna : Nat} {pca : Nat} {oaa : Option Addr} {na : Nat} {capa : Nat} {soa : Option Addr} {sna : Nat} {sca : Nat} {goa : Option Addr} {gna : Nat} {gca : Nat} {qaa : Option Addr} {qna : Nat} {qca : Nat} {pab : Option Addr} {pnb : Nat} {pcb : Nat} {oab : Option Addr} {nb : Nat} {capb : Nat} {sob : Option Addr} {snb : Nat} {scb : Nat} {gob : Option Addr} {gnb : Nat} {gcb : Nat} {qab : Option Addr} {qnb : Nat} {qcb : Nat} (h : HallAt W paa pna pca oaa na capa soa sna sca goa gna gca qaa qna qca ps0 es0 ss0 gs0 os0) (k : HallAt W pab pnb pcb oab nb capb sob snb scb gob gnb gcb qab qnb qcb ps1 es1 ss1 gs1 os1) => implSameHall_any ps0 ps1 es0 es1 ss0 ss1 gs0 gs1 os0 os1 HF.out paa pna pca oaa na capa soa sna sca goa gna gca qaa qna qca pab pnb pcb oab nb capb sob snb scb gob gnb gcb qab qnb qcb W h k)
      generalize (eqB ps0 ps1 && ((eqB es0 es1 && (eqB ss0 ss1 && eqB gs0 gs1)) && eqB os0 os1)) = qq at HSP HIM
      have hqq : (qq != qq) = false := by simp
      have a0 := blk_cell (HA.out w2 HB2.out) 0 rfl
      have a1 := blk_cell (HA.out w2 HB2.out) 1 rfl
      have a2 := blk_cell (HA.out w2 HB2.out) 2 rfl
      have a3 := blk_cell (HA.out w2 HB2.out) 3 rfl
      have a4 := blk_cell (HA.out w2 HB2.out) 4 rfl
      have b0 := blk_cell (HB.out w2 HB2.out) 0 rfl
      have b1 := blk_cell (HB.out w2 HB2.out) 1 rfl
      have b2 := blk_cell (HB.out w2 HB2.out) 2 rfl
      have b3 := blk_cell (HB.out w2 HB2.out) 3 rfl
      have b4 := blk_cell (HB.out w2 HB2.out) 4 rfl
      have hla := blk_lt (HA.out w2 HB2.out)
      have hlb := blk_lt (HB.out w2 HB2.out)
      go_upto_region 8 with fail
      go_region_law (first
        | (rw [if_pos (by rfl)]; go_simp; go_at_call 11; refine (HSP.out _ (hr3.below hb4) hr4).mono ?_; rintro r w5 ⟨rfl, hb5⟩)
        | (have chk := hb3; clear chk; rw [if_pos (by rfl)]; go_simp; go_at_call 12; refine (HTB.out _ (HB2.out.trans ((((Below.refl w2.heap.size w2).drew).trans hb3).mono HB2.out.size))).mono ?_; rintro r w4 ⟨pa4, pn4, pc4, oa4, n4, cap4, so4, sn4, sc4, go4, gn4, gc4, qa4, qn4, qc4, rfl, hr4, hb4⟩)
        | (rw [if_pos (by rfl)]; go_simp; go_at_call 12; refine (HTA.out _ (HB2.out.drew)).mono ?_; rintro r w3 ⟨pa3, pn3, pc3, oa3, n3, cap3, so3, sn3, sc3, go3, gn3, gc3, qa3, qn3, qc3, rfl, hr3, hb3⟩; have b03 := (hb3.cell hlb).trans b0; have b13 := (hb3.cell hlb).trans b1; have b23 := (hb3.cell hlb).trans b2; have b33 := (hb3.cell hlb).trans b3; have b43 := (hb3.cell hlb).trans b4))
      all_goals
        have HB5 := hide (HB2.out.trans ((((Below.refl w2.heap.size w2).drew.trans (hb3.trans ((hb4.trans (hb5.mono hb4.size)).mono hb3.size)))).mono HB2.out.size))
        clear HB2 hr3 hb3 hr4 hb4 hb5 hla hlb b03 b13 b23 b33 b43 HSP a0 a1 a2 a3 a4 b0 b1 b2 b3 b4
        have a0 := blk_cell (HA.out w5 HB5.out) 0 rfl
        have a1 := blk_cell (HA.out w5 HB5.out) 1 rfl
        have a2 := blk_cell (HA.out w5 HB5.out) 2 rfl
        have a3 := blk_cell (HA.out w5 HB5.out) 3 rfl
        have a4 := blk_cell (HA.out w5 HB5.out) 4 rfl
        go_upto_region 10 with (go_at_call 12; (refine (HTA.out _ HB5.out).mono ?_); rintro r w6 ⟨pa6, pn6, pc6, oa6, n6, cap6, so6, sn6, sc6, go6, gn6, gc6, qa6, qn6, qc6, rfl, hr6, hb6⟩)
        obtain ⟨W7, hW7⟩ : ∃ W7, w6.alloc (.cells #[.slice pa6 pn6 pc6, .slice oa6 n6 cap6, .slice so6 sn6 sc6, .slice go6 gn6 gc6, .slice qa6 qn6 qc6] 30) = W7 := ⟨_, rfl⟩
        try rw [hW7]
        have hb7 : Below w6.heap.size w6 W7 := by rw [← hW7]; exact (Below.refl _ _).alloc (Nat.le_refl _) _
        have hv7 : W7.heap[w6.heap.size]? = some (.cells #[.slice pa6 pn6 pc6, .slice oa6 n6 cap6, .slice so6 sn6 sc6, .slice go6 gn6 gc6, .slice qa6 qn6 qc6] 30 (0, 0)) := by rw [← hW7]; exact heap_alloc_new _ _
        have HX := hide (fun W (h : Below W7.heap.size W7 W) => (h.block _ (blk_lt hv7)).trans hv7)
        have HXR := hide (hr6.below hb7)
        have HB7 := hide (HB5.out.trans ((hb6.trans (hb7.mono hb6.size)).mono HB5.out.size))
        clear hr6 hb6 hW7 hb7 hv7 HB5 a0 a1 a2 a3 a4
        generalize w6.heap.size = xv at HX ⊢
        have b0 := blk_cell (HB.out W7 HB7.out) 0 rfl
        have b1 := blk_cell (HB.out W7 HB7.out) 1 rfl
        have b2 := blk_cell (HB.out W7 HB7.out) 2 rfl
        have b3 := blk_cell (HB.out W7 HB7.out) 3 rfl
        have b4 := blk_cell (HB.out W7 HB7.out) 4 rfl
        go_upto_region 11 with (go_at_call 12; (refine (HTB.out _ HB7.out).mono ?_); rintro r w8 ⟨pa8, pn8, pc8, oa8, n8, cap8, so8, sn8, sc8, go8, gn8, gc8, qa8, qn8, qc8, rfl, hr8, hb8⟩)
        obtain ⟨W9, hW9⟩ : ∃ W9, w8.alloc (.cells #[.slice pa8 pn8 pc8, .slice oa8 n8 cap8, .slice so8 sn8 sc8, .slice go8 gn8 gc8, .slice qa8 qn8 qc8] 30) = W9 := ⟨_, rfl⟩
        try rw [hW9]
        have hb9 : Below w8.heap.size w8 W9 := by rw [← hW9]; exact (Below.refl _ _).alloc (Nat.le_refl _) _
        have hv9 : W9.heap[w8.heap.size]? = some (.cells #[.slice pa8 pn8 pc8, .slice oa8 n8 cap8, .slice so8 sn8 sc8, .slice go8 gn8 gc8, .slice qa8 qn8 qc8] 30 (0, 0)) := by rw [← hW9]; exact heap_alloc_new _ _
        have HY := hide (fun W (h : Below W9.heap.size W9 W) => (h.block _ (blk_lt hv9)).trans hv9)
        have HYR := hide (hr8.below hb9)
        have HB79 := hide (hb8.trans (hb9.mono hb8.size))
        have HB9 := hide (HB7.out.trans (HB79.out.mono HB7.out.size))
        clear hr8 hb8 hW9 hb9 hv9 HB7 b0 b1 b2 b3 b4
        generalize w8.heap.size = yv at HY ⊢
        have c0 := blk_cell (HX.out W9 HB79.out) 0 rfl
        have c1 := blk_cell (HX.out W9 HB79.out) 1 rfl
        have c2 := blk_cell (HX.out W9 HB79.out) 2 rfl
        have c3 := blk_cell (HX.out W9 HB79.out) 3 rfl
        have c4 := blk_cell (HX.out W9 HB79.out) 4 rfl
        have d0 := blk_cell (HY.out W9 (Below.refl _ _)) 0 rfl
        have d1 := blk_cell (HY.out W9 (Below.refl _ _)) 1 rfl
        have d2 := blk_cell (HY.out W9 (Below.refl _ _)) 2 rfl
        have d3 := blk_cell (HY.out W9 (Below.refl _ _)) 3 rfl
        have d4 := blk_cell (HY.out W9 (Below.refl _ _)) 4 rfl
        go_upto_region 12 with (go_at_call 13; (refine (HIM.out W9 (HXR.out.below HB79.out) HYR.out).mono ?_); rintro r w10 ⟨rfl, hb10⟩)
        have HB10 := hide hb10
        have HB710 := hide (HB79.out.trans (hb10.mono HB79.out.size))
        have HB010 := hide (HB9.out.trans (hb10.mono HB9.out.size))
        clear hb10 HIM c0 c1 c2 c3 c4 d0 d1 d2 d3 d4
        have c0 := blk_cell (HX.out w10 HB710.out) 0 rfl
        have c1 := blk_cell (HX.out w10 HB710.out) 1 rfl
        have c2 := blk_cell (HX.out w10 HB710.out) 2 rfl
        have c3 := blk_cell (HX.out w10 HB710.out) 3 rfl
        have c4 := blk_cell (HX.out w10 HB710.out) 4 rfl
        have a0 := blk_cell (HA.out w10 HB010.out) 0 rfl
        have a1 := blk_cell (HA.out w10 HB010.out) 1 rfl
        have a2 := blk_cell (HA.out w10 HB010.out) 2 rfl
        have a3 := blk_cell (HA.out w10 HB010.out) 3 rfl
        have a4 := blk_cell (HA.out w10 HB010.out) 4 rfl
        have hlc := blk_lt (HX.out w10 HB710.out)
        have hla := blk_lt (HA.out w10 HB010.out)
        go_upto_region 14 with fail
        go_region_law (first
          | (have chk := hb11; clear chk; rw [if_pos (by rfl)]; go_simp; go_at_call 7; refine (eqHall_same ps0 es0 ss0 gs0 os0 HF.out _ _ _ _ _ _ _ _ _ _ _ _ _ _ _ _ _ _ _ _ _ _ _ _ _ _ _ _ _ _ w11 (HXR.out.below (HB710.out.trans (((Below.refl w10.heap.size w10).drew.trans hb11).mono HB710.out.size))) hr11).mono ?_; rintro r w12 ⟨rfl, hb12⟩)
          | (rw [if_pos (by rfl)]; go_simp; go_at_call 12; refine (HTA.out _ (HB010.out.drew)).mono ?_; rintro r w11 ⟨pa11, pn11, pc11, oa11, n11, cap11, so11, sn11, sc11, go11, gn11, gc11, qa11, qn11, qc11, rfl, hr11, hb11⟩; have c03 := (hb11.cell hlc).trans c0; have c13 := (hb11.cell hlc).trans c1; have c23 := (hb11.cell hlc).trans c2; have c33 := (hb11.cell hlc).trans c3; have c43 := (hb11.cell hlc).trans c4))
        all_goals
          have HQ12 := hide ((Below.refl w10.heap.size w10).drew.trans (hb11.trans (hb12.mono hb11.size)))
          have HB012 := hide (HB010.out.trans (HQ12.out.mono HB010.out.size))
          have HB912 := hide (HB10.out.trans (HQ12.out.mono HB10.out.size))
          clear hr11 hb11 hb12 hla hlc c03 c13 c23 c33 c43 c0 c1 c2 c3 c4 a0 a1 a2 a3 a4
          have d0 := blk_cell (HY.out w12 HB912.out) 0 rfl
          have d1 := blk_cell (HY.out w12 HB912.out) 1 rfl
          have d2 := blk_cell (HY.out w12 HB912.out) 2 rfl
          have d3 := blk_cell (HY.out w12 HB912.out) 3 rfl
          have d4 := blk_cell (HY.out w12 HB912.out) 4 rfl
          have b0 := blk_cell (HB.out w12 HB012.out) 0 rfl
          have b1 := blk_cell (HB.out w12 HB012.out) 1 rfl
          have b2 := blk_cell (HB.out w12 HB012.out) 2 rfl
          have b3 := blk_cell (HB.out w12 HB012.out) 3 rfl
          have b4 := blk_cell (HB.out w12 HB012.out) 4 rfl
          have hlc := blk_lt (HY.out w12 HB912.out)
          have hlb := blk_lt (HB.out w12 HB012.out)
          go_upto_region 16 with fail
          go_region_law (first
            | (have chk := hb13; clear chk; rw [if_pos (by rfl)]; go_simp; go_at_call 7; refine (eqHall_same ps1 es1 ss1 gs1 os1 HG.out _ _ _ _ _ _ _ _ _ _ _ _ _ _ _ _ _ _ _ _ _ _ _ _ _ _ _ _ _ _ w13 (HYR.out.below (HB912.out.trans (((Below.refl w12.heap.size w12).drew.trans hb13).mono HB912.out.size))) hr13).mono ?_; rintro r w14 ⟨rfl, hb14⟩)
            | (rw [if_pos (by rfl)]; go_simp; go_at_call 12; refine (HTB.out _ (HB012.out.drew)).mono ?_; rintro r w13 ⟨pa13, pn13, pc13, oa13, n13, cap13, so13, sn13, sc13, go13, gn13, gc13, qa13, qn13, qc13, rfl, hr13, hb13⟩; have d03 := (hb13.cell hlc).trans d0; have d13 := (hb13.cell hlc).trans d1; have d23 := (hb13.cell hlc).trans d2; have d33 := (hb13.cell hlc).trans d3; have d43 := (hb13.cell hlc).trans d4))
          all_goals
            have HQ14 := hide ((Below.refl w12.heap.size w12).drew.trans (hb13.trans (hb14.mono hb13.size)))
            have HB014 := hide (HB012.out.trans (HQ14.out.mono HB012.out.size))
            go_wp2_with fail
            go_ret
            exact ⟨rfl, HB0.out.trans (HB014.out.mono HB0.out.size)⟩

end Go.Proofs.Ytckkfjmjcknjdaa
