/-
  Walks and mathematics of LawDepthOf.
-/
import Derived.Test.YthieilmjbefamaaQRoomW3
import Derived.Test.YthieilmjbefamaaQWeb3
import Derived.Test.YthieilmjbefamaaQMask
import Derived.Deep.RegionLaw
namespace Go.Proofs.Ythieilmjbefamaa.P11
end Go.Proofs.Ythieilmjbefamaa.P11
namespace Go.Proofs.Ythieilmjbefamaa.P3
end Go.Proofs.Ythieilmjbefamaa.P3
namespace Go.Proofs.Ythieilmjbefamaa.P9
end Go.Proofs.Ythieilmjbefamaa.P9
namespace Go.Proofs.Ythieilmjbefamaa
open Go.RowKit P1 P3 P5 P9 P11 P12 P14 P15 K
set_option linter.unusedVariables false
set_option linter.unusedSimpArgs false

theorem ints_p {w : World} {B g p : Nat} {zs : List Int} (h : w.ownsRow B 3 1 (.slice (some ⟨g, 0, none⟩) p p) p (zs.map icell)) (hl : zs.length = p) (hw : ∀ z ∈ zs, (Lit.int .i64 z).wf = true) : IntsAt w (some ⟨g, 0, none⟩) p p zs := by
  subst hl
  obtain ⟨_, _, heo, hi⟩ := ints_own h hw
  cases heo
  exact hi

structure RmV (w : World) (x lo hi g h k : Nat) (es : List EvV) (ss : List (List (Int × Int))) (gs : List Bool) (xs : List Value) : Prop where
  var : w.heap[x]? = some (.cells #[.slice (some ⟨g, 0, none⟩) es.length es.length, .slice (some ⟨h, 0, none⟩) ss.length ss.length, .slice (some ⟨k, 0, none⟩) gs.length gs.length] 33 (0, 0))
  sh : RmSh w lo hi g h k es ss gs xs

theorem RmV.on {w w' : World} {x lo hi g h k : Nat} {es : List EvV} {ss : List (List (Int × Int))} {gs : List Bool} {xs : List Value} (r : RmV w x lo hi g h k es ss gs xs) (hb : Below w.heap.size w w') : RmV w' x lo hi g h k es ss gs xs :=
  ⟨(hb.block x (blk_lt r.var)).trans r.var, r.sh.on hb⟩

set_option maxRecDepth 100000 in
set_option maxHeartbeats 8000000 in
theorem FnExactDepthOf_walk (oa : Option Addr) (n cap : Nat) (es : List EvV) (so : Option Addr) (sn sc : Nat) (ss : List (List (Int × Int))) (go : Option Addr) (gn gc : Nat) (gs : List Bool) (oc : Option Addr) (p cc : Nat) (prev : List Int) (w : World) (hev : EvsAt w oa n cap es) (hwd : ∀ e ∈ es, (Lit.int .i64 e.id).wf = true) (hst : StsAt w so sn sc ss) (hsw : ∀ s ∈ ss, ∀ y ∈ s, WideI y) (hgs : BoolsAt w go gn gc gs) (hpt : IntsAt w oc p cc prev) :
    Calls Try.prog 3 #[roomv oa n cap so sn sc go gn gc, .slice oc p cc] w fun e w' => e = .returned (.bool true) ∧ Below w.heap.size w w' := by
  have hpm := Nat.le_trans hpt.room hpt.most
  unfold maxLen at hpm
  obtain ⟨W0, hW0⟩ : ∃ W0, w.alloc (.cells #[.slice oa n cap, .slice so sn sc, .slice go gn gc] 26) = W0 := ⟨_, rfl⟩
  have hb0 : Below w.heap.size w W0 := by rw [← hW0]; exact (Below.refl _ _).alloc (Nat.le_refl _) _
  have hA0 : W0.heap[w.heap.size]? = some (.cells #[.slice oa n cap, .slice so sn sc, .slice go gn gc] 26 (0, 0)) := by rw [← hW0]; exact heap_alloc_new _ _
  have HEV := hide (hev.below hb0)
  have HST := hide (hst.below hb0)
  have HGS := hide (hgs.below hb0)
  have HPT := hide (hpt.below hb0)
  have HWD := hide hwd
  have HA0 := hide (fun W (h : Below W0.heap.size W0 W) => (h.block _ (blk_lt hA0)).trans hA0)
  have HB0 := hide hb0
  have HW0 := hide hW0
  have HSZ := hide (szRoom_any oa n cap es so sn sc ss go gn gc gs W0 (hev.below hb0) (hst.below hb0) (hgs.below hb0))
  have a0 := blk_cell hA0 0 rfl
  have a1 := blk_cell hA0 1 rfl
  have a2 := blk_cell hA0 2 rfl
  clear hev hst hgs hpt hwd hsw hb0 hA0 hW0
  go_enter Try.func3, Try.ntmps3
  go_upto_region 1 with fail
  rw [HW0.out]
  clear HW0
  by_cases hbig : 1048576 < p
  · have hbi : (1048576 : Int) < (p : Int) := by omega
    go_wp2_with fail
    go_ret
    exact ⟨rfl, HB0.out⟩
  · have hbi : ¬ ((1048576 : Int) < (p : Int)) := by omega
    go_upto_region 5 with (go_at_call 5; (with_reducible refine HSZ.out.mono ?_); rintro r w1 ⟨z, rfl, hfz, hb1⟩)
    have hA1 := HA0.out w1 hb1
    have HB1 := hide hb1
    have HFZ := hide hfz
    clear hb1 hfz a0 a1 a2 HSZ
    by_cases hz : z < 0
    · go_wp2_with fail
      go_ret
      exact ⟨rfl, HB0.out.trans (HB1.out.mono HB0.out.size)⟩
    · have hF := HFZ.out (by omega)
      have HF := hide hF
      have HTR := hide (fun W (h : Below W0.heap.size W0 W) => toRoom_any oa n cap es so sn sc ss go gn gc gs HF.out W (HEV.out.below h) (HST.out.below h) (HGS.out.below h))
      have HTI := hide (fun W (h : Below W0.heap.size W0 W) => toIntS_any oc p cc prev (by omega) W (HPT.out.below h))
      have a0 := blk_cell hA1 0 rfl
      have a1 := blk_cell hA1 1 rfl
      have a2 := blk_cell hA1 2 rfl
      have hpw := HPT.out.fits
      have HPW := hide hpw
      have HPL := hide HPT.out.len
      clear hF HFZ hA1 hpw
      go_upto_region 8 with (first
        | (go_at_call 7; (with_reducible refine (HTR.out _ HB1.out).mono ?_); rintro r w2 ⟨g, h, k, xs, rfl, hr2, hb2⟩; have hb02 : Below W0.heap.size W0 w2 := HB1.out.trans (hb2.mono HB1.out.size))
        | (go_at_call 8; (with_reducible refine (HTI.out _ hb02).mono ?_); rintro r w3 ⟨g3, rfl, ho3, hb3⟩; have hb03 : Below W0.heap.size W0 w3 := hb02.trans (hb3.mono hb02.size); have hi3 : IntsAt w3 (some ⟨g3, 0, none⟩) p p prev := ints_p ho3 HPL.out HPW.out)
        | (go_at_call 6; (with_reducible refine (specDepthOf_any (some ⟨g, 0, none⟩) es.length es.length es (.slice (some ⟨h, 0, none⟩) ss.length ss.length) (.slice (some ⟨k, 0, none⟩) gs.length gs.length) (some ⟨g3, 0, none⟩) p p prev w3 (hr2.ev.below hb3) hi3).mono ?_); rintro r w4 ⟨rfl, hb4⟩; have hb04 : Below W0.heap.size W0 w4 := hb03.trans (hb4.mono hb03.size)))
      have HB4 := hide hb04
      have hA4 := HA0.out w4 hb04
      have b0 := blk_cell hA4 0 rfl
      have b1 := blk_cell hA4 1 rfl
      have b2 := blk_cell hA4 2 rfl
      clear hr2 hb2 hb02 ho3 hb3 hb03 hi3 hb4 hb04 hA4 a0 a1 a2 HB1
      go_upto_region 9 with (go_at_call 7; (with_reducible refine (HTR.out _ HB4.out).mono ?_); rintro r w5 ⟨g5, h5, k5, xs5, rfl, hr5, hb5⟩)
      obtain ⟨W6, hW6⟩ : ∃ W6, w5.alloc (.cells #[.slice (some ⟨g5, 0, none⟩) es.length es.length, .slice (some ⟨h5, 0, none⟩) ss.length ss.length, .slice (some ⟨k5, 0, none⟩) gs.length gs.length] 33) = W6 := ⟨_, rfl⟩
      try rw [hW6]
      have hb6 : Below w5.heap.size w5 W6 := by rw [← hW6]; exact (Below.refl _ _).alloc (Nat.le_refl _) _
      have hv6 : W6.heap[w5.heap.size]? = some (.cells #[.slice (some ⟨g5, 0, none⟩) es.length es.length, .slice (some ⟨h5, 0, none⟩) ss.length ss.length, .slice (some ⟨k5, 0, none⟩) gs.length gs.length] 33 (0, 0)) := by rw [← hW6]; exact heap_alloc_new _ _
      have HV6 := hide (show RmV W6 w5.heap.size w4.heap.size w5.heap.size g5 h5 k5 es ss gs xs5 from ⟨hv6, hr5.on hb6⟩)
      have hb46 : Below w4.heap.size w4 W6 := hb5.trans (hb6.mono hb5.size)
      have HB6 := hide (show Below W0.heap.size W0 W6 from HB4.out.trans (hb46.mono HB4.out.size))
      generalize w5.heap.size = bx at HV6 ⊢
      clear hr5 hb5 hW6 hb6 hv6 hb46 b0 b1 b2 HB4
      go_upto_region 10 with (go_at_call 8; (with_reducible refine (HTI.out _ HB6.out).mono ?_); rintro r w7 ⟨g7, rfl, ho7, hb7⟩)
      have hi7 : IntsAt w7 (some ⟨g7, 0, none⟩) p p prev := ints_p ho7 HPL.out HPW.out
      have HV7 := hide (HV6.out.on hb7)
      have HB7 := hide (show Below W0.heap.size W0 w7 from HB6.out.trans (hb7.mono HB6.out.size))
      have HI7 := hide hi7
      have v0 := blk_cell HV7.out.var 0 rfl
      have v1 := blk_cell HV7.out.var 1 rfl
      have v2 := blk_cell HV7.out.var 2 rfl
      have HDO := hide (implDepthOf_any (some ⟨g5, 0, none⟩) es.length es.length es (some ⟨h5, 0, none⟩) ss.length ss.length ss (.slice (some ⟨k5, 0, none⟩) gs.length gs.length) (some ⟨g7, 0, none⟩) p p prev HF.out.ev.len (by omega) HWD.out w7 HV7.out.sh.ev (HV7.out.sh.ss.sts HV7.out.sh.sx) ⟨_, _, _, rfl⟩ hi7)
      clear ho7 hb7 hi7 HV6 HB6
      go_upto_region 11 with (go_at_call 9; (with_reducible refine HDO.out.mono ?_); rintro r w8 ⟨rfl, hb8⟩)
      have HV8 := hide (HV7.out.on hb8)
      have HB8 := hide (show Below W0.heap.size W0 w8 from HB7.out.trans (hb8.mono HB7.out.size))
      have HI8 := hide (HI7.out.below hb8)
      have c0 := blk_cell HV8.out.var 0 rfl
      have c1 := blk_cell HV8.out.var 1 rfl
      have c2 := blk_cell HV8.out.var 2 rfl
      have hA8 := HA0.out w8 HB8.out
      have b0 := blk_cell hA8 0 rfl
      have b1 := blk_cell hA8 1 rfl
      have b2 := blk_cell hA8 2 rfl
      have hlv := blk_lt HV8.out.var
      have hla := blk_lt hA8
      clear hb8 v0 v1 v2 HV7 HB7 HI7 HDO hA8
      go_upto_region 13 with fail
      go_region_law (first
        | (rw [if_pos (by rfl)]; go_simp; go_at_call 7; refine (HTR.out _ (HB8.out.drew)).mono ?_; rintro r w9 ⟨g9, h9, k9, xs9, rfl, hr9, hb9⟩; have c09 := (hb9.cell hlv).trans c0; have c19 := (hb9.cell hlv).trans c1; have c29 := (hb9.cell hlv).trans c2)
        | (rw [if_pos (by rfl)]; go_simp; go_at_call 10; refine (eqRoom_same es ss gs HF.out _ _ g5 h5 k5 _ _ g9 h9 k9 _ _ w9 (HV8.out.sh.on ((Below.refl _ _).drew.trans hb9)) hr9).mono ?_; rintro r w10 ⟨rfl, hb10⟩))
      all_goals
        have hb810 : Below w8.heap.size w8 w10 := (Below.refl w8.heap.size w8).drew.trans (hb9.trans (hb10.mono hb9.size))
        have HB10 := hide (show Below W0.heap.size W0 w10 from HB8.out.trans (hb810.mono HB8.out.size))
        have HI10 := hide (HI8.out.below hb810)
        clear hr9 hb9 hb10 hb810 c09 c19 c29
        go_wp2_with (first
          | (go_at_call 8; (with_reducible refine (HTI.out _ HB10.out).mono ?_); rintro r w11 ⟨g11, rfl, ho11, hb11⟩; have hi11 : IntsAt w11 (some ⟨g11, 0, none⟩) p p prev := ints_p ho11 HPL.out HPW.out)
          | (go_at_call 11; (with_reducible refine (eqIntS_same (some ⟨g7, 0, none⟩) p p (some ⟨g11, 0, none⟩) p prev (by omega) w11 (HI10.out.below hb11) hi11).mono ?_); rintro r w12 ⟨rfl, hb12⟩))
        go_ret
        have hb11' := HB10.out.trans (hb11.mono HB10.out.size)
        exact ⟨rfl, HB0.out.trans ((hb11'.trans (hb12.mono hb11'.size)).mono HB0.out.size)⟩

end Go.Proofs.Ythieilmjbefamaa
