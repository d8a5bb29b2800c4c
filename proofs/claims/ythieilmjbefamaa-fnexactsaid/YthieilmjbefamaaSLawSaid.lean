/-
  Walks and mathematics of LawSaid.
-/
import Derived.Test.YthieilmjbefamaaSRoomW5
import Derived.Test.YthieilmjbefamaaSSaid2
import Derived.Test.YthieilmjbefamaaSEvsArg
import Derived.Test.YthieilmjbefamaaSStsArg
import Derived.Test.YthieilmjbefamaaSIds1
import Derived.Deep.RegionLaw
namespace Go.Proofs.Ythieilmjbefamaa.P11
end Go.Proofs.Ythieilmjbefamaa.P11
namespace Go.Proofs.Ythieilmjbefamaa.P14
end Go.Proofs.Ythieilmjbefamaa.P14
namespace Go.Proofs.Ythieilmjbefamaa.P3
end Go.Proofs.Ythieilmjbefamaa.P3
namespace Go.Proofs.Ythieilmjbefamaa.P9
end Go.Proofs.Ythieilmjbefamaa.P9
namespace Go.Proofs.Ythieilmjbefamaa
open Go.RowKit P1 P3 P5 P9 P11 P12 P14 K
set_option linter.unusedVariables false
set_option linter.unusedSimpArgs false

structure RmU (w : World) (x lo hi g h k : Nat) (es : List EvV) (ss : List (List (Int × Int))) (gs : List Bool) (xs : List Value) : Prop where
  var : w.heap[x]? = some (.cells #[.slice (some ⟨g, 0, none⟩) es.length es.length, .slice (some ⟨h, 0, none⟩) ss.length ss.length, .slice (some ⟨k, 0, none⟩) gs.length gs.length] 33 (0, 0))
  sh : RmSh w lo hi g h k es ss gs xs

theorem RmU.on {w w' : World} {x lo hi g h k : Nat} {es : List EvV} {ss : List (List (Int × Int))} {gs : List Bool} {xs : List Value} (r : RmU w x lo hi g h k es ss gs xs) (hb : Below w.heap.size w w') : RmU w' x lo hi g h k es ss gs xs :=
  ⟨(hb.block x (blk_lt r.var)).trans r.var, r.sh.on hb⟩

abbrev TxtR (w : World) (B g cap : Nat) (X : List (List UInt8)) : Prop := w.ownsRow B 9 1 (.slice (some ⟨g, 0, none⟩) X.length cap) X.length (strs X)

def OutT (X : List (List UInt8)) (w : World) (r : Ending) (w' : World) : Prop := ∃ g cap, r = .returned (.slice (some ⟨g, 0, none⟩) X.length cap) ∧ TxtR w' w.heap.size g cap X ∧ Below w.heap.size w w'

set_option maxRecDepth 100000 in
set_option maxHeartbeats 8000000 in
theorem FnExactSaid_walk (oa : Option Addr) (n cap : Nat) (es : List EvV) (so : Option Addr) (sn sc : Nat) (ss : List (List (Int × Int))) (go : Option Addr) (gn gc : Nat) (gs : List Bool) (w : World) (hev : EvsAt w oa n cap es) (hwd : ∀ e ∈ es, (Lit.int .i64 e.id).wf = true) (hst : StsAt w so sn sc ss) (hsw : ∀ s ∈ ss, ∀ y ∈ s, WideI y) (hgs : BoolsAt w go gn gc gs) :
    Calls Try.prog 4 #[roomv oa n cap so sn sc go gn gc] w fun e w' => e = .returned (.bool true) ∧ Below w.heap.size w w' := by
  obtain ⟨W0, hW0⟩ : ∃ W0, w.alloc (.cells #[.slice oa n cap, .slice so sn sc, .slice go gn gc] 26) = W0 := ⟨_, rfl⟩
  have hb0 : Below w.heap.size w W0 := by rw [← hW0]; exact (Below.refl _ _).alloc (Nat.le_refl _) _
  have hA0 : W0.heap[w.heap.size]? = some (.cells #[.slice oa n cap, .slice so sn sc, .slice go gn gc] 26 (0, 0)) := by rw [← hW0]; exact heap_alloc_new _ _
  have HEV := hide (hev.below hb0)
  have HST := hide (hst.below hb0)
  have HGS := hide (hgs.below hb0)
  have HA0 := hide (fun W (h : Below W0.heap.size W0 W) => (h.block _ (blk_lt hA0)).trans hA0)
  have HB0 := hide hb0
  have HW0 := hide hW0
  have HSZ := hide (szRoom_any oa n cap es so sn sc ss go gn gc gs W0 (hev.below hb0) (hst.below hb0) (hgs.below hb0))
  have a0 := blk_cell hA0 0 rfl
  have a1 := blk_cell hA0 1 rfl
  have a2 := blk_cell hA0 2 rfl
  clear hev hwd hst hsw hgs hb0 hA0 hW0
  go_enter Try.func4, Try.ntmps4
  go_upto_region 1 with fail
  rw [HW0.out]
  clear HW0
  go_upto_region 3 with (go_at_call 5; (with_reducible refine HSZ.out.mono ?_); rintro r w1 ⟨z, rfl, hfz, hb1⟩)
  have hA1 := HA0.out w1 hb1
  have HB1 := hide hb1
  have HFZ := hide hfz
  clear hb1 hfz a0 a1 a2 HSZ
  by_cases hz : z < 0
  · go_wp2_with fail
    go_ret
    exact ⟨rfl, HB0.out.trans (HB1.out.mono HB0.out.size)⟩
  · have hF := HFZ.out (by omega)
    have HF := hide hF
    have HTR := hide (fun W (h : Below W0.heap.size W0 W) => toRoom_any oa n cap es so sn sc ss go gn gc gs HF.out W (HEV.out.below h) (HST.out.below h) (HGS.out.below h))
    have hxl : (saidL es gs).length ≤ 1048576 := Nat.le_trans (saidL_len es gs) hF.ev.len
    have HSP := hide (fun (g h k : Nat) (W : World) (h1 : EvsAt W (some ⟨g, 0, none⟩) es.length es.length es) (h2 : BoolsAt W (some ⟨k, 0, none⟩) gs.length gs.length gs) => (show Calls Try.prog 12 #[rmS es ss gs g h k] W (OutT (saidL es gs) W) from specSaid_any (some ⟨g, 0, none⟩) es.length es.length es (some ⟨h, 0, none⟩) ss.length ss.length (some ⟨k, 0, none⟩) gs.length gs.length gs HF.out.ev.len W h1 h2))
    have HIM := hide (fun (g h k : Nat) (W : World) (h1 : EvsAt W (some ⟨g, 0, none⟩) es.length es.length es) (h2 : BoolsAt W (some ⟨k, 0, none⟩) gs.length gs.length gs) => (show Calls Try.prog 13 #[rmS es ss gs g h k] W (OutT (saidL es gs) W) from implSaid_any (some ⟨g, 0, none⟩) es.length es.length es (some ⟨h, 0, none⟩) ss.length ss.length (some ⟨k, 0, none⟩) gs.length gs.length gs HF.out.ev W h1 h2))
    generalize saidL es gs = X at hxl HSP HIM
    have a0 := blk_cell hA1 0 rfl
    have a1 := blk_cell hA1 1 rfl
    have a2 := blk_cell hA1 2 rfl
    clear hF HFZ hA1
    go_upto_region 6 with (first
      | (go_at_call 7; (with_reducible refine (HTR.out _ HB1.out).mono ?_); rintro r w2 ⟨g, h, k, xs, rfl, hr2, hb2⟩; have hb02 : Below W0.heap.size W0 w2 := HB1.out.trans (hb2.mono HB1.out.size))
      | (go_at_call 12; (with_reducible refine (HSP.out g h k w2 hr2.ev (bools_own hr2.gs)).mono ?_); rintro r w3 ⟨gA, cA, rfl, hoA, hb3⟩; have hb03 : Below W0.heap.size W0 w3 := hb02.trans (hb3.mono hb02.size)))
    have HB3 := hide hb03
    have hA3 := HA0.out w3 hb03
    have b0 := blk_cell hA3 0 rfl
    have b1 := blk_cell hA3 1 rfl
    have b2 := blk_cell hA3 2 rfl
    have hgA := (hoA.lt gA rfl).2
    have HOA := hide (own_base hoA (Nat.zero_le _))
    clear hr2 hb2 hb02 hb3 hb03 hA3 a0 a1 a2 HB1 HSP hoA
    go_upto_region 7 with (go_at_call 7; (with_reducible refine (HTR.out _ HB3.out).mono ?_); rintro r w4 ⟨g4, h4, k4, xs4, rfl, hr4, hb4⟩)
    obtain ⟨W5, hW5⟩ : ∃ W5, w4.alloc (.cells #[.slice (some ⟨g4, 0, none⟩) es.length es.length, .slice (some ⟨h4, 0, none⟩) ss.length ss.length, .slice (some ⟨k4, 0, none⟩) gs.length gs.length] 33) = W5 := ⟨_, rfl⟩
    try rw [hW5]
    have hb5 : Below w4.heap.size w4 W5 := by rw [← hW5]; exact (Below.refl _ _).alloc (Nat.le_refl _) _
    have hv5 : W5.heap[w4.heap.size]? = some (.cells #[.slice (some ⟨g4, 0, none⟩) es.length es.length, .slice (some ⟨h4, 0, none⟩) ss.length ss.length, .slice (some ⟨k4, 0, none⟩) gs.length gs.length] 33 (0, 0)) := by rw [← hW5]; exact heap_alloc_new _ _
    have HV5 := hide (show RmU W5 w4.heap.size w3.heap.size w4.heap.size g4 h4 k4 es ss gs xs4 from ⟨hv5, hr4.on hb5⟩)
    have hb35 : Below w3.heap.size w3 W5 := hb4.trans (hb5.mono hb4.size)
    have HB5 := hide (show Below W0.heap.size W0 W5 from HB3.out.trans (hb35.mono HB3.out.size))
    have HOA5 := hide (own_below HOA.out hb35)
    have h04 := HB3.out.size
    have h34 := hb4.size
    have h45 : w4.heap.size < W5.heap.size := blk_lt hv5
    generalize w3.heap.size = lo at *
    generalize w4.heap.size = hi at *
    clear hr4 hb4 hW5 hb5 hv5 hb35 b0 b1 b2 HB3 HOA
    have v0 := blk_cell HV5.out.var 0 rfl
    have v1 := blk_cell HV5.out.var 1 rfl
    have v2 := blk_cell HV5.out.var 2 rfl
    go_upto_region 8 with (go_at_call 13; (with_reducible refine (HIM.out g4 h4 k4 W5 HV5.out.sh.ev (bools_own HV5.out.sh.gs)).mono ?_); rintro r w6 ⟨gB, cB, rfl, hoB, hb6⟩)
    have HV6 := hide (HV5.out.on hb6)
    have HB6 := hide (show Below W0.heap.size W0 w6 from HB5.out.trans (hb6.mono HB5.out.size))
    have HOA6 := hide (own_below HOA5.out hb6)
    have hgB := (hoB.lt gB rfl).1
    have HOB6 := hide (own_base hoB (Nat.zero_le _))
    have hs56 := hb6.size
    clear v0 v1 v2 hb6 HV5 HB5 HOA5 hoB
    have HEQ := hide (fun (W : World) (h1 : TxtR W 0 gB cB X) (h2 : TxtR W 0 gA cA X) => eqStringS_same gB X.length cB 0 gA cA 0 X (by omega) W h1 h2)
    go_upto_region 10 with (go_at_call 14; (with_reducible refine (HEQ.out w6 HOB6.out HOA6.out).mono ?_); rintro r w7 ⟨rfl, hb7⟩)
    have HV7 := hide (HV6.out.on hb7)
    have HB7 := hide (show Below W0.heap.size W0 w7 from HB6.out.trans (hb7.mono HB6.out.size))
    have HOA7 := hide (own_below HOA6.out hb7)
    have HOB7 := hide (own_below HOB6.out hb7)
    have hs67 := hb7.size
    have c0 := blk_cell HV7.out.var 0 rfl
    have c1 := blk_cell HV7.out.var 1 rfl
    have c2 := blk_cell HV7.out.var 2 rfl
    have hA7 := HA0.out w7 HB7.out
    have b0 := blk_cell hA7 0 rfl
    have b1 := blk_cell hA7 1 rfl
    have b2 := blk_cell hA7 2 rfl
    have hlv := blk_lt HV7.out.var
    have hla := blk_lt hA7
    clear hb7 HV6 HB6 HOA6 HOB6 hA7
    go_region_law (first
      | (rw [if_pos (by rfl)]; go_simp; go_at_call 7; refine (HTR.out _ (HB7.out.drew)).mono ?_; rintro r w9 ⟨g9, h9, k9, xs9, rfl, hr9, hb9⟩; have c09 := (hb9.cell hlv).trans c0; have c19 := (hb9.cell hlv).trans c1; have c29 := (hb9.cell hlv).trans c2)
      | (rw [if_pos (by rfl)]; go_simp; go_at_call 10; refine (eqRoom_same es ss gs HF.out _ _ g4 h4 k4 _ _ g9 h9 k9 _ _ w9 (HV7.out.sh.on ((Below.refl _ _).drew.trans hb9)) hr9).mono ?_; rintro r w10 ⟨rfl, hb10⟩))
    all_goals
      have hb710 : Below w7.heap.size w7 w10 := (Below.refl w7.heap.size w7).drew.trans (hb9.trans (hb10.mono hb9.size))
      have HB10 := hide (show Below W0.heap.size W0 w10 from HB7.out.trans (hb710.mono HB7.out.size))
      have HV10 := hide (HV7.out.on hb710)
      have HOA10 := hide (own_below HOA7.out hb710)
      have HOB10 := hide (own_below HOB7.out hb710)
      have hs710 := hb710.size
      have d0 := blk_cell HV10.out.var 0 rfl
      have d1 := blk_cell HV10.out.var 1 rfl
      have d2 := blk_cell HV10.out.var 2 rfl
      have HMR := hide (markRoom_any es ss gs HF.out lo hi g4 h4 k4 xs4 w10 (by omega) HV10.out.sh)
      clear hr9 hb9 hb10 hb710 c09 c19 c29 HV7 HB7 HOA7 HOB7 c0 c1 c2 b0 b1 b2
      go_upto_region 14 with (go_at_call 15; (with_reducible refine HMR.out.mono ?_); rintro r w11 ⟨km, rfl, hkm, hwi⟩)
      have HOA11 := hide (hwi.own HOA10.out (fun q hq => by cases hq; exact .inl hgA))
      have HOB11 := hide (hwi.own HOB10.out (fun q hq => by cases hq; exact .inr (show hi ≤ gB by omega)))
      have HB11 := hide (hwi.under HB10.out h04 (by omega))
      have hs1011 := hwi.size
      have qk : ¬ ((km : Int) < 0) := by omega
      clear hwi HMR d0 d1 d2 HV10 HB10 HOA10 HOB10
      go_upto_region 16 with (go_at_call 14; (with_reducible refine (HEQ.out w11 HOB11.out HOA11.out).mono ?_); rintro r w12 ⟨rfl, hb12⟩)
      have HB12 := hide (show Below W0.heap.size W0 w12 from HB11.out.trans (hb12.mono HB11.out.size))
      have HOA12 := hide (own_below HOA11.out hb12)
      have HOB12 := hide (own_below HOB11.out hb12)
      have hs1112 := hb12.size
      have e1 : ((1 : Nat) : Int) = 1 := rfl
      have hm := markStringS_any gB X.length cB 0 1 X rfl (by omega) (by omega) w12 HOB12.out
      have hh := fun w => heldStringS_any gB X.length cB 0 1 (by omega) (by omega) w
      rw [e1] at hm hh
      have HM := hide hm
      have HH := hide hh
      clear hm hh e1 hb12 HB11 HOA11 HOB11 qk
      have q1 : ¬ (((1 + X.length : Nat) : Int) < 0) := by omega
      go_upto_region 18 with (go_at_call 16; (with_reducible refine HM.out.mono ?_); rintro r w13 ⟨rfl, hoB13, hg13⟩)
      have HB13 := hide (show Below W0.heap.size W0 w13 from HB12.out.grown hg13 HB12.out.size (fun q hq => by cases hq; show W0.heap.size ≤ gB; omega))
      have HOA13 := hide (HOA12.out.kept hg13 (by right; simp [Value.ownBlock]; omega))
      have HOB13 := hide hoB13
      have hs1213 := hg13.size
      clear hoB13 hg13 HM HB12 HOA12 HOB12
      go_upto_region 24 with (go_at_call 17; (with_reducible refine (HH.out w13 HOB13.out).mono ?_); rintro r w14 ⟨rfl, hb14⟩)
      have HB14 := hide (show Below W0.heap.size W0 w14 from HB13.out.trans (hb14.mono HB13.out.size))
      have HOA14 := hide (own_below HOA13.out hb14)
      have HOB14 := hide (own_below HOB13.out hb14)
      have hA14 := HA0.out w14 HB14.out
      have b0 := blk_cell hA14 0 rfl
      have b1 := blk_cell hA14 1 rfl
      have b2 := blk_cell hA14 2 rfl
      clear hb14 hA14 HB13 HOA13 HOB13
      go_upto_region 25 with (first
        | (go_at_call 7; (with_reducible refine (HTR.out _ HB14.out).mono ?_); rintro r w15 ⟨g15, h15, k15, xs15, rfl, hr15, hb15⟩)
        | (go_at_call 13; (with_reducible refine (HIM.out g15 h15 k15 w15 hr15.ev (bools_own hr15.gs)).mono ?_); rintro r w16 ⟨gC, cC, rfl, hoC, hb16⟩))
      have hb1416 : Below w14.heap.size w14 w16 := hb15.trans (hb16.mono hb15.size)
      have HB16 := hide (show Below W0.heap.size W0 w16 from HB14.out.trans (hb1416.mono HB14.out.size))
      have HOA16 := hide (own_below HOA14.out hb1416)
      have HOB16 := hide (own_below HOB14.out hb1416)
      have HOC16 := hide hoC
      clear hb1416 hr15 hb15 hb16 hoC b0 b1 b2 HB14 HOA14 HOB14
      go_upto_region 27 with (go_at_call 14; (with_reducible refine (eqStringS_same gC X.length cC _ gA cA 0 X (by omega) w16 HOC16.out HOA16.out).mono ?_); rintro r w17 ⟨rfl, hb17⟩)
      have HB17 := hide (show Below W0.heap.size W0 w17 from HB16.out.trans (hb17.mono HB16.out.size))
      have HOB17 := hide (own_below HOB16.out hb17)
      clear hb17 HB16 HOA16 HOB16 HOC16
      go_wp2_with (go_at_call 17; (with_reducible refine (HH.out w17 HOB17.out).mono ?_); rintro r w18 ⟨rfl, hb18⟩)
      go_ret
      exact ⟨rfl, HB0.out.trans ((HB17.out.trans (hb18.mono HB17.out.size)).mono HB0.out.size)⟩

end Go.Proofs.Ythieilmjbefamaa
