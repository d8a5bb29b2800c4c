/-
  Walks and mathematics of LawNodeNew.
-/
import Derived.Test.YtoalbeiinlcgpaaMNdN
import Derived.Test.YtoalbeiinlcgpaaMNdK
import Derived.Test.YtoalbeiinlcgpaaMOpenInts
namespace Go.Proofs.Ytoalbeiinlcgpaa.P11
end Go.Proofs.Ytoalbeiinlcgpaa.P11
namespace Go.Proofs.Ytoalbeiinlcgpaa.P18
end Go.Proofs.Ytoalbeiinlcgpaa.P18
namespace Go.Proofs.Ytoalbeiinlcgpaa.P3
end Go.Proofs.Ytoalbeiinlcgpaa.P3
namespace Go.Proofs.Ytoalbeiinlcgpaa.P5
end Go.Proofs.Ytoalbeiinlcgpaa.P5
namespace Go.Proofs.Ytoalbeiinlcgpaa
open Go.RowKit P1 P3 P5 P9 P11 P12 P18 K
set_option linter.unusedVariables false
set_option linter.unusedSimpArgs false

theorem nwR_fine (id : Int) (cf : List Int) (h : ∀ z ∈ cf, (Lit.int .i64 z).wf = true) : ((nwR id cf).1.cf.length ≤ 100000 ∧ (nwR id cf).1.es.length ≤ 100000 ∧ (nwR id cf).1.vs.length ≤ 100000 ∧ (nwR id cf).1.ps.length ≤ 100000) ∧ (∀ z ∈ (nwR id cf).1.cf, (Lit.int .i64 z).wf = true) ∧ (∀ z ∈ (nwR id cf).1.vs, (Lit.int .i64 z).wf = true) := by
  cases hr : ndOk (nwV id cf) with
  | false =>
    rw [nwR_no hr]
    refine ⟨⟨?_, ?_, ?_, ?_⟩, ?_, ?_⟩ <;> simp [ndZ]
  | true =>
    rw [nwR_yes hr]
    have hc : confOk cf = true := by
      simp only [ndOk, ndHd, Bool.and_eq_true] at hr
      exact hr.1.1.2
    have := confOk_len hc
    refine ⟨⟨?_, ?_, ?_, ?_⟩, h, ?_⟩
    · show cf.length ≤ 100000; omega
    all_goals simp [nwV]

set_option maxRecDepth 100000 in
set_option maxHeartbeats 16000000 in
theorem FnExactNodeNew_walk (id : Int) (oa : Option Addr) (n cap : Nat) (zs : List Int) (w : World) (hid : (Lit.int .i64 id).wf = true) (hat : IntsAt w oa n cap zs) :
    Calls Try.prog 4 #[.int .i64 id, .slice oa n cap] w fun e w' => e = .returned (.bool true) ∧ Below w.heap.size w w' := by
  have hmx := Nat.le_trans hat.room hat.most
  unfold maxLen at hmx
  by_cases hn : n ≤ 1048576
  · have hn20 := hn
    have n0 : ¬ ((n : Int) > 1048576) := by omega
    have HTI := hide (fun w h => toIntS_any oa n cap zs hn20 w h)
    have HEI := hide (fun (oa : Option Addr) (cap : Nat) (ob : Option Addr) (cap' : Nat) w h1 h2 => eqIntS_same oa n cap ob cap' zs hn20 w h1 h2)
    have HSP := hide (fun (oa : Option Addr) (cap : Nat) w h => specNodeNew_any id oa n cap zs hn20 w h)
    have HIM := hide (fun (oa : Option Addr) (cap : Nat) w h => implNodeNew_any id oa n cap zs hn20 w h)
    have HFI := hide hat.fits
    have hfine := nwR_fine id zs hat.fits
    have HAT := hide hat
    clear hat hn
    obtain ⟨R, hR⟩ : ∃ R, nwR id zs = R := ⟨_, rfl⟩
    rw [hR] at HSP HIM hfine
    have HRL := hide hfine.1
    have HRC := hide hfine.2.1
    have HRV := hide hfine.2.2
    clear hfine hR
    have HEQ := hide (fun (S S2 : NdS) w h1 h2 => eqNode_same R.1 S S2 (by have := HRL.out.1; omega) (by have := HRL.out.2.1; omega) (by have := HRL.out.2.2.1; omega) (by have := HRL.out.2.2.2; omega) w h1 h2)
    have q0 : (R.2 == R.2) = true := by simp
    have q1 : (R.2 != R.2) = false := by simp
    go_enter Try.func4, Try.ntmps4
    have hb0 := Below.refl w.heap.size w
    have BB0 := hide hb0
    clear hb0
    go_wp2_with fail
    refine (HTI.out _ (HAT.out.below BB0.out)).mono ?_
    rintro e w1 ⟨g1, rfl, ho1, hb1⟩
    obtain ⟨_, _, he, hat1⟩ := intsAt_of_own ho1 HFI.out
    cases he
    have HA1 := hide hat1
    have BBz1 := hide (BB0.out.trans (hb1.mono BB0.out.size))
    clear hb1 ho1 hat1 BB0
    go_wp2_with fail
    refine (HSP.out _ _ _ HA1.out).mono ?_
    rintro e w2 ⟨S2, rfl, ho2, hb2⟩
    have L2 := hide hb2.size
    have NI0z2 := hide (NdIn.of ho2)
    have L0 := hide (show w.heap.size ≤ w1.heap.size from BBz1.out.size)
    have BBz3 := hide (BBz1.out.trans (hb2.mono BBz1.out.size))
    clear hb2 ho2 HA1 BBz1
    go_upto_region 4 with fail
    obtain ⟨w3, hw3⟩ : ∃ w3, w2.alloc (.cells (ndC R.1 S2) 36) = w3 := ⟨_, rfl⟩
    rw [hw3]
    have hb3 : Below w2.heap.size w2 w3 := by rw [← hw3]; exact (Below.refl _ _).alloc (Nat.le_refl _) _
    have hx3 : XS w2.heap.size (ndC R.1 S2) 36 w3 := by rw [← hw3]; exact XS.new _ _ _
    have BBz4 := hide (BBz3.out.trans (hb3.mono BBz3.out.size))
    have NI0z5 := hide (NI0z2.out.on hb3)
    clear hb3 hw3 BBz3 NI0z2
    have XX0z6 := hide (hx3)
    have L3 := hide (show w2.heap.size < w3.heap.size from hx3.lt)
    clear hx3
    go_wp2_with fail
    refine (HTI.out _ (HAT.out.below BBz4.out)).mono ?_
    rintro e w4 ⟨g4, rfl, ho4, hb4⟩
    have L4 := hide (ho4.lt g4 rfl)
    have BBz7 := hide (BBz4.out.trans (hb4.mono BBz4.out.size))
    have NI0z8 := hide (NI0z5.out.on hb4)
    have XX0z9 := hide (XX0z6.out.on hb4)
    clear hb4 BBz4 NI0z5 XX0z6
    have RW1z10 := hide (ho4)
    clear ho4
    obtain ⟨_, _, he, hat4⟩ := intsAt_of_own RW1z10.out HFI.out
    cases he
    have HA4 := hide hat4
    clear hat4
    go_wp2_with fail
    refine (HIM.out _ _ _ HA4.out).mono ?_
    rintro e w5 ⟨S5, rfl, ho5, hb5⟩
    have L5 := hide hb5.size
    have NG0 := hide (NdIn.of ho5)
    have BBz11 := hide (BBz7.out.trans (hb5.mono BBz7.out.size))
    have NI0z12 := hide (NI0z8.out.on hb5)
    have XX0z13 := hide (XX0z9.out.on hb5)
    have RW1z14 := hide (own_below RW1z10.out hb5)
    clear hb5 ho5 HA4 BBz7 NI0z8 XX0z9 RW1z10
    go_upto_region 6 with fail
    obtain ⟨w6, hw6⟩ : ∃ w6, w5.alloc (.cells (ndC R.1 S5) 36) = w6 := ⟨_, rfl⟩
    rw [hw6]
    have hb6 : Below w5.heap.size w5 w6 := by rw [← hw6]; exact (Below.refl _ _).alloc (Nat.le_refl _) _
    have hx6 : XS w5.heap.size (ndC R.1 S5) 36 w6 := by rw [← hw6]; exact XS.new _ _ _
    have BBz15 := hide (BBz11.out.trans (hb6.mono BBz11.out.size))
    have NI0z16 := hide (NI0z12.out.on hb6)
    have XX0z17 := hide (XX0z13.out.on hb6)
    have RW1z18 := hide (own_below RW1z14.out hb6)
    have NI1z19 := hide (NG0.out.on hb6)
    clear hb6 hw6 BBz11 NI0z12 XX0z13 RW1z14 NG0
    have XX1z20 := hide (hx6)
    clear hx6
    obtain ⟨k0, k1, k2, k3, k4, k5, k6, k7, k8, k9, k10, k11, k12, k13⟩ := xs14 XX1z20.out
    obtain ⟨l0, l1, l2, l3, l4, l5, l6, l7, l8, l9, l10, l11, l12, l13⟩ := xs14 XX0z17.out
    go_wp2_with fail
    clear k0 k1 k2 k3 k4 k5 k6 k7 k8 k9 k10 k11 k12 k13 l0 l1 l2 l3 l4 l5 l6 l7 l8 l9 l10 l11 l12 l13
    refine (HEQ.out S5 S2 _ (NI1z19.out.own.at_ HRC.out HRV.out) (NI0z16.out.own.at_ HRC.out HRV.out)).mono ?_
    rintro e w7 ⟨rfl, hb7⟩
    have BBz21 := hide (BBz15.out.trans (hb7.mono BBz15.out.size))
    have NI0z22 := hide (NI0z16.out.on hb7)
    have XX0z23 := hide (XX0z17.out.on hb7)
    have RW1z24 := hide (own_below RW1z18.out hb7)
    have NI1z25 := hide (NI1z19.out.on hb7)
    have XX1z26 := hide (XX1z20.out.on hb7)
    clear hb7 BBz15 NI0z16 XX0z17 RW1z18 NI1z19 XX1z20
    go_wp2_with fail
    refine (HTI.out _ (HAT.out.below BBz21.out)).mono ?_
    rintro e w8 ⟨g8, rfl, ho8, hb8⟩
    obtain ⟨_, _, he, hat8⟩ := intsAt_of_own ho8 HFI.out
    cases he
    have HA8 := hide hat8
    have BBz27 := hide (BBz21.out.trans (hb8.mono BBz21.out.size))
    have NI0z28 := hide (NI0z22.out.on hb8)
    have XX0z29 := hide (XX0z23.out.on hb8)
    have RW1z30 := hide (own_below RW1z24.out hb8)
    have NI1z31 := hide (NI1z25.out.on hb8)
    have XX1z32 := hide (XX1z26.out.on hb8)
    clear hb8 ho8 hat8 BBz21 NI0z22 XX0z23 RW1z24 NI1z25 XX1z26
    obtain ⟨_, _, he, hat9⟩ := intsAt_of_own RW1z30.out HFI.out
    cases he
    have HA9 := hide hat9
    clear hat9
    go_wp2_with fail
    refine (HEI.out _ _ _ _ _ HA9.out HA8.out).mono ?_
    rintro e w9 ⟨rfl, hb9⟩
    have BBz33 := hide (BBz27.out.trans (hb9.mono BBz27.out.size))
    have NI0z34 := hide (NI0z28.out.on hb9)
    have XX0z35 := hide (XX0z29.out.on hb9)
    have RW1z36 := hide (own_below RW1z30.out hb9)
    have NI1z37 := hide (NI1z31.out.on hb9)
    have XX1z38 := hide (XX1z32.out.on hb9)
    clear hb9 HA8 HA9 BBz27 NI0z28 XX0z29 RW1z30 NI1z31 XX1z32
    go_wp2_with fail
    refine (markIntS_any g4 n _ 1 hn20 (by omega) _ _ RW1z36.out).mono ?_
    rintro e w10 ⟨rfl, hg10⟩
    have BBz39 := hide (BBz33.out.grown hg10 BBz33.out.size (fun b q => by cases q; have := L0.out; have := L2.out; have := L3.out; have := L4.out; omega))
    have NI0z40 := hide (NI0z34.out.out hg10 (fun b q => by cases q; have := L3.out; have := L4.out; omega))
    have XX0z41 := hide (XX0z35.out.kept hg10 (fun q => by have := Option.some.inj q; have := L3.out; have := L4.out; omega))
    have NI1z42 := hide (NI1z37.out.out hg10 (fun b q => by cases q; have := L4.out; omega))
    have XX1z43 := hide (XX1z38.out.kept hg10 (fun q => by have := Option.some.inj q; have := L4.out; have := L5.out; omega))
    clear hg10 BBz33 NI0z34 XX0z35 NI1z37 XX1z38
    have m1 : ¬ ((1 + n : Nat) : Int) < 0 := by omega
    obtain ⟨k0, k1, k2, k3, k4, k5, k6, k7, k8, k9, k10, k11, k12, k13⟩ := xs14 XX1z43.out
    obtain ⟨l0, l1, l2, l3, l4, l5, l6, l7, l8, l9, l10, l11, l12, l13⟩ := xs14 XX0z41.out
    go_wp2_with fail
    clear k0 k1 k2 k3 k4 k5 k6 k7 k8 k9 k10 k11 k12 k13 l0 l1 l2 l3 l4 l5 l6 l7 l8 l9 l10 l11 l12 l13
    refine (HEQ.out S5 S2 _ (NI1z42.out.own.at_ HRC.out HRV.out) (NI0z40.out.own.at_ HRC.out HRV.out)).mono ?_
    rintro e w11 ⟨rfl, hb11⟩
    have BBz44 := hide (BBz39.out.trans (hb11.mono BBz39.out.size))
    have NI0z45 := hide (NI0z40.out.on hb11)
    have XX0z46 := hide (XX0z41.out.on hb11)
    have NI1z47 := hide (NI1z42.out.on hb11)
    have XX1z48 := hide (XX1z43.out.on hb11)
    clear hb11 BBz39 NI0z40 XX0z41 NI1z42 XX1z43
    clear m1
    obtain ⟨k0, k1, k2, k3, k4, k5, k6, k7, k8, k9, k10, k11, k12, k13⟩ := xs14 XX1z48.out
    go_wp2_with fail
    clear k0 k1 k2 k3 k4 k5 k6 k7 k8 k9 k10 k11 k12 k13
    refine (markNode_more R.1 S5 w4.heap.size 1 HRL.out.1 HRL.out.2.1 HRL.out.2.2.1 HRL.out.2.2.2 (by omega) _ (by have := L5.out; have := XX1z48.out.lt; omega) NI1z47.out.own).mono ?_
    rintro e w12 ⟨rfl, hm12, hb12, hk12⟩
    have NIa := hide (NI0z45.out.low hb12 (by have := L3.out; have := L4.out; omega))
    have XXa := hide (XX0z46.out.low hb12 (by have := L3.out; have := L4.out; omega))
    have XXb := hide (show XS w5.heap.size (ndC R.1 S5) 36 w12 from (hk12 _ XX1z48.out.lt (NI1z47.out.top _ (Nat.le_refl _))).trans XX1z48.out)
    have BBa := hide (BBz44.out.trans (hb12.mono (by have := L0.out; have := L2.out; have := L3.out; have := L4.out; omega)))
    have MKa := hide hm12
    clear hm12 hb12 hk12 NI0z45 NI1z47 XX0z46 XX1z48 BBz44
    have m2 : ¬ ((1 + R.1.cf.length + 3 * R.1.es.length + R.1.vs.length + 4 * R.1.ps.length : Nat) : Int) < 0 := by omega
    obtain ⟨k0, k1, k2, k3, k4, k5, k6, k7, k8, k9, k10, k11, k12, k13⟩ := xs14 XXb.out
    go_wp2_with fail
    clear k0 k1 k2 k3 k4 k5 k6 k7 k8 k9 k10 k11 k12 k13
    refine (heldNode_any R.1 S5 _ 1 HRL.out.1 HRL.out.2.1 HRL.out.2.2.1 HRL.out.2.2.2 (by omega) _ MKa.out).mono ?_
    rintro e w13 ⟨rfl, hb13⟩
    have NI0z49 := hide (NIa.out.on hb13)
    have XX0z50 := hide (XXa.out.on hb13)
    have XX1z51 := hide (XXb.out.on hb13)
    have BBz52 := hide (BBa.out.trans (hb13.mono BBa.out.size))
    have MK1z53 := hide (MKa.out.on hb13)
    clear hb13 NIa XXa XXb BBa MKa
    go_wp2_with fail
    refine (HTI.out _ (HAT.out.below BBz52.out)).mono ?_
    rintro e w14 ⟨g14, rfl, ho14, hb14⟩
    obtain ⟨_, _, he, hat14⟩ := intsAt_of_own ho14 HFI.out
    cases he
    have HA14 := hide hat14
    have NI0z54 := hide (NI0z49.out.on hb14)
    have XX0z55 := hide (XX0z50.out.on hb14)
    have XX1z56 := hide (XX1z51.out.on hb14)
    have BBz57 := hide (BBz52.out.trans (hb14.mono BBz52.out.size))
    have MK1z58 := hide (MK1z53.out.on hb14)
    clear hb14 ho14 hat14 NI0z49 XX0z50 XX1z51 BBz52 MK1z53
    go_wp2_with fail
    refine (HIM.out _ _ _ HA14.out).mono ?_
    rintro e w15 ⟨S15, rfl, ho15, hb15⟩
    have NH0 := hide (NdIn.of ho15)
    have NI0z59 := hide (NI0z54.out.on hb15)
    have XX0z60 := hide (XX0z55.out.on hb15)
    have XX1z61 := hide (XX1z56.out.on hb15)
    have BBz62 := hide (BBz57.out.trans (hb15.mono BBz57.out.size))
    have MK1z63 := hide (MK1z58.out.on hb15)
    clear hb15 ho15 HA14 NI0z54 XX0z55 XX1z56 BBz57 MK1z58
    go_upto_region 23 with fail
    obtain ⟨w16, hw16⟩ : ∃ w16, w15.alloc (.cells (ndC R.1 S15) 36) = w16 := ⟨_, rfl⟩
    rw [hw16]
    have hb16 : Below w15.heap.size w15 w16 := by rw [← hw16]; exact (Below.refl _ _).alloc (Nat.le_refl _) _
    have hx16 : XS w15.heap.size (ndC R.1 S15) 36 w16 := by rw [← hw16]; exact XS.new _ _ _
    have NI0z64 := hide (NI0z59.out.on hb16)
    have XX0z65 := hide (XX0z60.out.on hb16)
    have XX1z66 := hide (XX1z61.out.on hb16)
    have BBz67 := hide (BBz62.out.trans (hb16.mono BBz62.out.size))
    have MK1z68 := hide (MK1z63.out.on hb16)
    have NI2z69 := hide (NH0.out.on hb16)
    clear hb16 hw16 NI0z59 XX0z60 XX1z61 BBz62 MK1z63 NH0
    have XX2z70 := hide (hx16)
    clear hx16
    obtain ⟨k0, k1, k2, k3, k4, k5, k6, k7, k8, k9, k10, k11, k12, k13⟩ := xs14 XX2z70.out
    obtain ⟨l0, l1, l2, l3, l4, l5, l6, l7, l8, l9, l10, l11, l12, l13⟩ := xs14 XX0z65.out
    go_wp2_with fail
    clear k0 k1 k2 k3 k4 k5 k6 k7 k8 k9 k10 k11 k12 k13 l0 l1 l2 l3 l4 l5 l6 l7 l8 l9 l10 l11 l12 l13
    refine (HEQ.out S15 S2 _ (NI2z69.out.own.at_ HRC.out HRV.out) (NI0z64.out.own.at_ HRC.out HRV.out)).mono ?_
    rintro e w17 ⟨rfl, hb17⟩
    have NI0z71 := hide (NI0z64.out.on hb17)
    have XX0z72 := hide (XX0z65.out.on hb17)
    have XX1z73 := hide (XX1z66.out.on hb17)
    have BBz74 := hide (BBz67.out.trans (hb17.mono BBz67.out.size))
    have MK1z75 := hide (MK1z68.out.on hb17)
    have NI2z76 := hide (NI2z69.out.on hb17)
    have XX2z77 := hide (XX2z70.out.on hb17)
    clear hb17 NI0z64 XX0z65 XX1z66 BBz67 MK1z68 NI2z69 XX2z70
    obtain ⟨k0, k1, k2, k3, k4, k5, k6, k7, k8, k9, k10, k11, k12, k13⟩ := xs14 XX1z73.out
    go_wp2_with fail
    clear k0 k1 k2 k3 k4 k5 k6 k7 k8 k9 k10 k11 k12 k13
    refine (heldNode_any R.1 S5 _ 1 HRL.out.1 HRL.out.2.1 HRL.out.2.2.1 HRL.out.2.2.2 (by omega) _ MK1z75.out).mono ?_
    rintro e w18 ⟨rfl, hb18⟩
    have NI0z78 := hide (NI0z71.out.on hb18)
    have XX0z79 := hide (XX0z72.out.on hb18)
    have XX1z80 := hide (XX1z73.out.on hb18)
    have BBz81 := hide (BBz74.out.trans (hb18.mono BBz74.out.size))
    have MK1z82 := hide (MK1z75.out.on hb18)
    have NI2z83 := hide (NI2z76.out.on hb18)
    have XX2z84 := hide (XX2z77.out.on hb18)
    clear hb18 NI0z71 XX0z72 XX1z73 BBz74 MK1z75 NI2z76 XX2z77
    go_wp2_with fail
    go_ret
    exact ⟨rfl, BBz81.out⟩
  · have n0 : (n : Int) > 1048576 := by omega
    clear hat hn
    go_enter Try.func4, Try.ntmps4
    go_wp2_with fail
    go_ret
    exact ⟨rfl, Below.refl _ _⟩

end Go.Proofs.Ytoalbeiinlcgpaa
