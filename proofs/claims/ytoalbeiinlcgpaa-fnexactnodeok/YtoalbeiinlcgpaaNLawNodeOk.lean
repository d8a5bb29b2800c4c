/-
  Walks and mathematics of LawNodeOk.
-/
import Derived.Test.YtoalbeiinlcgpaaNNd5
import Derived.Test.YtoalbeiinlcgpaaNNd6
import Derived.Test.YtoalbeiinlcgpaaNOpenNode
import Derived.Deep.RegionHeld3
namespace Go.Proofs.Ytoalbeiinlcgpaa.P1
end Go.Proofs.Ytoalbeiinlcgpaa.P1
namespace Go.Proofs.Ytoalbeiinlcgpaa.P11
end Go.Proofs.Ytoalbeiinlcgpaa.P11
namespace Go.Proofs.Ytoalbeiinlcgpaa.P18
end Go.Proofs.Ytoalbeiinlcgpaa.P18
namespace Go.Proofs.Ytoalbeiinlcgpaa.P3
end Go.Proofs.Ytoalbeiinlcgpaa.P3
namespace Go.Proofs.Ytoalbeiinlcgpaa
open Go.RowKit P1 P3 P9 P11 P12 P18 K
set_option linter.unusedVariables false
set_option linter.unusedSimpArgs false

set_option maxRecDepth 100000 in
set_option maxHeartbeats 16000000 in
theorem FnExactNodeOk_walk (x : NdV) (S : NdS) (w : World) (hat : NdAt w x S) (hwd : ∀ f ∈ x.es, EntWide f) :
    Calls Try.prog 3 #[ndval x S] w fun e w' => e = .returned (.bool true) ∧ Below w.heap.size w w' := by
  have hb0 := (Below.refl w.heap.size w).alloc (Nat.le_refl _) (.cells (ndC x S) 28)
  have HSZ := hide (szNode_any x S 1048576 (by omega) (by omega) _ (hat.below hb0) hwd)
  have HAT := hide hat
  have HB0 := hide hb0
  have HL0 := hide (XS.new w (ndC x S) 28)
  by_cases c : szNd x 1048576 < 0
  · generalize szNd x 1048576 = z at c HSZ
    clear hat hb0 hwd
    go_enter Try.func3, Try.ntmps3
    go_wp2_with fail
    refine HSZ.out.mono ?_
    rintro e w1 ⟨rfl, hb1⟩
    go_wp2_with fail
    go_ret
    exact ⟨rfl, HB0.out.trans (hb1.mono (by simp))⟩
  · obtain ⟨hc20, he20, hfine, hv20, hp20⟩ := szNd_fine c
    generalize szNd x 1048576 = z at c HSZ
    have HTO := hide (fun (S : NdS) w h => toNode_any x S hc20 he20 hv20 hp20 w h)
    have HSP := hide (fun (S : NdS) w h => specNodeOk_any x S hfine hv20 hp20 w h)
    have HIM := hide (fun (S : NdS) w h => implNodeOk_any x S hfine hv20 hp20 w h)
    have HEQ := hide (fun (S S2 : NdS) w h1 h2 => eqNode_same x S S2 hc20 he20 hv20 hp20 w h1 h2)
    have HCW := hide (show ∀ z ∈ x.cf, (Lit.int .i64 z).wf = true from hat.c.fits)
    have HVW := hide (show ∀ z ∈ x.vs, (Lit.int .i64 z).wf = true from hat.v.fits)
    clear hat hb0 hwd hfine
    generalize ndOk x = r0 at HSP HIM
    have q0 : (r0 == r0) = true := by simp
    go_enter Try.func3, Try.ntmps3
    go_wp2_with fail
    refine HSZ.out.mono ?_
    rintro e w1 ⟨rfl, hb1⟩
    have B1 := hide (HB0.out.trans (hb1.mono (by simp)))
    have L1 := hide (HL0.out.on hb1)
    obtain ⟨k0, k1, k2, k3, k4, k5, k6, k7, k8, k9, k10, k11, k12, k13⟩ := xs14 L1.out
    clear hb1
    go_wp2_with fail
    refine (HTO.out _ _ (HAT.out.below B1.out)).mono ?_
    rintro e w2 ⟨S2, rfl, ho2, hb2⟩
    have B2 := hide (B1.out.trans (hb2.mono B1.out.size))
    have L2 := hide (L1.out.on hb2)
    have HA2 := hide (ho2.at_ HCW.out HVW.out)
    clear hb2 ho2 k0 k1 k2 k3 k4 k5 k6 k7 k8 k9 k10 k11 k12 k13 L1
    go_wp2_with fail
    refine (HSP.out _ _ HA2.out).mono ?_
    rintro e w3 ⟨rfl, hb3⟩
    have B3 := hide (B2.out.trans (hb3.mono B2.out.size))
    have L3 := hide (L2.out.on hb3)
    obtain ⟨k0, k1, k2, k3, k4, k5, k6, k7, k8, k9, k10, k11, k12, k13⟩ := xs14 L3.out
    clear hb3 L2 HA2
    go_wp2_with fail
    refine (HTO.out _ _ (HAT.out.below B3.out)).mono ?_
    rintro e w4 ⟨S4, rfl, ho4, hb4⟩
    have B4 := hide (B3.out.trans (hb4.mono B3.out.size))
    have L4 := hide (L3.out.on hb4)
    have HO4 := hide ho4
    clear hb4 ho4 k0 k1 k2 k3 k4 k5 k6 k7 k8 k9 k10 k11 k12 k13 L3
    go_wp2_with fail
    have hb5 := (Below.refl w4.heap.size w4).alloc (Nat.le_refl _) (.cells (ndC x S4) 36)
    have HA5 := hide ((HO4.out.on hb5).at_ HCW.out HVW.out)
    have HB5 := hide hb5
    clear hb5
    refine (HIM.out _ _ HA5.out).mono ?_
    rintro e w6 ⟨rfl, hb6⟩
    have hb46 := HB5.out.trans (hb6.mono (by simp))
    have B6 := hide (B4.out.trans (hb46.mono B4.out.size))
    have L6 := hide (L4.out.on hb46)
    have X6 := hide ((XS.new w4 (ndC x S4) 36).on hb6)
    have HA6 := hide (HA5.out.below hb6)
    clear hb6 hb46 HA5 HB5 L4 HO4
    go_wp2_with fail
    have k0 : ∀ w', XS w.heap.size (ndC x S) 28 w' ∧ XS w4.heap.size (ndC x S4) 36 w' → w'.cell? ⟨w.heap.size, 0, none⟩ = some (.int .i64 x.id) := fun w' h => h.1.cell 0 rfl
    have m0 : ∀ w', XS w.heap.size (ndC x S) 28 w' ∧ XS w4.heap.size (ndC x S4) 36 w' → w'.cell? ⟨w4.heap.size, 0, none⟩ = some (.int .i64 x.id) := fun w' h => h.2.cell 0 rfl
    have k1 : ∀ w', XS w.heap.size (ndC x S) 28 w' ∧ XS w4.heap.size (ndC x S4) 36 w' → w'.cell? ⟨w.heap.size, 1, none⟩ = some (.int .i64 x.tm) := fun w' h => h.1.cell 1 rfl
    have m1 : ∀ w', XS w.heap.size (ndC x S) 28 w' ∧ XS w4.heap.size (ndC x S4) 36 w' → w'.cell? ⟨w4.heap.size, 1, none⟩ = some (.int .i64 x.tm) := fun w' h => h.2.cell 1 rfl
    have k2 : ∀ w', XS w.heap.size (ndC x S) 28 w' ∧ XS w4.heap.size (ndC x S4) 36 w' → w'.cell? ⟨w.heap.size, 2, none⟩ = some (.int .i64 x.vt) := fun w' h => h.1.cell 2 rfl
    have m2 : ∀ w', XS w.heap.size (ndC x S) 28 w' ∧ XS w4.heap.size (ndC x S4) 36 w' → w'.cell? ⟨w4.heap.size, 2, none⟩ = some (.int .i64 x.vt) := fun w' h => h.2.cell 2 rfl
    have k3 : ∀ w', XS w.heap.size (ndC x S) 28 w' ∧ XS w4.heap.size (ndC x S4) 36 w' → w'.cell? ⟨w.heap.size, 3, none⟩ = some (.int .i64 x.ro) := fun w' h => h.1.cell 3 rfl
    have m3 : ∀ w', XS w.heap.size (ndC x S) 28 w' ∧ XS w4.heap.size (ndC x S4) 36 w' → w'.cell? ⟨w4.heap.size, 3, none⟩ = some (.int .i64 x.ro) := fun w' h => h.2.cell 3 rfl
    have k4 : ∀ w', XS w.heap.size (ndC x S) 28 w' ∧ XS w4.heap.size (ndC x S4) 36 w' → w'.cell? ⟨w.heap.size, 4, none⟩ = some (.int .i64 x.ld) := fun w' h => h.1.cell 4 rfl
    have m4 : ∀ w', XS w.heap.size (ndC x S) 28 w' ∧ XS w4.heap.size (ndC x S4) 36 w' → w'.cell? ⟨w4.heap.size, 4, none⟩ = some (.int .i64 x.ld) := fun w' h => h.2.cell 4 rfl
    have k5 : ∀ w', XS w.heap.size (ndC x S) 28 w' ∧ XS w4.heap.size (ndC x S4) 36 w' → w'.cell? ⟨w.heap.size, 5, none⟩ = some (.slice S.oc x.cf.length S.cc) := fun w' h => h.1.cell 5 rfl
    have m5 : ∀ w', XS w.heap.size (ndC x S) 28 w' ∧ XS w4.heap.size (ndC x S4) 36 w' → w'.cell? ⟨w4.heap.size, 5, none⟩ = some (.slice S4.oc x.cf.length S4.cc) := fun w' h => h.2.cell 5 rfl
    have k6 : ∀ w', XS w.heap.size (ndC x S) 28 w' ∧ XS w4.heap.size (ndC x S4) 36 w' → w'.cell? ⟨w.heap.size, 6, none⟩ = some (.int .i64 x.s) := fun w' h => h.1.cell 6 rfl
    have m6 : ∀ w', XS w.heap.size (ndC x S) 28 w' ∧ XS w4.heap.size (ndC x S4) 36 w' → w'.cell? ⟨w4.heap.size, 6, none⟩ = some (.int .i64 x.s) := fun w' h => h.2.cell 6 rfl
    have k7 : ∀ w', XS w.heap.size (ndC x S) 28 w' ∧ XS w4.heap.size (ndC x S4) 36 w' → w'.cell? ⟨w.heap.size, 7, none⟩ = some (.int .i64 x.u) := fun w' h => h.1.cell 7 rfl
    have m7 : ∀ w', XS w.heap.size (ndC x S) 28 w' ∧ XS w4.heap.size (ndC x S4) 36 w' → w'.cell? ⟨w4.heap.size, 7, none⟩ = some (.int .i64 x.u) := fun w' h => h.2.cell 7 rfl
    have k8 : ∀ w', XS w.heap.size (ndC x S) 28 w' ∧ XS w4.heap.size (ndC x S4) 36 w' → w'.cell? ⟨w.heap.size, 8, none⟩ = some (.slice S.oe x.es.length S.ce) := fun w' h => h.1.cell 8 rfl
    have m8 : ∀ w', XS w.heap.size (ndC x S) 28 w' ∧ XS w4.heap.size (ndC x S4) 36 w' → w'.cell? ⟨w4.heap.size, 8, none⟩ = some (.slice S4.oe x.es.length S4.ce) := fun w' h => h.2.cell 8 rfl
    have k9 : ∀ w', XS w.heap.size (ndC x S) 28 w' ∧ XS w4.heap.size (ndC x S4) 36 w' → w'.cell? ⟨w.heap.size, 9, none⟩ = some (.int .i64 x.cm) := fun w' h => h.1.cell 9 rfl
    have m9 : ∀ w', XS w.heap.size (ndC x S) 28 w' ∧ XS w4.heap.size (ndC x S4) 36 w' → w'.cell? ⟨w4.heap.size, 9, none⟩ = some (.int .i64 x.cm) := fun w' h => h.2.cell 9 rfl
    have k10 : ∀ w', XS w.heap.size (ndC x S) 28 w' ∧ XS w4.heap.size (ndC x S4) 36 w' → w'.cell? ⟨w.heap.size, 10, none⟩ = some (.int .i64 x.ck) := fun w' h => h.1.cell 10 rfl
    have m10 : ∀ w', XS w.heap.size (ndC x S) 28 w' ∧ XS w4.heap.size (ndC x S4) 36 w' → w'.cell? ⟨w4.heap.size, 10, none⟩ = some (.int .i64 x.ck) := fun w' h => h.2.cell 10 rfl
    have k11 : ∀ w', XS w.heap.size (ndC x S) 28 w' ∧ XS w4.heap.size (ndC x S4) 36 w' → w'.cell? ⟨w.heap.size, 11, none⟩ = some (.int .i64 x.lm) := fun w' h => h.1.cell 11 rfl
    have m11 : ∀ w', XS w.heap.size (ndC x S) 28 w' ∧ XS w4.heap.size (ndC x S4) 36 w' → w'.cell? ⟨w4.heap.size, 11, none⟩ = some (.int .i64 x.lm) := fun w' h => h.2.cell 11 rfl
    have k12 : ∀ w', XS w.heap.size (ndC x S) 28 w' ∧ XS w4.heap.size (ndC x S4) 36 w' → w'.cell? ⟨w.heap.size, 12, none⟩ = some (.slice S.ov x.vs.length S.cv) := fun w' h => h.1.cell 12 rfl
    have m12 : ∀ w', XS w.heap.size (ndC x S) 28 w' ∧ XS w4.heap.size (ndC x S4) 36 w' → w'.cell? ⟨w4.heap.size, 12, none⟩ = some (.slice S4.ov x.vs.length S4.cv) := fun w' h => h.2.cell 12 rfl
    have k13 : ∀ w', XS w.heap.size (ndC x S) 28 w' ∧ XS w4.heap.size (ndC x S4) 36 w' → w'.cell? ⟨w.heap.size, 13, none⟩ = some (.slice S.op x.ps.length S.cp) := fun w' h => h.1.cell 13 rfl
    have m13 : ∀ w', XS w.heap.size (ndC x S) 28 w' ∧ XS w4.heap.size (ndC x S4) 36 w' → w'.cell? ⟨w4.heap.size, 13, none⟩ = some (.slice S4.op x.ps.length S4.cp) := fun w' h => h.2.cell 13 rfl
    go_region_held3 (fun w' => XS w.heap.size (ndC x S) 28 w' ∧ XS w4.heap.size (ndC x S4) 36 w') (first | exact ⟨L6.out, X6.out⟩ | exact ⟨L6.out.drew, X6.out.drew⟩ | exact ⟨L6.out.drew.on hb7, X6.out.drew.on hb7⟩ | exact ⟨(L6.out.drew.on hb7).on hb8, (X6.out.drew.on hb7).on hb8⟩)
      (first
        | (go_at_call 8; refine (HTO.out _ _ (HAT.out.below B6.out.drew)).mono ?_; rintro e w7 ⟨S7, rfl, ho7, hb7⟩; have HA7 := hide (ho7.at_ HCW.out HVW.out); clear ho7)
        | (go_at_call 10; refine (HEQ.out _ _ _ ((HA6.out.below (Below.refl _ _).drew).below hb7) HA7.out).mono ?_; rintro e w8 ⟨rfl, hb8⟩))
    have B8 : Below w.heap.size w w8 := (B6.out.drew.trans (hb7.mono (by simpa using B6.out.size))).trans (hb8.mono (Nat.le_trans (by simpa using B6.out.size) hb7.size))
    clear hb7 hb8 k0 m0 k1 m1 k2 m2 k3 m3 k4 m4 k5 m5 k6 m6 k7 m7 k8 m8 k9 m9 k10 m10 k11 m11 k12 m12 k13 m13
    go_wp2_with fail
    go_ret
    exact ⟨rfl, B8⟩

end Go.Proofs.Ytoalbeiinlcgpaa
