/-
  Walks and mathematics of LawSettle.
-/
import Derived.Test.YtoalbeiinlcgpaaKNdT
import Derived.Test.YtoalbeiinlcgpaaKNdW
import Derived.Test.YtoalbeiinlcgpaaKOpenNode
import Derived.Deep.RegionHeld3
namespace Go.Proofs.Ytoalbeiinlcgpaa.P11
end Go.Proofs.Ytoalbeiinlcgpaa.P11
namespace Go.Proofs.Ytoalbeiinlcgpaa.P18
end Go.Proofs.Ytoalbeiinlcgpaa.P18
namespace Go.Proofs.Ytoalbeiinlcgpaa.P3
end Go.Proofs.Ytoalbeiinlcgpaa.P3
namespace Go.Proofs.Ytoalbeiinlcgpaa.P5
end Go.Proofs.Ytoalbeiinlcgpaa.P5
namespace Go.Proofs.Ytoalbeiinlcgpaa
open Go.RowKit P1 P3 P5 P9 P11 P12 P18 K
set_option linter.unusedVariables false
set_option linter.unusedSimpArgs false

theorem stR_fine (x : NdV) (ix : Int) (hv : ∀ z ∈ x.vs, (Lit.int .i64 z).wf = true) (hv20 : x.vs.length ≤ 1048576) (hp20 : x.ps.length ≤ 1048576) : ((stR x ix).1.cf.length ≤ 100000 ∧ (stR x ix).1.es.length ≤ 100000 ∧ (stR x ix).1.vs.length ≤ 1048576 ∧ (stR x ix).1.ps.length ≤ 1048576) ∧ (∀ z ∈ (stR x ix).1.cf, (Lit.int .i64 z).wf = true) ∧ (∀ z ∈ (stR x ix).1.vs, (Lit.int .i64 z).wf = true) := by
  cases hr : ndOk x && bt x.s ix x.cm with
  | false =>
    rw [stR_no hr]
    refine ⟨⟨?_, ?_, ?_, ?_⟩, ?_, ?_⟩ <;> simp [ndZ]
  | true =>
    rw [stR_yes hr]
    obtain ⟨h1, h2⟩ := Bool.and_eq_true_iff.1 hr
    obtain ⟨hlg, hcf, k, hix, hk, hkk⟩ := st_facts h1 h2
    obtain ⟨s0, s1, u0, u1, hn, hsn, hok⟩ := lgOk_facts hlg
    have hc : confOk (cfGo x.cf (x.es.take (ix - x.s).toNat)) = true := cfGo_ok _ _ hcf fun e he => hok e (List.mem_of_mem_take he)
    have hl := confOk_len hc
    refine ⟨⟨?_, ?_, hv20, hp20⟩, ?_, hv⟩
    · show (cfGo x.cf (x.es.take (ix - x.s).toNat)).length ≤ 100000
      omega
    · show (x.es.drop (ix - x.s).toNat).length ≤ 100000
      rw [List.length_drop]
      omega
    · intro z hz
      have := confOk_mem hc z hz
      exact wf_small (by omega) (by omega)

set_option maxRecDepth 100000 in
set_option maxHeartbeats 16000000 in
theorem FnExactSettle_walk (x : NdV) (S : NdS) (ix : Int) (w : World) (hat : NdAt w x S) (hwd : ∀ f ∈ x.es, EntWide f) (hix : (Lit.int .i64 ix).wf = true) :
    Calls Try.prog 5 #[ndval x S, .int .i64 ix] w fun e w' => e = .returned (.bool true) ∧ Below w.heap.size w w' := by
  have hb0 := (Below.refl w.heap.size w).alloc (Nat.le_refl _) (.cells (ndC x S) 28)
  have HSZ := hide (szNode_any x S 1048576 (by omega) (by omega) _ (hat.below hb0) hwd)
  have HAT := hide hat
  have HB0 := hide hb0
  have HL0 := hide (XS.new w (ndC x S) 28)
  by_cases c : szNd x 1048576 < 0
  · generalize szNd x 1048576 = z at c HSZ
    clear hat hb0 hwd
    go_enter Try.func5, Try.ntmps5
    go_wp2_with fail
    refine HSZ.out.mono ?_
    rintro e w1 ⟨rfl, hb1⟩
    go_wp2_with fail
    go_ret
    exact ⟨rfl, HB0.out.trans (hb1.mono (by simp))⟩
  · obtain ⟨hc20, he20, hfine, hv20, hp20⟩ := szNd_fine c
    generalize szNd x 1048576 = z at c HSZ
    have HTO := hide (fun (S : NdS) w h => toNode_any x S hc20 he20 hv20 hp20 w h)
    have HSP := hide (fun (S : NdS) w h => specSettle_any x S ix hc20 he20 hfine hv20 hp20 w h)
    have HIM := hide (fun (S : NdS) w h => implSettle_any x S ix hc20 he20 hfine hv20 hp20 w h)
    have HEX := hide (fun (S S2 : NdS) w h1 h2 => eqNode_same x S S2 hc20 he20 hv20 hp20 w h1 h2)
    have HCW := hide (show ∀ z ∈ x.cf, (Lit.int .i64 z).wf = true from hat.c.fits)
    have HVW := hide (show ∀ z ∈ x.vs, (Lit.int .i64 z).wf = true from hat.v.fits)
    have hrf := stR_fine x ix hat.v.fits hv20 hp20
    clear hat hb0 hwd hfine
    obtain ⟨R, hR⟩ : ∃ R, stR x ix = R := ⟨_, rfl⟩
    rw [hR] at HSP HIM hrf
    have HRL := hide hrf.1
    have HRC := hide hrf.2.1
    have HRV := hide hrf.2.2
    clear hrf hR
    have HEQ := hide (fun (S S2 : NdS) w h1 h2 => eqNode_same R.1 S S2 (by have := HRL.out.1; omega) (by have := HRL.out.2.1; omega) HRL.out.2.2.1 HRL.out.2.2.2 w h1 h2)
    have q0 : (R.2 == R.2) = true := by simp
    have q1 : (R.2 != R.2) = false := by simp
    go_enter Try.func5, Try.ntmps5
    go_wp2_with fail
    refine HSZ.out.mono ?_
    rintro e w1 ⟨rfl, hb1⟩
    have BBz1 := hide (HB0.out.trans (hb1.mono HB0.out.size))
    have XXLz2 := hide (HL0.out.on hb1)
    clear hb1 HB0 HL0
    have L0 := hide (show w.heap.size < w1.heap.size from XXLz2.out.lt)
    obtain ⟨k0, k1, k2, k3, k4, k5, k6, k7, k8, k9, k10, k11, k12, k13⟩ := xs14 XXLz2.out
    go_wp2_with fail
    clear k0 k1 k2 k3 k4 k5 k6 k7 k8 k9 k10 k11 k12 k13
    refine (HTO.out _ _ (HAT.out.below BBz1.out)).mono ?_
    rintro e w2 ⟨S2, rfl, ho2, hb2⟩
    have HA2 := hide (ho2.at_ HCW.out HVW.out)
    have L2 := hide hb2.size
    have BBz3 := hide (BBz1.out.trans (hb2.mono BBz1.out.size))
    have XXLz4 := hide (XXLz2.out.on hb2)
    clear hb2 ho2 BBz1 XXLz2
    go_wp2_with fail
    refine (HSP.out _ _ HA2.out).mono ?_
    rintro e w3 ⟨S3, rfl, ho3, hb3⟩
    have NB0 := hide (NdIn.of ho3)
    have L3 := hide hb3.size
    have BBz5 := hide (BBz3.out.trans (hb3.mono BBz3.out.size))
    have XXLz6 := hide (XXLz4.out.on hb3)
    clear hb3 ho3 BBz3 XXLz4
    clear HA2
    go_upto_region 6 with fail
    obtain ⟨w4, hw4⟩ : ∃ w4, w3.alloc (.cells (ndC R.1 S3) 36) = w4 := ⟨_, rfl⟩
    rw [hw4]
    have hb4 : Below w3.heap.size w3 w4 := by rw [← hw4]; exact (Below.refl _ _).alloc (Nat.le_refl _) _
    have hx4 : XS w3.heap.size (ndC R.1 S3) 36 w4 := by rw [← hw4]; exact XS.new _ _ _
    have BBz7 := hide (BBz5.out.trans (hb4.mono BBz5.out.size))
    have XXLz8 := hide (XXLz6.out.on hb4)
    have NI0z9 := hide (NB0.out.on hb4)
    clear hb4 hw4 BBz5 XXLz6 NB0
    have XX0z10 := hide (hx4)
    have L4 := hide (show w3.heap.size < w4.heap.size from hx4.lt)
    clear hx4
    have SZ4z11 := hide (Nat.le_refl w4.heap.size)
    obtain ⟨k0, k1, k2, k3, k4, k5, k6, k7, k8, k9, k10, k11, k12, k13⟩ := xs14 XXLz8.out
    go_wp2_with fail
    clear k0 k1 k2 k3 k4 k5 k6 k7 k8 k9 k10 k11 k12 k13
    refine (HTO.out _ _ (HAT.out.below BBz7.out)).mono ?_
    rintro e w5 ⟨S5, rfl, ho5, hb5⟩
    have NB3 := hide (NdIn.of ho5)
    have L5 := hide hb5.size
    have BBz12 := hide (BBz7.out.trans (hb5.mono BBz7.out.size))
    have XXLz13 := hide (XXLz8.out.on hb5)
    have NI0z14 := hide (NI0z9.out.on hb5)
    have XX0z15 := hide (XX0z10.out.on hb5)
    have SZ4z16 := hide (Nat.le_trans SZ4z11.out hb5.size)
    clear hb5 ho5 BBz7 XXLz8 NI0z9 XX0z10 SZ4z11
    go_upto_region 7 with fail
    obtain ⟨w6, hw6⟩ : ∃ w6, w5.alloc (.cells (ndC x S5) 36) = w6 := ⟨_, rfl⟩
    rw [hw6]
    have hb6 : Below w5.heap.size w5 w6 := by rw [← hw6]; exact (Below.refl _ _).alloc (Nat.le_refl _) _
    have hx6 : XS w5.heap.size (ndC x S5) 36 w6 := by rw [← hw6]; exact XS.new _ _ _
    have BBz17 := hide (BBz12.out.trans (hb6.mono BBz12.out.size))
    have XXLz18 := hide (XXLz13.out.on hb6)
    have NI0z19 := hide (NI0z14.out.on hb6)
    have XX0z20 := hide (XX0z15.out.on hb6)
    have SZ4z21 := hide (Nat.le_trans SZ4z16.out hb6.size)
    have NI3z22 := hide (NB3.out.on hb6)
    clear hb6 hw6 BBz12 XXLz13 NI0z14 XX0z15 SZ4z16 NB3
    have XX3z23 := hide (hx6)
    have L6 := hide (show w5.heap.size < w6.heap.size from hx6.lt)
    clear hx6
    have SZ6z24 := hide (Nat.le_refl w6.heap.size)
    obtain ⟨k0, k1, k2, k3, k4, k5, k6, k7, k8, k9, k10, k11, k12, k13⟩ := xs14 XX3z23.out
    go_wp2_with fail
    refine (HIM.out _ _ (NI3z22.out.own.at_ HCW.out HVW.out)).mono ?_
    rintro e w7 ⟨S7, rfl, ho7, hb7⟩
    have NB1 := hide (NdIn.of ho7)
    have L7 := hide hb7.size
    have BBz25 := hide (BBz17.out.trans (hb7.mono BBz17.out.size))
    have XXLz26 := hide (XXLz18.out.on hb7)
    have NI0z27 := hide (NI0z19.out.on hb7)
    have XX0z28 := hide (XX0z20.out.on hb7)
    have SZ4z29 := hide (Nat.le_trans SZ4z21.out hb7.size)
    have NI3z30 := hide (NI3z22.out.on hb7)
    have XX3z31 := hide (XX3z23.out.on hb7)
    have SZ6z32 := hide (Nat.le_trans SZ6z24.out hb7.size)
    clear hb7 ho7 BBz17 XXLz18 NI0z19 XX0z20 SZ4z21 NI3z22 XX3z23 SZ6z24
    clear k0 k1 k2 k3 k4 k5 k6 k7 k8 k9 k10 k11 k12 k13
    go_upto_region 8 with fail
    obtain ⟨w8, hw8⟩ : ∃ w8, w7.alloc (.cells (ndC R.1 S7) 36) = w8 := ⟨_, rfl⟩
    rw [hw8]
    have hb8 : Below w7.heap.size w7 w8 := by rw [← hw8]; exact (Below.refl _ _).alloc (Nat.le_refl _) _
    have hx8 : XS w7.heap.size (ndC R.1 S7) 36 w8 := by rw [← hw8]; exact XS.new _ _ _
    have BBz33 := hide (BBz25.out.trans (hb8.mono BBz25.out.size))
    have XXLz34 := hide (XXLz26.out.on hb8)
    have NI0z35 := hide (NI0z27.out.on hb8)
    have XX0z36 := hide (XX0z28.out.on hb8)
    have SZ4z37 := hide (Nat.le_trans SZ4z29.out hb8.size)
    have NI3z38 := hide (NI3z30.out.on hb8)
    have XX3z39 := hide (XX3z31.out.on hb8)
    have SZ6z40 := hide (Nat.le_trans SZ6z32.out hb8.size)
    have NI1z41 := hide (NB1.out.on hb8)
    clear hb8 hw8 BBz25 XXLz26 NI0z27 XX0z28 SZ4z29 NI3z30 XX3z31 SZ6z32 NB1
    have XX1z42 := hide (hx8)
    have L8 := hide (show w7.heap.size < w8.heap.size from hx8.lt)
    clear hx8
    obtain ⟨k0, k1, k2, k3, k4, k5, k6, k7, k8, k9, k10, k11, k12, k13⟩ := xs14 XX1z42.out
    obtain ⟨l0, l1, l2, l3, l4, l5, l6, l7, l8, l9, l10, l11, l12, l13⟩ := xs14 XX0z36.out
    go_wp2_with fail
    clear k0 k1 k2 k3 k4 k5 k6 k7 k8 k9 k10 k11 k12 k13 l0 l1 l2 l3 l4 l5 l6 l7 l8 l9 l10 l11 l12 l13
    refine (HEQ.out S7 S3 _ (NI1z41.out.own.at_ HRC.out HRV.out) (NI0z35.out.own.at_ HRC.out HRV.out)).mono ?_
    rintro e w9 ⟨rfl, hb9⟩
    have BBz43 := hide (BBz33.out.trans (hb9.mono BBz33.out.size))
    have XXLz44 := hide (XXLz34.out.on hb9)
    have NI0z45 := hide (NI0z35.out.on hb9)
    have XX0z46 := hide (XX0z36.out.on hb9)
    have SZ4z47 := hide (Nat.le_trans SZ4z37.out hb9.size)
    have NI3z48 := hide (NI3z38.out.on hb9)
    have XX3z49 := hide (XX3z39.out.on hb9)
    have SZ6z50 := hide (Nat.le_trans SZ6z40.out hb9.size)
    have NI1z51 := hide (NI1z41.out.on hb9)
    have XX1z52 := hide (XX1z42.out.on hb9)
    clear hb9 BBz33 XXLz34 NI0z35 XX0z36 SZ4z37 NI3z38 XX3z39 SZ6z40 NI1z41 XX1z42
    go_wp2_with fail
    have k0 : ∀ w', XS w.heap.size (ndC x S) 28 w' ∧ XS w5.heap.size (ndC x S5) 36 w' → w'.cell? ⟨w.heap.size, 0, none⟩ = some (.int .i64 x.id) := fun w' h => h.1.cell 0 rfl
    have m0 : ∀ w', XS w.heap.size (ndC x S) 28 w' ∧ XS w5.heap.size (ndC x S5) 36 w' → w'.cell? ⟨w5.heap.size, 0, none⟩ = some (.int .i64 x.id) := fun w' h => h.2.cell 0 rfl
    have k1 : ∀ w', XS w.heap.size (ndC x S) 28 w' ∧ XS w5.heap.size (ndC x S5) 36 w' → w'.cell? ⟨w.heap.size, 1, none⟩ = some (.int .i64 x.tm) := fun w' h => h.1.cell 1 rfl
    have m1 : ∀ w', XS w.heap.size (ndC x S) 28 w' ∧ XS w5.heap.size (ndC x S5) 36 w' → w'.cell? ⟨w5.heap.size, 1, none⟩ = some (.int .i64 x.tm) := fun w' h => h.2.cell 1 rfl
    have k2 : ∀ w', XS w.heap.size (ndC x S) 28 w' ∧ XS w5.heap.size (ndC x S5) 36 w' → w'.cell? ⟨w.heap.size, 2, none⟩ = some (.int .i64 x.vt) := fun w' h => h.1.cell 2 rfl
    have m2 : ∀ w', XS w.heap.size (ndC x S) 28 w' ∧ XS w5.heap.size (ndC x S5) 36 w' → w'.cell? ⟨w5.heap.size, 2, none⟩ = some (.int .i64 x.vt) := fun w' h => h.2.cell 2 rfl
    have k3 : ∀ w', XS w.heap.size (ndC x S) 28 w' ∧ XS w5.heap.size (ndC x S5) 36 w' → w'.cell? ⟨w.heap.size, 3, none⟩ = some (.int .i64 x.ro) := fun w' h => h.1.cell 3 rfl
    have m3 : ∀ w', XS w.heap.size (ndC x S) 28 w' ∧ XS w5.heap.size (ndC x S5) 36 w' → w'.cell? ⟨w5.heap.size, 3, none⟩ = some (.int .i64 x.ro) := fun w' h => h.2.cell 3 rfl
    have k4 : ∀ w', XS w.heap.size (ndC x S) 28 w' ∧ XS w5.heap.size (ndC x S5) 36 w' → w'.cell? ⟨w.heap.size, 4, none⟩ = some (.int .i64 x.ld) := fun w' h => h.1.cell 4 rfl
    have m4 : ∀ w', XS w.heap.size (ndC x S) 28 w' ∧ XS w5.heap.size (ndC x S5) 36 w' → w'.cell? ⟨w5.heap.size, 4, none⟩ = some (.int .i64 x.ld) := fun w' h => h.2.cell 4 rfl
    have k5 : ∀ w', XS w.heap.size (ndC x S) 28 w' ∧ XS w5.heap.size (ndC x S5) 36 w' → w'.cell? ⟨w.heap.size, 5, none⟩ = some (.slice S.oc x.cf.length S.cc) := fun w' h => h.1.cell 5 rfl
    have m5 : ∀ w', XS w.heap.size (ndC x S) 28 w' ∧ XS w5.heap.size (ndC x S5) 36 w' → w'.cell? ⟨w5.heap.size, 5, none⟩ = some (.slice S5.oc x.cf.length S5.cc) := fun w' h => h.2.cell 5 rfl
    have k6 : ∀ w', XS w.heap.size (ndC x S) 28 w' ∧ XS w5.heap.size (ndC x S5) 36 w' → w'.cell? ⟨w.heap.size, 6, none⟩ = some (.int .i64 x.s) := fun w' h => h.1.cell 6 rfl
    have m6 : ∀ w', XS w.heap.size (ndC x S) 28 w' ∧ XS w5.heap.size (ndC x S5) 36 w' → w'.cell? ⟨w5.heap.size, 6, none⟩ = some (.int .i64 x.s) := fun w' h => h.2.cell 6 rfl
    have k7 : ∀ w', XS w.heap.size (ndC x S) 28 w' ∧ XS w5.heap.size (ndC x S5) 36 w' → w'.cell? ⟨w.heap.size, 7, none⟩ = some (.int .i64 x.u) := fun w' h => h.1.cell 7 rfl
    have m7 : ∀ w', XS w.heap.size (ndC x S) 28 w' ∧ XS w5.heap.size (ndC x S5) 36 w' → w'.cell? ⟨w5.heap.size, 7, none⟩ = some (.int .i64 x.u) := fun w' h => h.2.cell 7 rfl
    have k8 : ∀ w', XS w.heap.size (ndC x S) 28 w' ∧ XS w5.heap.size (ndC x S5) 36 w' → w'.cell? ⟨w.heap.size, 8, none⟩ = some (.slice S.oe x.es.length S.ce) := fun w' h => h.1.cell 8 rfl
    have m8 : ∀ w', XS w.heap.size (ndC x S) 28 w' ∧ XS w5.heap.size (ndC x S5) 36 w' → w'.cell? ⟨w5.heap.size, 8, none⟩ = some (.slice S5.oe x.es.length S5.ce) := fun w' h => h.2.cell 8 rfl
    have k9 : ∀ w', XS w.heap.size (ndC x S) 28 w' ∧ XS w5.heap.size (ndC x S5) 36 w' → w'.cell? ⟨w.heap.size, 9, none⟩ = some (.int .i64 x.cm) := fun w' h => h.1.cell 9 rfl
    have m9 : ∀ w', XS w.heap.size (ndC x S) 28 w' ∧ XS w5.heap.size (ndC x S5) 36 w' → w'.cell? ⟨w5.heap.size, 9, none⟩ = some (.int .i64 x.cm) := fun w' h => h.2.cell 9 rfl
    have k10 : ∀ w', XS w.heap.size (ndC x S) 28 w' ∧ XS w5.heap.size (ndC x S5) 36 w' → w'.cell? ⟨w.heap.size, 10, none⟩ = some (.int .i64 x.ck) := fun w' h => h.1.cell 10 rfl
    have m10 : ∀ w', XS w.heap.size (ndC x S) 28 w' ∧ XS w5.heap.size (ndC x S5) 36 w' → w'.cell? ⟨w5.heap.size, 10, none⟩ = some (.int .i64 x.ck) := fun w' h => h.2.cell 10 rfl
    have k11 : ∀ w', XS w.heap.size (ndC x S) 28 w' ∧ XS w5.heap.size (ndC x S5) 36 w' → w'.cell? ⟨w.heap.size, 11, none⟩ = some (.int .i64 x.lm) := fun w' h => h.1.cell 11 rfl
    have m11 : ∀ w', XS w.heap.size (ndC x S) 28 w' ∧ XS w5.heap.size (ndC x S5) 36 w' → w'.cell? ⟨w5.heap.size, 11, none⟩ = some (.int .i64 x.lm) := fun w' h => h.2.cell 11 rfl
    have k12 : ∀ w', XS w.heap.size (ndC x S) 28 w' ∧ XS w5.heap.size (ndC x S5) 36 w' → w'.cell? ⟨w.heap.size, 12, none⟩ = some (.slice S.ov x.vs.length S.cv) := fun w' h => h.1.cell 12 rfl
    have m12 : ∀ w', XS w.heap.size (ndC x S) 28 w' ∧ XS w5.heap.size (ndC x S5) 36 w' → w'.cell? ⟨w5.heap.size, 12, none⟩ = some (.slice S5.ov x.vs.length S5.cv) := fun w' h => h.2.cell 12 rfl
    have k13 : ∀ w', XS w.heap.size (ndC x S) 28 w' ∧ XS w5.heap.size (ndC x S5) 36 w' → w'.cell? ⟨w.heap.size, 13, none⟩ = some (.slice S.op x.ps.length S.cp) := fun w' h => h.1.cell 13 rfl
    have m13 : ∀ w', XS w.heap.size (ndC x S) 28 w' ∧ XS w5.heap.size (ndC x S5) 36 w' → w'.cell? ⟨w5.heap.size, 13, none⟩ = some (.slice S5.op x.ps.length S5.cp) := fun w' h => h.2.cell 13 rfl
    go_region_held3 (fun w' => XS w.heap.size (ndC x S) 28 w' ∧ XS w5.heap.size (ndC x S5) 36 w') (first | exact ⟨XXLz44.out, XX3z49.out⟩ | exact ⟨XXLz44.out.drew, XX3z49.out.drew⟩ | exact ⟨XXLz44.out.drew.on hb10, XX3z49.out.drew.on hb10⟩ | exact ⟨(XXLz44.out.drew.on hb10).on hb11, (XX3z49.out.drew.on hb10).on hb11⟩)
      (first
        | (go_at_call 8; refine (HTO.out _ _ (HAT.out.below BBz43.out.drew)).mono ?_; rintro e w10 ⟨S10, rfl, ho10, hb10⟩; have HA10 := hide (ho10.at_ HCW.out HVW.out); clear ho10)
        | (go_at_call 10; refine (HEX.out _ _ _ (((NI3z48.out.own.at_ HCW.out HVW.out).below (Below.refl _ _).drew).below hb10) HA10.out).mono ?_; rintro e w11 ⟨rfl, hb11⟩))
    have hbD : Below w9.heap.size w9 w11 := ((Below.refl w9.heap.size w9).drew.trans (hb10.mono (Below.refl w9.heap.size w9).drew.size)).trans (hb11.mono (Nat.le_trans (Below.refl w9.heap.size w9).drew.size hb10.size))
    clear hb10 hb11 HA10 k0 m0 k1 m1 k2 m2 k3 m3 k4 m4 k5 m5 k6 m6 k7 m7 k8 m8 k9 m9 k10 m10 k11 m11 k12 m12 k13 m13
    have BBz53 := hide (BBz43.out.trans (hbD.mono BBz43.out.size))
    have XXLz54 := hide (XXLz44.out.on hbD)
    have NI0z55 := hide (NI0z45.out.on hbD)
    have XX0z56 := hide (XX0z46.out.on hbD)
    have SZ4z57 := hide (Nat.le_trans SZ4z47.out hbD.size)
    have NI3z58 := hide (NI3z48.out.on hbD)
    have XX3z59 := hide (XX3z49.out.on hbD)
    have SZ6z60 := hide (Nat.le_trans SZ6z50.out hbD.size)
    have NI1z61 := hide (NI1z51.out.on hbD)
    have XX1z62 := hide (XX1z52.out.on hbD)
    clear hbD BBz43 XXLz44 NI0z45 XX0z46 SZ4z47 NI3z48 XX3z49 SZ6z50 NI1z51 XX1z52
    as_aux_lemma =>
      obtain ⟨k0, k1, k2, k3, k4, k5, k6, k7, k8, k9, k10, k11, k12, k13⟩ := xs14 XX3z59.out
      go_wp2_with fail
      clear k0 k1 k2 k3 k4 k5 k6 k7 k8 k9 k10 k11 k12 k13
      refine (markNode_wide x S5 w4.heap.size 1 hc20 he20 hv20 hp20 (by omega) _ SZ4z57.out NI3z58.out.own).mono ?_
      rintro e w12 ⟨rfl, hm12, hb12, hk12⟩
      have NIa := hide (NI0z55.out.low hb12 (by have := L4.out; omega))
      have NIb := hide (NI1z61.out.keep (fun g h1 h2 => hk12 g h2 (NI3z58.out.top g (by have := L6.out; omega))))
      have XXa := hide (XX0z56.out.low hb12 (by have := L4.out; omega))
      have XXb := hide (show XS w7.heap.size (ndC R.1 S7) 36 w12 from (hk12 _ XX1z62.out.lt (NI3z58.out.top _ (by have := L6.out; have := L7.out; omega))).trans XX1z62.out)
      have XXc := hide (XXLz54.out.low hb12 (by have := L0.out; have := L2.out; have := L3.out; have := L4.out; omega))
      have BBa := hide (BBz53.out.trans (hb12.mono (by have := L0.out; have := L2.out; have := L3.out; have := L4.out; omega)))
      have SZa := hide (Nat.le_trans SZ6z60.out (by have h := hb12.size; exact h))
      clear hm12 hb12 hk12 NI0z55 NI1z61 NI3z58 XX0z56 XX1z62 XXLz54 BBz53 SZ6z60 SZ4z57 XX3z59
      have m1 : ¬ ((1 + x.cf.length + 3 * x.es.length + x.vs.length + 4 * x.ps.length : Nat) : Int) < 0 := by omega
      obtain ⟨k0, k1, k2, k3, k4, k5, k6, k7, k8, k9, k10, k11, k12, k13⟩ := xs14 XXb.out
      obtain ⟨l0, l1, l2, l3, l4, l5, l6, l7, l8, l9, l10, l11, l12, l13⟩ := xs14 XXa.out
      go_wp2_with fail
      clear k0 k1 k2 k3 k4 k5 k6 k7 k8 k9 k10 k11 k12 k13 l0 l1 l2 l3 l4 l5 l6 l7 l8 l9 l10 l11 l12 l13
      refine (HEQ.out S7 S3 _ (NIb.out.own.at_ HRC.out HRV.out) (NIa.out.own.at_ HRC.out HRV.out)).mono ?_
      rintro e w13 ⟨rfl, hb13⟩
      have NI0z63 := hide (NIa.out.on hb13)
      have NI1z64 := hide (NIb.out.on hb13)
      have XX0z65 := hide (XXa.out.on hb13)
      have XX1z66 := hide (XXb.out.on hb13)
      have XXLz67 := hide (XXc.out.on hb13)
      have BBz68 := hide (BBa.out.trans (hb13.mono BBa.out.size))
      have SZ6z69 := hide (Nat.le_trans SZa.out hb13.size)
      clear hb13 NIa NIb XXa XXb XXc BBa SZa
      clear m1
      obtain ⟨k0, k1, k2, k3, k4, k5, k6, k7, k8, k9, k10, k11, k12, k13⟩ := xs14 XX1z66.out
      go_wp2_with fail
      clear k0 k1 k2 k3 k4 k5 k6 k7 k8 k9 k10 k11 k12 k13
      refine (markNode_wide R.1 S7 w6.heap.size 1 (by have := HRL.out.1; omega) (by have := HRL.out.2.1; omega) HRL.out.2.2.1 HRL.out.2.2.2 (by omega) _ SZ6z69.out NI1z64.out.own).mono ?_
      rintro e w14 ⟨rfl, hm14, hb14, hk14⟩
      have NIc := hide (NI0z63.out.low hb14 (by have := L4.out; have := L5.out; have := L6.out; omega))
      have XXd := hide (XX0z65.out.low hb14 (by have := L4.out; have := L5.out; have := L6.out; omega))
      have XXe := hide (show XS w7.heap.size (ndC R.1 S7) 36 w14 from (hk14 _ XX1z66.out.lt (NI1z64.out.top _ (Nat.le_refl _))).trans XX1z66.out)
      have XXf := hide (XXLz67.out.low hb14 (by have := L0.out; have := L2.out; have := L3.out; have := L4.out; have := L5.out; have := L6.out; omega))
      have BBb := hide (BBz68.out.trans (hb14.mono (by have := L0.out; have := L2.out; have := L3.out; have := L4.out; have := L5.out; have := L6.out; omega)))
      have MKa := hide hm14
      clear hm14 hb14 hk14 NI0z63 NI1z64 XX0z65 XX1z66 XXLz67 BBz68 SZ6z69
      have m2 : ¬ ((1 + R.1.cf.length + 3 * R.1.es.length + R.1.vs.length + 4 * R.1.ps.length : Nat) : Int) < 0 := by omega
      as_aux_lemma =>
        obtain ⟨k0, k1, k2, k3, k4, k5, k6, k7, k8, k9, k10, k11, k12, k13⟩ := xs14 XXe.out
        go_wp2_with fail
        clear k0 k1 k2 k3 k4 k5 k6 k7 k8 k9 k10 k11 k12 k13
        refine (heldNode_wide R.1 S7 _ 1 HRL.out.1 HRL.out.2.1 HRL.out.2.2.1 HRL.out.2.2.2 (by omega) _ MKa.out).mono ?_
        rintro e w15 ⟨rfl, hb15⟩
        have NI0z70 := hide (NIc.out.on hb15)
        have XX0z71 := hide (XXd.out.on hb15)
        have XX1z72 := hide (XXe.out.on hb15)
        have XXLz73 := hide (XXf.out.on hb15)
        have BBz74 := hide (BBb.out.trans (hb15.mono BBb.out.size))
        have MK1z75 := hide (MKa.out.on hb15)
        clear hb15 NIc XXd XXe XXf BBb MKa
        obtain ⟨k0, k1, k2, k3, k4, k5, k6, k7, k8, k9, k10, k11, k12, k13⟩ := xs14 XXLz73.out
        go_wp2_with fail
        clear k0 k1 k2 k3 k4 k5 k6 k7 k8 k9 k10 k11 k12 k13
        refine (HTO.out _ _ (HAT.out.below BBz74.out)).mono ?_
        rintro e w16 ⟨S16, rfl, ho16, hb16⟩
        have HA16 := hide (ho16.at_ HCW.out HVW.out)
        have L16 := hide hb16.size
        have NI0z76 := hide (NI0z70.out.on hb16)
        have XX0z77 := hide (XX0z71.out.on hb16)
        have XX1z78 := hide (XX1z72.out.on hb16)
        have XXLz79 := hide (XXLz73.out.on hb16)
        have BBz80 := hide (BBz74.out.trans (hb16.mono BBz74.out.size))
        have MK1z81 := hide (MK1z75.out.on hb16)
        clear hb16 ho16 NI0z70 XX0z71 XX1z72 XXLz73 BBz74 MK1z75
        go_wp2_with fail
        refine (HIM.out _ _ HA16.out).mono ?_
        rintro e w17 ⟨S17, rfl, ho17, hb17⟩
        have NB2 := hide (NdIn.of ho17)
        have L17 := hide hb17.size
        have NI0z82 := hide (NI0z76.out.on hb17)
        have XX0z83 := hide (XX0z77.out.on hb17)
        have XX1z84 := hide (XX1z78.out.on hb17)
        have XXLz85 := hide (XXLz79.out.on hb17)
        have BBz86 := hide (BBz80.out.trans (hb17.mono BBz80.out.size))
        have MK1z87 := hide (MK1z81.out.on hb17)
        clear hb17 ho17 NI0z76 XX0z77 XX1z78 XXLz79 BBz80 MK1z81
        clear HA16
        go_upto_region 25 with fail
        obtain ⟨w18, hw18⟩ : ∃ w18, w17.alloc (.cells (ndC R.1 S17) 36) = w18 := ⟨_, rfl⟩
        rw [hw18]
        have hb18 : Below w17.heap.size w17 w18 := by rw [← hw18]; exact (Below.refl _ _).alloc (Nat.le_refl _) _
        have hx18 : XS w17.heap.size (ndC R.1 S17) 36 w18 := by rw [← hw18]; exact XS.new _ _ _
        have NI0z88 := hide (NI0z82.out.on hb18)
        have XX0z89 := hide (XX0z83.out.on hb18)
        have XX1z90 := hide (XX1z84.out.on hb18)
        have XXLz91 := hide (XXLz85.out.on hb18)
        have BBz92 := hide (BBz86.out.trans (hb18.mono BBz86.out.size))
        have MK1z93 := hide (MK1z87.out.on hb18)
        have NI2z94 := hide (NB2.out.on hb18)
        clear hb18 hw18 NI0z82 XX0z83 XX1z84 XXLz85 BBz86 MK1z87 NB2
        have XX2z95 := hide (hx18)
        have L18 := hide (show w17.heap.size < w18.heap.size from hx18.lt)
        clear hx18
        obtain ⟨k0, k1, k2, k3, k4, k5, k6, k7, k8, k9, k10, k11, k12, k13⟩ := xs14 XX2z95.out
        obtain ⟨l0, l1, l2, l3, l4, l5, l6, l7, l8, l9, l10, l11, l12, l13⟩ := xs14 XX0z89.out
        go_wp2_with fail
        clear k0 k1 k2 k3 k4 k5 k6 k7 k8 k9 k10 k11 k12 k13 l0 l1 l2 l3 l4 l5 l6 l7 l8 l9 l10 l11 l12 l13
        refine (HEQ.out S17 S3 _ (NI2z94.out.own.at_ HRC.out HRV.out) (NI0z88.out.own.at_ HRC.out HRV.out)).mono ?_
        rintro e w19 ⟨rfl, hb19⟩
        have NI0z96 := hide (NI0z88.out.on hb19)
        have XX0z97 := hide (XX0z89.out.on hb19)
        have XX1z98 := hide (XX1z90.out.on hb19)
        have XXLz99 := hide (XXLz91.out.on hb19)
        have BBz100 := hide (BBz92.out.trans (hb19.mono BBz92.out.size))
        have MK1z101 := hide (MK1z93.out.on hb19)
        have NI2z102 := hide (NI2z94.out.on hb19)
        have XX2z103 := hide (XX2z95.out.on hb19)
        clear hb19 NI0z88 XX0z89 XX1z90 XXLz91 BBz92 MK1z93 NI2z94 XX2z95
        obtain ⟨k0, k1, k2, k3, k4, k5, k6, k7, k8, k9, k10, k11, k12, k13⟩ := xs14 XX1z98.out
        go_wp2_with fail
        clear k0 k1 k2 k3 k4 k5 k6 k7 k8 k9 k10 k11 k12 k13
        refine (heldNode_wide R.1 S7 _ 1 HRL.out.1 HRL.out.2.1 HRL.out.2.2.1 HRL.out.2.2.2 (by omega) _ MK1z101.out).mono ?_
        rintro e w20 ⟨rfl, hb20⟩
        have NI0z104 := hide (NI0z96.out.on hb20)
        have XX0z105 := hide (XX0z97.out.on hb20)
        have XX1z106 := hide (XX1z98.out.on hb20)
        have XXLz107 := hide (XXLz99.out.on hb20)
        have BBz108 := hide (BBz100.out.trans (hb20.mono BBz100.out.size))
        have MK1z109 := hide (MK1z101.out.on hb20)
        have NI2z110 := hide (NI2z102.out.on hb20)
        have XX2z111 := hide (XX2z103.out.on hb20)
        clear hb20 NI0z96 XX0z97 XX1z98 XXLz99 BBz100 MK1z101 NI2z102 XX2z103
        go_wp2_with fail
        go_ret
        exact ⟨rfl, BBz108.out⟩

end Go.Proofs.Ytoalbeiinlcgpaa
