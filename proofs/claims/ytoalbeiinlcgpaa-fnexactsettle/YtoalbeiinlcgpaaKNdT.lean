/-
  Walks and mathematics of NdT.
-/
import Derived.Test.YtoalbeiinlcgpaaKNdN
import Derived.Test.YtoalbeiinlcgpaaKNdS
import Derived.Test.YtoalbeiinlcgpaaKWalk6d
import Derived.Test.YtoalbeiinlcgpaaKWalk6e
namespace Go.Proofs.Ytoalbeiinlcgpaa.P11
end Go.Proofs.Ytoalbeiinlcgpaa.P11
namespace Go.Proofs.Ytoalbeiinlcgpaa.P18
end Go.Proofs.Ytoalbeiinlcgpaa.P18
namespace Go.Proofs.Ytoalbeiinlcgpaa.P3
end Go.Proofs.Ytoalbeiinlcgpaa.P3
namespace Go.Proofs.Ytoalbeiinlcgpaa.P5
end Go.Proofs.Ytoalbeiinlcgpaa.P5
namespace Go.Proofs.Ytoalbeiinlcgpaa
open Go.RowKit P1 P3 P5 P9 P11 P12 P18 K
set_option linter.unusedVariables false
set_option linter.unusedSimpArgs false

def stV (x : NdV) (ix : Int) : NdV := ⟨x.id, x.tm, x.vt, x.ro, x.ld, cfGo x.cf (x.es.take (ix - x.s).toNat), ix, lastT x.u (x.es.take (ix - x.s).toNat), x.es.drop (ix - x.s).toNat, x.cm, x.ck, x.lm, x.vs, x.ps⟩

def NdNot16 (x : NdV) (S : NdS) (b : Nat) : Prop := (Value.slice S.oc x.cf.length S.cc).ownBlock ≠ some b ∧ (Value.slice S.oe x.es.length S.ce).ownBlock ≠ some b ∧ (Value.slice S.ov x.vs.length S.cv).ownBlock ≠ some b ∧ (Value.slice S.op x.ps.length S.cp).ownBlock ≠ some b

def stR (x : NdV) (ix : Int) : NdV × Bool := if (ndOk x && bt x.s ix x.cm) = true then (stV x ix, true) else (ndZ, false)

theorem stR_yes {x : NdV} {ix : Int} (h : (ndOk x && bt x.s ix x.cm) = true) : stR x ix = (stV x ix, true) := by simp only [stR, h, if_true]

theorem stR_no {x : NdV} {ix : Int} (h : (ndOk x && bt x.s ix x.cm) = false) : stR x ix = (ndZ, false) := by simp [stR, h]

theorem st_facts {x : NdV} {ix : Int} (h1 : ndOk x = true) (h2 : bt x.s ix x.cm = true) : lgOk x.s x.u x.es = true ∧ confOk x.cf = true ∧ ∃ k : Nat, ix = x.s + k ∧ k ≤ x.es.length ∧ (ix - x.s).toNat = k := by
  have hc : x.cm ≤ x.s + x.es.length := by
    simp only [ndOk, ndNum, Bool.and_eq_true] at h1
    have h3 := h1.2.1.1.1.1.1.2
    simp only [bt, Bool.and_eq_true, decide_eq_true_eq] at h3
    exact h3.2
  simp only [ndOk, ndHd, bt, Bool.and_eq_true, decide_eq_true_eq] at h1 h2
  refine ⟨h1.1.2, h1.1.1.2, (ix - x.s).toNat, by omega, by omega, rfl⟩

theorem bhL_in {s u : Int} {es : List EntV} {k : Nat} (h : lgOk s u es = true) (hk : k ≤ es.length) : bhL s u es (s + k) (lastT u (es.take k)) = es.drop k := by
  have e1 : (s + (k : Int) - s).toNat = k := by omega
  have h2 : bhOk s u es (s + k) (lastT u (es.take k)) = true := by
    unfold bhOk
    rw [h, e1]
    simp only [Bool.true_and, Bool.and_eq_true, decide_eq_true_eq]
    exact ⟨⟨by omega, by omega⟩, trivial⟩
  unfold bhL
  rw [if_pos h2, e1]

set_option maxRecDepth 100000 in
set_option maxHeartbeats 16000000 in
theorem specSettle_any (x : NdV) (S : NdS) (ix : Int) (hc20 : x.cf.length ≤ 1048576) (he20 : x.es.length ≤ 1048576) (hez : ∀ f ∈ x.es, f.data.size ≤ 1048576) (hv20 : x.vs.length ≤ 1048576) (hp20 : x.ps.length ≤ 1048576) (w : World) (hat : NdAt w x S) :
    Calls Try.prog 18 #[ndval x S, .int .i64 ix] w fun e w' => NfRes w (stR x ix) e w' := by
  obtain ⟨W1, hW1⟩ : ∃ W1, (w.alloc (.cells (ndC x S) 36)).alloc (.cells #[.int .i64 0, .int .i64 0, .int .i64 0, .int .i64 0, .int .i64 0, .slice none 0 0, .int .i64 0, .int .i64 0, .slice none 0 0, .int .i64 0, .int .i64 0, .int .i64 0, .slice none 0 0, .slice none 0 0] 36) = W1 := ⟨_, rfl⟩
  have hb1 : Below w.heap.size w W1 := by
    rw [← hW1]
    exact ((Below.refl w.heap.size w).alloc (Nat.le_refl _) _).alloc (by simp) _
  have HL1 := hide (show XS w.heap.size (ndC x S) 36 W1 by
    rw [← hW1]
    exact (XS.new w (ndC x S) 36).alloc _)
  have HZ1 := hide (show XS (w.heap.size + 1) #[.int .i64 0, .int .i64 0, .int .i64 0, .int .i64 0, .int .i64 0, .slice none 0 0, .int .i64 0, .int .i64 0, .slice none 0 0, .int .i64 0, .int .i64 0, .int .i64 0, .slice none 0 0, .slice none 0 0] 36 W1 by
    rw [← hW1]
    have h := XS.new (w.alloc (.cells (ndC x S) 36)) #[.int .i64 0, .int .i64 0, .int .i64 0, .int .i64 0, .int .i64 0, .slice none 0 0, .int .i64 0, .int .i64 0, .slice none 0 0, .int .i64 0, .int .i64 0, .int .i64 0, .slice none 0 0, .slice none 0 0] 36
    rw [World.size_alloc] at h
    exact h)
  have HS1 := hide (show w.heap.size + 1 + 1 ≤ W1.heap.size by rw [← hW1]; simp)
  have HOK := hide (specNodeOk_any x S hez hv20 hp20 W1 (hat.below hb1))
  have HAT := hide hat
  have HB1 := hide hb1
  have HEZ := hide hez
  have HW1 := hide hW1
  clear hat hb1 hW1 hez
  cases h1 : ndOk x with
  | false =>
    have HR := hide (stR_no (x := x) (ix := ix) (by rw [h1, Bool.false_and]))
    rw [h1] at HOK
    clear h1
    go_enter Try.func18, Try.ntmps18
    go_upto_region 1 with fail
    rw [HW1.out]
    clear HW1
    have k0 := HL1.out.cell 0 rfl
    have k1 := HL1.out.cell 1 rfl
    have k2 := HL1.out.cell 2 rfl
    have k3 := HL1.out.cell 3 rfl
    have k4 := HL1.out.cell 4 rfl
    have k5 := HL1.out.cell 5 rfl
    have k6 := HL1.out.cell 6 rfl
    have k7 := HL1.out.cell 7 rfl
    have k8 := HL1.out.cell 8 rfl
    have k9 := HL1.out.cell 9 rfl
    have k10 := HL1.out.cell 10 rfl
    have k11 := HL1.out.cell 11 rfl
    have k12 := HL1.out.cell 12 rfl
    have k13 := HL1.out.cell 13 rfl
    go_wp2_with (first | (go_at_call 7; refine HOK.out.mono ?_; rintro e w2 ⟨rfl, hb2⟩; have HL2 := hide (HL1.out.on hb2); have HZ2 := hide (HZ1.out.on hb2); have HB2 := hide (HB1.out.trans (hb2.mono HB1.out.size)); have HS2 := hide (Nat.le_trans HS1.out hb2.size); clear hb2 k0 k1 k2 k3 k4 k5 k6 k7 k8 k9 k10 k11 k12 k13; have k0 := HL2.out.cell 0 rfl; have k1 := HL2.out.cell 1 rfl; have k2 := HL2.out.cell 2 rfl; have k3 := HL2.out.cell 3 rfl; have k4 := HL2.out.cell 4 rfl; have k5 := HL2.out.cell 5 rfl; have k6 := HL2.out.cell 6 rfl; have k7 := HL2.out.cell 7 rfl; have k8 := HL2.out.cell 8 rfl; have k9 := HL2.out.cell 9 rfl; have k10 := HL2.out.cell 10 rfl; have k11 := HL2.out.cell 11 rfl; have k12 := HL2.out.cell 12 rfl; have k13 := HL2.out.cell 13 rfl; have z0 := HZ2.out.free 0; have y0 := HZ2.out.cell 0 rfl; have z1 := HZ2.out.free 1; have y1 := HZ2.out.cell 1 rfl; have z2 := HZ2.out.free 2; have y2 := HZ2.out.cell 2 rfl; have z3 := HZ2.out.free 3; have y3 := HZ2.out.cell 3 rfl; have z4 := HZ2.out.free 4; have y4 := HZ2.out.cell 4 rfl; have z5 := HZ2.out.free 5; have y5 := HZ2.out.cell 5 rfl; have z6 := HZ2.out.free 6; have y6 := HZ2.out.cell 6 rfl; have z7 := HZ2.out.free 7; have y7 := HZ2.out.cell 7 rfl; have z8 := HZ2.out.free 8; have y8 := HZ2.out.cell 8 rfl; have z9 := HZ2.out.free 9; have y9 := HZ2.out.cell 9 rfl; have z10 := HZ2.out.free 10; have y10 := HZ2.out.cell 10 rfl; have z11 := HZ2.out.free 11; have y11 := HZ2.out.cell 11 rfl; have z12 := HZ2.out.free 12; have y12 := HZ2.out.cell 12 rfl; have z13 := HZ2.out.free 13; have y13 := HZ2.out.cell 13 rfl))
    obtain ⟨w9, hw9, hR, hgR⟩ := sets14 HZ2.out (.int .i64 0) (.int .i64 0) (.int .i64 0) (.int .i64 0) (.int .i64 0) (.slice none 0 0) (.int .i64 0) (.int .i64 0) (.slice none 0 0) (.int .i64 0) (.int .i64 0) (.int .i64 0) (.slice none 0 0) (.slice none 0 0)
    rw [hw9]
    clear hw9
    obtain ⟨r0, r1, r2, r3, r4, r5, r6, r7, r8, r9, r10, r11, r12, r13⟩ := xs14 (x := ndZ) (S := nilS) hR
    refine bodyPost_ret (v := .tuple #[ndval ndZ nilS, .bool false]) (by simp [results, Try.results18, go_sem, r0, r1, r2, r3, r4, r5, r6, r7, r8, r9, r10, r11, r12, r13, ndZ]) rfl ?_
    rw [HR.out]
    refine ⟨nilS, rfl, ndZ_own _ _, ?_⟩
    exact HB2.out.grown hgR HB2.out.size (fun k hk => by cases hk; omega)
  | true =>
    rw [h1] at HOK
    cases h2 : bt x.s ix x.cm with
    | false =>
      have HR := hide (stR_no (x := x) (ix := ix) (by rw [h2, Bool.and_false]))
      have W2 := hide (l01In_is h2)
      clear h1 h2
      go_enter Try.func18, Try.ntmps18
      go_upto_region 1 with fail
      rw [HW1.out]
      clear HW1
      have k0 := HL1.out.cell 0 rfl
      have k1 := HL1.out.cell 1 rfl
      have k2 := HL1.out.cell 2 rfl
      have k3 := HL1.out.cell 3 rfl
      have k4 := HL1.out.cell 4 rfl
      have k5 := HL1.out.cell 5 rfl
      have k6 := HL1.out.cell 6 rfl
      have k7 := HL1.out.cell 7 rfl
      have k8 := HL1.out.cell 8 rfl
      have k9 := HL1.out.cell 9 rfl
      have k10 := HL1.out.cell 10 rfl
      have k11 := HL1.out.cell 11 rfl
      have k12 := HL1.out.cell 12 rfl
      have k13 := HL1.out.cell 13 rfl
      go_wp2_with (first | (go_at_call 7; refine HOK.out.mono ?_; rintro e w2 ⟨rfl, hb2⟩; have HL2 := hide (HL1.out.on hb2); have HZ2 := hide (HZ1.out.on hb2); have HB2 := hide (HB1.out.trans (hb2.mono HB1.out.size)); have HS2 := hide (Nat.le_trans HS1.out hb2.size); clear hb2 k0 k1 k2 k3 k4 k5 k6 k7 k8 k9 k10 k11 k12 k13; have k0 := HL2.out.cell 0 rfl; have k1 := HL2.out.cell 1 rfl; have k2 := HL2.out.cell 2 rfl; have k3 := HL2.out.cell 3 rfl; have k4 := HL2.out.cell 4 rfl; have k5 := HL2.out.cell 5 rfl; have k6 := HL2.out.cell 6 rfl; have k7 := HL2.out.cell 7 rfl; have k8 := HL2.out.cell 8 rfl; have k9 := HL2.out.cell 9 rfl; have k10 := HL2.out.cell 10 rfl; have k11 := HL2.out.cell 11 rfl; have k12 := HL2.out.cell 12 rfl; have k13 := HL2.out.cell 13 rfl; have z0 := HZ2.out.free 0; have y0 := HZ2.out.cell 0 rfl; have z1 := HZ2.out.free 1; have y1 := HZ2.out.cell 1 rfl; have z2 := HZ2.out.free 2; have y2 := HZ2.out.cell 2 rfl; have z3 := HZ2.out.free 3; have y3 := HZ2.out.cell 3 rfl; have z4 := HZ2.out.free 4; have y4 := HZ2.out.cell 4 rfl; have z5 := HZ2.out.free 5; have y5 := HZ2.out.cell 5 rfl; have z6 := HZ2.out.free 6; have y6 := HZ2.out.cell 6 rfl; have z7 := HZ2.out.free 7; have y7 := HZ2.out.cell 7 rfl; have z8 := HZ2.out.free 8; have y8 := HZ2.out.cell 8 rfl; have z9 := HZ2.out.free 9; have y9 := HZ2.out.cell 9 rfl; have z10 := HZ2.out.free 10; have y10 := HZ2.out.cell 10 rfl; have z11 := HZ2.out.free 11; have y11 := HZ2.out.cell 11 rfl; have z12 := HZ2.out.free 12; have y12 := HZ2.out.cell 12 rfl; have z13 := HZ2.out.free 13; have y13 := HZ2.out.cell 13 rfl) | (go_at_call 23; refine (W2.out _).mono ?_; rintro e w9 ⟨rfl, rfl⟩))
      obtain ⟨w9, hw9, hR, hgR⟩ := sets14 HZ2.out (.int .i64 0) (.int .i64 0) (.int .i64 0) (.int .i64 0) (.int .i64 0) (.slice none 0 0) (.int .i64 0) (.int .i64 0) (.slice none 0 0) (.int .i64 0) (.int .i64 0) (.int .i64 0) (.slice none 0 0) (.slice none 0 0)
      rw [hw9]
      clear hw9
      obtain ⟨r0, r1, r2, r3, r4, r5, r6, r7, r8, r9, r10, r11, r12, r13⟩ := xs14 (x := ndZ) (S := nilS) hR
      refine bodyPost_ret (v := .tuple #[ndval ndZ nilS, .bool false]) (by simp [results, Try.results18, go_sem, r0, r1, r2, r3, r4, r5, r6, r7, r8, r9, r10, r11, r12, r13, ndZ]) rfl ?_
      rw [HR.out]
      refine ⟨nilS, rfl, ndZ_own _ _, ?_⟩
      exact HB2.out.grown hgR HB2.out.size (fun k hk => by cases hk; omega)
    | true =>
      have HR := hide (stR_yes (x := x) (ix := ix) (by rw [h1, h2]; rfl))
      have W2 := hide (l01In_is h2)
      obtain ⟨hlg, hcf, k, hix, hk, hkk⟩ := st_facts h1 h2
      obtain ⟨s0, s1, u0, u1, hn, hsn, hok⟩ := lgOk_facts hlg
      have HBH := hide (show bhL x.s x.u x.es ix (lastT x.u (x.es.take k)) = x.es.drop k by rw [hix]; exact bhL_in hlg hk)
      have HST := hide (show stV x ix = ⟨x.id, x.tm, x.vt, x.ro, x.ld, cfGo x.cf (x.es.take k), ix, lastT x.u (x.es.take k), x.es.drop k, x.cm, x.ck, x.lm, x.vs, x.ps⟩ by unfold stV; rw [hkk])
      have HCP := hide (fun w h => l16Copy_any x S hc20 he20 hv20 hp20 w h)
      have HCA := hide (show ∀ w, NdAt w x S → Calls Try.prog 47 #[ndval x S, .int .i64 ix] w fun e w' => ∃ v, e = .returned v ∧ w'.ownsRow w.heap.size 3 1 v (cfGo x.cf (x.es.take k)).length ((cfGo x.cf (x.es.take k)).map icell) ∧ Below w.heap.size w w' from fun w h => by
        have h2 := specConfAt_any x S ix s0 s1 hn hc20 hok HEZ.out w h; rw [show cnt16 x.s x.es.length ix = k by unfold cnt16; omega] at h2; exact h2)
      have HLT := hide (fun w h => specLogTerm_in x.s x.u S.oe x.es.length S.ce x.es w h s0 s1 hn ix k hix hk)
      have HLB := hide (fun w h => specLogBehind_any x.s x.u S.oe x.es.length S.ce x.es ix (lastT x.u (x.es.take k)) w h HEZ.out)
      rw [HBH.out] at HLB
      generalize cfGo x.cf (x.es.take k) = C at HST HCA
      generalize lastT x.u (x.es.take k) = t at HST HLT HLB
      generalize x.es.drop k = E at HST HLB
      clear h1 h2 hlg hcf hix hk hkk hok HBH
      go_enter Try.func18, Try.ntmps18
      go_upto_region 1 with fail
      rw [HW1.out]
      clear HW1
      have k0 := HL1.out.cell 0 rfl
      have k1 := HL1.out.cell 1 rfl
      have k2 := HL1.out.cell 2 rfl
      have k3 := HL1.out.cell 3 rfl
      have k4 := HL1.out.cell 4 rfl
      have k5 := HL1.out.cell 5 rfl
      have k6 := HL1.out.cell 6 rfl
      have k7 := HL1.out.cell 7 rfl
      have k8 := HL1.out.cell 8 rfl
      have k9 := HL1.out.cell 9 rfl
      have k10 := HL1.out.cell 10 rfl
      have k11 := HL1.out.cell 11 rfl
      have k12 := HL1.out.cell 12 rfl
      have k13 := HL1.out.cell 13 rfl
      go_upto_region 3 with (first | (go_at_call 7; refine HOK.out.mono ?_; rintro e w2 ⟨rfl, hb2⟩; have HL2 := hide (HL1.out.on hb2); have HZ2 := hide (HZ1.out.on hb2); have HB2 := hide (HB1.out.trans (hb2.mono HB1.out.size)); have HS2 := hide (Nat.le_trans HS1.out hb2.size); clear hb2 k0 k1 k2 k3 k4 k5 k6 k7 k8 k9 k10 k11 k12 k13; have k0 := HL2.out.cell 0 rfl; have k1 := HL2.out.cell 1 rfl; have k2 := HL2.out.cell 2 rfl; have k3 := HL2.out.cell 3 rfl; have k4 := HL2.out.cell 4 rfl; have k5 := HL2.out.cell 5 rfl; have k6 := HL2.out.cell 6 rfl; have k7 := HL2.out.cell 7 rfl; have k8 := HL2.out.cell 8 rfl; have k9 := HL2.out.cell 9 rfl; have k10 := HL2.out.cell 10 rfl; have k11 := HL2.out.cell 11 rfl; have k12 := HL2.out.cell 12 rfl; have k13 := HL2.out.cell 13 rfl; have z0 := HZ2.out.free 0; have y0 := HZ2.out.cell 0 rfl; have z1 := HZ2.out.free 1; have y1 := HZ2.out.cell 1 rfl; have z2 := HZ2.out.free 2; have y2 := HZ2.out.cell 2 rfl; have z3 := HZ2.out.free 3; have y3 := HZ2.out.cell 3 rfl; have z4 := HZ2.out.free 4; have y4 := HZ2.out.cell 4 rfl; have z5 := HZ2.out.free 5; have y5 := HZ2.out.cell 5 rfl; have z6 := HZ2.out.free 6; have y6 := HZ2.out.cell 6 rfl; have z7 := HZ2.out.free 7; have y7 := HZ2.out.cell 7 rfl; have z8 := HZ2.out.free 8; have y8 := HZ2.out.cell 8 rfl; have z9 := HZ2.out.free 9; have y9 := HZ2.out.cell 9 rfl; have z10 := HZ2.out.free 10; have y10 := HZ2.out.cell 10 rfl; have z11 := HZ2.out.free 11; have y11 := HZ2.out.cell 11 rfl; have z12 := HZ2.out.free 12; have y12 := HZ2.out.cell 12 rfl; have z13 := HZ2.out.free 13; have y13 := HZ2.out.cell 13 rfl) | (go_at_call 23; refine (W2.out _).mono ?_; rintro e w9 ⟨rfl, rfl⟩))
      clear z0 y0 z1 y1 z2 y2 z3 y3 z4 y4 z5 y5 z6 y6 z7 y7 z8 y8 z9 y9 z10 y10 z11 y11 z12 y12 z13 y13
      go_wp2_with fail
      refine (HCP.out _ (HAT.out.below HB2.out)).mono ?_
      rintro e w3 ⟨S3, rfl, ho3, hb3⟩
      have HL3 := hide (HL2.out.on hb3)
      have HZ3 := hide (HZ2.out.on hb3)
      have HB3 := hide (HB2.out.trans (hb3.mono HB2.out.size))
      have HS3 := hide (Nat.le_trans HS2.out hb3.size)
      have HO3 := hide (ho3.down HS2.out)
      clear hb3 ho3 k0 k1 k2 k3 k4 k5 k6 k7 k8 k9 k10 k11 k12 k13 HL2 HZ2 HB2
      go_upto_region 4 with fail
      obtain ⟨w4, hw4⟩ : ∃ w4, w3.alloc (.cells (ndC x S3) 36) = w4 := ⟨_, rfl⟩
      have hb4 : Below w3.heap.size w3 w4 := by rw [← hw4]; exact (Below.refl _ _).alloc (Nat.le_refl _) _
      have HN4 := hide (show XS w3.heap.size (ndC x S3) 36 w4 by rw [← hw4]; exact XS.new _ _ _)
      have HL4 := hide (HL3.out.on hb4)
      have HZ4 := hide (HZ3.out.on hb4)
      have HO4 := hide (HO3.out.on hb4)
      have HV4 := hide (fun b (h : (Value.slice S3.ov x.vs.length S3.cv).ownBlock = some b) => (HO3.out.v.lt b h).2)
      have HE4 := hide (show ∀ b, NdNot16 x S3 b ∨ b < w3.heap.size from fun b => by by_cases h : b < w3.heap.size; exact Or.inr h; exact Or.inl ⟨fun q => h (HO3.out.c.lt b q).2, fun q => h (HO3.out.e.lt b q).2, fun q => h (HO3.out.v.lt b q).2, fun q => h (HO3.out.p.lt b q).2⟩)
      have HB4 := hide (HB3.out.trans (hb4.mono HB3.out.size))
      have HS4 := hide (show w.heap.size + 1 + 1 ≤ w3.heap.size ∧ w3.heap.size < w4.heap.size from ⟨HS3.out, HN4.out.lt⟩)
      rw [hw4]
      clear hw4 hb4 HL3 HZ3 HO3 HB3
      have k0 := HL4.out.cell 0 rfl
      have k1 := HL4.out.cell 1 rfl
      have k2 := HL4.out.cell 2 rfl
      have k3 := HL4.out.cell 3 rfl
      have k4 := HL4.out.cell 4 rfl
      have k5 := HL4.out.cell 5 rfl
      have k6 := HL4.out.cell 6 rfl
      have k7 := HL4.out.cell 7 rfl
      have k8 := HL4.out.cell 8 rfl
      have k9 := HL4.out.cell 9 rfl
      have k10 := HL4.out.cell 10 rfl
      have k11 := HL4.out.cell 11 rfl
      have k12 := HL4.out.cell 12 rfl
      have k13 := HL4.out.cell 13 rfl
      go_wp2_with fail
      refine (HCA.out _ (HAT.out.below HB4.out)).mono ?_
      rintro e w5 ⟨v5, rfl, hc5, hb5⟩
      obtain ⟨oc, cc, hv5⟩ := own_form3 hc5
      subst hv5
      have HN5 := hide (HN4.out.on hb5)
      have HL5 := hide (HL4.out.on hb5)
      have HZ5 := hide (HZ4.out.on hb5)
      have HO5 := hide (HO4.out.on hb5)
      have HB5 := hide (HB4.out.trans (hb5.mono HB4.out.size))
      have HC5 := hide hc5
      have HS5 := hide hb5.size
      have k5n := HN5.out.cell 5 rfl
      have f5n := HN5.out.free 5
      clear hc5 hb5 k0 k1 k2 k3 k4 k5 k6 k7 k8 k9 k10 k11 k12 k13 HN4 HL4 HZ4 HO4 HB4
      go_upto_region 5 with fail
      obtain ⟨w6, hw6⟩ : ∃ w6, w5.setCell ⟨w3.heap.size, 5, none⟩ (.slice oc C.length cc) = w6 := ⟨_, rfl⟩
      have hg6 : w5.grownBy w6 (some w3.heap.size) := by rw [← hw6]; exact blk_grown _ _ _ _
      have HN6 := hide (show XS w3.heap.size #[.int .i64 x.id, .int .i64 x.tm, .int .i64 x.vt, .int .i64 x.ro, .int .i64 x.ld, .slice oc C.length cc, .int .i64 x.s, .int .i64 x.u, .slice S3.oe x.es.length S3.ce, .int .i64 x.cm, .int .i64 x.ck, .int .i64 x.lm, .slice S3.ov x.vs.length S3.cv, .slice S3.op x.ps.length S3.cp] 36 w6 by rw [← hw6]; exact HN5.out.set 5 _)
      have HL6 := hide (HL5.out.kept hg6 (fun q => by have := Option.some.inj q; have := HS4.out; omega))
      have HZ6 := hide (HZ5.out.kept hg6 (fun q => by have := Option.some.inj q; have := HS4.out; omega))
      have HB6 := hide (HB5.out.grown hg6 HB5.out.size (fun k hk => by cases hk; have := HS4.out; omega))
      have HV6 := hide (HO5.out.v.kept hg6 (Or.inr (fun q => by have := HV4.out _ q; omega)))
      have HP6 := hide (HO5.out.p.kept hg6 (Or.inr (fun q => by rcases HE4.out w3.heap.size with h | h; exact h.2.2.2 q; omega)))
      have HC6 := hide (HC5.out.kept hg6 (Or.inr (fun q => by have := HC5.out.lt _ q; have := HS4.out; omega)))
      have HNE := hide (show ∀ k, (Value.slice oc C.length cc).ownBlock = some k → (Value.slice S3.ov x.vs.length S3.cv).ownBlock ≠ some k from fun k h1 h2 => by have := (HC5.out.lt k h1).1; have := HV4.out k h2; have := HS4.out; omega)
      have HS6 := hide (Nat.le_trans HS5.out hg6.size)
      rw [hw6]
      clear hw6 hg6 k5n f5n HN5 HL5 HZ5 HO5 HB5 HC5
      have y6 : ∀ w', XS w.heap.size (ndC x S) 36 w' → w'.cell? ⟨w.heap.size, 6, none⟩ = some (.int .i64 x.s) := fun w' h => h.cell 6 rfl
      have y7 : ∀ w', XS w.heap.size (ndC x S) 36 w' → w'.cell? ⟨w.heap.size, 7, none⟩ = some (.int .i64 x.u) := fun w' h => h.cell 7 rfl
      have y8 : ∀ w', XS w.heap.size (ndC x S) 36 w' → w'.cell? ⟨w.heap.size, 8, none⟩ = some (.slice S.oe x.es.length S.ce) := fun w' h => h.cell 8 rfl
      go_region_held3 (fun w' => XS w.heap.size (ndC x S) 36 w') (first | exact HL6.out | exact HL6.out.drew | exact HL6.out.drew.on hbA | exact (HL6.out.drew.on hbA).on hbB | exact ((HL6.out.drew.on hbA).on hbB).kept (grown_trans (grown_trans (blk_grown _ _ _ _) (blk_grown _ _ _ _)) (blk_grown _ _ _ _)) (fun q => by have := Option.some.inj q; have := HS4.out; omega))
        (first
          | (go_at_call 49; refine (HLT.out _ (HAT.out.e.below HB6.out.drew)).mono ?_; rintro e wA ⟨rfl, hbA⟩)
          | (go_at_call 48; refine (HLB.out _ (HAT.out.e.below (HB6.out.drew.trans (hbA.mono HB6.out.drew.size)))).mono ?_; rintro e wB ⟨vB, rfl, hoB, hbB⟩; obtain ⟨oe, ce, hvB⟩ := own_form3 hoB; subst hvB; have HEB := hide hoB; have HNB := hide ((HN6.out.drew.on hbA).on hbB); have x6 := HNB.out.cell 6 rfl; have f6 := HNB.out.free 6; have x7 := HNB.out.cell 7 rfl; have f7 := HNB.out.free 7; have x8 := HNB.out.cell 8 rfl; have f8 := HNB.out.free 8; clear hoB))
      obtain ⟨w7, hw7⟩ : ∃ w7, ((wB.setCell ⟨w3.heap.size, 6, none⟩ (.int .i64 ix)).setCell ⟨w3.heap.size, 7, none⟩ (.int .i64 t)).setCell ⟨w3.heap.size, 8, none⟩ (.slice oe E.length ce) = w7 := ⟨_, rfl⟩
      have hg7 : wB.grownBy w7 (some w3.heap.size) := by rw [← hw7]; exact (grown_trans (grown_trans (blk_grown _ _ _ _) (blk_grown _ _ _ _)) (blk_grown _ _ _ _))
      have HN7 := hide (show XS w3.heap.size #[.int .i64 x.id, .int .i64 x.tm, .int .i64 x.vt, .int .i64 x.ro, .int .i64 x.ld, .slice oc C.length cc, .int .i64 ix, .int .i64 t, .slice oe E.length ce, .int .i64 x.cm, .int .i64 x.ck, .int .i64 x.lm, .slice S3.ov x.vs.length S3.cv, .slice S3.op x.ps.length S3.cp] 36 w7 by rw [← hw7]; exact ((HNB.out.set 6 _).set 7 _).set 8 _)
      have HBb := hide ((HB6.out.drew.trans (hbA.mono HB6.out.drew.size)).trans (hbB.mono (Nat.le_trans HB6.out.drew.size hbA.size)))
      have HB7 := hide (HBb.out.grown hg7 HBb.out.size (fun k hk => by cases hk; have := HS4.out; omega))
      have HZ7 := hide (((HZ6.out.drew.on hbA).on hbB).kept hg7 (fun q => by have := Option.some.inj q; have := HS4.out; omega))
      have HV7 := hide ((own_below (own_below (own_below HV6.out (Below.refl _ _).drew) hbA) hbB).kept hg7 (Or.inr (fun q => by have := HV4.out _ q; omega)))
      have HP7 := hide ((own_below (own_below (own_below HP6.out (Below.refl _ _).drew) hbA) hbB).kept hg7 (Or.inr (fun q => by rcases HE4.out w3.heap.size with h | h; exact h.2.2.2 q; omega)))
      have HC7 := hide ((own_below (own_below (own_below HC6.out (Below.refl _ _).drew) hbA) hbB).kept hg7 (Or.inr (fun q => by have := HC6.out.lt _ q; have := HS4.out; omega)))
      have hEA := hbA.size
      have HE7 := hide (HEB.out.kept hg7 (Or.inr (fun q => by have := HEB.out.lt _ q; have := HS4.out; have := HS6.out; have := HB6.out.drew.size; simp at hEA; omega)))
      have HEL := hide (show w.heap.size + 1 + 1 ≤ wA.heap.size by have := HS4.out; have := HS6.out; simp at hEA; omega)
      rw [hw7]
      clear hw7 hg7 hEA hbA hbB y6 y7 y8 x6 f6 x7 f7 x8 f8 HN6 HL6 HZ6 HB6 HV6 HP6 HC6 HNB HEB HBb
      have o0 := HN7.out.cell 0 rfl
      have z0 := HZ7.out.free 0
      have y0 := HZ7.out.cell 0 rfl
      have o1 := HN7.out.cell 1 rfl
      have z1 := HZ7.out.free 1
      have y1 := HZ7.out.cell 1 rfl
      have o2 := HN7.out.cell 2 rfl
      have z2 := HZ7.out.free 2
      have y2 := HZ7.out.cell 2 rfl
      have o3 := HN7.out.cell 3 rfl
      have z3 := HZ7.out.free 3
      have y3 := HZ7.out.cell 3 rfl
      have o4 := HN7.out.cell 4 rfl
      have z4 := HZ7.out.free 4
      have y4 := HZ7.out.cell 4 rfl
      have o5 := HN7.out.cell 5 rfl
      have z5 := HZ7.out.free 5
      have y5 := HZ7.out.cell 5 rfl
      have o6 := HN7.out.cell 6 rfl
      have z6 := HZ7.out.free 6
      have y6 := HZ7.out.cell 6 rfl
      have o7 := HN7.out.cell 7 rfl
      have z7 := HZ7.out.free 7
      have y7 := HZ7.out.cell 7 rfl
      have o8 := HN7.out.cell 8 rfl
      have z8 := HZ7.out.free 8
      have y8 := HZ7.out.cell 8 rfl
      have o9 := HN7.out.cell 9 rfl
      have z9 := HZ7.out.free 9
      have y9 := HZ7.out.cell 9 rfl
      have o10 := HN7.out.cell 10 rfl
      have z10 := HZ7.out.free 10
      have y10 := HZ7.out.cell 10 rfl
      have o11 := HN7.out.cell 11 rfl
      have z11 := HZ7.out.free 11
      have y11 := HZ7.out.cell 11 rfl
      have o12 := HN7.out.cell 12 rfl
      have z12 := HZ7.out.free 12
      have y12 := HZ7.out.cell 12 rfl
      have o13 := HN7.out.cell 13 rfl
      have z13 := HZ7.out.free 13
      have y13 := HZ7.out.cell 13 rfl
      go_wp2_with fail
      obtain ⟨w9, hw9, hR, hgR⟩ := sets14 HZ7.out (.int .i64 x.id) (.int .i64 x.tm) (.int .i64 x.vt) (.int .i64 x.ro) (.int .i64 x.ld) (.slice oc C.length cc) (.int .i64 ix) (.int .i64 t) (.slice oe E.length ce) (.int .i64 x.cm) (.int .i64 x.ck) (.int .i64 x.lm) (.slice S3.ov x.vs.length S3.cv) (.slice S3.op x.ps.length S3.cp)
      rw [hw9]
      clear hw9
      obtain ⟨r0, r1, r2, r3, r4, r5, r6, r7, r8, r9, r10, r11, r12, r13⟩ := xs14 (x := ⟨x.id, x.tm, x.vt, x.ro, x.ld, C, ix, t, E, x.cm, x.ck, x.lm, x.vs, x.ps⟩) (S := ⟨oc, cc, oe, ce, S3.ov, S3.cv, S3.op, S3.cp⟩) hR
      refine bodyPost_ret (v := .tuple #[ndval ⟨x.id, x.tm, x.vt, x.ro, x.ld, C, ix, t, E, x.cm, x.ck, x.lm, x.vs, x.ps⟩ ⟨oc, cc, oe, ce, S3.ov, S3.cv, S3.op, S3.cp⟩, .bool true]) (by simp [results, Try.results18, go_sem, r0, r1, r2, r3, r4, r5, r6, r7, r8, r9, r10, r11, r12, r13]) rfl ?_
      rw [HR.out, HST.out]
      refine ⟨⟨oc, cc, oe, ce, S3.ov, S3.cv, S3.op, S3.cp⟩, rfl, ⟨?_, ?_, ?_, ?_, ?_⟩, ?_⟩
      · exact own_base (HC7.out.kept hgR (Or.inr (fun q => by have := HC7.out.lt _ q; have := HS4.out; omega))) (by have := HS4.out; omega)
      · exact own_base (HE7.out.kept hgR (Or.inr (fun q => by have := HE7.out.lt _ q; have := HEL.out; first | omega | (simp at this; omega)))) (by have := HEL.out; first | omega | (simp; omega))
      · exact own_base (HV7.out.kept hgR (Or.inr (fun q => by have := HV7.out.lt _ q; omega))) (by omega)
      · exact own_base (HP7.out.kept hgR (Or.inr (fun q => by have := HP7.out.lt _ q; omega))) (by omega)
      · exact HNE.out
      · exact HB7.out.grown hgR HB7.out.size (fun k hk => by cases hk; omega)

set_option maxRecDepth 100000 in
set_option maxHeartbeats 16000000 in
theorem implSettle_any (x : NdV) (S : NdS) (ix : Int) (hc20 : x.cf.length ≤ 1048576) (he20 : x.es.length ≤ 1048576) (hez : ∀ f ∈ x.es, f.data.size ≤ 1048576) (hv20 : x.vs.length ≤ 1048576) (hp20 : x.ps.length ≤ 1048576) (w : World) (hat : NdAt w x S) :
    Calls Try.prog 19 #[ndval x S, .int .i64 ix] w fun e w' => NfRes w (stR x ix) e w' := by
  obtain ⟨W1, hW1⟩ : ∃ W1, (w.alloc (.cells (ndC x S) 36)).alloc (.cells #[.int .i64 0, .int .i64 0, .int .i64 0, .int .i64 0, .int .i64 0, .slice none 0 0, .int .i64 0, .int .i64 0, .slice none 0 0, .int .i64 0, .int .i64 0, .int .i64 0, .slice none 0 0, .slice none 0 0] 36) = W1 := ⟨_, rfl⟩
  have hb1 : Below w.heap.size w W1 := by
    rw [← hW1]
    exact ((Below.refl w.heap.size w).alloc (Nat.le_refl _) _).alloc (by simp) _
  have HL1 := hide (show XS w.heap.size (ndC x S) 36 W1 by
    rw [← hW1]
    exact (XS.new w (ndC x S) 36).alloc _)
  have HZ1 := hide (show XS (w.heap.size + 1) #[.int .i64 0, .int .i64 0, .int .i64 0, .int .i64 0, .int .i64 0, .slice none 0 0, .int .i64 0, .int .i64 0, .slice none 0 0, .int .i64 0, .int .i64 0, .int .i64 0, .slice none 0 0, .slice none 0 0] 36 W1 by
    rw [← hW1]
    have h := XS.new (w.alloc (.cells (ndC x S) 36)) #[.int .i64 0, .int .i64 0, .int .i64 0, .int .i64 0, .int .i64 0, .slice none 0 0, .int .i64 0, .int .i64 0, .slice none 0 0, .int .i64 0, .int .i64 0, .int .i64 0, .slice none 0 0, .slice none 0 0] 36
    rw [World.size_alloc] at h
    exact h)
  have HS1 := hide (show w.heap.size + 1 + 1 ≤ W1.heap.size by rw [← hW1]; simp)
  have HOK := hide (implNodeOk_any x S hez hv20 hp20 W1 (hat.below hb1))
  have HAT := hide hat
  have HB1 := hide hb1
  have HEZ := hide hez
  have HW1 := hide hW1
  clear hat hb1 hW1 hez
  cases h1 : ndOk x with
  | false =>
    have HR := hide (stR_no (x := x) (ix := ix) (by rw [h1, Bool.false_and]))
    rw [h1] at HOK
    clear h1
    go_enter Try.func19, Try.ntmps19
    go_upto_region 1 with fail
    rw [HW1.out]
    clear HW1
    have k0 := HL1.out.cell 0 rfl
    have k1 := HL1.out.cell 1 rfl
    have k2 := HL1.out.cell 2 rfl
    have k3 := HL1.out.cell 3 rfl
    have k4 := HL1.out.cell 4 rfl
    have k5 := HL1.out.cell 5 rfl
    have k6 := HL1.out.cell 6 rfl
    have k7 := HL1.out.cell 7 rfl
    have k8 := HL1.out.cell 8 rfl
    have k9 := HL1.out.cell 9 rfl
    have k10 := HL1.out.cell 10 rfl
    have k11 := HL1.out.cell 11 rfl
    have k12 := HL1.out.cell 12 rfl
    have k13 := HL1.out.cell 13 rfl
    go_wp2_with (first | (go_at_call 9; refine HOK.out.mono ?_; rintro e w2 ⟨rfl, hb2⟩; have HL2 := hide (HL1.out.on hb2); have HZ2 := hide (HZ1.out.on hb2); have HB2 := hide (HB1.out.trans (hb2.mono HB1.out.size)); have HS2 := hide (Nat.le_trans HS1.out hb2.size); clear hb2 k0 k1 k2 k3 k4 k5 k6 k7 k8 k9 k10 k11 k12 k13; have k0 := HL2.out.cell 0 rfl; have k1 := HL2.out.cell 1 rfl; have k2 := HL2.out.cell 2 rfl; have k3 := HL2.out.cell 3 rfl; have k4 := HL2.out.cell 4 rfl; have k5 := HL2.out.cell 5 rfl; have k6 := HL2.out.cell 6 rfl; have k7 := HL2.out.cell 7 rfl; have k8 := HL2.out.cell 8 rfl; have k9 := HL2.out.cell 9 rfl; have k10 := HL2.out.cell 10 rfl; have k11 := HL2.out.cell 11 rfl; have k12 := HL2.out.cell 12 rfl; have k13 := HL2.out.cell 13 rfl; have z0 := HZ2.out.free 0; have y0 := HZ2.out.cell 0 rfl; have z1 := HZ2.out.free 1; have y1 := HZ2.out.cell 1 rfl; have z2 := HZ2.out.free 2; have y2 := HZ2.out.cell 2 rfl; have z3 := HZ2.out.free 3; have y3 := HZ2.out.cell 3 rfl; have z4 := HZ2.out.free 4; have y4 := HZ2.out.cell 4 rfl; have z5 := HZ2.out.free 5; have y5 := HZ2.out.cell 5 rfl; have z6 := HZ2.out.free 6; have y6 := HZ2.out.cell 6 rfl; have z7 := HZ2.out.free 7; have y7 := HZ2.out.cell 7 rfl; have z8 := HZ2.out.free 8; have y8 := HZ2.out.cell 8 rfl; have z9 := HZ2.out.free 9; have y9 := HZ2.out.cell 9 rfl; have z10 := HZ2.out.free 10; have y10 := HZ2.out.cell 10 rfl; have z11 := HZ2.out.free 11; have y11 := HZ2.out.cell 11 rfl; have z12 := HZ2.out.free 12; have y12 := HZ2.out.cell 12 rfl; have z13 := HZ2.out.free 13; have y13 := HZ2.out.cell 13 rfl))
    obtain ⟨w9, hw9, hR, hgR⟩ := sets14 HZ2.out (.int .i64 0) (.int .i64 0) (.int .i64 0) (.int .i64 0) (.int .i64 0) (.slice none 0 0) (.int .i64 0) (.int .i64 0) (.slice none 0 0) (.int .i64 0) (.int .i64 0) (.int .i64 0) (.slice none 0 0) (.slice none 0 0)
    rw [hw9]
    clear hw9
    obtain ⟨r0, r1, r2, r3, r4, r5, r6, r7, r8, r9, r10, r11, r12, r13⟩ := xs14 (x := ndZ) (S := nilS) hR
    refine bodyPost_ret (v := .tuple #[ndval ndZ nilS, .bool false]) (by simp [results, Try.results19, go_sem, r0, r1, r2, r3, r4, r5, r6, r7, r8, r9, r10, r11, r12, r13, ndZ]) rfl ?_
    rw [HR.out]
    refine ⟨nilS, rfl, ndZ_own _ _, ?_⟩
    exact HB2.out.grown hgR HB2.out.size (fun k hk => by cases hk; omega)
  | true =>
    rw [h1] at HOK
    cases h2 : bt x.s ix x.cm with
    | false =>
      have HR := hide (stR_no (x := x) (ix := ix) (by rw [h2, Bool.and_false]))
      have W2 := hide (within_is2 h2)
      clear h1 h2
      go_enter Try.func19, Try.ntmps19
      go_upto_region 1 with fail
      rw [HW1.out]
      clear HW1
      have k0 := HL1.out.cell 0 rfl
      have k1 := HL1.out.cell 1 rfl
      have k2 := HL1.out.cell 2 rfl
      have k3 := HL1.out.cell 3 rfl
      have k4 := HL1.out.cell 4 rfl
      have k5 := HL1.out.cell 5 rfl
      have k6 := HL1.out.cell 6 rfl
      have k7 := HL1.out.cell 7 rfl
      have k8 := HL1.out.cell 8 rfl
      have k9 := HL1.out.cell 9 rfl
      have k10 := HL1.out.cell 10 rfl
      have k11 := HL1.out.cell 11 rfl
      have k12 := HL1.out.cell 12 rfl
      have k13 := HL1.out.cell 13 rfl
      go_wp2_with (first | (go_at_call 9; refine HOK.out.mono ?_; rintro e w2 ⟨rfl, hb2⟩; have HL2 := hide (HL1.out.on hb2); have HZ2 := hide (HZ1.out.on hb2); have HB2 := hide (HB1.out.trans (hb2.mono HB1.out.size)); have HS2 := hide (Nat.le_trans HS1.out hb2.size); clear hb2 k0 k1 k2 k3 k4 k5 k6 k7 k8 k9 k10 k11 k12 k13; have k0 := HL2.out.cell 0 rfl; have k1 := HL2.out.cell 1 rfl; have k2 := HL2.out.cell 2 rfl; have k3 := HL2.out.cell 3 rfl; have k4 := HL2.out.cell 4 rfl; have k5 := HL2.out.cell 5 rfl; have k6 := HL2.out.cell 6 rfl; have k7 := HL2.out.cell 7 rfl; have k8 := HL2.out.cell 8 rfl; have k9 := HL2.out.cell 9 rfl; have k10 := HL2.out.cell 10 rfl; have k11 := HL2.out.cell 11 rfl; have k12 := HL2.out.cell 12 rfl; have k13 := HL2.out.cell 13 rfl; have z0 := HZ2.out.free 0; have y0 := HZ2.out.cell 0 rfl; have z1 := HZ2.out.free 1; have y1 := HZ2.out.cell 1 rfl; have z2 := HZ2.out.free 2; have y2 := HZ2.out.cell 2 rfl; have z3 := HZ2.out.free 3; have y3 := HZ2.out.cell 3 rfl; have z4 := HZ2.out.free 4; have y4 := HZ2.out.cell 4 rfl; have z5 := HZ2.out.free 5; have y5 := HZ2.out.cell 5 rfl; have z6 := HZ2.out.free 6; have y6 := HZ2.out.cell 6 rfl; have z7 := HZ2.out.free 7; have y7 := HZ2.out.cell 7 rfl; have z8 := HZ2.out.free 8; have y8 := HZ2.out.cell 8 rfl; have z9 := HZ2.out.free 9; have y9 := HZ2.out.cell 9 rfl; have z10 := HZ2.out.free 10; have y10 := HZ2.out.cell 10 rfl; have z11 := HZ2.out.free 11; have y11 := HZ2.out.cell 11 rfl; have z12 := HZ2.out.free 12; have y12 := HZ2.out.cell 12 rfl; have z13 := HZ2.out.free 13; have y13 := HZ2.out.cell 13 rfl) | (go_at_call 32; refine (W2.out _).mono ?_; rintro e w9 ⟨rfl, rfl⟩))
      obtain ⟨w9, hw9, hR, hgR⟩ := sets14 HZ2.out (.int .i64 0) (.int .i64 0) (.int .i64 0) (.int .i64 0) (.int .i64 0) (.slice none 0 0) (.int .i64 0) (.int .i64 0) (.slice none 0 0) (.int .i64 0) (.int .i64 0) (.int .i64 0) (.slice none 0 0) (.slice none 0 0)
      rw [hw9]
      clear hw9
      obtain ⟨r0, r1, r2, r3, r4, r5, r6, r7, r8, r9, r10, r11, r12, r13⟩ := xs14 (x := ndZ) (S := nilS) hR
      refine bodyPost_ret (v := .tuple #[ndval ndZ nilS, .bool false]) (by simp [results, Try.results19, go_sem, r0, r1, r2, r3, r4, r5, r6, r7, r8, r9, r10, r11, r12, r13, ndZ]) rfl ?_
      rw [HR.out]
      refine ⟨nilS, rfl, ndZ_own _ _, ?_⟩
      exact HB2.out.grown hgR HB2.out.size (fun k hk => by cases hk; omega)
    | true =>
      have HR := hide (stR_yes (x := x) (ix := ix) (by rw [h1, h2]; rfl))
      have W2 := hide (within_is2 h2)
      obtain ⟨hlg, hcf, k, hix, hk, hkk⟩ := st_facts h1 h2
      obtain ⟨s0, s1, u0, u1, hn, hsn, hok⟩ := lgOk_facts hlg
      have HBH := hide (show bhL x.s x.u x.es ix (lastT x.u (x.es.take k)) = x.es.drop k by rw [hix]; exact bhL_in hlg hk)
      have HST := hide (show stV x ix = ⟨x.id, x.tm, x.vt, x.ro, x.ld, cfGo x.cf (x.es.take k), ix, lastT x.u (x.es.take k), x.es.drop k, x.cm, x.ck, x.lm, x.vs, x.ps⟩ by unfold stV; rw [hkk])
      have HCP := hide (fun w h => nodeCopied_any x S hc20 he20 HEZ.out hv20 hp20 w h)
      have HCA := hide (show ∀ w, NdAt w x S → Calls Try.prog 50 #[ndval x S, .int .i64 ix] w fun e w' => ∃ v, e = .returned v ∧ w'.ownsRow w.heap.size 3 1 v (cfGo x.cf (x.es.take k)).length ((cfGo x.cf (x.es.take k)).map icell) ∧ Below w.heap.size w w' from fun w h => by
        exact implConfAt_in x S s0 s1 hn hc20 hok HEZ.out ix k hix hk w h)
      have HLT := hide (fun w h => implLogTerm_in x.s x.u S.oe x.es.length S.ce x.es w h s0 s1 hn ix k hix hk)
      have HLB := hide (fun w h => implLogBehind_any x.s x.u S.oe x.es.length S.ce x.es ix (lastT x.u (x.es.take k)) w h HEZ.out)
      rw [HBH.out] at HLB
      generalize cfGo x.cf (x.es.take k) = C at HST HCA
      generalize lastT x.u (x.es.take k) = t at HST HLT HLB
      generalize x.es.drop k = E at HST HLB
      clear h1 h2 hlg hcf hix hk hkk hok HBH
      go_enter Try.func19, Try.ntmps19
      go_upto_region 1 with fail
      rw [HW1.out]
      clear HW1
      have k0 := HL1.out.cell 0 rfl
      have k1 := HL1.out.cell 1 rfl
      have k2 := HL1.out.cell 2 rfl
      have k3 := HL1.out.cell 3 rfl
      have k4 := HL1.out.cell 4 rfl
      have k5 := HL1.out.cell 5 rfl
      have k6 := HL1.out.cell 6 rfl
      have k7 := HL1.out.cell 7 rfl
      have k8 := HL1.out.cell 8 rfl
      have k9 := HL1.out.cell 9 rfl
      have k10 := HL1.out.cell 10 rfl
      have k11 := HL1.out.cell 11 rfl
      have k12 := HL1.out.cell 12 rfl
      have k13 := HL1.out.cell 13 rfl
      go_upto_region 3 with (first | (go_at_call 9; refine HOK.out.mono ?_; rintro e w2 ⟨rfl, hb2⟩; have HL2 := hide (HL1.out.on hb2); have HZ2 := hide (HZ1.out.on hb2); have HB2 := hide (HB1.out.trans (hb2.mono HB1.out.size)); have HS2 := hide (Nat.le_trans HS1.out hb2.size); clear hb2 k0 k1 k2 k3 k4 k5 k6 k7 k8 k9 k10 k11 k12 k13; have k0 := HL2.out.cell 0 rfl; have k1 := HL2.out.cell 1 rfl; have k2 := HL2.out.cell 2 rfl; have k3 := HL2.out.cell 3 rfl; have k4 := HL2.out.cell 4 rfl; have k5 := HL2.out.cell 5 rfl; have k6 := HL2.out.cell 6 rfl; have k7 := HL2.out.cell 7 rfl; have k8 := HL2.out.cell 8 rfl; have k9 := HL2.out.cell 9 rfl; have k10 := HL2.out.cell 10 rfl; have k11 := HL2.out.cell 11 rfl; have k12 := HL2.out.cell 12 rfl; have k13 := HL2.out.cell 13 rfl; have z0 := HZ2.out.free 0; have y0 := HZ2.out.cell 0 rfl; have z1 := HZ2.out.free 1; have y1 := HZ2.out.cell 1 rfl; have z2 := HZ2.out.free 2; have y2 := HZ2.out.cell 2 rfl; have z3 := HZ2.out.free 3; have y3 := HZ2.out.cell 3 rfl; have z4 := HZ2.out.free 4; have y4 := HZ2.out.cell 4 rfl; have z5 := HZ2.out.free 5; have y5 := HZ2.out.cell 5 rfl; have z6 := HZ2.out.free 6; have y6 := HZ2.out.cell 6 rfl; have z7 := HZ2.out.free 7; have y7 := HZ2.out.cell 7 rfl; have z8 := HZ2.out.free 8; have y8 := HZ2.out.cell 8 rfl; have z9 := HZ2.out.free 9; have y9 := HZ2.out.cell 9 rfl; have z10 := HZ2.out.free 10; have y10 := HZ2.out.cell 10 rfl; have z11 := HZ2.out.free 11; have y11 := HZ2.out.cell 11 rfl; have z12 := HZ2.out.free 12; have y12 := HZ2.out.cell 12 rfl; have z13 := HZ2.out.free 13; have y13 := HZ2.out.cell 13 rfl) | (go_at_call 32; refine (W2.out _).mono ?_; rintro e w9 ⟨rfl, rfl⟩))
      clear z0 y0 z1 y1 z2 y2 z3 y3 z4 y4 z5 y5 z6 y6 z7 y7 z8 y8 z9 y9 z10 y10 z11 y11 z12 y12 z13 y13
      go_wp2_with fail
      refine (HCP.out _ (HAT.out.below HB2.out)).mono ?_
      rintro e w3 ⟨S3, rfl, ho3, hb3⟩
      have HL3 := hide (HL2.out.on hb3)
      have HZ3 := hide (HZ2.out.on hb3)
      have HB3 := hide (HB2.out.trans (hb3.mono HB2.out.size))
      have HS3 := hide (Nat.le_trans HS2.out hb3.size)
      have HO3 := hide (ho3.down HS2.out)
      clear hb3 ho3 k0 k1 k2 k3 k4 k5 k6 k7 k8 k9 k10 k11 k12 k13 HL2 HZ2 HB2
      go_upto_region 4 with fail
      obtain ⟨w4, hw4⟩ : ∃ w4, w3.alloc (.cells (ndC x S3) 36) = w4 := ⟨_, rfl⟩
      have hb4 : Below w3.heap.size w3 w4 := by rw [← hw4]; exact (Below.refl _ _).alloc (Nat.le_refl _) _
      have HN4 := hide (show XS w3.heap.size (ndC x S3) 36 w4 by rw [← hw4]; exact XS.new _ _ _)
      have HL4 := hide (HL3.out.on hb4)
      have HZ4 := hide (HZ3.out.on hb4)
      have HO4 := hide (HO3.out.on hb4)
      have HV4 := hide (fun b (h : (Value.slice S3.ov x.vs.length S3.cv).ownBlock = some b) => (HO3.out.v.lt b h).2)
      have HE4 := hide (show ∀ b, NdNot16 x S3 b ∨ b < w3.heap.size from fun b => by by_cases h : b < w3.heap.size; exact Or.inr h; exact Or.inl ⟨fun q => h (HO3.out.c.lt b q).2, fun q => h (HO3.out.e.lt b q).2, fun q => h (HO3.out.v.lt b q).2, fun q => h (HO3.out.p.lt b q).2⟩)
      have HB4 := hide (HB3.out.trans (hb4.mono HB3.out.size))
      have HS4 := hide (show w.heap.size + 1 + 1 ≤ w3.heap.size ∧ w3.heap.size < w4.heap.size from ⟨HS3.out, HN4.out.lt⟩)
      rw [hw4]
      clear hw4 hb4 HL3 HZ3 HO3 HB3
      have k0 := HL4.out.cell 0 rfl
      have k1 := HL4.out.cell 1 rfl
      have k2 := HL4.out.cell 2 rfl
      have k3 := HL4.out.cell 3 rfl
      have k4 := HL4.out.cell 4 rfl
      have k5 := HL4.out.cell 5 rfl
      have k6 := HL4.out.cell 6 rfl
      have k7 := HL4.out.cell 7 rfl
      have k8 := HL4.out.cell 8 rfl
      have k9 := HL4.out.cell 9 rfl
      have k10 := HL4.out.cell 10 rfl
      have k11 := HL4.out.cell 11 rfl
      have k12 := HL4.out.cell 12 rfl
      have k13 := HL4.out.cell 13 rfl
      go_wp2_with fail
      refine (HCA.out _ (HAT.out.below HB4.out)).mono ?_
      rintro e w5 ⟨v5, rfl, hc5, hb5⟩
      obtain ⟨oc, cc, hv5⟩ := own_form3 hc5
      subst hv5
      have HN5 := hide (HN4.out.on hb5)
      have HL5 := hide (HL4.out.on hb5)
      have HZ5 := hide (HZ4.out.on hb5)
      have HO5 := hide (HO4.out.on hb5)
      have HB5 := hide (HB4.out.trans (hb5.mono HB4.out.size))
      have HC5 := hide hc5
      have HS5 := hide hb5.size
      have k5n := HN5.out.cell 5 rfl
      have f5n := HN5.out.free 5
      clear hc5 hb5 k0 k1 k2 k3 k4 k5 k6 k7 k8 k9 k10 k11 k12 k13 HN4 HL4 HZ4 HO4 HB4
      go_upto_region 5 with fail
      obtain ⟨w6, hw6⟩ : ∃ w6, w5.setCell ⟨w3.heap.size, 5, none⟩ (.slice oc C.length cc) = w6 := ⟨_, rfl⟩
      have hg6 : w5.grownBy w6 (some w3.heap.size) := by rw [← hw6]; exact blk_grown _ _ _ _
      have HN6 := hide (show XS w3.heap.size #[.int .i64 x.id, .int .i64 x.tm, .int .i64 x.vt, .int .i64 x.ro, .int .i64 x.ld, .slice oc C.length cc, .int .i64 x.s, .int .i64 x.u, .slice S3.oe x.es.length S3.ce, .int .i64 x.cm, .int .i64 x.ck, .int .i64 x.lm, .slice S3.ov x.vs.length S3.cv, .slice S3.op x.ps.length S3.cp] 36 w6 by rw [← hw6]; exact HN5.out.set 5 _)
      have HL6 := hide (HL5.out.kept hg6 (fun q => by have := Option.some.inj q; have := HS4.out; omega))
      have HZ6 := hide (HZ5.out.kept hg6 (fun q => by have := Option.some.inj q; have := HS4.out; omega))
      have HB6 := hide (HB5.out.grown hg6 HB5.out.size (fun k hk => by cases hk; have := HS4.out; omega))
      have HV6 := hide (HO5.out.v.kept hg6 (Or.inr (fun q => by have := HV4.out _ q; omega)))
      have HP6 := hide (HO5.out.p.kept hg6 (Or.inr (fun q => by rcases HE4.out w3.heap.size with h | h; exact h.2.2.2 q; omega)))
      have HC6 := hide (HC5.out.kept hg6 (Or.inr (fun q => by have := HC5.out.lt _ q; have := HS4.out; omega)))
      have HNE := hide (show ∀ k, (Value.slice oc C.length cc).ownBlock = some k → (Value.slice S3.ov x.vs.length S3.cv).ownBlock ≠ some k from fun k h1 h2 => by have := (HC5.out.lt k h1).1; have := HV4.out k h2; have := HS4.out; omega)
      have HS6 := hide (Nat.le_trans HS5.out hg6.size)
      rw [hw6]
      clear hw6 hg6 k5n f5n HN5 HL5 HZ5 HO5 HB5 HC5
      have y6 : ∀ w', XS w.heap.size (ndC x S) 36 w' → w'.cell? ⟨w.heap.size, 6, none⟩ = some (.int .i64 x.s) := fun w' h => h.cell 6 rfl
      have y7 : ∀ w', XS w.heap.size (ndC x S) 36 w' → w'.cell? ⟨w.heap.size, 7, none⟩ = some (.int .i64 x.u) := fun w' h => h.cell 7 rfl
      have y8 : ∀ w', XS w.heap.size (ndC x S) 36 w' → w'.cell? ⟨w.heap.size, 8, none⟩ = some (.slice S.oe x.es.length S.ce) := fun w' h => h.cell 8 rfl
      go_region_held3 (fun w' => XS w.heap.size (ndC x S) 36 w') (first | exact HL6.out | exact HL6.out.drew | exact HL6.out.drew.on hbA | exact (HL6.out.drew.on hbA).on hbB | exact ((HL6.out.drew.on hbA).on hbB).kept (grown_trans (grown_trans (blk_grown _ _ _ _) (blk_grown _ _ _ _)) (blk_grown _ _ _ _)) (fun q => by have := Option.some.inj q; have := HS4.out; omega))
        (first
          | (go_at_call 52; refine (HLT.out _ (HAT.out.e.below HB6.out.drew)).mono ?_; rintro e wA ⟨rfl, hbA⟩)
          | (go_at_call 51; refine (HLB.out _ (HAT.out.e.below (HB6.out.drew.trans (hbA.mono HB6.out.drew.size)))).mono ?_; rintro e wB ⟨vB, rfl, hoB, hbB⟩; obtain ⟨oe, ce, hvB⟩ := own_form3 hoB; subst hvB; have HEB := hide hoB; have HNB := hide ((HN6.out.drew.on hbA).on hbB); have x6 := HNB.out.cell 6 rfl; have f6 := HNB.out.free 6; have x7 := HNB.out.cell 7 rfl; have f7 := HNB.out.free 7; have x8 := HNB.out.cell 8 rfl; have f8 := HNB.out.free 8; clear hoB))
      obtain ⟨w7, hw7⟩ : ∃ w7, ((wB.setCell ⟨w3.heap.size, 6, none⟩ (.int .i64 ix)).setCell ⟨w3.heap.size, 7, none⟩ (.int .i64 t)).setCell ⟨w3.heap.size, 8, none⟩ (.slice oe E.length ce) = w7 := ⟨_, rfl⟩
      have hg7 : wB.grownBy w7 (some w3.heap.size) := by rw [← hw7]; exact (grown_trans (grown_trans (blk_grown _ _ _ _) (blk_grown _ _ _ _)) (blk_grown _ _ _ _))
      have HN7 := hide (show XS w3.heap.size #[.int .i64 x.id, .int .i64 x.tm, .int .i64 x.vt, .int .i64 x.ro, .int .i64 x.ld, .slice oc C.length cc, .int .i64 ix, .int .i64 t, .slice oe E.length ce, .int .i64 x.cm, .int .i64 x.ck, .int .i64 x.lm, .slice S3.ov x.vs.length S3.cv, .slice S3.op x.ps.length S3.cp] 36 w7 by rw [← hw7]; exact ((HNB.out.set 6 _).set 7 _).set 8 _)
      have HBb := hide ((HB6.out.drew.trans (hbA.mono HB6.out.drew.size)).trans (hbB.mono (Nat.le_trans HB6.out.drew.size hbA.size)))
      have HB7 := hide (HBb.out.grown hg7 HBb.out.size (fun k hk => by cases hk; have := HS4.out; omega))
      have HZ7 := hide (((HZ6.out.drew.on hbA).on hbB).kept hg7 (fun q => by have := Option.some.inj q; have := HS4.out; omega))
      have HV7 := hide ((own_below (own_below (own_below HV6.out (Below.refl _ _).drew) hbA) hbB).kept hg7 (Or.inr (fun q => by have := HV4.out _ q; omega)))
      have HP7 := hide ((own_below (own_below (own_below HP6.out (Below.refl _ _).drew) hbA) hbB).kept hg7 (Or.inr (fun q => by rcases HE4.out w3.heap.size with h | h; exact h.2.2.2 q; omega)))
      have HC7 := hide ((own_below (own_below (own_below HC6.out (Below.refl _ _).drew) hbA) hbB).kept hg7 (Or.inr (fun q => by have := HC6.out.lt _ q; have := HS4.out; omega)))
      have hEA := hbA.size
      have HE7 := hide (HEB.out.kept hg7 (Or.inr (fun q => by have := HEB.out.lt _ q; have := HS4.out; have := HS6.out; have := HB6.out.drew.size; simp at hEA; omega)))
      have HEL := hide (show w.heap.size + 1 + 1 ≤ wA.heap.size by have := HS4.out; have := HS6.out; simp at hEA; omega)
      rw [hw7]
      clear hw7 hg7 hEA hbA hbB y6 y7 y8 x6 f6 x7 f7 x8 f8 HN6 HL6 HZ6 HB6 HV6 HP6 HC6 HNB HEB HBb
      have o0 := HN7.out.cell 0 rfl
      have z0 := HZ7.out.free 0
      have y0 := HZ7.out.cell 0 rfl
      have o1 := HN7.out.cell 1 rfl
      have z1 := HZ7.out.free 1
      have y1 := HZ7.out.cell 1 rfl
      have o2 := HN7.out.cell 2 rfl
      have z2 := HZ7.out.free 2
      have y2 := HZ7.out.cell 2 rfl
      have o3 := HN7.out.cell 3 rfl
      have z3 := HZ7.out.free 3
      have y3 := HZ7.out.cell 3 rfl
      have o4 := HN7.out.cell 4 rfl
      have z4 := HZ7.out.free 4
      have y4 := HZ7.out.cell 4 rfl
      have o5 := HN7.out.cell 5 rfl
      have z5 := HZ7.out.free 5
      have y5 := HZ7.out.cell 5 rfl
      have o6 := HN7.out.cell 6 rfl
      have z6 := HZ7.out.free 6
      have y6 := HZ7.out.cell 6 rfl
      have o7 := HN7.out.cell 7 rfl
      have z7 := HZ7.out.free 7
      have y7 := HZ7.out.cell 7 rfl
      have o8 := HN7.out.cell 8 rfl
      have z8 := HZ7.out.free 8
      have y8 := HZ7.out.cell 8 rfl
      have o9 := HN7.out.cell 9 rfl
      have z9 := HZ7.out.free 9
      have y9 := HZ7.out.cell 9 rfl
      have o10 := HN7.out.cell 10 rfl
      have z10 := HZ7.out.free 10
      have y10 := HZ7.out.cell 10 rfl
      have o11 := HN7.out.cell 11 rfl
      have z11 := HZ7.out.free 11
      have y11 := HZ7.out.cell 11 rfl
      have o12 := HN7.out.cell 12 rfl
      have z12 := HZ7.out.free 12
      have y12 := HZ7.out.cell 12 rfl
      have o13 := HN7.out.cell 13 rfl
      have z13 := HZ7.out.free 13
      have y13 := HZ7.out.cell 13 rfl
      go_wp2_with fail
      obtain ⟨w9, hw9, hR, hgR⟩ := sets14 HZ7.out (.int .i64 x.id) (.int .i64 x.tm) (.int .i64 x.vt) (.int .i64 x.ro) (.int .i64 x.ld) (.slice oc C.length cc) (.int .i64 ix) (.int .i64 t) (.slice oe E.length ce) (.int .i64 x.cm) (.int .i64 x.ck) (.int .i64 x.lm) (.slice S3.ov x.vs.length S3.cv) (.slice S3.op x.ps.length S3.cp)
      rw [hw9]
      clear hw9
      obtain ⟨r0, r1, r2, r3, r4, r5, r6, r7, r8, r9, r10, r11, r12, r13⟩ := xs14 (x := ⟨x.id, x.tm, x.vt, x.ro, x.ld, C, ix, t, E, x.cm, x.ck, x.lm, x.vs, x.ps⟩) (S := ⟨oc, cc, oe, ce, S3.ov, S3.cv, S3.op, S3.cp⟩) hR
      refine bodyPost_ret (v := .tuple #[ndval ⟨x.id, x.tm, x.vt, x.ro, x.ld, C, ix, t, E, x.cm, x.ck, x.lm, x.vs, x.ps⟩ ⟨oc, cc, oe, ce, S3.ov, S3.cv, S3.op, S3.cp⟩, .bool true]) (by simp [results, Try.results19, go_sem, r0, r1, r2, r3, r4, r5, r6, r7, r8, r9, r10, r11, r12, r13]) rfl ?_
      rw [HR.out, HST.out]
      refine ⟨⟨oc, cc, oe, ce, S3.ov, S3.cv, S3.op, S3.cp⟩, rfl, ⟨?_, ?_, ?_, ?_, ?_⟩, ?_⟩
      · exact own_base (HC7.out.kept hgR (Or.inr (fun q => by have := HC7.out.lt _ q; have := HS4.out; omega))) (by have := HS4.out; omega)
      · exact own_base (HE7.out.kept hgR (Or.inr (fun q => by have := HE7.out.lt _ q; have := HEL.out; first | omega | (simp at this; omega)))) (by have := HEL.out; first | omega | (simp; omega))
      · exact own_base (HV7.out.kept hgR (Or.inr (fun q => by have := HV7.out.lt _ q; omega))) (by omega)
      · exact own_base (HP7.out.kept hgR (Or.inr (fun q => by have := HP7.out.lt _ q; omega))) (by omega)
      · exact HNE.out
      · exact HB7.out.grown hgR HB7.out.size (fun k hk => by cases hk; omega)

end Go.Proofs.Ytoalbeiinlcgpaa
