/-
  Walks and mathematics of Nd6.
-/
import Derived.Test.YtoalbeiinlcgpaaKNd5
import Derived.BigQuiet
namespace Go.Proofs.Ytoalbeiinlcgpaa.P11
end Go.Proofs.Ytoalbeiinlcgpaa.P11
namespace Go.Proofs.Ytoalbeiinlcgpaa.P18
end Go.Proofs.Ytoalbeiinlcgpaa.P18
namespace Go.Proofs.Ytoalbeiinlcgpaa.P3
end Go.Proofs.Ytoalbeiinlcgpaa.P3
namespace Go.Proofs.Ytoalbeiinlcgpaa.P5
end Go.Proofs.Ytoalbeiinlcgpaa.P5
namespace Go.Proofs.Ytoalbeiinlcgpaa
open Go.RowKit P1 P3 P5 P9 P11 P12 P18 K
set_option linter.unusedVariables false
set_option linter.unusedSimpArgs false

theorem ndNum_eq {x : NdV} (h0 : 0 ≤ lastT x.u x.es) : ndNum x = (((((((bt 0 x.tm 100000 && !decide (x.tm < lastT x.u x.es)) && bt 0 x.ro 2) && bt x.s x.cm (ndLast x)) && bt 0 x.vt 4) && bt 0 x.ld 4) && bt 0 x.ck 20) && bt 1 x.lm 20) := by
  have : bt (lastT x.u x.es) x.tm 100000 = (bt 0 x.tm 100000 && !decide (x.tm < lastT x.u x.es)) := by
    unfold bt
    by_cases h1 : x.tm < lastT x.u x.es
    · have h2 : ¬ lastT x.u x.es ≤ x.tm := by omega
      simp [h1, h2]
    · have h2 : lastT x.u x.es ≤ x.tm := by omega
      have h3 : 0 ≤ x.tm := by omega
      simp [h1, h2, h3]
  unfold ndNum
  rw [this]

theorem ndVot_eq2 (x : NdV) : ndVot x = (riseF 1 4 none x.vs && !(decide (0 < x.vs.length) && !decide (x.ro = 1))) := by
  unfold ndVot
  by_cases h0 : x.vs.length = 0
  · simp [h0]
  · have : 0 < x.vs.length := by omega
    simp [h0, this]

set_option maxRecDepth 100000 in
set_option maxHeartbeats 200000000 in
theorem specNodeOk_any (x : NdV) (S : NdS) (hsz : ∀ e ∈ x.es, e.data.size ≤ 1048576) (hv20 : x.vs.length ≤ 1048576) (hp20 : x.ps.length ≤ 1048576) (w : World) (hat : NdAt w x S) :
    Calls Try.prog 7 #[ndval x S] w fun e w' => e = .returned (.bool (ndOk x)) ∧ Below w.heap.size w w' := by
  have hb0 := (Below.refl w.heap.size w).alloc (Nat.le_refl _) (.cells (ndC x S) 36)
  have HX0 := hide (XS.new w (ndC x S) 36)
  have HCK := hide (specConfOk_any S.oc x.cf.length S.cc x.cf _ (hat.c.below hb0))
  have HB0 := hide hb0
  have HAT := hide hat
  have HSZ := hide hsz
  clear hat hb0 hsz
  cases h1 : bt 1 x.id 4 with
  | false =>
    have HR := hide (show ndOk x = false by simp only [ndOk, ndHd, h1, Bool.and_true, Bool.and_false, Bool.false_and, Bool.true_and, Bool.not_true, Bool.not_false])
    rw [HR.out]
    have W1 := hide (l01In_is h1)
    clear h1 HCK
    go_enter Try.func7, Try.ntmps7
    go_wp2_with (first | (go_at_call 23; (first | with_reducible refine (W1.out _).mono ?_); rintro e w9 ⟨rfl, rfl⟩))
    go_ret
    exact ⟨rfl, HB0.out⟩
  | true =>
    cases h2 : confOk x.cf with
    | false =>
      have HR := hide (show ndOk x = false by simp only [ndOk, ndHd, h1, h2, Bool.and_true, Bool.and_false, Bool.false_and, Bool.true_and, Bool.not_true, Bool.not_false])
      rw [HR.out]
      have W1 := hide (l01In_is h1)
      have HC2 := HCK.out
      rw [h2] at HC2
      have HC2 := hide HC2
      clear h1 h2 HCK
      go_enter Try.func7, Try.ntmps7
      go_wp2_with (first | (go_at_call 23; (first | with_reducible refine (W1.out _).mono ?_); rintro e w9 ⟨rfl, rfl⟩) | (go_at_call 24; refine HC2.out.mono ?_; rintro e w2 ⟨rfl, hd2⟩; have HB2 := hide (HB0.out.trans (hd2.below.mono HB0.out.size)); have HX2 := hide (HX0.out.on hd2.below); obtain ⟨k0, k1, k2, k3, k4, k5, k6, k7, k8, k9, k10, k11, k12, k13⟩ := xs14 HX2.out; clear hd2))
      go_ret
      exact ⟨rfl, HB2.out⟩
    | true =>
      cases h3 : lgOk x.s x.u x.es with
      | false =>
        have HR := hide (show ndOk x = false by simp only [ndOk, ndHd, h1, h2, h3, Bool.and_true, Bool.and_false, Bool.false_and, Bool.true_and, Bool.not_true, Bool.not_false])
        rw [HR.out]
        have W1 := hide (l01In_is h1)
        have HC2 := HCK.out
        rw [h2] at HC2
        have HC2 := hide HC2
        have HL3 := fun w h => specLogOk_any x.s x.u S.oe x.es.length S.ce x.es w h HSZ.out
        rw [h3] at HL3
        have HL3 := hide HL3
        clear h1 h2 h3 HCK
        go_enter Try.func7, Try.ntmps7
        go_wp2_with (first | (go_at_call 23; (first | with_reducible refine (W1.out _).mono ?_); rintro e w9 ⟨rfl, rfl⟩) | (go_at_call 24; refine HC2.out.mono ?_; rintro e w2 ⟨rfl, hd2⟩; have HB2 := hide (HB0.out.trans (hd2.below.mono HB0.out.size)); have HX2 := hide (HX0.out.on hd2.below); obtain ⟨k0, k1, k2, k3, k4, k5, k6, k7, k8, k9, k10, k11, k12, k13⟩ := xs14 HX2.out; clear hd2) | (go_at_call 25; refine (HL3.out _ (HAT.out.e.below HB2.out)).mono ?_; rintro e w3 ⟨rfl, hb3⟩; have HB3 := hide (HB2.out.trans (hb3.mono HB2.out.size)); have HX3 := hide (HX2.out.on hb3); clear k0 k1 k2 k3 k4 k5 k6 k7 k8 k9 k10 k11 k12 k13; obtain ⟨k0, k1, k2, k3, k4, k5, k6, k7, k8, k9, k10, k11, k12, k13⟩ := xs14 HX3.out; clear hb3))
        go_ret
        exact ⟨rfl, HB3.out⟩
      | true =>
        obtain ⟨s0, s1, u0, u1, hn, hsn, hok⟩ := lgOk_facts h3
        have HT0 := hide (lastT_le x.es x.u u0 u1 hok).1
        have HOK := hide hok
        have HLL := hide (fun w (h : EntsAt w S.oe x.es.length S.ce x.es) => by have hll := specLogLast_any x.s x.u S.oe x.es.length S.ce x.es w h; rw [lastI_eq s0 s1 hn] at hll; exact hll)
        clear hok
        cases h4 : bt 0 x.tm 100000 with
        | false =>
          have HR := hide (show ndOk x = false by simp only [ndOk, ndHd, ndNum_eq HT0.out, h1, h2, h3, h4, Bool.and_true, Bool.and_false, Bool.false_and, Bool.true_and, Bool.not_true, Bool.not_false])
          rw [HR.out]
          have W1 := hide (l01In_is h1)
          have HC2 := HCK.out
          rw [h2] at HC2
          have HC2 := hide HC2
          have HL3 := fun w h => specLogOk_any x.s x.u S.oe x.es.length S.ce x.es w h HSZ.out
          rw [h3] at HL3
          have HL3 := hide HL3
          have W4 := hide (l01In_is h4)
          clear h1 h2 h3 h4 HCK
          go_enter Try.func7, Try.ntmps7
          go_wp2_with (first | (go_at_call 23; (first | with_reducible refine (W1.out _).mono ?_ | with_reducible refine (W4.out _).mono ?_); rintro e w9 ⟨rfl, rfl⟩) | (go_at_call 24; refine HC2.out.mono ?_; rintro e w2 ⟨rfl, hd2⟩; have HB2 := hide (HB0.out.trans (hd2.below.mono HB0.out.size)); have HX2 := hide (HX0.out.on hd2.below); obtain ⟨k0, k1, k2, k3, k4, k5, k6, k7, k8, k9, k10, k11, k12, k13⟩ := xs14 HX2.out; clear hd2) | (go_at_call 25; refine (HL3.out _ (HAT.out.e.below HB2.out)).mono ?_; rintro e w3 ⟨rfl, hb3⟩; have HB3 := hide (HB2.out.trans (hb3.mono HB2.out.size)); have HX3 := hide (HX2.out.on hb3); clear k0 k1 k2 k3 k4 k5 k6 k7 k8 k9 k10 k11 k12 k13; obtain ⟨k0, k1, k2, k3, k4, k5, k6, k7, k8, k9, k10, k11, k12, k13⟩ := xs14 HX3.out; clear hb3))
          go_ret
          exact ⟨rfl, HB3.out⟩
        | true =>
          cases h5 : bt 0 x.vt 4 with
          | false =>
            have HR := hide (show ndOk x = false by simp only [ndOk, ndHd, ndNum_eq HT0.out, h1, h2, h3, h4, h5, Bool.and_true, Bool.and_false, Bool.false_and, Bool.true_and, Bool.not_true, Bool.not_false])
            rw [HR.out]
            have W1 := hide (l01In_is h1)
            have HC2 := HCK.out
            rw [h2] at HC2
            have HC2 := hide HC2
            have HL3 := fun w h => specLogOk_any x.s x.u S.oe x.es.length S.ce x.es w h HSZ.out
            rw [h3] at HL3
            have HL3 := hide HL3
            have W4 := hide (l01In_is h4)
            have W5 := hide (l01In_is h5)
            clear h1 h2 h3 h4 h5 HCK
            go_enter Try.func7, Try.ntmps7
            go_wp2_with (first | (go_at_call 23; (first | with_reducible refine (W1.out _).mono ?_ | with_reducible refine (W4.out _).mono ?_ | with_reducible refine (W5.out _).mono ?_); rintro e w9 ⟨rfl, rfl⟩) | (go_at_call 24; refine HC2.out.mono ?_; rintro e w2 ⟨rfl, hd2⟩; have HB2 := hide (HB0.out.trans (hd2.below.mono HB0.out.size)); have HX2 := hide (HX0.out.on hd2.below); obtain ⟨k0, k1, k2, k3, k4, k5, k6, k7, k8, k9, k10, k11, k12, k13⟩ := xs14 HX2.out; clear hd2) | (go_at_call 25; refine (HL3.out _ (HAT.out.e.below HB2.out)).mono ?_; rintro e w3 ⟨rfl, hb3⟩; have HB3 := hide (HB2.out.trans (hb3.mono HB2.out.size)); have HX3 := hide (HX2.out.on hb3); clear k0 k1 k2 k3 k4 k5 k6 k7 k8 k9 k10 k11 k12 k13; obtain ⟨k0, k1, k2, k3, k4, k5, k6, k7, k8, k9, k10, k11, k12, k13⟩ := xs14 HX3.out; clear hb3))
            go_ret
            exact ⟨rfl, HB3.out⟩
          | true =>
            cases h6 : bt 0 x.ld 4 with
            | false =>
              have HR := hide (show ndOk x = false by simp only [ndOk, ndHd, ndNum_eq HT0.out, h1, h2, h3, h4, h5, h6, Bool.and_true, Bool.and_false, Bool.false_and, Bool.true_and, Bool.not_true, Bool.not_false])
              rw [HR.out]
              have W1 := hide (l01In_is h1)
              have HC2 := HCK.out
              rw [h2] at HC2
              have HC2 := hide HC2
              have HL3 := fun w h => specLogOk_any x.s x.u S.oe x.es.length S.ce x.es w h HSZ.out
              rw [h3] at HL3
              have HL3 := hide HL3
              have W4 := hide (l01In_is h4)
              have W5 := hide (l01In_is h5)
              have W6 := hide (l01In_is h6)
              clear h1 h2 h3 h4 h5 h6 HCK
              go_enter Try.func7, Try.ntmps7
              go_wp2_with (first | (go_at_call 23; (first | with_reducible refine (W1.out _).mono ?_ | with_reducible refine (W4.out _).mono ?_ | with_reducible refine (W5.out _).mono ?_ | with_reducible refine (W6.out _).mono ?_); rintro e w9 ⟨rfl, rfl⟩) | (go_at_call 24; refine HC2.out.mono ?_; rintro e w2 ⟨rfl, hd2⟩; have HB2 := hide (HB0.out.trans (hd2.below.mono HB0.out.size)); have HX2 := hide (HX0.out.on hd2.below); obtain ⟨k0, k1, k2, k3, k4, k5, k6, k7, k8, k9, k10, k11, k12, k13⟩ := xs14 HX2.out; clear hd2) | (go_at_call 25; refine (HL3.out _ (HAT.out.e.below HB2.out)).mono ?_; rintro e w3 ⟨rfl, hb3⟩; have HB3 := hide (HB2.out.trans (hb3.mono HB2.out.size)); have HX3 := hide (HX2.out.on hb3); clear k0 k1 k2 k3 k4 k5 k6 k7 k8 k9 k10 k11 k12 k13; obtain ⟨k0, k1, k2, k3, k4, k5, k6, k7, k8, k9, k10, k11, k12, k13⟩ := xs14 HX3.out; clear hb3))
              go_ret
              exact ⟨rfl, HB3.out⟩
            | true =>
              cases h7 : bt 0 x.ro 2 with
              | false =>
                have HR := hide (show ndOk x = false by simp only [ndOk, ndHd, ndNum_eq HT0.out, h1, h2, h3, h4, h5, h6, h7, Bool.and_true, Bool.and_false, Bool.false_and, Bool.true_and, Bool.not_true, Bool.not_false])
                rw [HR.out]
                have W1 := hide (l01In_is h1)
                have HC2 := HCK.out
                rw [h2] at HC2
                have HC2 := hide HC2
                have HL3 := fun w h => specLogOk_any x.s x.u S.oe x.es.length S.ce x.es w h HSZ.out
                rw [h3] at HL3
                have HL3 := hide HL3
                have W4 := hide (l01In_is h4)
                have W5 := hide (l01In_is h5)
                have W6 := hide (l01In_is h6)
                have W7 := hide (l01In_is h7)
                clear h1 h2 h3 h4 h5 h6 h7 HCK
                go_enter Try.func7, Try.ntmps7
                go_wp2_with (first | (go_at_call 23; (first | with_reducible refine (W1.out _).mono ?_ | with_reducible refine (W4.out _).mono ?_ | with_reducible refine (W5.out _).mono ?_ | with_reducible refine (W6.out _).mono ?_ | with_reducible refine (W7.out _).mono ?_); rintro e w9 ⟨rfl, rfl⟩) | (go_at_call 24; refine HC2.out.mono ?_; rintro e w2 ⟨rfl, hd2⟩; have HB2 := hide (HB0.out.trans (hd2.below.mono HB0.out.size)); have HX2 := hide (HX0.out.on hd2.below); obtain ⟨k0, k1, k2, k3, k4, k5, k6, k7, k8, k9, k10, k11, k12, k13⟩ := xs14 HX2.out; clear hd2) | (go_at_call 25; refine (HL3.out _ (HAT.out.e.below HB2.out)).mono ?_; rintro e w3 ⟨rfl, hb3⟩; have HB3 := hide (HB2.out.trans (hb3.mono HB2.out.size)); have HX3 := hide (HX2.out.on hb3); clear k0 k1 k2 k3 k4 k5 k6 k7 k8 k9 k10 k11 k12 k13; obtain ⟨k0, k1, k2, k3, k4, k5, k6, k7, k8, k9, k10, k11, k12, k13⟩ := xs14 HX3.out; clear hb3))
                go_ret
                exact ⟨rfl, HB3.out⟩
              | true =>
                cases h8 : decide (x.tm < lastT x.u x.es) with
                | true =>
                  have HR := hide (show ndOk x = false by simp only [ndOk, ndHd, ndNum_eq HT0.out, h1, h2, h3, h4, h5, h6, h7, h8, Bool.and_true, Bool.and_false, Bool.false_and, Bool.true_and, Bool.not_true, Bool.not_false])
                  rw [HR.out]
                  have W1 := hide (l01In_is h1)
                  have HC2 := HCK.out
                  rw [h2] at HC2
                  have HC2 := hide HC2
                  have HL3 := fun w h => specLogOk_any x.s x.u S.oe x.es.length S.ce x.es w h HSZ.out
                  rw [h3] at HL3
                  have HL3 := hide HL3
                  have W4 := hide (l01In_is h4)
                  have W5 := hide (l01In_is h5)
                  have W6 := hide (l01In_is h6)
                  have W7 := hide (l01In_is h7)
                  have q8 := h8
                  have Q8 := hide h8
                  clear h1 h2 h3 h4 h5 h6 h7 HCK
                  go_enter Try.func7, Try.ntmps7
                  go_wp2_with (first | (go_at_call 23; (first | with_reducible refine (W1.out _).mono ?_ | with_reducible refine (W4.out _).mono ?_ | with_reducible refine (W5.out _).mono ?_ | with_reducible refine (W6.out _).mono ?_ | with_reducible refine (W7.out _).mono ?_); rintro e w9 ⟨rfl, rfl⟩) | (go_at_call 24; refine HC2.out.mono ?_; rintro e w2 ⟨rfl, hd2⟩; have HB2 := hide (HB0.out.trans (hd2.below.mono HB0.out.size)); have HX2 := hide (HX0.out.on hd2.below); obtain ⟨k0, k1, k2, k3, k4, k5, k6, k7, k8, k9, k10, k11, k12, k13⟩ := xs14 HX2.out; clear hd2) | (go_at_call 25; refine (HL3.out _ (HAT.out.e.below HB2.out)).mono ?_; rintro e w3 ⟨rfl, hb3⟩; have HB3 := hide (HB2.out.trans (hb3.mono HB2.out.size)); have HX3 := hide (HX2.out.on hb3); clear k0 k1 k2 k3 k4 k5 k6 k7 k8 k9 k10 k11 k12 k13; obtain ⟨k0, k1, k2, k3, k4, k5, k6, k7, k8, k9, k10, k11, k12, k13⟩ := xs14 HX3.out; clear hb3) | (go_at_call 26; refine (HLL.out _ (HAT.out.e.below HB3.out)).mono ?_; rintro e w4 ⟨rfl, hb4⟩; have HB4 := hide (HB3.out.trans (hb4.mono HB3.out.size)); have HX4 := hide (HX3.out.on hb4); clear k0 k1 k2 k3 k4 k5 k6 k7 k8 k9 k10 k11 k12 k13; obtain ⟨k0, k1, k2, k3, k4, k5, k6, k7, k8, k9, k10, k11, k12, k13⟩ := xs14 HX4.out; clear hb4))
                  go_ret
                  exact ⟨rfl, HB4.out⟩
                | false =>
                  cases h9 : bt x.s x.cm (ndLast x) with
                  | false =>
                    have HR := hide (show ndOk x = false by simp only [ndOk, ndHd, ndNum_eq HT0.out, h1, h2, h3, h4, h5, h6, h7, h8, h9, Bool.and_true, Bool.and_false, Bool.false_and, Bool.true_and, Bool.not_true, Bool.not_false])
                    rw [HR.out]
                    have W1 := hide (l01In_is h1)
                    have HC2 := HCK.out
                    rw [h2] at HC2
                    have HC2 := hide HC2
                    have HL3 := fun w h => specLogOk_any x.s x.u S.oe x.es.length S.ce x.es w h HSZ.out
                    rw [h3] at HL3
                    have HL3 := hide HL3
                    have W4 := hide (l01In_is h4)
                    have W5 := hide (l01In_is h5)
                    have W6 := hide (l01In_is h6)
                    have W7 := hide (l01In_is h7)
                    have q8 := h8
                    have Q8 := hide h8
                    have W9 := hide (l01In_is h9)
                    rw [show ndLast x = x.s + x.es.length from rfl] at W9
                    clear h1 h2 h3 h4 h5 h6 h7 h9 HCK
                    go_enter Try.func7, Try.ntmps7
                    go_wp2_with (first | (go_at_call 23; (first | with_reducible refine (W1.out _).mono ?_ | with_reducible refine (W4.out _).mono ?_ | with_reducible refine (W5.out _).mono ?_ | with_reducible refine (W6.out _).mono ?_ | with_reducible refine (W7.out _).mono ?_ | with_reducible refine (W9.out _).mono ?_); rintro e w9 ⟨rfl, rfl⟩) | (go_at_call 24; refine HC2.out.mono ?_; rintro e w2 ⟨rfl, hd2⟩; have HB2 := hide (HB0.out.trans (hd2.below.mono HB0.out.size)); have HX2 := hide (HX0.out.on hd2.below); obtain ⟨k0, k1, k2, k3, k4, k5, k6, k7, k8, k9, k10, k11, k12, k13⟩ := xs14 HX2.out; clear hd2) | (go_at_call 25; refine (HL3.out _ (HAT.out.e.below HB2.out)).mono ?_; rintro e w3 ⟨rfl, hb3⟩; have HB3 := hide (HB2.out.trans (hb3.mono HB2.out.size)); have HX3 := hide (HX2.out.on hb3); clear k0 k1 k2 k3 k4 k5 k6 k7 k8 k9 k10 k11 k12 k13; obtain ⟨k0, k1, k2, k3, k4, k5, k6, k7, k8, k9, k10, k11, k12, k13⟩ := xs14 HX3.out; clear hb3) | (go_at_call 26; refine (HLL.out _ (HAT.out.e.below HB3.out)).mono ?_; rintro e w4 ⟨rfl, hb4⟩; have HB4 := hide (HB3.out.trans (hb4.mono HB3.out.size)); have HX4 := hide (HX3.out.on hb4); clear k0 k1 k2 k3 k4 k5 k6 k7 k8 k9 k10 k11 k12 k13; obtain ⟨k0, k1, k2, k3, k4, k5, k6, k7, k8, k9, k10, k11, k12, k13⟩ := xs14 HX4.out; clear hb4))
                    go_ret
                    exact ⟨rfl, HB4.out⟩
                  | true =>
                    cases h10 : bt 0 x.ck 20 with
                    | false =>
                      have HR := hide (show ndOk x = false by simp only [ndOk, ndHd, ndNum_eq HT0.out, h1, h2, h3, h4, h5, h6, h7, h8, h9, h10, Bool.and_true, Bool.and_false, Bool.false_and, Bool.true_and, Bool.not_true, Bool.not_false])
                      rw [HR.out]
                      have W1 := hide (l01In_is h1)
                      have HC2 := HCK.out
                      rw [h2] at HC2
                      have HC2 := hide HC2
                      have HL3 := fun w h => specLogOk_any x.s x.u S.oe x.es.length S.ce x.es w h HSZ.out
                      rw [h3] at HL3
                      have HL3 := hide HL3
                      have W4 := hide (l01In_is h4)
                      have W5 := hide (l01In_is h5)
                      have W6 := hide (l01In_is h6)
                      have W7 := hide (l01In_is h7)
                      have q8 := h8
                      have Q8 := hide h8
                      have W9 := hide (l01In_is h9)
                      rw [show ndLast x = x.s + x.es.length from rfl] at W9
                      have W10 := hide (l01In_is h10)
                      clear h1 h2 h3 h4 h5 h6 h7 h9 h10 HCK
                      go_enter Try.func7, Try.ntmps7
                      go_wp2_with (first | (go_at_call 23; (first | with_reducible refine (W1.out _).mono ?_ | with_reducible refine (W4.out _).mono ?_ | with_reducible refine (W5.out _).mono ?_ | with_reducible refine (W6.out _).mono ?_ | with_reducible refine (W7.out _).mono ?_ | with_reducible refine (W9.out _).mono ?_ | with_reducible refine (W10.out _).mono ?_); rintro e w9 ⟨rfl, rfl⟩) | (go_at_call 24; refine HC2.out.mono ?_; rintro e w2 ⟨rfl, hd2⟩; have HB2 := hide (HB0.out.trans (hd2.below.mono HB0.out.size)); have HX2 := hide (HX0.out.on hd2.below); obtain ⟨k0, k1, k2, k3, k4, k5, k6, k7, k8, k9, k10, k11, k12, k13⟩ := xs14 HX2.out; clear hd2) | (go_at_call 25; refine (HL3.out _ (HAT.out.e.below HB2.out)).mono ?_; rintro e w3 ⟨rfl, hb3⟩; have HB3 := hide (HB2.out.trans (hb3.mono HB2.out.size)); have HX3 := hide (HX2.out.on hb3); clear k0 k1 k2 k3 k4 k5 k6 k7 k8 k9 k10 k11 k12 k13; obtain ⟨k0, k1, k2, k3, k4, k5, k6, k7, k8, k9, k10, k11, k12, k13⟩ := xs14 HX3.out; clear hb3) | (go_at_call 26; refine (HLL.out _ (HAT.out.e.below HB3.out)).mono ?_; rintro e w4 ⟨rfl, hb4⟩; have HB4 := hide (HB3.out.trans (hb4.mono HB3.out.size)); have HX4 := hide (HX3.out.on hb4); clear k0 k1 k2 k3 k4 k5 k6 k7 k8 k9 k10 k11 k12 k13; obtain ⟨k0, k1, k2, k3, k4, k5, k6, k7, k8, k9, k10, k11, k12, k13⟩ := xs14 HX4.out; clear hb4))
                      go_ret
                      exact ⟨rfl, HB4.out⟩
                    | true =>
                      cases h11 : bt 1 x.lm 20 with
                      | false =>
                        have HR := hide (show ndOk x = false by simp only [ndOk, ndHd, ndNum_eq HT0.out, h1, h2, h3, h4, h5, h6, h7, h8, h9, h10, h11, Bool.and_true, Bool.and_false, Bool.false_and, Bool.true_and, Bool.not_true, Bool.not_false])
                        rw [HR.out]
                        have W1 := hide (l01In_is h1)
                        have HC2 := HCK.out
                        rw [h2] at HC2
                        have HC2 := hide HC2
                        have HL3 := fun w h => specLogOk_any x.s x.u S.oe x.es.length S.ce x.es w h HSZ.out
                        rw [h3] at HL3
                        have HL3 := hide HL3
                        have W4 := hide (l01In_is h4)
                        have W5 := hide (l01In_is h5)
                        have W6 := hide (l01In_is h6)
                        have W7 := hide (l01In_is h7)
                        have q8 := h8
                        have Q8 := hide h8
                        have W9 := hide (l01In_is h9)
                        rw [show ndLast x = x.s + x.es.length from rfl] at W9
                        have W10 := hide (l01In_is h10)
                        have W11 := hide (l01In_is h11)
                        clear h1 h2 h3 h4 h5 h6 h7 h9 h10 h11 HCK
                        go_enter Try.func7, Try.ntmps7
                        go_wp2_with (first | (go_at_call 23; (first | with_reducible refine (W1.out _).mono ?_ | with_reducible refine (W4.out _).mono ?_ | with_reducible refine (W5.out _).mono ?_ | with_reducible refine (W6.out _).mono ?_ | with_reducible refine (W7.out _).mono ?_ | with_reducible refine (W9.out _).mono ?_ | with_reducible refine (W10.out _).mono ?_ | with_reducible refine (W11.out _).mono ?_); rintro e w9 ⟨rfl, rfl⟩) | (go_at_call 24; refine HC2.out.mono ?_; rintro e w2 ⟨rfl, hd2⟩; have HB2 := hide (HB0.out.trans (hd2.below.mono HB0.out.size)); have HX2 := hide (HX0.out.on hd2.below); obtain ⟨k0, k1, k2, k3, k4, k5, k6, k7, k8, k9, k10, k11, k12, k13⟩ := xs14 HX2.out; clear hd2) | (go_at_call 25; refine (HL3.out _ (HAT.out.e.below HB2.out)).mono ?_; rintro e w3 ⟨rfl, hb3⟩; have HB3 := hide (HB2.out.trans (hb3.mono HB2.out.size)); have HX3 := hide (HX2.out.on hb3); clear k0 k1 k2 k3 k4 k5 k6 k7 k8 k9 k10 k11 k12 k13; obtain ⟨k0, k1, k2, k3, k4, k5, k6, k7, k8, k9, k10, k11, k12, k13⟩ := xs14 HX3.out; clear hb3) | (go_at_call 26; refine (HLL.out _ (HAT.out.e.below HB3.out)).mono ?_; rintro e w4 ⟨rfl, hb4⟩; have HB4 := hide (HB3.out.trans (hb4.mono HB3.out.size)); have HX4 := hide (HX3.out.on hb4); clear k0 k1 k2 k3 k4 k5 k6 k7 k8 k9 k10 k11 k12 k13; obtain ⟨k0, k1, k2, k3, k4, k5, k6, k7, k8, k9, k10, k11, k12, k13⟩ := xs14 HX4.out; clear hb4))
                        go_ret
                        exact ⟨rfl, HB4.out⟩
                      | true =>
                        cases h12 : riseF 1 4 none x.vs with
                        | false =>
                          have HR := hide (show ndOk x = false by simp only [ndOk, ndHd, ndNum_eq HT0.out, ndVot_eq2, h1, h2, h3, h4, h5, h6, h7, h8, h9, h10, h11, h12, Bool.and_true, Bool.and_false, Bool.false_and, Bool.true_and, Bool.not_true, Bool.not_false])
                          rw [HR.out]
                          have W1 := hide (l01In_is h1)
                          have HC2 := HCK.out
                          rw [h2] at HC2
                          have HC2 := hide HC2
                          have HL3 := fun w h => specLogOk_any x.s x.u S.oe x.es.length S.ce x.es w h HSZ.out
                          rw [h3] at HL3
                          have HL3 := hide HL3
                          have W4 := hide (l01In_is h4)
                          have W5 := hide (l01In_is h5)
                          have W6 := hide (l01In_is h6)
                          have W7 := hide (l01In_is h7)
                          have q8 := h8
                          have Q8 := hide h8
                          have W9 := hide (l01In_is h9)
                          rw [show ndLast x = x.s + x.es.length from rfl] at W9
                          have W10 := hide (l01In_is h10)
                          have W11 := hide (l01In_is h11)
                          have HR12 := fun w h => l05Rise_any S.ov x.vs.length S.cv x.vs 1 4 w h
                          rw [h12] at HR12
                          have HR12 := hide HR12
                          clear h1 h2 h3 h4 h5 h6 h7 h9 h10 h11 h12 HCK
                          go_enter Try.func7, Try.ntmps7
                          go_wp2_with (first | (go_at_call 23; (first | with_reducible refine (W1.out _).mono ?_ | with_reducible refine (W4.out _).mono ?_ | with_reducible refine (W5.out _).mono ?_ | with_reducible refine (W6.out _).mono ?_ | with_reducible refine (W7.out _).mono ?_ | with_reducible refine (W9.out _).mono ?_ | with_reducible refine (W10.out _).mono ?_ | with_reducible refine (W11.out _).mono ?_); rintro e w9 ⟨rfl, rfl⟩) | (go_at_call 24; refine HC2.out.mono ?_; rintro e w2 ⟨rfl, hd2⟩; have HB2 := hide (HB0.out.trans (hd2.below.mono HB0.out.size)); have HX2 := hide (HX0.out.on hd2.below); obtain ⟨k0, k1, k2, k3, k4, k5, k6, k7, k8, k9, k10, k11, k12, k13⟩ := xs14 HX2.out; clear hd2) | (go_at_call 25; refine (HL3.out _ (HAT.out.e.below HB2.out)).mono ?_; rintro e w3 ⟨rfl, hb3⟩; have HB3 := hide (HB2.out.trans (hb3.mono HB2.out.size)); have HX3 := hide (HX2.out.on hb3); clear k0 k1 k2 k3 k4 k5 k6 k7 k8 k9 k10 k11 k12 k13; obtain ⟨k0, k1, k2, k3, k4, k5, k6, k7, k8, k9, k10, k11, k12, k13⟩ := xs14 HX3.out; clear hb3) | (go_at_call 26; refine (HLL.out _ (HAT.out.e.below HB3.out)).mono ?_; rintro e w4 ⟨rfl, hb4⟩; have HB4 := hide (HB3.out.trans (hb4.mono HB3.out.size)); have HX4 := hide (HX3.out.on hb4); clear k0 k1 k2 k3 k4 k5 k6 k7 k8 k9 k10 k11 k12 k13; obtain ⟨k0, k1, k2, k3, k4, k5, k6, k7, k8, k9, k10, k11, k12, k13⟩ := xs14 HX4.out; clear hb4) | (go_at_call 27; refine (HR12.out _ (HAT.out.v.below HB4.out)).mono ?_; rintro e w5 ⟨rfl, hd5⟩; have HB5 := hide (HB4.out.trans (hd5.below.mono HB4.out.size)); have HX5 := hide (HX4.out.on hd5.below); have hz5 := HX5.out.lt; clear k0 k1 k2 k3 k4 k5 k6 k7 k8 k9 k10 k11 k12 k13; obtain ⟨k0, k1, k2, k3, k4, k5, k6, k7, k8, k9, k10, k11, k12, k13⟩ := xs14 HX5.out; clear hd5))
                          go_ret
                          exact ⟨rfl, HB5.out⟩
                        | true =>
                          cases h13 : decide (0 < x.vs.length) with
                          | true =>
                            cases h14 : decide (x.ro = 1) with
                            | false =>
                              have HR := hide (show ndOk x = false by simp only [ndOk, ndHd, ndNum_eq HT0.out, ndVot_eq2, h1, h2, h3, h4, h5, h6, h7, h8, h9, h10, h11, h12, h13, h14, Bool.and_true, Bool.and_false, Bool.false_and, Bool.true_and, Bool.not_true, Bool.not_false])
                              rw [HR.out]
                              have W1 := hide (l01In_is h1)
                              have HC2 := HCK.out
                              rw [h2] at HC2
                              have HC2 := hide HC2
                              have HL3 := fun w h => specLogOk_any x.s x.u S.oe x.es.length S.ce x.es w h HSZ.out
                              rw [h3] at HL3
                              have HL3 := hide HL3
                              have W4 := hide (l01In_is h4)
                              have W5 := hide (l01In_is h5)
                              have W6 := hide (l01In_is h6)
                              have W7 := hide (l01In_is h7)
                              have q8 := h8
                              have Q8 := hide h8
                              have W9 := hide (l01In_is h9)
                              rw [show ndLast x = x.s + x.es.length from rfl] at W9
                              have W10 := hide (l01In_is h10)
                              have W11 := hide (l01In_is h11)
                              have HR12 := fun w h => l05Rise_any S.ov x.vs.length S.cv x.vs 1 4 w h
                              rw [h12] at HR12
                              have HR12 := hide HR12
                              have v13 : decide (((x.vs.length : Nat) : Int) > 0) = decide (0 < x.vs.length) := by simp
                              rw [h13] at v13
                              have v14 : (x.ro == 1) = decide (x.ro = 1) := by by_cases h : x.ro = 1 <;> simp [h]
                              rw [h14] at v14
                              clear h1 h2 h3 h4 h5 h6 h7 h9 h10 h11 h12 HCK
                              go_enter Try.func7, Try.ntmps7
                              go_wp2_with (first | (go_at_call 23; (first | with_reducible refine (W1.out _).mono ?_ | with_reducible refine (W4.out _).mono ?_ | with_reducible refine (W5.out _).mono ?_ | with_reducible refine (W6.out _).mono ?_ | with_reducible refine (W7.out _).mono ?_ | with_reducible refine (W9.out _).mono ?_ | with_reducible refine (W10.out _).mono ?_ | with_reducible refine (W11.out _).mono ?_); rintro e w9 ⟨rfl, rfl⟩) | (go_at_call 24; refine HC2.out.mono ?_; rintro e w2 ⟨rfl, hd2⟩; have HB2 := hide (HB0.out.trans (hd2.below.mono HB0.out.size)); have HX2 := hide (HX0.out.on hd2.below); obtain ⟨k0, k1, k2, k3, k4, k5, k6, k7, k8, k9, k10, k11, k12, k13⟩ := xs14 HX2.out; clear hd2) | (go_at_call 25; refine (HL3.out _ (HAT.out.e.below HB2.out)).mono ?_; rintro e w3 ⟨rfl, hb3⟩; have HB3 := hide (HB2.out.trans (hb3.mono HB2.out.size)); have HX3 := hide (HX2.out.on hb3); clear k0 k1 k2 k3 k4 k5 k6 k7 k8 k9 k10 k11 k12 k13; obtain ⟨k0, k1, k2, k3, k4, k5, k6, k7, k8, k9, k10, k11, k12, k13⟩ := xs14 HX3.out; clear hb3) | (go_at_call 26; refine (HLL.out _ (HAT.out.e.below HB3.out)).mono ?_; rintro e w4 ⟨rfl, hb4⟩; have HB4 := hide (HB3.out.trans (hb4.mono HB3.out.size)); have HX4 := hide (HX3.out.on hb4); clear k0 k1 k2 k3 k4 k5 k6 k7 k8 k9 k10 k11 k12 k13; obtain ⟨k0, k1, k2, k3, k4, k5, k6, k7, k8, k9, k10, k11, k12, k13⟩ := xs14 HX4.out; clear hb4) | (go_at_call 27; refine (HR12.out _ (HAT.out.v.below HB4.out)).mono ?_; rintro e w5 ⟨rfl, hd5⟩; have HB5 := hide (HB4.out.trans (hd5.below.mono HB4.out.size)); have HX5 := hide (HX4.out.on hd5.below); have hz5 := HX5.out.lt; clear k0 k1 k2 k3 k4 k5 k6 k7 k8 k9 k10 k11 k12 k13; obtain ⟨k0, k1, k2, k3, k4, k5, k6, k7, k8, k9, k10, k11, k12, k13⟩ := xs14 HX5.out; clear hd5))
                              go_ret
                              exact ⟨rfl, HB5.out⟩
                            | true =>
                              have HR := hide (show ndOk x = ndPrs x by simp only [ndOk, ndHd, ndNum_eq HT0.out, ndVot_eq2, h1, h2, h3, h4, h5, h6, h7, h8, h9, h10, h11, h12, h13, h14, Bool.and_true, Bool.and_false, Bool.false_and, Bool.true_and, Bool.not_true, Bool.not_false])
                              rw [HR.out]
                              have hco : confOk (ndCf x) = true := cfGo_ok _ _ h2 HOK.out
                              have HCO := hide (fun w h => specConfOf_any x S s0 s1 hn (by have := confOk_len h2; omega) HOK.out HSZ.out w h)
                              have HCW := hide (confOk_wf16 hco)
                              have HCL := hide (confOk_len hco)
                              have HWF := hide (show ∀ z ∈ othI (ndCf x) x.id, (Lit.int .i64 z).wf = true from fun z hz => confOk_wf16 hco z (List.mem_filter.1 hz).1)
                              have W1 := hide (l01In_is h1)
                              have HC2 := HCK.out
                              rw [h2] at HC2
                              have HC2 := hide HC2
                              have HL3 := fun w h => specLogOk_any x.s x.u S.oe x.es.length S.ce x.es w h HSZ.out
                              rw [h3] at HL3
                              have HL3 := hide HL3
                              have W4 := hide (l01In_is h4)
                              have W5 := hide (l01In_is h5)
                              have W6 := hide (l01In_is h6)
                              have W7 := hide (l01In_is h7)
                              have q8 := h8
                              have Q8 := hide h8
                              have W9 := hide (l01In_is h9)
                              rw [show ndLast x = x.s + x.es.length from rfl] at W9
                              have W10 := hide (l01In_is h10)
                              have W11 := hide (l01In_is h11)
                              have HR12 := fun w h => l05Rise_any S.ov x.vs.length S.cv x.vs 1 4 w h
                              rw [h12] at HR12
                              have HR12 := hide HR12
                              have v13 : decide (((x.vs.length : Nat) : Int) > 0) = decide (0 < x.vs.length) := by simp
                              rw [h13] at v13
                              have v14 : (x.ro == 1) = decide (x.ro = 1) := by by_cases h : x.ro = 1 <;> simp [h]
                              rw [h14] at v14
                              clear h1 h2 h3 h4 h5 h6 h7 h9 h10 h11 h12 HCK
                              clear hco
                              by_cases hro : x.ro = 2
                              · exact absurd (of_decide_eq_true h14) (by omega)
                              · have r1 : (x.ro == 2) = false := by simp [hro]
                                have HV0 := hide (show ndPrs x = prsOk (x.s + x.es.length) x.ps [] by simp only [ndPrs, ndIds, if_neg hro, ndLast])
                                rw [HV0.out]
                                have HRO := hide hro
                                clear hro HV0 HCO HCW HCL HWF
                                by_cases hlen : x.ps.length = 0
                                · have HV := hide (show prsOk (x.s + x.es.length) x.ps [] = true by unfold prsOk; rw [List.length_eq_zero_iff.1 hlen]; rfl)
                                  rw [HV.out]
                                  have l1 : (((x.ps.length : Nat) : Int) == 0) = true := beq_iff_eq.2 (by omega)
                                  have l2 : decide (((x.ps.length : Nat) : Int) = 0) = true := decide_eq_true (by omega)
                                  have l3 : (((x.ps.length : Nat) : Int) != 0) = false := by rw [bne, l1]; rfl
                                  have HLEN := hide hlen
                                  clear hlen HV
                                  go_enter Try.func7, Try.ntmps7
                                  go_wp2_with (first | (go_at_call 23; (first | with_reducible refine (W1.out _).mono ?_ | with_reducible refine (W4.out _).mono ?_ | with_reducible refine (W5.out _).mono ?_ | with_reducible refine (W6.out _).mono ?_ | with_reducible refine (W7.out _).mono ?_ | with_reducible refine (W9.out _).mono ?_ | with_reducible refine (W10.out _).mono ?_ | with_reducible refine (W11.out _).mono ?_); rintro e w9 ⟨rfl, rfl⟩) | (go_at_call 24; refine HC2.out.mono ?_; rintro e w2 ⟨rfl, hd2⟩; have HB2 := hide (HB0.out.trans (hd2.below.mono HB0.out.size)); have HX2 := hide (HX0.out.on hd2.below); obtain ⟨k0, k1, k2, k3, k4, k5, k6, k7, k8, k9, k10, k11, k12, k13⟩ := xs14 HX2.out; clear hd2) | (go_at_call 25; refine (HL3.out _ (HAT.out.e.below HB2.out)).mono ?_; rintro e w3 ⟨rfl, hb3⟩; have HB3 := hide (HB2.out.trans (hb3.mono HB2.out.size)); have HX3 := hide (HX2.out.on hb3); clear k0 k1 k2 k3 k4 k5 k6 k7 k8 k9 k10 k11 k12 k13; obtain ⟨k0, k1, k2, k3, k4, k5, k6, k7, k8, k9, k10, k11, k12, k13⟩ := xs14 HX3.out; clear hb3) | (go_at_call 26; refine (HLL.out _ (HAT.out.e.below HB3.out)).mono ?_; rintro e w4 ⟨rfl, hb4⟩; have HB4 := hide (HB3.out.trans (hb4.mono HB3.out.size)); have HX4 := hide (HX3.out.on hb4); clear k0 k1 k2 k3 k4 k5 k6 k7 k8 k9 k10 k11 k12 k13; obtain ⟨k0, k1, k2, k3, k4, k5, k6, k7, k8, k9, k10, k11, k12, k13⟩ := xs14 HX4.out; clear hb4) | (go_at_call 27; refine (HR12.out _ (HAT.out.v.below HB4.out)).mono ?_; rintro e w5 ⟨rfl, hd5⟩; have HB5 := hide (HB4.out.trans (hd5.below.mono HB4.out.size)); have HX5 := hide (HX4.out.on hd5.below); have hz5 := HX5.out.lt; clear k0 k1 k2 k3 k4 k5 k6 k7 k8 k9 k10 k11 k12 k13; obtain ⟨k0, k1, k2, k3, k4, k5, k6, k7, k8, k9, k10, k11, k12, k13⟩ := xs14 HX5.out; clear hd5))
                                  have HBA := hide (HB5.out.alloc HB5.out.size (.cells #[] 3))
                                  go_loopw [6] (fun i wr => i = .int .i64 0 ∧ Below w.heap.size w wr) (fun i _ => 0)
                                  case atStart => exact ⟨rfl, HBA.out⟩
                                  case round =>
                                    obtain ⟨rfl, hbel⟩ := hrel
                                    go_wp2_with fail
                                    go_ret
                                    exact ⟨rfl, hbel⟩
                                · have HV := hide (show prsOk (x.s + x.es.length) x.ps [] = false by unfold prsOk; rw [decide_eq_false (by simpa using hlen), Bool.false_and])
                                  rw [HV.out]
                                  have l1 : (((x.ps.length : Nat) : Int) == 0) = false := beq_eq_false_iff_ne.2 (by omega)
                                  have l2 : decide (((x.ps.length : Nat) : Int) = 0) = false := decide_eq_false (by omega)
                                  have l3 : (((x.ps.length : Nat) : Int) != 0) = true := by rw [bne, l1]; rfl
                                  have HLEN := hide hlen
                                  clear hlen HV
                                  go_enter Try.func7, Try.ntmps7
                                  go_wp2_with (first | (go_at_call 23; (first | with_reducible refine (W1.out _).mono ?_ | with_reducible refine (W4.out _).mono ?_ | with_reducible refine (W5.out _).mono ?_ | with_reducible refine (W6.out _).mono ?_ | with_reducible refine (W7.out _).mono ?_ | with_reducible refine (W9.out _).mono ?_ | with_reducible refine (W10.out _).mono ?_ | with_reducible refine (W11.out _).mono ?_); rintro e w9 ⟨rfl, rfl⟩) | (go_at_call 24; refine HC2.out.mono ?_; rintro e w2 ⟨rfl, hd2⟩; have HB2 := hide (HB0.out.trans (hd2.below.mono HB0.out.size)); have HX2 := hide (HX0.out.on hd2.below); obtain ⟨k0, k1, k2, k3, k4, k5, k6, k7, k8, k9, k10, k11, k12, k13⟩ := xs14 HX2.out; clear hd2) | (go_at_call 25; refine (HL3.out _ (HAT.out.e.below HB2.out)).mono ?_; rintro e w3 ⟨rfl, hb3⟩; have HB3 := hide (HB2.out.trans (hb3.mono HB2.out.size)); have HX3 := hide (HX2.out.on hb3); clear k0 k1 k2 k3 k4 k5 k6 k7 k8 k9 k10 k11 k12 k13; obtain ⟨k0, k1, k2, k3, k4, k5, k6, k7, k8, k9, k10, k11, k12, k13⟩ := xs14 HX3.out; clear hb3) | (go_at_call 26; refine (HLL.out _ (HAT.out.e.below HB3.out)).mono ?_; rintro e w4 ⟨rfl, hb4⟩; have HB4 := hide (HB3.out.trans (hb4.mono HB3.out.size)); have HX4 := hide (HX3.out.on hb4); clear k0 k1 k2 k3 k4 k5 k6 k7 k8 k9 k10 k11 k12 k13; obtain ⟨k0, k1, k2, k3, k4, k5, k6, k7, k8, k9, k10, k11, k12, k13⟩ := xs14 HX4.out; clear hb4) | (go_at_call 27; refine (HR12.out _ (HAT.out.v.below HB4.out)).mono ?_; rintro e w5 ⟨rfl, hd5⟩; have HB5 := hide (HB4.out.trans (hd5.below.mono HB4.out.size)); have HX5 := hide (HX4.out.on hd5.below); have hz5 := HX5.out.lt; clear k0 k1 k2 k3 k4 k5 k6 k7 k8 k9 k10 k11 k12 k13; obtain ⟨k0, k1, k2, k3, k4, k5, k6, k7, k8, k9, k10, k11, k12, k13⟩ := xs14 HX5.out; clear hd5))
                                  go_ret
                                  exact ⟨rfl, HB5.out.alloc HB5.out.size _⟩
                          | false =>
                            have HR := hide (show ndOk x = ndPrs x by simp only [ndOk, ndHd, ndNum_eq HT0.out, ndVot_eq2, h1, h2, h3, h4, h5, h6, h7, h8, h9, h10, h11, h12, h13, Bool.and_true, Bool.and_false, Bool.false_and, Bool.true_and, Bool.not_true, Bool.not_false])
                            rw [HR.out]
                            have hco : confOk (ndCf x) = true := cfGo_ok _ _ h2 HOK.out
                            have HCO := hide (fun w h => specConfOf_any x S s0 s1 hn (by have := confOk_len h2; omega) HOK.out HSZ.out w h)
                            have HCW := hide (confOk_wf16 hco)
                            have HCL := hide (confOk_len hco)
                            have HWF := hide (show ∀ z ∈ othI (ndCf x) x.id, (Lit.int .i64 z).wf = true from fun z hz => confOk_wf16 hco z (List.mem_filter.1 hz).1)
                            have W1 := hide (l01In_is h1)
                            have HC2 := HCK.out
                            rw [h2] at HC2
                            have HC2 := hide HC2
                            have HL3 := fun w h => specLogOk_any x.s x.u S.oe x.es.length S.ce x.es w h HSZ.out
                            rw [h3] at HL3
                            have HL3 := hide HL3
                            have W4 := hide (l01In_is h4)
                            have W5 := hide (l01In_is h5)
                            have W6 := hide (l01In_is h6)
                            have W7 := hide (l01In_is h7)
                            have q8 := h8
                            have Q8 := hide h8
                            have W9 := hide (l01In_is h9)
                            rw [show ndLast x = x.s + x.es.length from rfl] at W9
                            have W10 := hide (l01In_is h10)
                            have W11 := hide (l01In_is h11)
                            have HR12 := fun w h => l05Rise_any S.ov x.vs.length S.cv x.vs 1 4 w h
                            rw [h12] at HR12
                            have HR12 := hide HR12
                            have v13 : decide (((x.vs.length : Nat) : Int) > 0) = decide (0 < x.vs.length) := by simp
                            rw [h13] at v13
                            clear h1 h2 h3 h4 h5 h6 h7 h9 h10 h11 h12 HCK
                            clear hco
                            by_cases hro : x.ro = 2
                            · have r1 : (x.ro == 2) = true := by simp [hro]
                              have HV0 := hide (show ndPrs x = prsOk (x.s + x.es.length) x.ps (othI (ndCf x) x.id) by simp only [ndPrs, ndIds, if_pos hro, ndLast])
                              rw [HV0.out]
                              have HRO := hide hro
                              clear hro HV0
                              have HOT := hide (fun (oa : Option Addr) (cap : Nat) w (h : IntsAt w oa (ndCf x).length cap (ndCf x)) => l16Others_any oa (ndCf x).length cap (ndCf x) x.id (by have := HCL.out; omega) w h)
                              generalize ndCf x = C at HCO HCW HCL HOT HWF ⊢
                              generalize othI C x.id = ids at HOT HWF ⊢
                              go_enter Try.func7, Try.ntmps7
                              go_wp2_with (first | (go_at_call 23; (first | with_reducible refine (W1.out _).mono ?_ | with_reducible refine (W4.out _).mono ?_ | with_reducible refine (W5.out _).mono ?_ | with_reducible refine (W6.out _).mono ?_ | with_reducible refine (W7.out _).mono ?_ | with_reducible refine (W9.out _).mono ?_ | with_reducible refine (W10.out _).mono ?_ | with_reducible refine (W11.out _).mono ?_); rintro e w9 ⟨rfl, rfl⟩) | (go_at_call 24; refine HC2.out.mono ?_; rintro e w2 ⟨rfl, hd2⟩; have HB2 := hide (HB0.out.trans (hd2.below.mono HB0.out.size)); have HX2 := hide (HX0.out.on hd2.below); obtain ⟨k0, k1, k2, k3, k4, k5, k6, k7, k8, k9, k10, k11, k12, k13⟩ := xs14 HX2.out; clear hd2) | (go_at_call 25; refine (HL3.out _ (HAT.out.e.below HB2.out)).mono ?_; rintro e w3 ⟨rfl, hb3⟩; have HB3 := hide (HB2.out.trans (hb3.mono HB2.out.size)); have HX3 := hide (HX2.out.on hb3); clear k0 k1 k2 k3 k4 k5 k6 k7 k8 k9 k10 k11 k12 k13; obtain ⟨k0, k1, k2, k3, k4, k5, k6, k7, k8, k9, k10, k11, k12, k13⟩ := xs14 HX3.out; clear hb3) | (go_at_call 26; refine (HLL.out _ (HAT.out.e.below HB3.out)).mono ?_; rintro e w4 ⟨rfl, hb4⟩; have HB4 := hide (HB3.out.trans (hb4.mono HB3.out.size)); have HX4 := hide (HX3.out.on hb4); clear k0 k1 k2 k3 k4 k5 k6 k7 k8 k9 k10 k11 k12 k13; obtain ⟨k0, k1, k2, k3, k4, k5, k6, k7, k8, k9, k10, k11, k12, k13⟩ := xs14 HX4.out; clear hb4) | (go_at_call 27; refine (HR12.out _ (HAT.out.v.below HB4.out)).mono ?_; rintro e w5 ⟨rfl, hd5⟩; have HB5 := hide (HB4.out.trans (hd5.below.mono HB4.out.size)); have HX5 := hide (HX4.out.on hd5.below); have hz5 := HX5.out.lt; clear k0 k1 k2 k3 k4 k5 k6 k7 k8 k9 k10 k11 k12 k13; obtain ⟨k0, k1, k2, k3, k4, k5, k6, k7, k8, k9, k10, k11, k12, k13⟩ := xs14 HX5.out; clear hd5))
                              clear k0 k1 k2 k3 k4 k5 k6 k7 k8 k9 k10 k11 k12 k13
                              have HBN := hide (HB5.out.alloc HB5.out.size (.cells #[] 3))
                              have HXN := hide (HX5.out.alloc (.cells #[] 3))
                              have y0 : ∀ w', XS w.heap.size (ndC x S) 36 w' → w'.cell? ⟨w.heap.size, 0, none⟩ = some (.int .i64 x.id) := fun w' h => h.cell 0 rfl
                              have y1 : ∀ w', XS w.heap.size (ndC x S) 36 w' → w'.cell? ⟨w.heap.size, 1, none⟩ = some (.int .i64 x.tm) := fun w' h => h.cell 1 rfl
                              have y2 : ∀ w', XS w.heap.size (ndC x S) 36 w' → w'.cell? ⟨w.heap.size, 2, none⟩ = some (.int .i64 x.vt) := fun w' h => h.cell 2 rfl
                              have y3 : ∀ w', XS w.heap.size (ndC x S) 36 w' → w'.cell? ⟨w.heap.size, 3, none⟩ = some (.int .i64 x.ro) := fun w' h => h.cell 3 rfl
                              have y4 : ∀ w', XS w.heap.size (ndC x S) 36 w' → w'.cell? ⟨w.heap.size, 4, none⟩ = some (.int .i64 x.ld) := fun w' h => h.cell 4 rfl
                              have y5 : ∀ w', XS w.heap.size (ndC x S) 36 w' → w'.cell? ⟨w.heap.size, 5, none⟩ = some (.slice S.oc x.cf.length S.cc) := fun w' h => h.cell 5 rfl
                              have y6 : ∀ w', XS w.heap.size (ndC x S) 36 w' → w'.cell? ⟨w.heap.size, 6, none⟩ = some (.int .i64 x.s) := fun w' h => h.cell 6 rfl
                              have y7 : ∀ w', XS w.heap.size (ndC x S) 36 w' → w'.cell? ⟨w.heap.size, 7, none⟩ = some (.int .i64 x.u) := fun w' h => h.cell 7 rfl
                              have y8 : ∀ w', XS w.heap.size (ndC x S) 36 w' → w'.cell? ⟨w.heap.size, 8, none⟩ = some (.slice S.oe x.es.length S.ce) := fun w' h => h.cell 8 rfl
                              have y9 : ∀ w', XS w.heap.size (ndC x S) 36 w' → w'.cell? ⟨w.heap.size, 9, none⟩ = some (.int .i64 x.cm) := fun w' h => h.cell 9 rfl
                              have y10 : ∀ w', XS w.heap.size (ndC x S) 36 w' → w'.cell? ⟨w.heap.size, 10, none⟩ = some (.int .i64 x.ck) := fun w' h => h.cell 10 rfl
                              have y11 : ∀ w', XS w.heap.size (ndC x S) 36 w' → w'.cell? ⟨w.heap.size, 11, none⟩ = some (.int .i64 x.lm) := fun w' h => h.cell 11 rfl
                              have y12 : ∀ w', XS w.heap.size (ndC x S) 36 w' → w'.cell? ⟨w.heap.size, 12, none⟩ = some (.slice S.ov x.vs.length S.cv) := fun w' h => h.cell 12 rfl
                              have y13 : ∀ w', XS w.heap.size (ndC x S) 36 w' → w'.cell? ⟨w.heap.size, 13, none⟩ = some (.slice S.op x.ps.length S.cp) := fun w' h => h.cell 13 rfl
                              go_region_held3 (fun w' => XS w.heap.size (ndC x S) 36 w') (first | exact HXN.out | exact HXN.out.drew | exact HXN.out.drew.on hbA | exact (HXN.out.drew.on hbA).on hbB)
                                (first
                                  | (go_at_call 29; refine (HCO.out _ (HAT.out.below HBN.out.drew)).mono ?_; rintro e wA ⟨vA, rfl, hoA, hbA⟩; obtain ⟨oA, cA, hvA⟩ := own_form3 hoA; subst hvA; obtain ⟨_, _, heA, hatA⟩ := intsAt_of_own hoA HCW.out; cases heA; have HIA := hide hatA; clear hoA hatA)
                                  | (go_at_call 28; refine (HOT.out _ _ _ HIA.out).mono ?_; rintro e wB ⟨vB, rfl, hoB, hbB⟩; obtain ⟨oB, cB, hvB⟩ := own_form3 hoB; subst hvB; obtain ⟨_, _, heB, hatB⟩ := intsAt_of_own hoB HWF.out; cases heB; have HIB := hide hatB; clear hoB hatB))
                              have HBB := hide ((HBN.out.drew.trans (hbA.mono HBN.out.drew.size)).trans (hbB.mono (Nat.le_trans HBN.out.drew.size hbA.size)))
                              have HXB := hide ((HXN.out.drew.on hbA).on hbB)
                              clear hbA hbB y0 y1 y2 y3 y4 y5 y6 y7 y8 y9 y10 y11 y12 y13
                              obtain ⟨k0, k1, k2, k3, k4, k5, k6, k7, k8, k9, k10, k11, k12, k13⟩ := xs14 HXB.out
                              by_cases hlen : x.ps.length = ids.length
                              · have HV := hide (show prsOk (x.s + x.es.length) x.ps ids = prsGo (x.s + x.es.length) x.ps ids by unfold prsOk; rw [decide_eq_true hlen, Bool.true_and])
                                have l1 : (((x.ps.length : Nat) : Int) == ((ids.length : Nat) : Int)) = true := beq_iff_eq.2 (by omega)
                                have l2 : decide (((x.ps.length : Nat) : Int) = ((ids.length : Nat) : Int)) = true := decide_eq_true (by omega)
                                have l3 : (((x.ps.length : Nat) : Int) != ((ids.length : Nat) : Int)) = false := by rw [bne, l1]; rfl
                                have HLEN := hide hlen
                                clear hlen
                                go_wp2_with fail
                                clear k0 k1 k2 k3 k4 k5 k6 k7 k8 k9 k10 k11 k12 k13 l1 l2 l3
                                go_loopw [6] (fun i wr => ∃ (j : Nat), i = .int .i64 (j : Int) ∧ j ≤ x.ps.length ∧ prsGo (x.s + x.es.length) (x.ps.drop j) (ids.drop j) = prsGo (x.s + x.es.length) x.ps ids ∧ XS w.heap.size (ndC x S) 36 wr ∧ IntsAt wr oB ids.length cB ids ∧ Below w.heap.size w wr) (fun i _ => x.ps.length - (intOf i).toNat)
                                case atStart => exact ⟨0, rfl, Nat.zero_le _, rfl, HXB.out, HIB.out, HBB.out⟩
                                case round =>
                                  obtain ⟨j, rfl, hj, hgo, hX, hin, hbel⟩ := hrel
                                  have hbs := hbel.size
                                  have k13 := hX.cell 13 rfl
                                  have HXW := hide hX
                                  have hzw := hX.lt
                                  clear hX
                                  by_cases hlt : j < x.ps.length
                                  · have j0 : (j : Int) < (x.ps.length : Int) := by omega
                                    have j1 : (j : Int) < (ids.length : Int) := by rw [← HLEN.out]; exact j0
                                    obtain ⟨f, b, q, hf, hidx, hb, c0, c1', c2, c3⟩ := (HAT.out.p.below hbel).get4 Try.underlying34 infoIP j hlt
                                    obtain ⟨z, b2, q2, hz, hidx2, hb2, d0, hwz⟩ := hin.get Try.underlying22 infoI j (by rw [← HLEN.out]; exact hlt)
                                    rw [prsGo_at hf hz] at hgo
                                    clear hf hz hwz
                                    by_cases g1 : z = f.id
                                    · subst g1
                                      have w1x : IntKind.i64.wrap (x.s + x.es.length + 1) = x.s + x.es.length + 1 := by rw [IntKind.wrap_i64]; omega
                                      cases g2 : bt 1 f.nx (x.s + x.es.length + 1) with
                                      | false =>
                                        have HPR := hide (show prOk (x.s + x.es.length) f f.id = false by unfold prOk; rw [decide_eq_true rfl, show (decide (1 ≤ f.nx) && decide (f.nx ≤ x.s + x.es.length + 1)) = bt 1 f.nx (x.s + x.es.length + 1) from rfl, show (decide (0 ≤ f.mt) && decide (f.mt ≤ f.nx - 1)) = bt 0 f.mt (f.nx - 1) from rfl, show (decide (0 ≤ f.sn) && decide (f.sn ≤ 20000)) = bt 0 f.sn 20000 from rfl]; simp only [g2, Bool.and_true, Bool.and_false, Bool.false_and, Bool.true_and])
                                        have V2 := hide (l01In_is g2)
                                        have HGO := hide hgo
                                        clear hgo g2
                                        go_upto_region 15 with fail
                                        obtain ⟨W, hW⟩ : ∃ W, wr.alloc (.cells #[.int .i64 f.id, .int .i64 f.nx, .int .i64 f.mt, .int .i64 f.sn] 60) = W := ⟨_, rfl⟩
                                        have hXP : XS wr.heap.size #[.int .i64 f.id, .int .i64 f.nx, .int .i64 f.mt, .int .i64 f.sn] 60 W := by rw [← hW]; exact XS.new _ _ _
                                        have hBW : Below wr.heap.size wr W := by rw [← hW]; exact (Below.refl _ _).alloc (Nat.le_refl _) _
                                        have hcz := (hBW.cell (p := ⟨b2, q2, none⟩) hb2).trans d0
                                        rw [hW]
                                        have XP := hide hXP
                                        have BW := hide hBW
                                        have HCZ := hide hcz
                                        clear hW hXP hBW hcz hb hb2 c0 c1' c2 c3 d0 k13
                                        have y0 := XP.out.cell 0 rfl
                                        have y1 := XP.out.cell 1 rfl
                                        have y2 := XP.out.cell 2 rfl
                                        have y3 := XP.out.cell 3 rfl
                                        have y4 := HCZ.out
                                        go_quiet (first | (go_at_call 23; first | (with_reducible exact Calls.quiet_of_same (V2.out _))))
                                        clear y0 y1 y2 y3 y4
                                        go_wp2_with fail
                                        go_ret
                                        exact ⟨by rw [HV.out, ← HGO.out, HPR.out]; rfl, hbel.trans ((below_drewN BW.out _).mono hbs)⟩
                                      | true =>
                                        have w2x : 1 ≤ f.nx ∧ f.nx ≤ 2000000 → IntKind.i64.wrap (f.nx - 1) = f.nx - 1 := by intro h; rw [IntKind.wrap_i64]; omega
                                        have n1 : 1 ≤ f.nx := by simp only [bt, Bool.and_eq_true, decide_eq_true_eq] at g2; exact g2.1
                                        have n2 : f.nx ≤ 2000000 := by simp only [bt, Bool.and_eq_true, decide_eq_true_eq] at g2; omega
                                        have w2y := w2x ⟨n1, n2⟩
                                        clear w2x
                                        cases g3 : bt 0 f.mt (f.nx - 1) with
                                        | false =>
                                          have HPR := hide (show prOk (x.s + x.es.length) f f.id = false by unfold prOk; rw [decide_eq_true rfl, show (decide (1 ≤ f.nx) && decide (f.nx ≤ x.s + x.es.length + 1)) = bt 1 f.nx (x.s + x.es.length + 1) from rfl, show (decide (0 ≤ f.mt) && decide (f.mt ≤ f.nx - 1)) = bt 0 f.mt (f.nx - 1) from rfl, show (decide (0 ≤ f.sn) && decide (f.sn ≤ 20000)) = bt 0 f.sn 20000 from rfl]; simp only [g2, g3, Bool.and_true, Bool.and_false, Bool.false_and, Bool.true_and])
                                          have V2 := hide (l01In_is g2)
                                          have V3 := hide (l01In_is g3)
                                          have HGO := hide hgo
                                          clear hgo g2 g3
                                          go_upto_region 15 with fail
                                          obtain ⟨W, hW⟩ : ∃ W, wr.alloc (.cells #[.int .i64 f.id, .int .i64 f.nx, .int .i64 f.mt, .int .i64 f.sn] 60) = W := ⟨_, rfl⟩
                                          have hXP : XS wr.heap.size #[.int .i64 f.id, .int .i64 f.nx, .int .i64 f.mt, .int .i64 f.sn] 60 W := by rw [← hW]; exact XS.new _ _ _
                                          have hBW : Below wr.heap.size wr W := by rw [← hW]; exact (Below.refl _ _).alloc (Nat.le_refl _) _
                                          have hcz := (hBW.cell (p := ⟨b2, q2, none⟩) hb2).trans d0
                                          rw [hW]
                                          have XP := hide hXP
                                          have BW := hide hBW
                                          have HCZ := hide hcz
                                          clear hW hXP hBW hcz hb hb2 c0 c1' c2 c3 d0 k13
                                          have y0 := XP.out.cell 0 rfl
                                          have y1 := XP.out.cell 1 rfl
                                          have y2 := XP.out.cell 2 rfl
                                          have y3 := XP.out.cell 3 rfl
                                          have y4 := HCZ.out
                                          go_quiet (first | (go_at_call 23; first | (with_reducible exact Calls.quiet_of_same (V2.out _)) | (with_reducible exact Calls.quiet_of_same (V3.out _))))
                                          clear y0 y1 y2 y3 y4
                                          go_wp2_with fail
                                          go_ret
                                          exact ⟨by rw [HV.out, ← HGO.out, HPR.out]; rfl, hbel.trans ((below_drewN BW.out _).mono hbs)⟩
                                        | true =>
                                          cases g4 : bt 0 f.sn (20000) with
                                          | false =>
                                            have HPR := hide (show prOk (x.s + x.es.length) f f.id = false by unfold prOk; rw [decide_eq_true rfl, show (decide (1 ≤ f.nx) && decide (f.nx ≤ x.s + x.es.length + 1)) = bt 1 f.nx (x.s + x.es.length + 1) from rfl, show (decide (0 ≤ f.mt) && decide (f.mt ≤ f.nx - 1)) = bt 0 f.mt (f.nx - 1) from rfl, show (decide (0 ≤ f.sn) && decide (f.sn ≤ 20000)) = bt 0 f.sn 20000 from rfl]; simp only [g2, g3, g4, Bool.and_true, Bool.and_false, Bool.false_and, Bool.true_and])
                                            have V2 := hide (l01In_is g2)
                                            have V3 := hide (l01In_is g3)
                                            have V4 := hide (l01In_is g4)
                                            have HGO := hide hgo
                                            clear hgo g2 g3 g4
                                            go_upto_region 15 with fail
                                            obtain ⟨W, hW⟩ : ∃ W, wr.alloc (.cells #[.int .i64 f.id, .int .i64 f.nx, .int .i64 f.mt, .int .i64 f.sn] 60) = W := ⟨_, rfl⟩
                                            have hXP : XS wr.heap.size #[.int .i64 f.id, .int .i64 f.nx, .int .i64 f.mt, .int .i64 f.sn] 60 W := by rw [← hW]; exact XS.new _ _ _
                                            have hBW : Below wr.heap.size wr W := by rw [← hW]; exact (Below.refl _ _).alloc (Nat.le_refl _) _
                                            have hcz := (hBW.cell (p := ⟨b2, q2, none⟩) hb2).trans d0
                                            rw [hW]
                                            have XP := hide hXP
                                            have BW := hide hBW
                                            have HCZ := hide hcz
                                            clear hW hXP hBW hcz hb hb2 c0 c1' c2 c3 d0 k13
                                            have y0 := XP.out.cell 0 rfl
                                            have y1 := XP.out.cell 1 rfl
                                            have y2 := XP.out.cell 2 rfl
                                            have y3 := XP.out.cell 3 rfl
                                            have y4 := HCZ.out
                                            go_quiet (first | (go_at_call 23; first | (with_reducible exact Calls.quiet_of_same (V2.out _)) | (with_reducible exact Calls.quiet_of_same (V3.out _)) | (with_reducible exact Calls.quiet_of_same (V4.out _))))
                                            clear y0 y1 y2 y3 y4
                                            go_wp2_with fail
                                            go_ret
                                            exact ⟨by rw [HV.out, ← HGO.out, HPR.out]; rfl, hbel.trans ((below_drewN BW.out _).mono hbs)⟩
                                          | true =>
                                            have HPR := hide (show prOk (x.s + x.es.length) f f.id = true by unfold prOk; rw [decide_eq_true rfl, show (decide (1 ≤ f.nx) && decide (f.nx ≤ x.s + x.es.length + 1)) = bt 1 f.nx (x.s + x.es.length + 1) from rfl, show (decide (0 ≤ f.mt) && decide (f.mt ≤ f.nx - 1)) = bt 0 f.mt (f.nx - 1) from rfl, show (decide (0 ≤ f.sn) && decide (f.sn ≤ 20000)) = bt 0 f.sn 20000 from rfl]; simp only [g2, g3, g4, Bool.and_true, Bool.and_false, Bool.false_and, Bool.true_and])
                                            have V2 := hide (l01In_is g2)
                                            have V3 := hide (l01In_is g3)
                                            have V4 := hide (l01In_is g4)
                                            have HGO := hide hgo
                                            clear hgo g2 g3 g4
                                            go_upto_region 15 with fail
                                            obtain ⟨W, hW⟩ : ∃ W, wr.alloc (.cells #[.int .i64 f.id, .int .i64 f.nx, .int .i64 f.mt, .int .i64 f.sn] 60) = W := ⟨_, rfl⟩
                                            have hXP : XS wr.heap.size #[.int .i64 f.id, .int .i64 f.nx, .int .i64 f.mt, .int .i64 f.sn] 60 W := by rw [← hW]; exact XS.new _ _ _
                                            have hBW : Below wr.heap.size wr W := by rw [← hW]; exact (Below.refl _ _).alloc (Nat.le_refl _) _
                                            have hcz := (hBW.cell (p := ⟨b2, q2, none⟩) hb2).trans d0
                                            rw [hW]
                                            have XP := hide hXP
                                            have BW := hide hBW
                                            have HCZ := hide hcz
                                            clear hW hXP hBW hcz hb hb2 c0 c1' c2 c3 d0 k13
                                            have y0 := XP.out.cell 0 rfl
                                            have y1 := XP.out.cell 1 rfl
                                            have y2 := XP.out.cell 2 rfl
                                            have y3 := XP.out.cell 3 rfl
                                            have y4 := HCZ.out
                                            go_quiet (first | (go_at_call 23; first | (with_reducible exact Calls.quiet_of_same (V2.out _)) | (with_reducible exact Calls.quiet_of_same (V3.out _)) | (with_reducible exact Calls.quiet_of_same (V4.out _))))
                                            clear y0 y1 y2 y3 y4
                                            go_wp2_with fail
                                            go_roundw
                                            case rel => exact ⟨j + 1, by go_num, by omega, by rw [← HGO.out, HPR.out]; rfl, HXW.out.on (below_drewN BW.out _), hin.below (below_drewN BW.out _), hbel.trans ((below_drewN BW.out _).mono hbs)⟩
                                            case measure => (simp [intOf] <;> omega)
                                    · skip
                                      have e1 : (f.id == z) = false := by simp; exact fun h => g1 h.symm
                                      have e2 : decide (f.id = z) = false := by simp; exact fun h => g1 h.symm
                                      have e3 : (f.id != z) = true := by rw [bne, e1]; rfl
                                      have HPR := hide (show prOk (x.s + x.es.length) f z = false by unfold prOk; rw [decide_eq_false (fun h => g1 h.symm)]; simp)
                                      have HGO := hide hgo
                                      clear hgo 
                                      go_upto_region 15 with fail
                                      obtain ⟨W, hW⟩ : ∃ W, wr.alloc (.cells #[.int .i64 f.id, .int .i64 f.nx, .int .i64 f.mt, .int .i64 f.sn] 60) = W := ⟨_, rfl⟩
                                      have hXP : XS wr.heap.size #[.int .i64 f.id, .int .i64 f.nx, .int .i64 f.mt, .int .i64 f.sn] 60 W := by rw [← hW]; exact XS.new _ _ _
                                      have hBW : Below wr.heap.size wr W := by rw [← hW]; exact (Below.refl _ _).alloc (Nat.le_refl _) _
                                      have hcz := (hBW.cell (p := ⟨b2, q2, none⟩) hb2).trans d0
                                      rw [hW]
                                      have XP := hide hXP
                                      have BW := hide hBW
                                      have HCZ := hide hcz
                                      clear hW hXP hBW hcz hb hb2 c0 c1' c2 c3 d0 k13
                                      have y0 := XP.out.cell 0 rfl
                                      have y1 := XP.out.cell 1 rfl
                                      have y2 := XP.out.cell 2 rfl
                                      have y3 := XP.out.cell 3 rfl
                                      have y4 := HCZ.out
                                      go_quiet (first | (go_at_call 23; first | fail))
                                      clear y0 y1 y2 y3 y4
                                      go_wp2_with fail
                                      go_ret
                                      exact ⟨by rw [HV.out, ← HGO.out, HPR.out]; rfl, hbel.trans ((below_drewN BW.out _).mono hbs)⟩
                                  · have hjn : j = x.ps.length := by omega
                                    have j1 : (ids.length : Int) ≤ (j : Int) := by rw [← HLEN.out]; omega
                                    rw [prsGo_end hjn] at hgo
                                    have HGO := hide hgo
                                    clear hgo hjn
                                    go_wp2_with fail
                                    go_ret
                                    exact ⟨by rw [HV.out, ← HGO.out]; rfl, hbel⟩
                              · have HV := hide (show prsOk (x.s + x.es.length) x.ps ids = false by unfold prsOk; rw [decide_eq_false hlen, Bool.false_and])
                                have l1 : (((x.ps.length : Nat) : Int) == ((ids.length : Nat) : Int)) = false := beq_eq_false_iff_ne.2 (by omega)
                                have l2 : decide (((x.ps.length : Nat) : Int) = ((ids.length : Nat) : Int)) = false := decide_eq_false (by omega)
                                have l3 : (((x.ps.length : Nat) : Int) != ((ids.length : Nat) : Int)) = true := by rw [bne, l1]; rfl
                                clear hlen
                                go_wp2_with fail
                                go_ret
                                exact ⟨by rw [HV.out]; rfl, HBB.out⟩
                            · have r1 : (x.ro == 2) = false := by simp [hro]
                              have HV0 := hide (show ndPrs x = prsOk (x.s + x.es.length) x.ps [] by simp only [ndPrs, ndIds, if_neg hro, ndLast])
                              rw [HV0.out]
                              have HRO := hide hro
                              clear hro HV0 HCO HCW HCL HWF
                              by_cases hlen : x.ps.length = 0
                              · have HV := hide (show prsOk (x.s + x.es.length) x.ps [] = true by unfold prsOk; rw [List.length_eq_zero_iff.1 hlen]; rfl)
                                rw [HV.out]
                                have l1 : (((x.ps.length : Nat) : Int) == 0) = true := beq_iff_eq.2 (by omega)
                                have l2 : decide (((x.ps.length : Nat) : Int) = 0) = true := decide_eq_true (by omega)
                                have l3 : (((x.ps.length : Nat) : Int) != 0) = false := by rw [bne, l1]; rfl
                                have HLEN := hide hlen
                                clear hlen HV
                                go_enter Try.func7, Try.ntmps7
                                go_wp2_with (first | (go_at_call 23; (first | with_reducible refine (W1.out _).mono ?_ | with_reducible refine (W4.out _).mono ?_ | with_reducible refine (W5.out _).mono ?_ | with_reducible refine (W6.out _).mono ?_ | with_reducible refine (W7.out _).mono ?_ | with_reducible refine (W9.out _).mono ?_ | with_reducible refine (W10.out _).mono ?_ | with_reducible refine (W11.out _).mono ?_); rintro e w9 ⟨rfl, rfl⟩) | (go_at_call 24; refine HC2.out.mono ?_; rintro e w2 ⟨rfl, hd2⟩; have HB2 := hide (HB0.out.trans (hd2.below.mono HB0.out.size)); have HX2 := hide (HX0.out.on hd2.below); obtain ⟨k0, k1, k2, k3, k4, k5, k6, k7, k8, k9, k10, k11, k12, k13⟩ := xs14 HX2.out; clear hd2) | (go_at_call 25; refine (HL3.out _ (HAT.out.e.below HB2.out)).mono ?_; rintro e w3 ⟨rfl, hb3⟩; have HB3 := hide (HB2.out.trans (hb3.mono HB2.out.size)); have HX3 := hide (HX2.out.on hb3); clear k0 k1 k2 k3 k4 k5 k6 k7 k8 k9 k10 k11 k12 k13; obtain ⟨k0, k1, k2, k3, k4, k5, k6, k7, k8, k9, k10, k11, k12, k13⟩ := xs14 HX3.out; clear hb3) | (go_at_call 26; refine (HLL.out _ (HAT.out.e.below HB3.out)).mono ?_; rintro e w4 ⟨rfl, hb4⟩; have HB4 := hide (HB3.out.trans (hb4.mono HB3.out.size)); have HX4 := hide (HX3.out.on hb4); clear k0 k1 k2 k3 k4 k5 k6 k7 k8 k9 k10 k11 k12 k13; obtain ⟨k0, k1, k2, k3, k4, k5, k6, k7, k8, k9, k10, k11, k12, k13⟩ := xs14 HX4.out; clear hb4) | (go_at_call 27; refine (HR12.out _ (HAT.out.v.below HB4.out)).mono ?_; rintro e w5 ⟨rfl, hd5⟩; have HB5 := hide (HB4.out.trans (hd5.below.mono HB4.out.size)); have HX5 := hide (HX4.out.on hd5.below); have hz5 := HX5.out.lt; clear k0 k1 k2 k3 k4 k5 k6 k7 k8 k9 k10 k11 k12 k13; obtain ⟨k0, k1, k2, k3, k4, k5, k6, k7, k8, k9, k10, k11, k12, k13⟩ := xs14 HX5.out; clear hd5))
                                have HBA := hide (HB5.out.alloc HB5.out.size (.cells #[] 3))
                                go_loopw [6] (fun i wr => i = .int .i64 0 ∧ Below w.heap.size w wr) (fun i _ => 0)
                                case atStart => exact ⟨rfl, HBA.out⟩
                                case round =>
                                  obtain ⟨rfl, hbel⟩ := hrel
                                  go_wp2_with fail
                                  go_ret
                                  exact ⟨rfl, hbel⟩
                              · have HV := hide (show prsOk (x.s + x.es.length) x.ps [] = false by unfold prsOk; rw [decide_eq_false (by simpa using hlen), Bool.false_and])
                                rw [HV.out]
                                have l1 : (((x.ps.length : Nat) : Int) == 0) = false := beq_eq_false_iff_ne.2 (by omega)
                                have l2 : decide (((x.ps.length : Nat) : Int) = 0) = false := decide_eq_false (by omega)
                                have l3 : (((x.ps.length : Nat) : Int) != 0) = true := by rw [bne, l1]; rfl
                                have HLEN := hide hlen
                                clear hlen HV
                                go_enter Try.func7, Try.ntmps7
                                go_wp2_with (first | (go_at_call 23; (first | with_reducible refine (W1.out _).mono ?_ | with_reducible refine (W4.out _).mono ?_ | with_reducible refine (W5.out _).mono ?_ | with_reducible refine (W6.out _).mono ?_ | with_reducible refine (W7.out _).mono ?_ | with_reducible refine (W9.out _).mono ?_ | with_reducible refine (W10.out _).mono ?_ | with_reducible refine (W11.out _).mono ?_); rintro e w9 ⟨rfl, rfl⟩) | (go_at_call 24; refine HC2.out.mono ?_; rintro e w2 ⟨rfl, hd2⟩; have HB2 := hide (HB0.out.trans (hd2.below.mono HB0.out.size)); have HX2 := hide (HX0.out.on hd2.below); obtain ⟨k0, k1, k2, k3, k4, k5, k6, k7, k8, k9, k10, k11, k12, k13⟩ := xs14 HX2.out; clear hd2) | (go_at_call 25; refine (HL3.out _ (HAT.out.e.below HB2.out)).mono ?_; rintro e w3 ⟨rfl, hb3⟩; have HB3 := hide (HB2.out.trans (hb3.mono HB2.out.size)); have HX3 := hide (HX2.out.on hb3); clear k0 k1 k2 k3 k4 k5 k6 k7 k8 k9 k10 k11 k12 k13; obtain ⟨k0, k1, k2, k3, k4, k5, k6, k7, k8, k9, k10, k11, k12, k13⟩ := xs14 HX3.out; clear hb3) | (go_at_call 26; refine (HLL.out _ (HAT.out.e.below HB3.out)).mono ?_; rintro e w4 ⟨rfl, hb4⟩; have HB4 := hide (HB3.out.trans (hb4.mono HB3.out.size)); have HX4 := hide (HX3.out.on hb4); clear k0 k1 k2 k3 k4 k5 k6 k7 k8 k9 k10 k11 k12 k13; obtain ⟨k0, k1, k2, k3, k4, k5, k6, k7, k8, k9, k10, k11, k12, k13⟩ := xs14 HX4.out; clear hb4) | (go_at_call 27; refine (HR12.out _ (HAT.out.v.below HB4.out)).mono ?_; rintro e w5 ⟨rfl, hd5⟩; have HB5 := hide (HB4.out.trans (hd5.below.mono HB4.out.size)); have HX5 := hide (HX4.out.on hd5.below); have hz5 := HX5.out.lt; clear k0 k1 k2 k3 k4 k5 k6 k7 k8 k9 k10 k11 k12 k13; obtain ⟨k0, k1, k2, k3, k4, k5, k6, k7, k8, k9, k10, k11, k12, k13⟩ := xs14 HX5.out; clear hd5))
                                go_ret
                                exact ⟨rfl, HB5.out.alloc HB5.out.size _⟩

end Go.Proofs.Ytoalbeiinlcgpaa
