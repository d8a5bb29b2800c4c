/-
  Walks and mathematics of Nd5.
-/
import Derived.Test.YtoalbeiinlcgpaaKNd4
namespace Go.Proofs.Ytoalbeiinlcgpaa.P11
end Go.Proofs.Ytoalbeiinlcgpaa.P11
namespace Go.Proofs.Ytoalbeiinlcgpaa.P18
end Go.Proofs.Ytoalbeiinlcgpaa.P18
namespace Go.Proofs.Ytoalbeiinlcgpaa.P3
end Go.Proofs.Ytoalbeiinlcgpaa.P3
namespace Go.Proofs.Ytoalbeiinlcgpaa.P5
end Go.Proofs.Ytoalbeiinlcgpaa.P5
namespace Go.Proofs.Ytoalbeiinlcgpaa
open Go.RowKit P1 P3 P5 P9 P11 P12 P18 K
set_option linter.unusedVariables false
set_option linter.unusedSimpArgs false

set_option maxRecDepth 100000 in
set_option maxHeartbeats 8000000 in
theorem implNodeOk_any (x : NdV) (S : NdS) (hsz : ∀ e ∈ x.es, e.data.size ≤ 1048576) (hv20 : x.vs.length ≤ 1048576) (hp20 : x.ps.length ≤ 1048576) (w : World) (hat : NdAt w x S) :
    Calls Try.prog 9 #[ndval x S] w fun e w' => e = .returned (.bool (ndOk x)) ∧ Below w.heap.size w w' := by
  have hb0 := (Below.refl w.heap.size w).alloc (Nat.le_refl _) (.cells (ndC x S) 36)
  have HX0 := hide (XS.new w (ndC x S) 36)
  have HCK := hide (implConfOk_any S.oc x.cf.length S.cc x.cf _ (hat.c.below hb0))
  have HLO := hide (implLogOk_any x.s x.u S.oe x.es.length S.ce x.es _ (hat.e.below hb0) hsz)
  have HB0 := hide hb0
  have HAT := hide hat
  have HSZ := hide hsz
  clear hat hb0 hsz
  cases h1 : bt 1 x.id 4 with
  | false =>
    have HR := hide (show ndOk x = false by simp only [ndOk, ndHd, h1, Bool.and_true, Bool.and_false, Bool.false_and, Bool.true_and])
    rw [HR.out]
    have W1 := hide (within_is2 h1)
    clear h1 HCK HLO
    go_enter Try.func9, Try.ntmps9
    go_wp2_with (first | (go_at_call 32; refine (W1.out _).mono ?_; rintro e w9 ⟨rfl, rfl⟩))
    go_ret
    exact ⟨rfl, HB0.out⟩
  | true =>
    cases h2 : confOk x.cf with
    | false =>
      have HR := hide (show ndOk x = false by simp only [ndOk, ndHd, h1, h2, Bool.and_true, Bool.and_false, Bool.false_and, Bool.true_and])
      rw [HR.out]
      have W1 := hide (within_is2 h1)
      have HC2 := HCK.out
      rw [h2] at HC2
      have HC2 := hide HC2
      clear h1 h2 HCK HLO
      go_enter Try.func9, Try.ntmps9
      go_wp2_with (first | (go_at_call 32; refine (W1.out _).mono ?_; rintro e w9 ⟨rfl, rfl⟩) | (go_at_call 33; refine HC2.out.mono ?_; rintro e w9 ⟨rfl, rfl⟩))
      go_ret
      exact ⟨rfl, HB0.out⟩
    | true =>
      cases h3 : lgOk x.s x.u x.es with
      | false =>
        have HR := hide (show ndOk x = false by simp only [ndOk, ndHd, h1, h2, h3, Bool.and_true, Bool.and_false, Bool.false_and, Bool.true_and])
        rw [HR.out]
        have W1 := hide (within_is2 h1)
        have HC2 := HCK.out
        rw [h2] at HC2
        have HC2 := hide HC2
        have HL3 := HLO.out
        rw [h3] at HL3
        have HL3 := hide HL3
        clear h1 h2 h3 HCK HLO
        go_enter Try.func9, Try.ntmps9
        go_wp2_with (first | (go_at_call 32; refine (W1.out _).mono ?_; rintro e w9 ⟨rfl, rfl⟩) | (go_at_call 33; refine HC2.out.mono ?_; rintro e w9 ⟨rfl, rfl⟩) | (go_at_call 34; refine HL3.out.mono ?_; rintro e w3 ⟨rfl, hb3⟩; have HB3 := hide (HB0.out.trans (hb3.mono HB0.out.size)); have HX3 := hide (HX0.out.on hb3); obtain ⟨k0, k1, k2, k3, k4, k5, k6, k7, k8, k9, k10, k11, k12, k13⟩ := xs14 HX3.out; clear hb3))
        go_ret
        exact ⟨rfl, HB3.out⟩
      | true =>
        cases h4 : ndNum x with
        | false =>
          have HR := hide (show ndOk x = false by simp only [ndOk, ndHd, h1, h2, h3, h4, Bool.and_true, Bool.and_false, Bool.false_and, Bool.true_and])
          rw [HR.out]
          have W1 := hide (within_is2 h1)
          have HC2 := HCK.out
          rw [h2] at HC2
          have HC2 := hide HC2
          have HL3 := HLO.out
          rw [h3] at HL3
          have HL3 := hide HL3
          have HN4 := fun w h => numbersOk_any x S h3 w h
          rw [h4] at HN4
          have HN4 := hide HN4
          clear h1 h2 h3 h4 HCK HLO
          go_enter Try.func9, Try.ntmps9
          go_wp2_with (first | (go_at_call 32; refine (W1.out _).mono ?_; rintro e w9 ⟨rfl, rfl⟩) | (go_at_call 33; refine HC2.out.mono ?_; rintro e w9 ⟨rfl, rfl⟩) | (go_at_call 34; refine HL3.out.mono ?_; rintro e w3 ⟨rfl, hb3⟩; have HB3 := hide (HB0.out.trans (hb3.mono HB0.out.size)); have HX3 := hide (HX0.out.on hb3); obtain ⟨k0, k1, k2, k3, k4, k5, k6, k7, k8, k9, k10, k11, k12, k13⟩ := xs14 HX3.out; clear hb3) | (go_at_call 35; refine (HN4.out _ (HAT.out.below HB3.out)).mono ?_; rintro e w4 ⟨rfl, hb4⟩; have HB4 := hide (HB3.out.trans (hb4.mono HB3.out.size)); have HX4 := hide (HX3.out.on hb4); clear k0 k1 k2 k3 k4 k5 k6 k7 k8 k9 k10 k11 k12 k13; obtain ⟨k0, k1, k2, k3, k4, k5, k6, k7, k8, k9, k10, k11, k12, k13⟩ := xs14 HX4.out; clear hb4))
          go_ret
          exact ⟨rfl, HB4.out⟩
        | true =>
          cases h5 : ndVot x with
          | false =>
            have HR := hide (show ndOk x = false by simp only [ndOk, ndHd, h1, h2, h3, h4, h5, Bool.and_true, Bool.and_false, Bool.false_and, Bool.true_and])
            rw [HR.out]
            have W1 := hide (within_is2 h1)
            have HC2 := HCK.out
            rw [h2] at HC2
            have HC2 := hide HC2
            have HL3 := HLO.out
            rw [h3] at HL3
            have HL3 := hide HL3
            have HN4 := fun w h => numbersOk_any x S h3 w h
            rw [h4] at HN4
            have HN4 := hide HN4
            have HV5 := fun w h => votesOk_any x S hv20 w h
            rw [h5] at HV5
            have HV5 := hide HV5
            clear h1 h2 h3 h4 h5 HCK HLO
            go_enter Try.func9, Try.ntmps9
            go_wp2_with (first | (go_at_call 32; refine (W1.out _).mono ?_; rintro e w9 ⟨rfl, rfl⟩) | (go_at_call 33; refine HC2.out.mono ?_; rintro e w9 ⟨rfl, rfl⟩) | (go_at_call 34; refine HL3.out.mono ?_; rintro e w3 ⟨rfl, hb3⟩; have HB3 := hide (HB0.out.trans (hb3.mono HB0.out.size)); have HX3 := hide (HX0.out.on hb3); obtain ⟨k0, k1, k2, k3, k4, k5, k6, k7, k8, k9, k10, k11, k12, k13⟩ := xs14 HX3.out; clear hb3) | (go_at_call 35; refine (HN4.out _ (HAT.out.below HB3.out)).mono ?_; rintro e w4 ⟨rfl, hb4⟩; have HB4 := hide (HB3.out.trans (hb4.mono HB3.out.size)); have HX4 := hide (HX3.out.on hb4); clear k0 k1 k2 k3 k4 k5 k6 k7 k8 k9 k10 k11 k12 k13; obtain ⟨k0, k1, k2, k3, k4, k5, k6, k7, k8, k9, k10, k11, k12, k13⟩ := xs14 HX4.out; clear hb4) | (go_at_call 36; refine (HV5.out _ (HAT.out.below HB4.out)).mono ?_; rintro e w5 ⟨rfl, hb5⟩; have HB5 := hide (HB4.out.trans (hb5.mono HB4.out.size)); have HX5 := hide (HX4.out.on hb5); clear k0 k1 k2 k3 k4 k5 k6 k7 k8 k9 k10 k11 k12 k13; obtain ⟨k0, k1, k2, k3, k4, k5, k6, k7, k8, k9, k10, k11, k12, k13⟩ := xs14 HX5.out; clear hb5))
            go_ret
            exact ⟨rfl, HB5.out⟩
          | true =>
            cases h6 : ndPrs x with
            | false =>
              have HR := hide (show ndOk x = false by simp only [ndOk, ndHd, h1, h2, h3, h4, h5, h6, Bool.and_true, Bool.and_false, Bool.false_and, Bool.true_and])
              rw [HR.out]
              have W1 := hide (within_is2 h1)
              have HC2 := HCK.out
              rw [h2] at HC2
              have HC2 := hide HC2
              have HL3 := HLO.out
              rw [h3] at HL3
              have HL3 := hide HL3
              have HN4 := fun w h => numbersOk_any x S h3 w h
              rw [h4] at HN4
              have HN4 := hide HN4
              have HV5 := fun w h => votesOk_any x S hv20 w h
              rw [h5] at HV5
              have HV5 := hide HV5
              have HP6 := fun w h => peersOk_any x S h3 h2 HSZ.out hp20 w h
              rw [h6] at HP6
              have HP6 := hide HP6
              clear h1 h2 h3 h4 h5 h6 HCK HLO
              go_enter Try.func9, Try.ntmps9
              go_wp2_with (first | (go_at_call 32; refine (W1.out _).mono ?_; rintro e w9 ⟨rfl, rfl⟩) | (go_at_call 33; refine HC2.out.mono ?_; rintro e w9 ⟨rfl, rfl⟩) | (go_at_call 34; refine HL3.out.mono ?_; rintro e w3 ⟨rfl, hb3⟩; have HB3 := hide (HB0.out.trans (hb3.mono HB0.out.size)); have HX3 := hide (HX0.out.on hb3); obtain ⟨k0, k1, k2, k3, k4, k5, k6, k7, k8, k9, k10, k11, k12, k13⟩ := xs14 HX3.out; clear hb3) | (go_at_call 35; refine (HN4.out _ (HAT.out.below HB3.out)).mono ?_; rintro e w4 ⟨rfl, hb4⟩; have HB4 := hide (HB3.out.trans (hb4.mono HB3.out.size)); have HX4 := hide (HX3.out.on hb4); clear k0 k1 k2 k3 k4 k5 k6 k7 k8 k9 k10 k11 k12 k13; obtain ⟨k0, k1, k2, k3, k4, k5, k6, k7, k8, k9, k10, k11, k12, k13⟩ := xs14 HX4.out; clear hb4) | (go_at_call 36; refine (HV5.out _ (HAT.out.below HB4.out)).mono ?_; rintro e w5 ⟨rfl, hb5⟩; have HB5 := hide (HB4.out.trans (hb5.mono HB4.out.size)); have HX5 := hide (HX4.out.on hb5); clear k0 k1 k2 k3 k4 k5 k6 k7 k8 k9 k10 k11 k12 k13; obtain ⟨k0, k1, k2, k3, k4, k5, k6, k7, k8, k9, k10, k11, k12, k13⟩ := xs14 HX5.out; clear hb5) | (go_at_call 37; refine (HP6.out _ (HAT.out.below HB5.out)).mono ?_; rintro e w6 ⟨rfl, hb6⟩; have HB6 := hide (HB5.out.trans (hb6.mono HB5.out.size)); have HX6 := hide (HX5.out.on hb6); clear k0 k1 k2 k3 k4 k5 k6 k7 k8 k9 k10 k11 k12 k13; obtain ⟨k0, k1, k2, k3, k4, k5, k6, k7, k8, k9, k10, k11, k12, k13⟩ := xs14 HX6.out; clear hb6))
              go_ret
              exact ⟨rfl, HB6.out⟩
            | true =>
              have HR := hide (show ndOk x = true by simp only [ndOk, ndHd, h1, h2, h3, h4, h5, h6, Bool.and_true, Bool.and_false, Bool.false_and, Bool.true_and])
              rw [HR.out]
              have W1 := hide (within_is2 h1)
              have HC2 := HCK.out
              rw [h2] at HC2
              have HC2 := hide HC2
              have HL3 := HLO.out
              rw [h3] at HL3
              have HL3 := hide HL3
              have HN4 := fun w h => numbersOk_any x S h3 w h
              rw [h4] at HN4
              have HN4 := hide HN4
              have HV5 := fun w h => votesOk_any x S hv20 w h
              rw [h5] at HV5
              have HV5 := hide HV5
              have HP6 := fun w h => peersOk_any x S h3 h2 HSZ.out hp20 w h
              rw [h6] at HP6
              have HP6 := hide HP6
              clear h1 h2 h3 h4 h5 h6 HCK HLO
              go_enter Try.func9, Try.ntmps9
              go_wp2_with (first | (go_at_call 32; refine (W1.out _).mono ?_; rintro e w9 ⟨rfl, rfl⟩) | (go_at_call 33; refine HC2.out.mono ?_; rintro e w9 ⟨rfl, rfl⟩) | (go_at_call 34; refine HL3.out.mono ?_; rintro e w3 ⟨rfl, hb3⟩; have HB3 := hide (HB0.out.trans (hb3.mono HB0.out.size)); have HX3 := hide (HX0.out.on hb3); obtain ⟨k0, k1, k2, k3, k4, k5, k6, k7, k8, k9, k10, k11, k12, k13⟩ := xs14 HX3.out; clear hb3) | (go_at_call 35; refine (HN4.out _ (HAT.out.below HB3.out)).mono ?_; rintro e w4 ⟨rfl, hb4⟩; have HB4 := hide (HB3.out.trans (hb4.mono HB3.out.size)); have HX4 := hide (HX3.out.on hb4); clear k0 k1 k2 k3 k4 k5 k6 k7 k8 k9 k10 k11 k12 k13; obtain ⟨k0, k1, k2, k3, k4, k5, k6, k7, k8, k9, k10, k11, k12, k13⟩ := xs14 HX4.out; clear hb4) | (go_at_call 36; refine (HV5.out _ (HAT.out.below HB4.out)).mono ?_; rintro e w5 ⟨rfl, hb5⟩; have HB5 := hide (HB4.out.trans (hb5.mono HB4.out.size)); have HX5 := hide (HX4.out.on hb5); clear k0 k1 k2 k3 k4 k5 k6 k7 k8 k9 k10 k11 k12 k13; obtain ⟨k0, k1, k2, k3, k4, k5, k6, k7, k8, k9, k10, k11, k12, k13⟩ := xs14 HX5.out; clear hb5) | (go_at_call 37; refine (HP6.out _ (HAT.out.below HB5.out)).mono ?_; rintro e w6 ⟨rfl, hb6⟩; have HB6 := hide (HB5.out.trans (hb6.mono HB5.out.size)); have HX6 := hide (HX5.out.on hb6); clear k0 k1 k2 k3 k4 k5 k6 k7 k8 k9 k10 k11 k12 k13; obtain ⟨k0, k1, k2, k3, k4, k5, k6, k7, k8, k9, k10, k11, k12, k13⟩ := xs14 HX6.out; clear hb6))
              go_ret
              exact ⟨rfl, HB6.out⟩

end Go.Proofs.Ytoalbeiinlcgpaa
