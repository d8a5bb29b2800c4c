/-
  Walks and mathematics of Nd3.
-/
import Derived.Test.YtoalbeiinlcgpaaKDel1
import Derived.Test.YtoalbeiinlcgpaaKLog3
namespace Go.Proofs.Ytoalbeiinlcgpaa.P11
end Go.Proofs.Ytoalbeiinlcgpaa.P11
namespace Go.Proofs.Ytoalbeiinlcgpaa.P18
end Go.Proofs.Ytoalbeiinlcgpaa.P18
namespace Go.Proofs.Ytoalbeiinlcgpaa.P3
end Go.Proofs.Ytoalbeiinlcgpaa.P3
namespace Go.Proofs.Ytoalbeiinlcgpaa.P5
end Go.Proofs.Ytoalbeiinlcgpaa.P5
namespace Go.Proofs.Ytoalbeiinlcgpaa
open Go.RowKit P1 P3 P5 P9 P11 P12 P18 K
set_option linter.unusedVariables false
set_option linter.unusedSimpArgs false

theorem implConfOf_any (x : NdV) (S : NdS) (hn : x.es.length ≤ 60) (hnc : x.cf.length ≤ 1048576) (hok : ∀ e ∈ x.es, e.ok = true) (hsz : ∀ e ∈ x.es, e.data.size ≤ 1048576) (w : World) (hat : NdAt w x S) :
    Calls Try.prog 76 #[ndval x S] w fun e w' => ∃ v, e = .returned v ∧ w'.ownsRow w.heap.size 3 1 v (ndCf x).length ((ndCf x).map icell) ∧ Below w.heap.size w w' := by
  have hb0 := (Below.refl w.heap.size w).alloc (Nat.le_refl _) (.cells (ndC x S) 36)
  have HCA := hide (confBehind_any S.oc x.cf.length S.cc x.cf S.oe x.es.length S.ce x.es (by omega) hnc hok hsz _ (hat.c.below hb0) (hat.e.below hb0))
  have HB0 := hide hb0
  unfold ndCf
  generalize cfGo x.cf x.es = C at HCA ⊢
  clear hat hb0 hok hsz
  go_enter Try.func76, Try.ntmps76
  go_wp2_with (go_at_call 69; refine HCA.out.mono ?_; rintro e w1 ⟨v, rfl, hown, hb1⟩)
  go_ret
  exact ⟨_, rfl, own_base hown HB0.out.size, HB0.out.trans (hb1.mono HB0.out.size)⟩

theorem confOk_wf16 {zs : List Int} (h : confOk zs = true) : ∀ z ∈ zs, (Lit.int .i64 z).wf = true := fun z hz => by
  have := confOk_mem h z hz
  exact wf_small (by omega) (by omega)

theorem implOthers_any (x : NdV) (S : NdS) (hn : x.es.length ≤ 60) (hcf : confOk x.cf = true) (hok : ∀ e ∈ x.es, e.ok = true) (hsz : ∀ e ∈ x.es, e.data.size ≤ 1048576) (w : World) (hat : NdAt w x S) :
    Calls Try.prog 59 #[ndval x S] w fun e w' => ∃ v, e = .returned v ∧ w'.ownsRow w.heap.size 3 1 v (othI (ndCf x) x.id).length ((othI (ndCf x) x.id).map icell) ∧ Below w.heap.size w w' := by
  have hb0 := (Below.refl w.heap.size w).alloc (Nat.le_refl _) (.cells (ndC x S) 36)
  have HX0 := hide (XS.new w (ndC x S) 36)
  have hcl := confOk_len hcf
  have HCO := hide (implConfOf_any x S hn (by omega) hok hsz _ (hat.below hb0))
  have hco : confOk (ndCf x) = true := cfGo_ok _ _ hcf hok
  have hmf : ∀ fn first cap w, (Instr.makeFunc fn first cap).run Try.prog w = .ok (.func fn first cap) w := fun _ _ _ _ => rfl
  have HB0 := hide hb0
  have HCK := hide hco
  generalize ndCf x = C at HCO HCK ⊢
  obtain ⟨m, hm⟩ : ∃ m, C.length = m + 1 := ⟨C.length - 1, by have := confOk_len HCK.out; omega⟩
  have HM := hide hm
  clear hat hb0 hok hsz hco hm hcl
  go_enter Try.func59, Try.ntmps59
  go_wp2_with (go_at_call 76; refine HCO.out.mono ?_; rintro e w1 ⟨v, rfl, hown, hb1⟩; have HOW := hide hown; have HB1 := hide hb1; have X1 := hide (HX0.out.on hb1); clear hown hb1)
  have hown := HOW.out
  rw [HM.out] at hown
  obtain ⟨g, cap, hv⟩ := own_some hown (by omega)
  have HG := hide (hown.lt g (by rw [hv]; rfl))
  have hs0 : (w.alloc (.cells (ndC x S) 36)).heap.size = w.heap.size + 1 := by simp
  have HO2 := HOW.out
  rw [hv, ← HM.out] at HO2
  have k0 := X1.out.cell 0 rfl
  have hlen : C.length ≤ 1048576 := by have := confOk_len HCK.out; omega
  have hgt : w.heap.size < g := by have := HG.out.1; omega
  have HD := hide (deleteFunc_any g C.length cap _ C x.id w.heap.size hlen (confOk_wf16 HCK.out) w1 HO2 k0 (by omega))
  rw [← HM.out] at hv
  subst hv
  have HGT := hide hgt
  clear hown HO2 k0 hs0 hgt hlen
  go_wp2_with (go_at_call 75; refine HD.out.mono ?_; rintro e w2 ⟨v2, rfl, hown2, hg2⟩)
  go_ret
  exact ⟨_, rfl, own_base hown2 HB0.out.size, (HB0.out.trans (HB1.out.mono HB0.out.size)).grown hg2 (Nat.le_trans HB0.out.size HB1.out.size) (fun k hk => by cases hk; have := HGT.out; omega)⟩

theorem within_is {x a b : Int} {r : Bool} (h : bt a x b = r) (w : World) : Calls Try.prog 32 #[.int .i64 x, .int .i64 a, .int .i64 b] w fun e w' => e = .returned (.bool r) ∧ w = w' := by
  rw [← h]
  exact within_any x a b w

theorem l01In_is {x a b : Int} {r : Bool} (h : bt a x b = r) (w : World) : Calls Try.prog 23 #[.int .i64 x, .int .i64 a, .int .i64 b] w fun e w' => e = .returned (.bool r) ∧ w' = w := by
  rw [← h]
  exact l01In5_any x a b w

theorem lastI_eq {s : Int} {n : Nat} (h0 : 0 ≤ s) (h1 : s ≤ 1000000) (hn : n ≤ 60) : lastI s n = s + n := by
  unfold lastI
  split
  · omega
  · unfold wrap64; omega

theorem riseF_len : ∀ (zs : List Int) (p : Int), p ≤ 4 → riseF 1 4 (some p) zs = true → (zs.length : Int) ≤ 4 - p
  | [], p, hp, _ => by simp; omega
  | z :: r, p, hp, h => by
    simp only [riseF, after, Bool.and_eq_true, decide_eq_true_eq] at h
    have := riseF_len r z h.1.1.2 h.2
    simp only [List.length_cons, Int.natCast_add, Int.cast_ofNat_Int]
    omega

theorem riseF_len0 {zs : List Int} (h : riseF 1 4 none zs = true) : zs.length ≤ 4 := by
  cases zs with
  | nil => simp
  | cons z r =>
    simp only [riseF, after, Bool.and_eq_true, decide_eq_true_eq] at h
    have := riseF_len r z h.1.1.2 h.2
    simp only [List.length_cons]
    omega

theorem ndVot_eq (x : NdV) : ndVot x = (decide (x.vs.length = 0) || (decide (x.ro = 1) && confOk x.vs)) := by
  unfold ndVot
  cases hv : x.vs with
  | nil => simp [riseF]
  | cons z r =>
    rw [← hv]
    have h0 : decide (x.vs.length = 0) = false := by rw [hv]; simp
    rw [h0, Bool.false_or, Bool.false_or]
    by_cases h4 : x.vs.length ≤ 4
    · rw [confOk_mid ⟨by rw [hv]; simp, h4⟩, Bool.and_comm]
    · have h1 : riseF 1 4 none x.vs = false := by
        cases hr : riseF 1 4 none x.vs with
        | false => rfl
        | true => exact absurd (riseF_len0 hr) h4
      rw [h1, confOk_short (by omega), Bool.false_and, Bool.and_false]

set_option maxRecDepth 100000 in
set_option maxHeartbeats 4000000 in
theorem numbersOk_any (x : NdV) (S : NdS) (hlg : lgOk x.s x.u x.es = true) (w : World) (hat : NdAt w x S) :
    Calls Try.prog 35 #[ndval x S] w fun e w' => e = .returned (.bool (ndNum x)) ∧ Below w.heap.size w w' := by
  have hb0 := (Below.refl w.heap.size w).alloc (Nat.le_refl _) (.cells (ndC x S) 36)
  obtain ⟨s0, s1, u0, u1, hn, hsn, hok⟩ := lgOk_facts hlg
  have hll := implLogLast_any x.s x.u S.oe x.es.length S.ce x.es _ (hat.e.below hb0)
  rw [lastI_eq s0 s1 hn] at hll
  have HLL := hide hll
  have HX0 := hide (XS.new w (ndC x S) 36)
  have HB0 := hide hb0
  have hls : ndLast x = x.s + x.es.length := rfl
  clear hat hb0 hll hok hlg
  cases h1 : bt (lastT x.u x.es) x.tm 100000 with
  | false =>
    have HR := hide (show ndNum x = false by simp only [ndNum, h1, Bool.and_true, Bool.and_false, Bool.false_and, Bool.true_and])
    have W1 := hide (within_is h1)
    rw [HR.out]
    clear hls h1
    go_enter Try.func35, Try.ntmps35
    go_wp2_with fail
    refine HLL.out.mono ?_
    rintro e w1 ⟨rfl, hb1⟩
    have HB1 := hide (HB0.out.trans (hb1.mono HB0.out.size))
    obtain ⟨k0, k1, k2, k3, k4, k5, k6, k7, k8, k9, k10, k11, k12, k13⟩ := xs14 (HX0.out.on hb1)
    clear hb1
    go_wp2_with (go_at_call 32; (first | with_reducible refine (W1.out _).mono ?_); rintro e w2 ⟨rfl, rfl⟩)
    go_ret
    exact ⟨rfl, HB1.out⟩
  | true =>
    cases h2 : bt 0 x.ro 2 with
    | false =>
      have HR := hide (show ndNum x = false by simp only [ndNum, h1, h2, Bool.and_true, Bool.and_false, Bool.false_and, Bool.true_and])
      have W1 := hide (within_is h1)
      have W2 := hide (within_is h2)
      rw [HR.out]
      clear hls h1 h2
      go_enter Try.func35, Try.ntmps35
      go_wp2_with fail
      refine HLL.out.mono ?_
      rintro e w1 ⟨rfl, hb1⟩
      have HB1 := hide (HB0.out.trans (hb1.mono HB0.out.size))
      obtain ⟨k0, k1, k2, k3, k4, k5, k6, k7, k8, k9, k10, k11, k12, k13⟩ := xs14 (HX0.out.on hb1)
      clear hb1
      go_wp2_with (go_at_call 32; (first | with_reducible refine (W1.out _).mono ?_ | with_reducible refine (W2.out _).mono ?_); rintro e w2 ⟨rfl, rfl⟩)
      go_ret
      exact ⟨rfl, HB1.out⟩
    | true =>
      cases h3 : bt x.s x.cm (ndLast x) with
      | false =>
        have HR := hide (show ndNum x = false by simp only [ndNum, h1, h2, h3, Bool.and_true, Bool.and_false, Bool.false_and, Bool.true_and])
        have W1 := hide (within_is h1)
        have W2 := hide (within_is h2)
        have W3 := hide (within_is h3)
        rw [hls] at W3
        rw [HR.out]
        clear hls h1 h2 h3
        go_enter Try.func35, Try.ntmps35
        go_wp2_with fail
        refine HLL.out.mono ?_
        rintro e w1 ⟨rfl, hb1⟩
        have HB1 := hide (HB0.out.trans (hb1.mono HB0.out.size))
        obtain ⟨k0, k1, k2, k3, k4, k5, k6, k7, k8, k9, k10, k11, k12, k13⟩ := xs14 (HX0.out.on hb1)
        clear hb1
        go_wp2_with (go_at_call 32; (first | with_reducible refine (W1.out _).mono ?_ | with_reducible refine (W2.out _).mono ?_ | with_reducible refine (W3.out _).mono ?_); rintro e w2 ⟨rfl, rfl⟩)
        go_ret
        exact ⟨rfl, HB1.out⟩
      | true =>
        cases h4 : bt 0 x.vt 4 with
        | false =>
          have HR := hide (show ndNum x = false by simp only [ndNum, h1, h2, h3, h4, Bool.and_true, Bool.and_false, Bool.false_and, Bool.true_and])
          have W1 := hide (within_is h1)
          have W2 := hide (within_is h2)
          have W3 := hide (within_is h3)
          have W4 := hide (within_is h4)
          rw [hls] at W3
          rw [HR.out]
          clear hls h1 h2 h3 h4
          go_enter Try.func35, Try.ntmps35
          go_wp2_with fail
          refine HLL.out.mono ?_
          rintro e w1 ⟨rfl, hb1⟩
          have HB1 := hide (HB0.out.trans (hb1.mono HB0.out.size))
          obtain ⟨k0, k1, k2, k3, k4, k5, k6, k7, k8, k9, k10, k11, k12, k13⟩ := xs14 (HX0.out.on hb1)
          clear hb1
          go_wp2_with (go_at_call 32; (first | with_reducible refine (W1.out _).mono ?_ | with_reducible refine (W2.out _).mono ?_ | with_reducible refine (W3.out _).mono ?_ | with_reducible refine (W4.out _).mono ?_); rintro e w2 ⟨rfl, rfl⟩)
          go_ret
          exact ⟨rfl, HB1.out⟩
        | true =>
          cases h5 : bt 0 x.ld 4 with
          | false =>
            have HR := hide (show ndNum x = false by simp only [ndNum, h1, h2, h3, h4, h5, Bool.and_true, Bool.and_false, Bool.false_and, Bool.true_and])
            have W1 := hide (within_is h1)
            have W2 := hide (within_is h2)
            have W3 := hide (within_is h3)
            have W4 := hide (within_is h4)
            have W5 := hide (within_is h5)
            rw [hls] at W3
            rw [HR.out]
            clear hls h1 h2 h3 h4 h5
            go_enter Try.func35, Try.ntmps35
            go_wp2_with fail
            refine HLL.out.mono ?_
            rintro e w1 ⟨rfl, hb1⟩
            have HB1 := hide (HB0.out.trans (hb1.mono HB0.out.size))
            obtain ⟨k0, k1, k2, k3, k4, k5, k6, k7, k8, k9, k10, k11, k12, k13⟩ := xs14 (HX0.out.on hb1)
            clear hb1
            go_wp2_with (go_at_call 32; (first | with_reducible refine (W1.out _).mono ?_ | with_reducible refine (W2.out _).mono ?_ | with_reducible refine (W3.out _).mono ?_ | with_reducible refine (W4.out _).mono ?_ | with_reducible refine (W5.out _).mono ?_); rintro e w2 ⟨rfl, rfl⟩)
            go_ret
            exact ⟨rfl, HB1.out⟩
          | true =>
            cases h6 : bt 0 x.ck 20 with
            | false =>
              have HR := hide (show ndNum x = false by simp only [ndNum, h1, h2, h3, h4, h5, h6, Bool.and_true, Bool.and_false, Bool.false_and, Bool.true_and])
              have W1 := hide (within_is h1)
              have W2 := hide (within_is h2)
              have W3 := hide (within_is h3)
              have W4 := hide (within_is h4)
              have W5 := hide (within_is h5)
              have W6 := hide (within_is h6)
              rw [hls] at W3
              rw [HR.out]
              clear hls h1 h2 h3 h4 h5 h6
              go_enter Try.func35, Try.ntmps35
              go_wp2_with fail
              refine HLL.out.mono ?_
              rintro e w1 ⟨rfl, hb1⟩
              have HB1 := hide (HB0.out.trans (hb1.mono HB0.out.size))
              obtain ⟨k0, k1, k2, k3, k4, k5, k6, k7, k8, k9, k10, k11, k12, k13⟩ := xs14 (HX0.out.on hb1)
              clear hb1
              go_wp2_with (go_at_call 32; (first | with_reducible refine (W1.out _).mono ?_ | with_reducible refine (W2.out _).mono ?_ | with_reducible refine (W3.out _).mono ?_ | with_reducible refine (W4.out _).mono ?_ | with_reducible refine (W5.out _).mono ?_ | with_reducible refine (W6.out _).mono ?_); rintro e w2 ⟨rfl, rfl⟩)
              go_ret
              exact ⟨rfl, HB1.out⟩
            | true =>
              cases h7 : bt 1 x.lm 20 with
              | false =>
                have HR := hide (show ndNum x = false by simp only [ndNum, h1, h2, h3, h4, h5, h6, h7, Bool.and_true, Bool.and_false, Bool.false_and, Bool.true_and])
                have W1 := hide (within_is h1)
                have W2 := hide (within_is h2)
                have W3 := hide (within_is h3)
                have W4 := hide (within_is h4)
                have W5 := hide (within_is h5)
                have W6 := hide (within_is h6)
                have W7 := hide (within_is h7)
                rw [hls] at W3
                rw [HR.out]
                clear hls h1 h2 h3 h4 h5 h6 h7
                go_enter Try.func35, Try.ntmps35
                go_wp2_with fail
                refine HLL.out.mono ?_
                rintro e w1 ⟨rfl, hb1⟩
                have HB1 := hide (HB0.out.trans (hb1.mono HB0.out.size))
                obtain ⟨k0, k1, k2, k3, k4, k5, k6, k7, k8, k9, k10, k11, k12, k13⟩ := xs14 (HX0.out.on hb1)
                clear hb1
                go_wp2_with (go_at_call 32; (first | with_reducible refine (W1.out _).mono ?_ | with_reducible refine (W2.out _).mono ?_ | with_reducible refine (W3.out _).mono ?_ | with_reducible refine (W4.out _).mono ?_ | with_reducible refine (W5.out _).mono ?_ | with_reducible refine (W6.out _).mono ?_ | with_reducible refine (W7.out _).mono ?_); rintro e w2 ⟨rfl, rfl⟩)
                go_ret
                exact ⟨rfl, HB1.out⟩
              | true =>
                have HR := hide (show ndNum x = true by simp only [ndNum, h1, h2, h3, h4, h5, h6, h7, Bool.and_true, Bool.and_false, Bool.false_and, Bool.true_and])
                have W1 := hide (within_is h1)
                have W2 := hide (within_is h2)
                have W3 := hide (within_is h3)
                have W4 := hide (within_is h4)
                have W5 := hide (within_is h5)
                have W6 := hide (within_is h6)
                have W7 := hide (within_is h7)
                rw [hls] at W3
                rw [HR.out]
                clear hls h1 h2 h3 h4 h5 h6 h7
                go_enter Try.func35, Try.ntmps35
                go_wp2_with fail
                refine HLL.out.mono ?_
                rintro e w1 ⟨rfl, hb1⟩
                have HB1 := hide (HB0.out.trans (hb1.mono HB0.out.size))
                obtain ⟨k0, k1, k2, k3, k4, k5, k6, k7, k8, k9, k10, k11, k12, k13⟩ := xs14 (HX0.out.on hb1)
                clear hb1
                go_wp2_with (go_at_call 32; (first | with_reducible refine (W1.out _).mono ?_ | with_reducible refine (W2.out _).mono ?_ | with_reducible refine (W3.out _).mono ?_ | with_reducible refine (W4.out _).mono ?_ | with_reducible refine (W5.out _).mono ?_ | with_reducible refine (W6.out _).mono ?_ | with_reducible refine (W7.out _).mono ?_); rintro e w2 ⟨rfl, rfl⟩)
                go_ret
                exact ⟨rfl, HB1.out⟩

set_option maxHeartbeats 2000000 in
theorem votesOk_any (x : NdV) (S : NdS) (hv20 : x.vs.length ≤ 1048576) (w : World) (hat : NdAt w x S) :
    Calls Try.prog 36 #[ndval x S] w fun e w' => e = .returned (.bool (ndVot x)) ∧ Below w.heap.size w w' := by
  have hb0 := (Below.refl w.heap.size w).alloc (Nat.le_refl _) (.cells (ndC x S) 36)
  have HCK := hide (implConfOk_any S.ov x.vs.length S.cv x.vs _ (hat.v.below hb0))
  have HB0 := hide hb0
  rw [ndVot_eq]
  clear hat hb0
  by_cases c0 : x.vs.length = 0
  · have c0' : (((x.vs.length : Nat) : Int) == 0) = true := by simp [c0]
    rw [decide_eq_true c0, Bool.true_or]
    have HC0 := hide c0
    clear c0
    go_enter Try.func36, Try.ntmps36
    go_wp2_with fail
    go_ret
    exact ⟨by simp [HC0.out], HB0.out⟩
  · have c0' : (((x.vs.length : Nat) : Int) == 0) = false := by simp; exact fun h => c0 (by simp [h])
    rw [decide_eq_false c0, Bool.false_or]
    have HC0 := hide c0
    clear c0
    by_cases c1 : x.ro = 1
    · rw [decide_eq_true c1, Bool.true_and]
      have c1' : (x.ro == 1) = true := by simp [c1]
      have HC1 := hide c1
      clear c1
      go_enter Try.func36, Try.ntmps36
      go_wp2_with (go_at_call 33; refine HCK.out.mono ?_; rintro e w2 ⟨rfl, rfl⟩)
      go_ret
      exact ⟨rfl, HB0.out⟩
    · rw [decide_eq_false c1, Bool.false_and]
      have c1' : (x.ro == 1) = false := by simp [c1]
      have HC1 := hide c1
      clear c1
      go_enter Try.func36, Try.ntmps36
      go_wp2_with (go_at_call 33; refine HCK.out.mono ?_; rintro e w2 ⟨rfl, rfl⟩)
      go_ret
      exact ⟨rfl, HB0.out⟩

end Go.Proofs.Ytoalbeiinlcgpaa
