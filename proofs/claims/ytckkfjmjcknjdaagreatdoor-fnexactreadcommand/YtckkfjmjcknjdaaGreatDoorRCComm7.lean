/-
  Walks and mathematics of Comm7.
-/
import Derived.Test.YtckkfjmjcknjdaaGreatDoorRCComm6
namespace Go.Proofs.YtckkfjmjcknjdaaGreatDoor.P3
end Go.Proofs.YtckkfjmjcknjdaaGreatDoor.P3
namespace Go.Proofs.YtckkfjmjcknjdaaGreatDoor
open Go.RowKit P1 P3 P9 P11 P12 P18 K
set_option linter.unusedVariables false
set_option linter.unusedSimpArgs false

theorem l01In_bel (x a b : Int) (w : World) :
    Calls Tryz.prog 18 #[.int .i64 x, .int .i64 a, .int .i64 b] w fun e w' => e = .returned (.bool (inR x a b)) ∧ Below w.heap.size w w' := by
  by_cases h : a ≤ x ∧ x ≤ b
  · rw [show inR x a b = true by simp [inR, h]]
    exact (l01In_yes x a b h.1 h.2 w).mono fun e w' q => ⟨q.1, q.2 ▸ Below.refl _ _⟩
  · rw [show inR x a b = false by simp [inR]; omega]
    exact (l01In_no x a b (by omega) w).mono fun e w' q => ⟨q.1, q.2 ▸ Below.refl _ _⟩

set_option maxHeartbeats 8000000 in
theorem specCommandOk_1 (tk sq id kd sn us mb dp : Int) (oa : Option Addr) (n cl : Nat) (tx : List UInt8) (ob : Option Addr) (m cp : Nat) (ds up : Int) (zl zp : List Int) (hx : tx.length ≤ 1048576) (w : World) (hat : IntsAt w oa n cl zl) (hbt : IntsAt w ob m cp zp) :
    Calls Tryz.prog 7 #[cmval 1 tk sq id kd sn us mb dp (.slice oa n cl) (.slice ob m cp) tx ds up] w fun e w' => e = .returned (.bool (cmdOk (⟨1, tk, sq, ⟨id, kd, sn, us, mb, zl, tx, zp, dp⟩, ds, up⟩ : CmdV))) ∧ Below w.heap.size w w' := by
  have HB0 := hide ((Below.refl w.heap.size w).alloc (Nat.le_refl _) (.cells #[.int .i64 1, .int .i64 tk, .int .i64 sq, .int .i64 id, .int .i64 kd, .int .i64 sn, .int .i64 us, .int .i64 mb, .slice oa n cl, .string ⟨tx.toArray⟩, .slice ob m cp, .int .i64 dp, .int .i64 ds, .int .i64 up] 31))
  have HQ0 := hide (CB.new w 1 tk sq id kd sn us mb dp oa n cl tx ob m cp ds up)
  have HA0 := hide (hat.below HB0.out)
  have HC0 := hide (hbt.below HB0.out)
  have HI1 := hide (fun w => l01In_bel tk 0 1000000 w)
  have HI2 := hide (fun w => l01In_bel sq 0 1000000 w)
  have HI5 := hide (fun w => l01In_yes 1 1 5 (by omega) (by omega) w)
  have e0 : cmdOk (⟨1, tk, sq, ⟨id, kd, sn, us, mb, zl, tx, zp, dp⟩, ds, up⟩ : CmdV) = (inR tk 0 1000000 && (inR sq 0 1000000 && openOk (⟨1, tk, sq, ⟨id, kd, sn, us, mb, zl, tx, zp, dp⟩, ds, up⟩ : CmdV))) := by
    unfold cmdOk rightOf
    simp [inR]
  rw [e0]
  unfold openOk noDest
  simp only
  clear e0
  have hm := hbt.len
  have HBK := hide (fun w hat hbt => l13Blank_any id kd sn us mb dp oa n cl tx ob m cp zl zp w hat hbt)
  generalize blankE (⟨id, kd, sn, us, mb, zl, tx, zp, dp⟩ : EvV) = bE at HBK ⊢
  obtain ⟨d1, qd1⟩ : ∃ d1, decide (ds = 0) = d1 := ⟨_, rfl⟩
  obtain ⟨d2, qd2⟩ : ∃ d2, decide (up = 0) = d2 := ⟨_, rfl⟩
  obtain ⟨z1, qz1⟩ : ∃ z1, decide (tk = 0) = z1 := ⟨_, rfl⟩
  obtain ⟨z2, qz2⟩ : ∃ z2, decide (sq = 0) = z2 := ⟨_, rfl⟩
  rw [qd1, qd2, qz1, qz2]
  have id1 : (ds == 0) = d1 := by rw [← qd1, Bool.eq_iff_iff]; simp
  have nd1 : (ds != 0) = !d1 := by rw [← id1]; rfl
  have id2 : (up == 0) = d2 := by rw [← qd2, Bool.eq_iff_iff]; simp
  have nd2 : (up != 0) = !d2 := by rw [← id2]; rfl
  have iz1 : (tk == 0) = z1 := by rw [← qz1, Bool.eq_iff_iff]; simp
  have iz2 : (sq == 0) = z2 := by rw [← qz2, Bool.eq_iff_iff]; simp
  clear qd1 qd2 qz1 qz2
  clear hm hat hbt
  generalize inR tk 0 1000000 = b1 at HI1 ⊢
  generalize inR sq 0 1000000 = b2 at HI2 ⊢
  cases b1 with
  | false =>
    simp only [Bool.false_and, Bool.and_false, Bool.true_and, Bool.and_true]
    go_enter Tryz.func7, Tryz.ntmps7
    go_wp2_with fail
    refine (HI5.out _).mono ?_
    rintro e w0 ⟨rfl, rfl⟩
    obtain ⟨k0, k1, k2, k3, k4, k5, k6, k7, k8, k9, k10, k11, k12, k13⟩ := HQ0.out.cc
    go_wp2_with fail
    refine (HI1.out _).mono ?_
    rintro e w1 ⟨rfl, hb1⟩
    have HB1 := hide (HB0.out.trans (hb1.mono HB0.out.size))
    have HQ1 := hide (HQ0.out.on hb1 HQ0.out.lt)
    have HA1 := hide (HA0.out.below hb1)
    have HC1 := hide (HC0.out.below hb1)
    clear k0 k1 k2 k3 k4 k5 k6 k7 k8 k9 k10 k11 k12 k13
    obtain ⟨k0, k1, k2, k3, k4, k5, k6, k7, k8, k9, k10, k11, k12, k13⟩ := HQ1.out.cc
    clear hb1
    go_wp2_with fail
    go_ret
    exact ⟨rfl, HB1.out⟩
  | true =>
    cases b2 with
    | false =>
      simp only [Bool.false_and, Bool.and_false, Bool.true_and, Bool.and_true]
      go_enter Tryz.func7, Tryz.ntmps7
      go_wp2_with fail
      refine (HI5.out _).mono ?_
      rintro e w0 ⟨rfl, rfl⟩
      obtain ⟨k0, k1, k2, k3, k4, k5, k6, k7, k8, k9, k10, k11, k12, k13⟩ := HQ0.out.cc
      go_wp2_with fail
      refine (HI1.out _).mono ?_
      rintro e w1 ⟨rfl, hb1⟩
      have HB1 := hide (HB0.out.trans (hb1.mono HB0.out.size))
      have HQ1 := hide (HQ0.out.on hb1 HQ0.out.lt)
      have HA1 := hide (HA0.out.below hb1)
      have HC1 := hide (HC0.out.below hb1)
      clear k0 k1 k2 k3 k4 k5 k6 k7 k8 k9 k10 k11 k12 k13
      obtain ⟨k0, k1, k2, k3, k4, k5, k6, k7, k8, k9, k10, k11, k12, k13⟩ := HQ1.out.cc
      clear hb1
      go_wp2_with fail
      refine (HI2.out _).mono ?_
      rintro e w2 ⟨rfl, hb2⟩
      have HB2 := hide (HB1.out.trans (hb2.mono HB1.out.size))
      have HQ2 := hide (HQ1.out.on hb2 HQ1.out.lt)
      have HA2 := hide (HA1.out.below hb2)
      have HC2 := hide (HC1.out.below hb2)
      clear k0 k1 k2 k3 k4 k5 k6 k7 k8 k9 k10 k11 k12 k13
      obtain ⟨k0, k1, k2, k3, k4, k5, k6, k7, k8, k9, k10, k11, k12, k13⟩ := HQ2.out.cc
      clear hb2
      go_wp2_with fail
      go_ret
      exact ⟨rfl, HB2.out⟩
    | true =>
      cases bE with
      | false =>
        simp only [Bool.false_and, Bool.and_false, Bool.true_and, Bool.and_true]
        go_enter Tryz.func7, Tryz.ntmps7
        go_wp2_with fail
        refine (HI5.out _).mono ?_
        rintro e w0 ⟨rfl, rfl⟩
        obtain ⟨k0, k1, k2, k3, k4, k5, k6, k7, k8, k9, k10, k11, k12, k13⟩ := HQ0.out.cc
        go_wp2_with fail
        refine (HI1.out _).mono ?_
        rintro e w1 ⟨rfl, hb1⟩
        have HB1 := hide (HB0.out.trans (hb1.mono HB0.out.size))
        have HQ1 := hide (HQ0.out.on hb1 HQ0.out.lt)
        have HA1 := hide (HA0.out.below hb1)
        have HC1 := hide (HC0.out.below hb1)
        clear k0 k1 k2 k3 k4 k5 k6 k7 k8 k9 k10 k11 k12 k13
        obtain ⟨k0, k1, k2, k3, k4, k5, k6, k7, k8, k9, k10, k11, k12, k13⟩ := HQ1.out.cc
        clear hb1
        go_wp2_with fail
        refine (HI2.out _).mono ?_
        rintro e w2 ⟨rfl, hb2⟩
        have HB2 := hide (HB1.out.trans (hb2.mono HB1.out.size))
        have HQ2 := hide (HQ1.out.on hb2 HQ1.out.lt)
        have HA2 := hide (HA1.out.below hb2)
        have HC2 := hide (HC1.out.below hb2)
        clear k0 k1 k2 k3 k4 k5 k6 k7 k8 k9 k10 k11 k12 k13
        obtain ⟨k0, k1, k2, k3, k4, k5, k6, k7, k8, k9, k10, k11, k12, k13⟩ := HQ2.out.cc
        clear hb2
        go_wp2_with fail
        refine (HBK.out _ HA2.out HC2.out).mono ?_
        rintro e w3 ⟨rfl, hb3⟩
        have HB3 := hide (HB2.out.trans (hb3.mono HB2.out.size))
        have HQ3 := hide (HQ2.out.on hb3 HQ2.out.lt)
        have HA3 := hide (HA2.out.below hb3)
        have HC3 := hide (HC2.out.below hb3)
        clear k0 k1 k2 k3 k4 k5 k6 k7 k8 k9 k10 k11 k12 k13
        obtain ⟨k0, k1, k2, k3, k4, k5, k6, k7, k8, k9, k10, k11, k12, k13⟩ := HQ3.out.cc
        clear hb3
        go_wp2_with fail
        go_ret
        exact ⟨rfl, HB3.out⟩
      | true =>
        cases d1 with
        | false =>
          simp only [Bool.not_true, Bool.not_false] at nd1
          simp only [Bool.false_and, Bool.and_false, Bool.true_and, Bool.and_true]
          go_enter Tryz.func7, Tryz.ntmps7
          go_wp2_with fail
          refine (HI5.out _).mono ?_
          rintro e w0 ⟨rfl, rfl⟩
          obtain ⟨k0, k1, k2, k3, k4, k5, k6, k7, k8, k9, k10, k11, k12, k13⟩ := HQ0.out.cc
          go_wp2_with fail
          refine (HI1.out _).mono ?_
          rintro e w1 ⟨rfl, hb1⟩
          have HB1 := hide (HB0.out.trans (hb1.mono HB0.out.size))
          have HQ1 := hide (HQ0.out.on hb1 HQ0.out.lt)
          have HA1 := hide (HA0.out.below hb1)
          have HC1 := hide (HC0.out.below hb1)
          clear k0 k1 k2 k3 k4 k5 k6 k7 k8 k9 k10 k11 k12 k13
          obtain ⟨k0, k1, k2, k3, k4, k5, k6, k7, k8, k9, k10, k11, k12, k13⟩ := HQ1.out.cc
          clear hb1
          go_wp2_with fail
          refine (HI2.out _).mono ?_
          rintro e w2 ⟨rfl, hb2⟩
          have HB2 := hide (HB1.out.trans (hb2.mono HB1.out.size))
          have HQ2 := hide (HQ1.out.on hb2 HQ1.out.lt)
          have HA2 := hide (HA1.out.below hb2)
          have HC2 := hide (HC1.out.below hb2)
          clear k0 k1 k2 k3 k4 k5 k6 k7 k8 k9 k10 k11 k12 k13
          obtain ⟨k0, k1, k2, k3, k4, k5, k6, k7, k8, k9, k10, k11, k12, k13⟩ := HQ2.out.cc
          clear hb2
          go_wp2_with fail
          refine (HBK.out _ HA2.out HC2.out).mono ?_
          rintro e w3 ⟨rfl, hb3⟩
          have HB3 := hide (HB2.out.trans (hb3.mono HB2.out.size))
          have HQ3 := hide (HQ2.out.on hb3 HQ2.out.lt)
          have HA3 := hide (HA2.out.below hb3)
          have HC3 := hide (HC2.out.below hb3)
          clear k0 k1 k2 k3 k4 k5 k6 k7 k8 k9 k10 k11 k12 k13
          obtain ⟨k0, k1, k2, k3, k4, k5, k6, k7, k8, k9, k10, k11, k12, k13⟩ := HQ3.out.cc
          clear hb3
          go_wp2_with fail
          go_ret
          exact ⟨rfl, HB3.out⟩
        | true =>
          cases d2 with
          | false =>
            simp only [Bool.not_true, Bool.not_false] at nd2
            simp only [Bool.not_true, Bool.not_false] at nd1
            simp only [Bool.false_and, Bool.and_false, Bool.true_and, Bool.and_true]
            go_enter Tryz.func7, Tryz.ntmps7
            go_wp2_with fail
            refine (HI5.out _).mono ?_
            rintro e w0 ⟨rfl, rfl⟩
            obtain ⟨k0, k1, k2, k3, k4, k5, k6, k7, k8, k9, k10, k11, k12, k13⟩ := HQ0.out.cc
            go_wp2_with fail
            refine (HI1.out _).mono ?_
            rintro e w1 ⟨rfl, hb1⟩
            have HB1 := hide (HB0.out.trans (hb1.mono HB0.out.size))
            have HQ1 := hide (HQ0.out.on hb1 HQ0.out.lt)
            have HA1 := hide (HA0.out.below hb1)
            have HC1 := hide (HC0.out.below hb1)
            clear k0 k1 k2 k3 k4 k5 k6 k7 k8 k9 k10 k11 k12 k13
            obtain ⟨k0, k1, k2, k3, k4, k5, k6, k7, k8, k9, k10, k11, k12, k13⟩ := HQ1.out.cc
            clear hb1
            go_wp2_with fail
            refine (HI2.out _).mono ?_
            rintro e w2 ⟨rfl, hb2⟩
            have HB2 := hide (HB1.out.trans (hb2.mono HB1.out.size))
            have HQ2 := hide (HQ1.out.on hb2 HQ1.out.lt)
            have HA2 := hide (HA1.out.below hb2)
            have HC2 := hide (HC1.out.below hb2)
            clear k0 k1 k2 k3 k4 k5 k6 k7 k8 k9 k10 k11 k12 k13
            obtain ⟨k0, k1, k2, k3, k4, k5, k6, k7, k8, k9, k10, k11, k12, k13⟩ := HQ2.out.cc
            clear hb2
            go_wp2_with fail
            refine (HBK.out _ HA2.out HC2.out).mono ?_
            rintro e w3 ⟨rfl, hb3⟩
            have HB3 := hide (HB2.out.trans (hb3.mono HB2.out.size))
            have HQ3 := hide (HQ2.out.on hb3 HQ2.out.lt)
            have HA3 := hide (HA2.out.below hb3)
            have HC3 := hide (HC2.out.below hb3)
            clear k0 k1 k2 k3 k4 k5 k6 k7 k8 k9 k10 k11 k12 k13
            obtain ⟨k0, k1, k2, k3, k4, k5, k6, k7, k8, k9, k10, k11, k12, k13⟩ := HQ3.out.cc
            clear hb3
            go_wp2_with fail
            go_ret
            exact ⟨rfl, HB3.out⟩
          | true =>
            cases z1 with
            | false =>
              simp only [Bool.not_true, Bool.not_false] at nd2
              simp only [Bool.not_true, Bool.not_false] at nd1
              simp only [Bool.false_and, Bool.and_false, Bool.true_and, Bool.and_true]
              go_enter Tryz.func7, Tryz.ntmps7
              go_wp2_with fail
              refine (HI5.out _).mono ?_
              rintro e w0 ⟨rfl, rfl⟩
              obtain ⟨k0, k1, k2, k3, k4, k5, k6, k7, k8, k9, k10, k11, k12, k13⟩ := HQ0.out.cc
              go_wp2_with fail
              refine (HI1.out _).mono ?_
              rintro e w1 ⟨rfl, hb1⟩
              have HB1 := hide (HB0.out.trans (hb1.mono HB0.out.size))
              have HQ1 := hide (HQ0.out.on hb1 HQ0.out.lt)
              have HA1 := hide (HA0.out.below hb1)
              have HC1 := hide (HC0.out.below hb1)
              clear k0 k1 k2 k3 k4 k5 k6 k7 k8 k9 k10 k11 k12 k13
              obtain ⟨k0, k1, k2, k3, k4, k5, k6, k7, k8, k9, k10, k11, k12, k13⟩ := HQ1.out.cc
              clear hb1
              go_wp2_with fail
              refine (HI2.out _).mono ?_
              rintro e w2 ⟨rfl, hb2⟩
              have HB2 := hide (HB1.out.trans (hb2.mono HB1.out.size))
              have HQ2 := hide (HQ1.out.on hb2 HQ1.out.lt)
              have HA2 := hide (HA1.out.below hb2)
              have HC2 := hide (HC1.out.below hb2)
              clear k0 k1 k2 k3 k4 k5 k6 k7 k8 k9 k10 k11 k12 k13
              obtain ⟨k0, k1, k2, k3, k4, k5, k6, k7, k8, k9, k10, k11, k12, k13⟩ := HQ2.out.cc
              clear hb2
              go_wp2_with fail
              refine (HBK.out _ HA2.out HC2.out).mono ?_
              rintro e w3 ⟨rfl, hb3⟩
              have HB3 := hide (HB2.out.trans (hb3.mono HB2.out.size))
              have HQ3 := hide (HQ2.out.on hb3 HQ2.out.lt)
              have HA3 := hide (HA2.out.below hb3)
              have HC3 := hide (HC2.out.below hb3)
              clear k0 k1 k2 k3 k4 k5 k6 k7 k8 k9 k10 k11 k12 k13
              obtain ⟨k0, k1, k2, k3, k4, k5, k6, k7, k8, k9, k10, k11, k12, k13⟩ := HQ3.out.cc
              clear hb3
              go_wp2_with fail
              go_ret
              exact ⟨rfl, HB3.out⟩
            | true =>
              cases z2 with
              | false =>
                simp only [Bool.not_true, Bool.not_false] at nd2
                simp only [Bool.not_true, Bool.not_false] at nd1
                simp only [Bool.false_and, Bool.and_false, Bool.true_and, Bool.and_true]
                go_enter Tryz.func7, Tryz.ntmps7
                go_wp2_with fail
                refine (HI5.out _).mono ?_
                rintro e w0 ⟨rfl, rfl⟩
                obtain ⟨k0, k1, k2, k3, k4, k5, k6, k7, k8, k9, k10, k11, k12, k13⟩ := HQ0.out.cc
                go_wp2_with fail
                refine (HI1.out _).mono ?_
                rintro e w1 ⟨rfl, hb1⟩
                have HB1 := hide (HB0.out.trans (hb1.mono HB0.out.size))
                have HQ1 := hide (HQ0.out.on hb1 HQ0.out.lt)
                have HA1 := hide (HA0.out.below hb1)
                have HC1 := hide (HC0.out.below hb1)
                clear k0 k1 k2 k3 k4 k5 k6 k7 k8 k9 k10 k11 k12 k13
                obtain ⟨k0, k1, k2, k3, k4, k5, k6, k7, k8, k9, k10, k11, k12, k13⟩ := HQ1.out.cc
                clear hb1
                go_wp2_with fail
                refine (HI2.out _).mono ?_
                rintro e w2 ⟨rfl, hb2⟩
                have HB2 := hide (HB1.out.trans (hb2.mono HB1.out.size))
                have HQ2 := hide (HQ1.out.on hb2 HQ1.out.lt)
                have HA2 := hide (HA1.out.below hb2)
                have HC2 := hide (HC1.out.below hb2)
                clear k0 k1 k2 k3 k4 k5 k6 k7 k8 k9 k10 k11 k12 k13
                obtain ⟨k0, k1, k2, k3, k4, k5, k6, k7, k8, k9, k10, k11, k12, k13⟩ := HQ2.out.cc
                clear hb2
                go_wp2_with fail
                refine (HBK.out _ HA2.out HC2.out).mono ?_
                rintro e w3 ⟨rfl, hb3⟩
                have HB3 := hide (HB2.out.trans (hb3.mono HB2.out.size))
                have HQ3 := hide (HQ2.out.on hb3 HQ2.out.lt)
                have HA3 := hide (HA2.out.below hb3)
                have HC3 := hide (HC2.out.below hb3)
                clear k0 k1 k2 k3 k4 k5 k6 k7 k8 k9 k10 k11 k12 k13
                obtain ⟨k0, k1, k2, k3, k4, k5, k6, k7, k8, k9, k10, k11, k12, k13⟩ := HQ3.out.cc
                clear hb3
                go_wp2_with fail
                go_ret
                exact ⟨rfl, HB3.out⟩
              | true =>
                simp only [Bool.not_true, Bool.not_false] at nd2
                simp only [Bool.not_true, Bool.not_false] at nd1
                simp only [Bool.false_and, Bool.and_false, Bool.true_and, Bool.and_true]
                go_enter Tryz.func7, Tryz.ntmps7
                go_wp2_with fail
                refine (HI5.out _).mono ?_
                rintro e w0 ⟨rfl, rfl⟩
                obtain ⟨k0, k1, k2, k3, k4, k5, k6, k7, k8, k9, k10, k11, k12, k13⟩ := HQ0.out.cc
                go_wp2_with fail
                refine (HI1.out _).mono ?_
                rintro e w1 ⟨rfl, hb1⟩
                have HB1 := hide (HB0.out.trans (hb1.mono HB0.out.size))
                have HQ1 := hide (HQ0.out.on hb1 HQ0.out.lt)
                have HA1 := hide (HA0.out.below hb1)
                have HC1 := hide (HC0.out.below hb1)
                clear k0 k1 k2 k3 k4 k5 k6 k7 k8 k9 k10 k11 k12 k13
                obtain ⟨k0, k1, k2, k3, k4, k5, k6, k7, k8, k9, k10, k11, k12, k13⟩ := HQ1.out.cc
                clear hb1
                go_wp2_with fail
                refine (HI2.out _).mono ?_
                rintro e w2 ⟨rfl, hb2⟩
                have HB2 := hide (HB1.out.trans (hb2.mono HB1.out.size))
                have HQ2 := hide (HQ1.out.on hb2 HQ1.out.lt)
                have HA2 := hide (HA1.out.below hb2)
                have HC2 := hide (HC1.out.below hb2)
                clear k0 k1 k2 k3 k4 k5 k6 k7 k8 k9 k10 k11 k12 k13
                obtain ⟨k0, k1, k2, k3, k4, k5, k6, k7, k8, k9, k10, k11, k12, k13⟩ := HQ2.out.cc
                clear hb2
                go_wp2_with fail
                refine (HBK.out _ HA2.out HC2.out).mono ?_
                rintro e w3 ⟨rfl, hb3⟩
                have HB3 := hide (HB2.out.trans (hb3.mono HB2.out.size))
                have HQ3 := hide (HQ2.out.on hb3 HQ2.out.lt)
                have HA3 := hide (HA2.out.below hb3)
                have HC3 := hide (HC2.out.below hb3)
                clear k0 k1 k2 k3 k4 k5 k6 k7 k8 k9 k10 k11 k12 k13
                obtain ⟨k0, k1, k2, k3, k4, k5, k6, k7, k8, k9, k10, k11, k12, k13⟩ := HQ3.out.cc
                clear hb3
                go_wp2_with fail
                go_ret
                exact ⟨rfl, HB3.out⟩

set_option maxHeartbeats 8000000 in
theorem specCommandOk_2 (tk sq id kd sn us mb dp : Int) (oa : Option Addr) (n cl : Nat) (tx : List UInt8) (ob : Option Addr) (m cp : Nat) (ds up : Int) (zl zp : List Int) (hx : tx.length ≤ 1048576) (w : World) (hat : IntsAt w oa n cl zl) (hbt : IntsAt w ob m cp zp) :
    Calls Tryz.prog 7 #[cmval 2 tk sq id kd sn us mb dp (.slice oa n cl) (.slice ob m cp) tx ds up] w fun e w' => e = .returned (.bool (cmdOk (⟨2, tk, sq, ⟨id, kd, sn, us, mb, zl, tx, zp, dp⟩, ds, up⟩ : CmdV))) ∧ Below w.heap.size w w' := by
  have HB0 := hide ((Below.refl w.heap.size w).alloc (Nat.le_refl _) (.cells #[.int .i64 2, .int .i64 tk, .int .i64 sq, .int .i64 id, .int .i64 kd, .int .i64 sn, .int .i64 us, .int .i64 mb, .slice oa n cl, .string ⟨tx.toArray⟩, .slice ob m cp, .int .i64 dp, .int .i64 ds, .int .i64 up] 31))
  have HQ0 := hide (CB.new w 2 tk sq id kd sn us mb dp oa n cl tx ob m cp ds up)
  have HA0 := hide (hat.below HB0.out)
  have HC0 := hide (hbt.below HB0.out)
  have HI1 := hide (fun w => l01In_bel tk 0 1000000 w)
  have HI2 := hide (fun w => l01In_bel sq 0 1000000 w)
  have HI5 := hide (fun w => l01In_yes 2 1 5 (by omega) (by omega) w)
  have e0 : cmdOk (⟨2, tk, sq, ⟨id, kd, sn, us, mb, zl, tx, zp, dp⟩, ds, up⟩ : CmdV) = (inR tk 0 1000000 && (inR sq 0 1000000 && sendOk (⟨2, tk, sq, ⟨id, kd, sn, us, mb, zl, tx, zp, dp⟩, ds, up⟩ : CmdV))) := by
    unfold cmdOk rightOf
    simp [inR]
  rw [e0]
  unfold sendOk noDest
  simp only
  clear e0
  have hm := hbt.len
  have HBO := hide (fun w hat => l09Body_any id kd sn us mb dp oa n cl tx ob m cp zl zp hx w hat)
  generalize bodyOk (⟨id, kd, sn, us, mb, zl, tx, zp, dp⟩ : EvV) = bO at HBO ⊢
  obtain ⟨d1, qd1⟩ : ∃ d1, decide (ds = 0) = d1 := ⟨_, rfl⟩
  obtain ⟨d2, qd2⟩ : ∃ d2, decide (up = 0) = d2 := ⟨_, rfl⟩
  obtain ⟨z3, qz3⟩ : ∃ z3, decide (id = 0) = z3 := ⟨_, rfl⟩
  obtain ⟨z4, qz4⟩ : ∃ z4, decide (dp = 0) = z4 := ⟨_, rfl⟩
  obtain ⟨z5, qz5⟩ : ∃ z5, decide (zp.length = 0) = z5 := ⟨_, rfl⟩
  rw [qd1, qd2, qz3, qz4, qz5]
  have id1 : (ds == 0) = d1 := by rw [← qd1, Bool.eq_iff_iff]; simp
  have nd1 : (ds != 0) = !d1 := by rw [← id1]; rfl
  have id2 : (up == 0) = d2 := by rw [← qd2, Bool.eq_iff_iff]; simp
  have nd2 : (up != 0) = !d2 := by rw [← id2]; rfl
  have iz3 : (id == 0) = z3 := by rw [← qz3, Bool.eq_iff_iff]; simp
  have iz4 : (dp == 0) = z4 := by rw [← qz4, Bool.eq_iff_iff]; simp
  have iz5 : ((m : Int) == 0) = z5 := by rw [← qz5, Bool.eq_iff_iff, ← hm]; simp
  clear qd1 qd2 qz3 qz4 qz5
  clear hm hat hbt
  generalize inR tk 0 1000000 = b1 at HI1 ⊢
  generalize inR sq 0 1000000 = b2 at HI2 ⊢
  cases b1 with
  | false =>
    simp only [Bool.false_and, Bool.and_false, Bool.true_and, Bool.and_true]
    go_enter Tryz.func7, Tryz.ntmps7
    go_wp2_with fail
    refine (HI5.out _).mono ?_
    rintro e w0 ⟨rfl, rfl⟩
    obtain ⟨k0, k1, k2, k3, k4, k5, k6, k7, k8, k9, k10, k11, k12, k13⟩ := HQ0.out.cc
    go_wp2_with fail
    refine (HI1.out _).mono ?_
    rintro e w1 ⟨rfl, hb1⟩
    have HB1 := hide (HB0.out.trans (hb1.mono HB0.out.size))
    have HQ1 := hide (HQ0.out.on hb1 HQ0.out.lt)
    have HA1 := hide (HA0.out.below hb1)
    have HC1 := hide (HC0.out.below hb1)
    clear k0 k1 k2 k3 k4 k5 k6 k7 k8 k9 k10 k11 k12 k13
    obtain ⟨k0, k1, k2, k3, k4, k5, k6, k7, k8, k9, k10, k11, k12, k13⟩ := HQ1.out.cc
    clear hb1
    go_wp2_with fail
    go_ret
    exact ⟨rfl, HB1.out⟩
  | true =>
    cases b2 with
    | false =>
      simp only [Bool.false_and, Bool.and_false, Bool.true_and, Bool.and_true]
      go_enter Tryz.func7, Tryz.ntmps7
      go_wp2_with fail
      refine (HI5.out _).mono ?_
      rintro e w0 ⟨rfl, rfl⟩
      obtain ⟨k0, k1, k2, k3, k4, k5, k6, k7, k8, k9, k10, k11, k12, k13⟩ := HQ0.out.cc
      go_wp2_with fail
      refine (HI1.out _).mono ?_
      rintro e w1 ⟨rfl, hb1⟩
      have HB1 := hide (HB0.out.trans (hb1.mono HB0.out.size))
      have HQ1 := hide (HQ0.out.on hb1 HQ0.out.lt)
      have HA1 := hide (HA0.out.below hb1)
      have HC1 := hide (HC0.out.below hb1)
      clear k0 k1 k2 k3 k4 k5 k6 k7 k8 k9 k10 k11 k12 k13
      obtain ⟨k0, k1, k2, k3, k4, k5, k6, k7, k8, k9, k10, k11, k12, k13⟩ := HQ1.out.cc
      clear hb1
      go_wp2_with fail
      refine (HI2.out _).mono ?_
      rintro e w2 ⟨rfl, hb2⟩
      have HB2 := hide (HB1.out.trans (hb2.mono HB1.out.size))
      have HQ2 := hide (HQ1.out.on hb2 HQ1.out.lt)
      have HA2 := hide (HA1.out.below hb2)
      have HC2 := hide (HC1.out.below hb2)
      clear k0 k1 k2 k3 k4 k5 k6 k7 k8 k9 k10 k11 k12 k13
      obtain ⟨k0, k1, k2, k3, k4, k5, k6, k7, k8, k9, k10, k11, k12, k13⟩ := HQ2.out.cc
      clear hb2
      go_wp2_with fail
      go_ret
      exact ⟨rfl, HB2.out⟩
    | true =>
      cases d1 with
      | false =>
        simp only [Bool.not_true, Bool.not_false] at nd1
        simp only [Bool.false_and, Bool.and_false, Bool.true_and, Bool.and_true]
        go_enter Tryz.func7, Tryz.ntmps7
        go_wp2_with fail
        refine (HI5.out _).mono ?_
        rintro e w0 ⟨rfl, rfl⟩
        obtain ⟨k0, k1, k2, k3, k4, k5, k6, k7, k8, k9, k10, k11, k12, k13⟩ := HQ0.out.cc
        go_wp2_with fail
        refine (HI1.out _).mono ?_
        rintro e w1 ⟨rfl, hb1⟩
        have HB1 := hide (HB0.out.trans (hb1.mono HB0.out.size))
        have HQ1 := hide (HQ0.out.on hb1 HQ0.out.lt)
        have HA1 := hide (HA0.out.below hb1)
        have HC1 := hide (HC0.out.below hb1)
        clear k0 k1 k2 k3 k4 k5 k6 k7 k8 k9 k10 k11 k12 k13
        obtain ⟨k0, k1, k2, k3, k4, k5, k6, k7, k8, k9, k10, k11, k12, k13⟩ := HQ1.out.cc
        clear hb1
        go_wp2_with fail
        refine (HI2.out _).mono ?_
        rintro e w2 ⟨rfl, hb2⟩
        have HB2 := hide (HB1.out.trans (hb2.mono HB1.out.size))
        have HQ2 := hide (HQ1.out.on hb2 HQ1.out.lt)
        have HA2 := hide (HA1.out.below hb2)
        have HC2 := hide (HC1.out.below hb2)
        clear k0 k1 k2 k3 k4 k5 k6 k7 k8 k9 k10 k11 k12 k13
        obtain ⟨k0, k1, k2, k3, k4, k5, k6, k7, k8, k9, k10, k11, k12, k13⟩ := HQ2.out.cc
        clear hb2
        go_wp2_with fail
        go_ret
        exact ⟨rfl, HB2.out⟩
      | true =>
        cases d2 with
        | false =>
          simp only [Bool.not_true, Bool.not_false] at nd2
          simp only [Bool.not_true, Bool.not_false] at nd1
          simp only [Bool.false_and, Bool.and_false, Bool.true_and, Bool.and_true]
          go_enter Tryz.func7, Tryz.ntmps7
          go_wp2_with fail
          refine (HI5.out _).mono ?_
          rintro e w0 ⟨rfl, rfl⟩
          obtain ⟨k0, k1, k2, k3, k4, k5, k6, k7, k8, k9, k10, k11, k12, k13⟩ := HQ0.out.cc
          go_wp2_with fail
          refine (HI1.out _).mono ?_
          rintro e w1 ⟨rfl, hb1⟩
          have HB1 := hide (HB0.out.trans (hb1.mono HB0.out.size))
          have HQ1 := hide (HQ0.out.on hb1 HQ0.out.lt)
          have HA1 := hide (HA0.out.below hb1)
          have HC1 := hide (HC0.out.below hb1)
          clear k0 k1 k2 k3 k4 k5 k6 k7 k8 k9 k10 k11 k12 k13
          obtain ⟨k0, k1, k2, k3, k4, k5, k6, k7, k8, k9, k10, k11, k12, k13⟩ := HQ1.out.cc
          clear hb1
          go_wp2_with fail
          refine (HI2.out _).mono ?_
          rintro e w2 ⟨rfl, hb2⟩
          have HB2 := hide (HB1.out.trans (hb2.mono HB1.out.size))
          have HQ2 := hide (HQ1.out.on hb2 HQ1.out.lt)
          have HA2 := hide (HA1.out.below hb2)
          have HC2 := hide (HC1.out.below hb2)
          clear k0 k1 k2 k3 k4 k5 k6 k7 k8 k9 k10 k11 k12 k13
          obtain ⟨k0, k1, k2, k3, k4, k5, k6, k7, k8, k9, k10, k11, k12, k13⟩ := HQ2.out.cc
          clear hb2
          go_wp2_with fail
          go_ret
          exact ⟨rfl, HB2.out⟩
        | true =>
          cases bO with
          | false =>
            simp only [Bool.not_true, Bool.not_false] at nd2
            simp only [Bool.not_true, Bool.not_false] at nd1
            simp only [Bool.false_and, Bool.and_false, Bool.true_and, Bool.and_true]
            go_enter Tryz.func7, Tryz.ntmps7
            go_wp2_with fail
            refine (HI5.out _).mono ?_
            rintro e w0 ⟨rfl, rfl⟩
            obtain ⟨k0, k1, k2, k3, k4, k5, k6, k7, k8, k9, k10, k11, k12, k13⟩ := HQ0.out.cc
            go_wp2_with fail
            refine (HI1.out _).mono ?_
            rintro e w1 ⟨rfl, hb1⟩
            have HB1 := hide (HB0.out.trans (hb1.mono HB0.out.size))
            have HQ1 := hide (HQ0.out.on hb1 HQ0.out.lt)
            have HA1 := hide (HA0.out.below hb1)
            have HC1 := hide (HC0.out.below hb1)
            clear k0 k1 k2 k3 k4 k5 k6 k7 k8 k9 k10 k11 k12 k13
            obtain ⟨k0, k1, k2, k3, k4, k5, k6, k7, k8, k9, k10, k11, k12, k13⟩ := HQ1.out.cc
            clear hb1
            go_wp2_with fail
            refine (HI2.out _).mono ?_
            rintro e w2 ⟨rfl, hb2⟩
            have HB2 := hide (HB1.out.trans (hb2.mono HB1.out.size))
            have HQ2 := hide (HQ1.out.on hb2 HQ1.out.lt)
            have HA2 := hide (HA1.out.below hb2)
            have HC2 := hide (HC1.out.below hb2)
            clear k0 k1 k2 k3 k4 k5 k6 k7 k8 k9 k10 k11 k12 k13
            obtain ⟨k0, k1, k2, k3, k4, k5, k6, k7, k8, k9, k10, k11, k12, k13⟩ := HQ2.out.cc
            clear hb2
            go_wp2_with fail
            refine (HBO.out _ HA2.out).mono ?_
            rintro e w3 ⟨rfl, hb3⟩
            have HB3 := hide (HB2.out.trans (hb3.mono HB2.out.size))
            have HQ3 := hide (HQ2.out.on hb3 HQ2.out.lt)
            have HA3 := hide (HA2.out.below hb3)
            have HC3 := hide (HC2.out.below hb3)
            clear k0 k1 k2 k3 k4 k5 k6 k7 k8 k9 k10 k11 k12 k13
            obtain ⟨k0, k1, k2, k3, k4, k5, k6, k7, k8, k9, k10, k11, k12, k13⟩ := HQ3.out.cc
            clear hb3
            go_wp2_with fail
            go_ret
            exact ⟨rfl, HB3.out⟩
          | true =>
            cases z3 with
            | false =>
              simp only [Bool.not_true, Bool.not_false] at nd2
              simp only [Bool.not_true, Bool.not_false] at nd1
              simp only [Bool.false_and, Bool.and_false, Bool.true_and, Bool.and_true]
              go_enter Tryz.func7, Tryz.ntmps7
              go_wp2_with fail
              refine (HI5.out _).mono ?_
              rintro e w0 ⟨rfl, rfl⟩
              obtain ⟨k0, k1, k2, k3, k4, k5, k6, k7, k8, k9, k10, k11, k12, k13⟩ := HQ0.out.cc
              go_wp2_with fail
              refine (HI1.out _).mono ?_
              rintro e w1 ⟨rfl, hb1⟩
              have HB1 := hide (HB0.out.trans (hb1.mono HB0.out.size))
              have HQ1 := hide (HQ0.out.on hb1 HQ0.out.lt)
              have HA1 := hide (HA0.out.below hb1)
              have HC1 := hide (HC0.out.below hb1)
              clear k0 k1 k2 k3 k4 k5 k6 k7 k8 k9 k10 k11 k12 k13
              obtain ⟨k0, k1, k2, k3, k4, k5, k6, k7, k8, k9, k10, k11, k12, k13⟩ := HQ1.out.cc
              clear hb1
              go_wp2_with fail
              refine (HI2.out _).mono ?_
              rintro e w2 ⟨rfl, hb2⟩
              have HB2 := hide (HB1.out.trans (hb2.mono HB1.out.size))
              have HQ2 := hide (HQ1.out.on hb2 HQ1.out.lt)
              have HA2 := hide (HA1.out.below hb2)
              have HC2 := hide (HC1.out.below hb2)
              clear k0 k1 k2 k3 k4 k5 k6 k7 k8 k9 k10 k11 k12 k13
              obtain ⟨k0, k1, k2, k3, k4, k5, k6, k7, k8, k9, k10, k11, k12, k13⟩ := HQ2.out.cc
              clear hb2
              go_wp2_with fail
              refine (HBO.out _ HA2.out).mono ?_
              rintro e w3 ⟨rfl, hb3⟩
              have HB3 := hide (HB2.out.trans (hb3.mono HB2.out.size))
              have HQ3 := hide (HQ2.out.on hb3 HQ2.out.lt)
              have HA3 := hide (HA2.out.below hb3)
              have HC3 := hide (HC2.out.below hb3)
              clear k0 k1 k2 k3 k4 k5 k6 k7 k8 k9 k10 k11 k12 k13
              obtain ⟨k0, k1, k2, k3, k4, k5, k6, k7, k8, k9, k10, k11, k12, k13⟩ := HQ3.out.cc
              clear hb3
              go_wp2_with fail
              go_ret
              exact ⟨rfl, HB3.out⟩
            | true =>
              cases z4 with
              | false =>
                simp only [Bool.not_true, Bool.not_false] at nd2
                simp only [Bool.not_true, Bool.not_false] at nd1
                simp only [Bool.false_and, Bool.and_false, Bool.true_and, Bool.and_true]
                go_enter Tryz.func7, Tryz.ntmps7
                go_wp2_with fail
                refine (HI5.out _).mono ?_
                rintro e w0 ⟨rfl, rfl⟩
                obtain ⟨k0, k1, k2, k3, k4, k5, k6, k7, k8, k9, k10, k11, k12, k13⟩ := HQ0.out.cc
                go_wp2_with fail
                refine (HI1.out _).mono ?_
                rintro e w1 ⟨rfl, hb1⟩
                have HB1 := hide (HB0.out.trans (hb1.mono HB0.out.size))
                have HQ1 := hide (HQ0.out.on hb1 HQ0.out.lt)
                have HA1 := hide (HA0.out.below hb1)
                have HC1 := hide (HC0.out.below hb1)
                clear k0 k1 k2 k3 k4 k5 k6 k7 k8 k9 k10 k11 k12 k13
                obtain ⟨k0, k1, k2, k3, k4, k5, k6, k7, k8, k9, k10, k11, k12, k13⟩ := HQ1.out.cc
                clear hb1
                go_wp2_with fail
                refine (HI2.out _).mono ?_
                rintro e w2 ⟨rfl, hb2⟩
                have HB2 := hide (HB1.out.trans (hb2.mono HB1.out.size))
                have HQ2 := hide (HQ1.out.on hb2 HQ1.out.lt)
                have HA2 := hide (HA1.out.below hb2)
                have HC2 := hide (HC1.out.below hb2)
                clear k0 k1 k2 k3 k4 k5 k6 k7 k8 k9 k10 k11 k12 k13
                obtain ⟨k0, k1, k2, k3, k4, k5, k6, k7, k8, k9, k10, k11, k12, k13⟩ := HQ2.out.cc
                clear hb2
                go_wp2_with fail
                refine (HBO.out _ HA2.out).mono ?_
                rintro e w3 ⟨rfl, hb3⟩
                have HB3 := hide (HB2.out.trans (hb3.mono HB2.out.size))
                have HQ3 := hide (HQ2.out.on hb3 HQ2.out.lt)
                have HA3 := hide (HA2.out.below hb3)
                have HC3 := hide (HC2.out.below hb3)
                clear k0 k1 k2 k3 k4 k5 k6 k7 k8 k9 k10 k11 k12 k13
                obtain ⟨k0, k1, k2, k3, k4, k5, k6, k7, k8, k9, k10, k11, k12, k13⟩ := HQ3.out.cc
                clear hb3
                go_wp2_with fail
                go_ret
                exact ⟨rfl, HB3.out⟩
              | true =>
                cases z5 with
                | false =>
                  simp only [Bool.not_true, Bool.not_false] at nd2
                  simp only [Bool.not_true, Bool.not_false] at nd1
                  simp only [Bool.false_and, Bool.and_false, Bool.true_and, Bool.and_true]
                  go_enter Tryz.func7, Tryz.ntmps7
                  go_wp2_with fail
                  refine (HI5.out _).mono ?_
                  rintro e w0 ⟨rfl, rfl⟩
                  obtain ⟨k0, k1, k2, k3, k4, k5, k6, k7, k8, k9, k10, k11, k12, k13⟩ := HQ0.out.cc
                  go_wp2_with fail
                  refine (HI1.out _).mono ?_
                  rintro e w1 ⟨rfl, hb1⟩
                  have HB1 := hide (HB0.out.trans (hb1.mono HB0.out.size))
                  have HQ1 := hide (HQ0.out.on hb1 HQ0.out.lt)
                  have HA1 := hide (HA0.out.below hb1)
                  have HC1 := hide (HC0.out.below hb1)
                  clear k0 k1 k2 k3 k4 k5 k6 k7 k8 k9 k10 k11 k12 k13
                  obtain ⟨k0, k1, k2, k3, k4, k5, k6, k7, k8, k9, k10, k11, k12, k13⟩ := HQ1.out.cc
                  clear hb1
                  go_wp2_with fail
                  refine (HI2.out _).mono ?_
                  rintro e w2 ⟨rfl, hb2⟩
                  have HB2 := hide (HB1.out.trans (hb2.mono HB1.out.size))
                  have HQ2 := hide (HQ1.out.on hb2 HQ1.out.lt)
                  have HA2 := hide (HA1.out.below hb2)
                  have HC2 := hide (HC1.out.below hb2)
                  clear k0 k1 k2 k3 k4 k5 k6 k7 k8 k9 k10 k11 k12 k13
                  obtain ⟨k0, k1, k2, k3, k4, k5, k6, k7, k8, k9, k10, k11, k12, k13⟩ := HQ2.out.cc
                  clear hb2
                  go_wp2_with fail
                  refine (HBO.out _ HA2.out).mono ?_
                  rintro e w3 ⟨rfl, hb3⟩
                  have HB3 := hide (HB2.out.trans (hb3.mono HB2.out.size))
                  have HQ3 := hide (HQ2.out.on hb3 HQ2.out.lt)
                  have HA3 := hide (HA2.out.below hb3)
                  have HC3 := hide (HC2.out.below hb3)
                  clear k0 k1 k2 k3 k4 k5 k6 k7 k8 k9 k10 k11 k12 k13
                  obtain ⟨k0, k1, k2, k3, k4, k5, k6, k7, k8, k9, k10, k11, k12, k13⟩ := HQ3.out.cc
                  clear hb3
                  go_wp2_with fail
                  go_ret
                  exact ⟨rfl, HB3.out⟩
                | true =>
                  simp only [Bool.not_true, Bool.not_false] at nd2
                  simp only [Bool.not_true, Bool.not_false] at nd1
                  simp only [Bool.false_and, Bool.and_false, Bool.true_and, Bool.and_true]
                  go_enter Tryz.func7, Tryz.ntmps7
                  go_wp2_with fail
                  refine (HI5.out _).mono ?_
                  rintro e w0 ⟨rfl, rfl⟩
                  obtain ⟨k0, k1, k2, k3, k4, k5, k6, k7, k8, k9, k10, k11, k12, k13⟩ := HQ0.out.cc
                  go_wp2_with fail
                  refine (HI1.out _).mono ?_
                  rintro e w1 ⟨rfl, hb1⟩
                  have HB1 := hide (HB0.out.trans (hb1.mono HB0.out.size))
                  have HQ1 := hide (HQ0.out.on hb1 HQ0.out.lt)
                  have HA1 := hide (HA0.out.below hb1)
                  have HC1 := hide (HC0.out.below hb1)
                  clear k0 k1 k2 k3 k4 k5 k6 k7 k8 k9 k10 k11 k12 k13
                  obtain ⟨k0, k1, k2, k3, k4, k5, k6, k7, k8, k9, k10, k11, k12, k13⟩ := HQ1.out.cc
                  clear hb1
                  go_wp2_with fail
                  refine (HI2.out _).mono ?_
                  rintro e w2 ⟨rfl, hb2⟩
                  have HB2 := hide (HB1.out.trans (hb2.mono HB1.out.size))
                  have HQ2 := hide (HQ1.out.on hb2 HQ1.out.lt)
                  have HA2 := hide (HA1.out.below hb2)
                  have HC2 := hide (HC1.out.below hb2)
                  clear k0 k1 k2 k3 k4 k5 k6 k7 k8 k9 k10 k11 k12 k13
                  obtain ⟨k0, k1, k2, k3, k4, k5, k6, k7, k8, k9, k10, k11, k12, k13⟩ := HQ2.out.cc
                  clear hb2
                  go_wp2_with fail
                  refine (HBO.out _ HA2.out).mono ?_
                  rintro e w3 ⟨rfl, hb3⟩
                  have HB3 := hide (HB2.out.trans (hb3.mono HB2.out.size))
                  have HQ3 := hide (HQ2.out.on hb3 HQ2.out.lt)
                  have HA3 := hide (HA2.out.below hb3)
                  have HC3 := hide (HC2.out.below hb3)
                  clear k0 k1 k2 k3 k4 k5 k6 k7 k8 k9 k10 k11 k12 k13
                  obtain ⟨k0, k1, k2, k3, k4, k5, k6, k7, k8, k9, k10, k11, k12, k13⟩ := HQ3.out.cc
                  clear hb3
                  go_wp2_with fail
                  go_ret
                  exact ⟨rfl, HB3.out⟩

set_option maxHeartbeats 8000000 in
theorem specCommandOk_3 (tk sq id kd sn us mb dp : Int) (oa : Option Addr) (n cl : Nat) (tx : List UInt8) (ob : Option Addr) (m cp : Nat) (ds up : Int) (zl zp : List Int) (hx : tx.length ≤ 1048576) (w : World) (hat : IntsAt w oa n cl zl) (hbt : IntsAt w ob m cp zp) :
    Calls Tryz.prog 7 #[cmval 3 tk sq id kd sn us mb dp (.slice oa n cl) (.slice ob m cp) tx ds up] w fun e w' => e = .returned (.bool (cmdOk (⟨3, tk, sq, ⟨id, kd, sn, us, mb, zl, tx, zp, dp⟩, ds, up⟩ : CmdV))) ∧ Below w.heap.size w w' := by
  have HB0 := hide ((Below.refl w.heap.size w).alloc (Nat.le_refl _) (.cells #[.int .i64 3, .int .i64 tk, .int .i64 sq, .int .i64 id, .int .i64 kd, .int .i64 sn, .int .i64 us, .int .i64 mb, .slice oa n cl, .string ⟨tx.toArray⟩, .slice ob m cp, .int .i64 dp, .int .i64 ds, .int .i64 up] 31))
  have HQ0 := hide (CB.new w 3 tk sq id kd sn us mb dp oa n cl tx ob m cp ds up)
  have HA0 := hide (hat.below HB0.out)
  have HC0 := hide (hbt.below HB0.out)
  have HI1 := hide (fun w => l01In_bel tk 0 1000000 w)
  have HI2 := hide (fun w => l01In_bel sq 0 1000000 w)
  have HI5 := hide (fun w => l01In_yes 3 1 5 (by omega) (by omega) w)
  have e0 : cmdOk (⟨3, tk, sq, ⟨id, kd, sn, us, mb, zl, tx, zp, dp⟩, ds, up⟩ : CmdV) = (inR tk 0 1000000 && (inR sq 0 1000000 && recvOk (⟨3, tk, sq, ⟨id, kd, sn, us, mb, zl, tx, zp, dp⟩, ds, up⟩ : CmdV))) := by
    unfold cmdOk rightOf
    simp [inR]
  rw [e0]
  unfold recvOk noDest
  simp only
  clear e0
  have hm := hbt.len
  have HEO := hide (fun w hat hbt => specEventOk_any id kd sn us mb dp oa n cl tx ob m cp zl zp hx w hat hbt)
  generalize evOk (⟨id, kd, sn, us, mb, zl, tx, zp, dp⟩ : EvV) = bV at HEO ⊢
  obtain ⟨d1, qd1⟩ : ∃ d1, decide (ds = 0) = d1 := ⟨_, rfl⟩
  obtain ⟨d2, qd2⟩ : ∃ d2, decide (up = 0) = d2 := ⟨_, rfl⟩
  obtain ⟨z6, qz6⟩ : ∃ z6, decide (id.tmod 2 = 1) = z6 := ⟨_, rfl⟩
  rw [qd1, qd2, qz6]
  have id1 : (ds == 0) = d1 := by rw [← qd1, Bool.eq_iff_iff]; simp
  have nd1 : (ds != 0) = !d1 := by rw [← id1]; rfl
  have id2 : (up == 0) = d2 := by rw [← qd2, Bool.eq_iff_iff]; simp
  have nd2 : (up != 0) = !d2 := by rw [← id2]; rfl
  have jz6 : (id.tmod 2 == 1) = z6 := by rw [← qz6, Bool.eq_iff_iff]; simp
  have iz6 : (IntKind.i64.wrap (id.tmod 2) == 1) = z6 := by rw [← jz6]; congr 1; exact wrap_mod2 id
  clear qd1 qd2 qz6
  clear hm hat hbt
  generalize inR tk 0 1000000 = b1 at HI1 ⊢
  generalize inR sq 0 1000000 = b2 at HI2 ⊢
  cases b1 with
  | false =>
    simp only [Bool.false_and, Bool.and_false, Bool.true_and, Bool.and_true]
    go_enter Tryz.func7, Tryz.ntmps7
    go_wp2_with fail
    refine (HI5.out _).mono ?_
    rintro e w0 ⟨rfl, rfl⟩
    obtain ⟨k0, k1, k2, k3, k4, k5, k6, k7, k8, k9, k10, k11, k12, k13⟩ := HQ0.out.cc
    go_wp2_with fail
    refine (HI1.out _).mono ?_
    rintro e w1 ⟨rfl, hb1⟩
    have HB1 := hide (HB0.out.trans (hb1.mono HB0.out.size))
    have HQ1 := hide (HQ0.out.on hb1 HQ0.out.lt)
    have HA1 := hide (HA0.out.below hb1)
    have HC1 := hide (HC0.out.below hb1)
    clear k0 k1 k2 k3 k4 k5 k6 k7 k8 k9 k10 k11 k12 k13
    obtain ⟨k0, k1, k2, k3, k4, k5, k6, k7, k8, k9, k10, k11, k12, k13⟩ := HQ1.out.cc
    clear hb1
    go_wp2_with fail
    go_ret
    exact ⟨rfl, HB1.out⟩
  | true =>
    cases b2 with
    | false =>
      simp only [Bool.false_and, Bool.and_false, Bool.true_and, Bool.and_true]
      go_enter Tryz.func7, Tryz.ntmps7
      go_wp2_with fail
      refine (HI5.out _).mono ?_
      rintro e w0 ⟨rfl, rfl⟩
      obtain ⟨k0, k1, k2, k3, k4, k5, k6, k7, k8, k9, k10, k11, k12, k13⟩ := HQ0.out.cc
      go_wp2_with fail
      refine (HI1.out _).mono ?_
      rintro e w1 ⟨rfl, hb1⟩
      have HB1 := hide (HB0.out.trans (hb1.mono HB0.out.size))
      have HQ1 := hide (HQ0.out.on hb1 HQ0.out.lt)
      have HA1 := hide (HA0.out.below hb1)
      have HC1 := hide (HC0.out.below hb1)
      clear k0 k1 k2 k3 k4 k5 k6 k7 k8 k9 k10 k11 k12 k13
      obtain ⟨k0, k1, k2, k3, k4, k5, k6, k7, k8, k9, k10, k11, k12, k13⟩ := HQ1.out.cc
      clear hb1
      go_wp2_with fail
      refine (HI2.out _).mono ?_
      rintro e w2 ⟨rfl, hb2⟩
      have HB2 := hide (HB1.out.trans (hb2.mono HB1.out.size))
      have HQ2 := hide (HQ1.out.on hb2 HQ1.out.lt)
      have HA2 := hide (HA1.out.below hb2)
      have HC2 := hide (HC1.out.below hb2)
      clear k0 k1 k2 k3 k4 k5 k6 k7 k8 k9 k10 k11 k12 k13
      obtain ⟨k0, k1, k2, k3, k4, k5, k6, k7, k8, k9, k10, k11, k12, k13⟩ := HQ2.out.cc
      clear hb2
      go_wp2_with fail
      go_ret
      exact ⟨rfl, HB2.out⟩
    | true =>
      cases d1 with
      | false =>
        simp only [Bool.not_true, Bool.not_false] at nd1
        simp only [Bool.false_and, Bool.and_false, Bool.true_and, Bool.and_true]
        go_enter Tryz.func7, Tryz.ntmps7
        go_wp2_with fail
        refine (HI5.out _).mono ?_
        rintro e w0 ⟨rfl, rfl⟩
        obtain ⟨k0, k1, k2, k3, k4, k5, k6, k7, k8, k9, k10, k11, k12, k13⟩ := HQ0.out.cc
        go_wp2_with fail
        refine (HI1.out _).mono ?_
        rintro e w1 ⟨rfl, hb1⟩
        have HB1 := hide (HB0.out.trans (hb1.mono HB0.out.size))
        have HQ1 := hide (HQ0.out.on hb1 HQ0.out.lt)
        have HA1 := hide (HA0.out.below hb1)
        have HC1 := hide (HC0.out.below hb1)
        clear k0 k1 k2 k3 k4 k5 k6 k7 k8 k9 k10 k11 k12 k13
        obtain ⟨k0, k1, k2, k3, k4, k5, k6, k7, k8, k9, k10, k11, k12, k13⟩ := HQ1.out.cc
        clear hb1
        go_wp2_with fail
        refine (HI2.out _).mono ?_
        rintro e w2 ⟨rfl, hb2⟩
        have HB2 := hide (HB1.out.trans (hb2.mono HB1.out.size))
        have HQ2 := hide (HQ1.out.on hb2 HQ1.out.lt)
        have HA2 := hide (HA1.out.below hb2)
        have HC2 := hide (HC1.out.below hb2)
        clear k0 k1 k2 k3 k4 k5 k6 k7 k8 k9 k10 k11 k12 k13
        obtain ⟨k0, k1, k2, k3, k4, k5, k6, k7, k8, k9, k10, k11, k12, k13⟩ := HQ2.out.cc
        clear hb2
        go_wp2_with fail
        go_ret
        exact ⟨rfl, HB2.out⟩
      | true =>
        cases d2 with
        | false =>
          simp only [Bool.not_true, Bool.not_false] at nd2
          simp only [Bool.not_true, Bool.not_false] at nd1
          simp only [Bool.false_and, Bool.and_false, Bool.true_and, Bool.and_true]
          go_enter Tryz.func7, Tryz.ntmps7
          go_wp2_with fail
          refine (HI5.out _).mono ?_
          rintro e w0 ⟨rfl, rfl⟩
          obtain ⟨k0, k1, k2, k3, k4, k5, k6, k7, k8, k9, k10, k11, k12, k13⟩ := HQ0.out.cc
          go_wp2_with fail
          refine (HI1.out _).mono ?_
          rintro e w1 ⟨rfl, hb1⟩
          have HB1 := hide (HB0.out.trans (hb1.mono HB0.out.size))
          have HQ1 := hide (HQ0.out.on hb1 HQ0.out.lt)
          have HA1 := hide (HA0.out.below hb1)
          have HC1 := hide (HC0.out.below hb1)
          clear k0 k1 k2 k3 k4 k5 k6 k7 k8 k9 k10 k11 k12 k13
          obtain ⟨k0, k1, k2, k3, k4, k5, k6, k7, k8, k9, k10, k11, k12, k13⟩ := HQ1.out.cc
          clear hb1
          go_wp2_with fail
          refine (HI2.out _).mono ?_
          rintro e w2 ⟨rfl, hb2⟩
          have HB2 := hide (HB1.out.trans (hb2.mono HB1.out.size))
          have HQ2 := hide (HQ1.out.on hb2 HQ1.out.lt)
          have HA2 := hide (HA1.out.below hb2)
          have HC2 := hide (HC1.out.below hb2)
          clear k0 k1 k2 k3 k4 k5 k6 k7 k8 k9 k10 k11 k12 k13
          obtain ⟨k0, k1, k2, k3, k4, k5, k6, k7, k8, k9, k10, k11, k12, k13⟩ := HQ2.out.cc
          clear hb2
          go_wp2_with fail
          go_ret
          exact ⟨rfl, HB2.out⟩
        | true =>
          cases bV with
          | false =>
            simp only [Bool.not_true, Bool.not_false] at nd2
            simp only [Bool.not_true, Bool.not_false] at nd1
            simp only [Bool.false_and, Bool.and_false, Bool.true_and, Bool.and_true]
            go_enter Tryz.func7, Tryz.ntmps7
            go_wp2_with fail
            refine (HI5.out _).mono ?_
            rintro e w0 ⟨rfl, rfl⟩
            obtain ⟨k0, k1, k2, k3, k4, k5, k6, k7, k8, k9, k10, k11, k12, k13⟩ := HQ0.out.cc
            go_wp2_with fail
            refine (HI1.out _).mono ?_
            rintro e w1 ⟨rfl, hb1⟩
            have HB1 := hide (HB0.out.trans (hb1.mono HB0.out.size))
            have HQ1 := hide (HQ0.out.on hb1 HQ0.out.lt)
            have HA1 := hide (HA0.out.below hb1)
            have HC1 := hide (HC0.out.below hb1)
            clear k0 k1 k2 k3 k4 k5 k6 k7 k8 k9 k10 k11 k12 k13
            obtain ⟨k0, k1, k2, k3, k4, k5, k6, k7, k8, k9, k10, k11, k12, k13⟩ := HQ1.out.cc
            clear hb1
            go_wp2_with fail
            refine (HI2.out _).mono ?_
            rintro e w2 ⟨rfl, hb2⟩
            have HB2 := hide (HB1.out.trans (hb2.mono HB1.out.size))
            have HQ2 := hide (HQ1.out.on hb2 HQ1.out.lt)
            have HA2 := hide (HA1.out.below hb2)
            have HC2 := hide (HC1.out.below hb2)
            clear k0 k1 k2 k3 k4 k5 k6 k7 k8 k9 k10 k11 k12 k13
            obtain ⟨k0, k1, k2, k3, k4, k5, k6, k7, k8, k9, k10, k11, k12, k13⟩ := HQ2.out.cc
            clear hb2
            go_wp2_with fail
            refine (HEO.out _ HA2.out HC2.out).mono ?_
            rintro e w3 ⟨rfl, hb3⟩
            have HB3 := hide (HB2.out.trans (hb3.mono HB2.out.size))
            have HQ3 := hide (HQ2.out.on hb3 HQ2.out.lt)
            have HA3 := hide (HA2.out.below hb3)
            have HC3 := hide (HC2.out.below hb3)
            clear k0 k1 k2 k3 k4 k5 k6 k7 k8 k9 k10 k11 k12 k13
            obtain ⟨k0, k1, k2, k3, k4, k5, k6, k7, k8, k9, k10, k11, k12, k13⟩ := HQ3.out.cc
            clear hb3
            go_wp2_with fail
            go_ret
            exact ⟨rfl, HB3.out⟩
          | true =>
            cases z6 with
            | false =>
              simp only [Bool.not_true, Bool.not_false] at nd2
              simp only [Bool.not_true, Bool.not_false] at nd1
              simp only [Bool.false_and, Bool.and_false, Bool.true_and, Bool.and_true]
              go_enter Tryz.func7, Tryz.ntmps7
              go_wp2_with fail
              refine (HI5.out _).mono ?_
              rintro e w0 ⟨rfl, rfl⟩
              obtain ⟨k0, k1, k2, k3, k4, k5, k6, k7, k8, k9, k10, k11, k12, k13⟩ := HQ0.out.cc
              go_wp2_with fail
              refine (HI1.out _).mono ?_
              rintro e w1 ⟨rfl, hb1⟩
              have HB1 := hide (HB0.out.trans (hb1.mono HB0.out.size))
              have HQ1 := hide (HQ0.out.on hb1 HQ0.out.lt)
              have HA1 := hide (HA0.out.below hb1)
              have HC1 := hide (HC0.out.below hb1)
              clear k0 k1 k2 k3 k4 k5 k6 k7 k8 k9 k10 k11 k12 k13
              obtain ⟨k0, k1, k2, k3, k4, k5, k6, k7, k8, k9, k10, k11, k12, k13⟩ := HQ1.out.cc
              clear hb1
              go_wp2_with fail
              refine (HI2.out _).mono ?_
              rintro e w2 ⟨rfl, hb2⟩
              have HB2 := hide (HB1.out.trans (hb2.mono HB1.out.size))
              have HQ2 := hide (HQ1.out.on hb2 HQ1.out.lt)
              have HA2 := hide (HA1.out.below hb2)
              have HC2 := hide (HC1.out.below hb2)
              clear k0 k1 k2 k3 k4 k5 k6 k7 k8 k9 k10 k11 k12 k13
              obtain ⟨k0, k1, k2, k3, k4, k5, k6, k7, k8, k9, k10, k11, k12, k13⟩ := HQ2.out.cc
              clear hb2
              go_wp2_with fail
              refine (HEO.out _ HA2.out HC2.out).mono ?_
              rintro e w3 ⟨rfl, hb3⟩
              have HB3 := hide (HB2.out.trans (hb3.mono HB2.out.size))
              have HQ3 := hide (HQ2.out.on hb3 HQ2.out.lt)
              have HA3 := hide (HA2.out.below hb3)
              have HC3 := hide (HC2.out.below hb3)
              clear k0 k1 k2 k3 k4 k5 k6 k7 k8 k9 k10 k11 k12 k13
              obtain ⟨k0, k1, k2, k3, k4, k5, k6, k7, k8, k9, k10, k11, k12, k13⟩ := HQ3.out.cc
              clear hb3
              go_wp2_with fail
              go_ret
              exact ⟨rfl, HB3.out⟩
            | true =>
              simp only [Bool.not_true, Bool.not_false] at nd2
              simp only [Bool.not_true, Bool.not_false] at nd1
              simp only [Bool.false_and, Bool.and_false, Bool.true_and, Bool.and_true]
              go_enter Tryz.func7, Tryz.ntmps7
              go_wp2_with fail
              refine (HI5.out _).mono ?_
              rintro e w0 ⟨rfl, rfl⟩
              obtain ⟨k0, k1, k2, k3, k4, k5, k6, k7, k8, k9, k10, k11, k12, k13⟩ := HQ0.out.cc
              go_wp2_with fail
              refine (HI1.out _).mono ?_
              rintro e w1 ⟨rfl, hb1⟩
              have HB1 := hide (HB0.out.trans (hb1.mono HB0.out.size))
              have HQ1 := hide (HQ0.out.on hb1 HQ0.out.lt)
              have HA1 := hide (HA0.out.below hb1)
              have HC1 := hide (HC0.out.below hb1)
              clear k0 k1 k2 k3 k4 k5 k6 k7 k8 k9 k10 k11 k12 k13
              obtain ⟨k0, k1, k2, k3, k4, k5, k6, k7, k8, k9, k10, k11, k12, k13⟩ := HQ1.out.cc
              clear hb1
              go_wp2_with fail
              refine (HI2.out _).mono ?_
              rintro e w2 ⟨rfl, hb2⟩
              have HB2 := hide (HB1.out.trans (hb2.mono HB1.out.size))
              have HQ2 := hide (HQ1.out.on hb2 HQ1.out.lt)
              have HA2 := hide (HA1.out.below hb2)
              have HC2 := hide (HC1.out.below hb2)
              clear k0 k1 k2 k3 k4 k5 k6 k7 k8 k9 k10 k11 k12 k13
              obtain ⟨k0, k1, k2, k3, k4, k5, k6, k7, k8, k9, k10, k11, k12, k13⟩ := HQ2.out.cc
              clear hb2
              go_wp2_with fail
              refine (HEO.out _ HA2.out HC2.out).mono ?_
              rintro e w3 ⟨rfl, hb3⟩
              have HB3 := hide (HB2.out.trans (hb3.mono HB2.out.size))
              have HQ3 := hide (HQ2.out.on hb3 HQ2.out.lt)
              have HA3 := hide (HA2.out.below hb3)
              have HC3 := hide (HC2.out.below hb3)
              clear k0 k1 k2 k3 k4 k5 k6 k7 k8 k9 k10 k11 k12 k13
              obtain ⟨k0, k1, k2, k3, k4, k5, k6, k7, k8, k9, k10, k11, k12, k13⟩ := HQ3.out.cc
              clear hb3
              go_wp2_with fail
              go_ret
              exact ⟨rfl, HB3.out⟩

set_option maxHeartbeats 8000000 in
theorem specCommandOk_4 (tk sq id kd sn us mb dp : Int) (oa : Option Addr) (n cl : Nat) (tx : List UInt8) (ob : Option Addr) (m cp : Nat) (ds up : Int) (zl zp : List Int) (hx : tx.length ≤ 1048576) (w : World) (hat : IntsAt w oa n cl zl) (hbt : IntsAt w ob m cp zp) :
    Calls Tryz.prog 7 #[cmval 4 tk sq id kd sn us mb dp (.slice oa n cl) (.slice ob m cp) tx ds up] w fun e w' => e = .returned (.bool (cmdOk (⟨4, tk, sq, ⟨id, kd, sn, us, mb, zl, tx, zp, dp⟩, ds, up⟩ : CmdV))) ∧ Below w.heap.size w w' := by
  have HB0 := hide ((Below.refl w.heap.size w).alloc (Nat.le_refl _) (.cells #[.int .i64 4, .int .i64 tk, .int .i64 sq, .int .i64 id, .int .i64 kd, .int .i64 sn, .int .i64 us, .int .i64 mb, .slice oa n cl, .string ⟨tx.toArray⟩, .slice ob m cp, .int .i64 dp, .int .i64 ds, .int .i64 up] 31))
  have HQ0 := hide (CB.new w 4 tk sq id kd sn us mb dp oa n cl tx ob m cp ds up)
  have HA0 := hide (hat.below HB0.out)
  have HC0 := hide (hbt.below HB0.out)
  have HI1 := hide (fun w => l01In_bel tk 0 1000000 w)
  have HI2 := hide (fun w => l01In_bel sq 0 1000000 w)
  have HI5 := hide (fun w => l01In_yes 4 1 5 (by omega) (by omega) w)
  have e0 : cmdOk (⟨4, tk, sq, ⟨id, kd, sn, us, mb, zl, tx, zp, dp⟩, ds, up⟩ : CmdV) = (inR tk 0 1000000 && (inR sq 0 1000000 && ackdOk (⟨4, tk, sq, ⟨id, kd, sn, us, mb, zl, tx, zp, dp⟩, ds, up⟩ : CmdV))) := by
    unfold cmdOk rightOf
    simp [inR]
  rw [e0]
  unfold ackdOk 
  simp only
  clear e0
  have hm := hbt.len
  have HBK := hide (fun w hat hbt => l13Blank_any id kd sn us mb dp oa n cl tx ob m cp zl zp w hat hbt)
  generalize blankE (⟨id, kd, sn, us, mb, zl, tx, zp, dp⟩ : EvV) = bE at HBK ⊢
  have HI3 := hide (fun w => l01In_bel ds 1 2 w)
  have HI4 := hide (fun w => l01In_bel up 0 1000000 w)
  generalize inR ds 1 2 = r1 at HI3 ⊢
  generalize inR up 0 1000000 = r2 at HI4 ⊢
  clear hm hat hbt
  generalize inR tk 0 1000000 = b1 at HI1 ⊢
  generalize inR sq 0 1000000 = b2 at HI2 ⊢
  cases b1 with
  | false =>
    simp only [Bool.false_and, Bool.and_false, Bool.true_and, Bool.and_true]
    go_enter Tryz.func7, Tryz.ntmps7
    go_wp2_with fail
    refine (HI5.out _).mono ?_
    rintro e w0 ⟨rfl, rfl⟩
    obtain ⟨k0, k1, k2, k3, k4, k5, k6, k7, k8, k9, k10, k11, k12, k13⟩ := HQ0.out.cc
    go_wp2_with fail
    refine (HI1.out _).mono ?_
    rintro e w1 ⟨rfl, hb1⟩
    have HB1 := hide (HB0.out.trans (hb1.mono HB0.out.size))
    have HQ1 := hide (HQ0.out.on hb1 HQ0.out.lt)
    have HA1 := hide (HA0.out.below hb1)
    have HC1 := hide (HC0.out.below hb1)
    clear k0 k1 k2 k3 k4 k5 k6 k7 k8 k9 k10 k11 k12 k13
    obtain ⟨k0, k1, k2, k3, k4, k5, k6, k7, k8, k9, k10, k11, k12, k13⟩ := HQ1.out.cc
    clear hb1
    go_wp2_with fail
    go_ret
    exact ⟨rfl, HB1.out⟩
  | true =>
    cases b2 with
    | false =>
      simp only [Bool.false_and, Bool.and_false, Bool.true_and, Bool.and_true]
      go_enter Tryz.func7, Tryz.ntmps7
      go_wp2_with fail
      refine (HI5.out _).mono ?_
      rintro e w0 ⟨rfl, rfl⟩
      obtain ⟨k0, k1, k2, k3, k4, k5, k6, k7, k8, k9, k10, k11, k12, k13⟩ := HQ0.out.cc
      go_wp2_with fail
      refine (HI1.out _).mono ?_
      rintro e w1 ⟨rfl, hb1⟩
      have HB1 := hide (HB0.out.trans (hb1.mono HB0.out.size))
      have HQ1 := hide (HQ0.out.on hb1 HQ0.out.lt)
      have HA1 := hide (HA0.out.below hb1)
      have HC1 := hide (HC0.out.below hb1)
      clear k0 k1 k2 k3 k4 k5 k6 k7 k8 k9 k10 k11 k12 k13
      obtain ⟨k0, k1, k2, k3, k4, k5, k6, k7, k8, k9, k10, k11, k12, k13⟩ := HQ1.out.cc
      clear hb1
      go_wp2_with fail
      refine (HI2.out _).mono ?_
      rintro e w2 ⟨rfl, hb2⟩
      have HB2 := hide (HB1.out.trans (hb2.mono HB1.out.size))
      have HQ2 := hide (HQ1.out.on hb2 HQ1.out.lt)
      have HA2 := hide (HA1.out.below hb2)
      have HC2 := hide (HC1.out.below hb2)
      clear k0 k1 k2 k3 k4 k5 k6 k7 k8 k9 k10 k11 k12 k13
      obtain ⟨k0, k1, k2, k3, k4, k5, k6, k7, k8, k9, k10, k11, k12, k13⟩ := HQ2.out.cc
      clear hb2
      go_wp2_with fail
      go_ret
      exact ⟨rfl, HB2.out⟩
    | true =>
      cases bE with
      | false =>
        simp only [Bool.false_and, Bool.and_false, Bool.true_and, Bool.and_true]
        go_enter Tryz.func7, Tryz.ntmps7
        go_wp2_with fail
        refine (HI5.out _).mono ?_
        rintro e w0 ⟨rfl, rfl⟩
        obtain ⟨k0, k1, k2, k3, k4, k5, k6, k7, k8, k9, k10, k11, k12, k13⟩ := HQ0.out.cc
        go_wp2_with fail
        refine (HI1.out _).mono ?_
        rintro e w1 ⟨rfl, hb1⟩
        have HB1 := hide (HB0.out.trans (hb1.mono HB0.out.size))
        have HQ1 := hide (HQ0.out.on hb1 HQ0.out.lt)
        have HA1 := hide (HA0.out.below hb1)
        have HC1 := hide (HC0.out.below hb1)
        clear k0 k1 k2 k3 k4 k5 k6 k7 k8 k9 k10 k11 k12 k13
        obtain ⟨k0, k1, k2, k3, k4, k5, k6, k7, k8, k9, k10, k11, k12, k13⟩ := HQ1.out.cc
        clear hb1
        go_wp2_with fail
        refine (HI2.out _).mono ?_
        rintro e w2 ⟨rfl, hb2⟩
        have HB2 := hide (HB1.out.trans (hb2.mono HB1.out.size))
        have HQ2 := hide (HQ1.out.on hb2 HQ1.out.lt)
        have HA2 := hide (HA1.out.below hb2)
        have HC2 := hide (HC1.out.below hb2)
        clear k0 k1 k2 k3 k4 k5 k6 k7 k8 k9 k10 k11 k12 k13
        obtain ⟨k0, k1, k2, k3, k4, k5, k6, k7, k8, k9, k10, k11, k12, k13⟩ := HQ2.out.cc
        clear hb2
        go_wp2_with fail
        refine (HBK.out _ HA2.out HC2.out).mono ?_
        rintro e w3 ⟨rfl, hb3⟩
        have HB3 := hide (HB2.out.trans (hb3.mono HB2.out.size))
        have HQ3 := hide (HQ2.out.on hb3 HQ2.out.lt)
        have HA3 := hide (HA2.out.below hb3)
        have HC3 := hide (HC2.out.below hb3)
        clear k0 k1 k2 k3 k4 k5 k6 k7 k8 k9 k10 k11 k12 k13
        obtain ⟨k0, k1, k2, k3, k4, k5, k6, k7, k8, k9, k10, k11, k12, k13⟩ := HQ3.out.cc
        clear hb3
        go_wp2_with fail
        go_ret
        exact ⟨rfl, HB3.out⟩
      | true =>
        cases r1 with
        | false =>
          simp only [Bool.false_and, Bool.and_false, Bool.true_and, Bool.and_true]
          go_enter Tryz.func7, Tryz.ntmps7
          go_wp2_with fail
          refine (HI5.out _).mono ?_
          rintro e w0 ⟨rfl, rfl⟩
          obtain ⟨k0, k1, k2, k3, k4, k5, k6, k7, k8, k9, k10, k11, k12, k13⟩ := HQ0.out.cc
          go_wp2_with fail
          refine (HI1.out _).mono ?_
          rintro e w1 ⟨rfl, hb1⟩
          have HB1 := hide (HB0.out.trans (hb1.mono HB0.out.size))
          have HQ1 := hide (HQ0.out.on hb1 HQ0.out.lt)
          have HA1 := hide (HA0.out.below hb1)
          have HC1 := hide (HC0.out.below hb1)
          clear k0 k1 k2 k3 k4 k5 k6 k7 k8 k9 k10 k11 k12 k13
          obtain ⟨k0, k1, k2, k3, k4, k5, k6, k7, k8, k9, k10, k11, k12, k13⟩ := HQ1.out.cc
          clear hb1
          go_wp2_with fail
          refine (HI2.out _).mono ?_
          rintro e w2 ⟨rfl, hb2⟩
          have HB2 := hide (HB1.out.trans (hb2.mono HB1.out.size))
          have HQ2 := hide (HQ1.out.on hb2 HQ1.out.lt)
          have HA2 := hide (HA1.out.below hb2)
          have HC2 := hide (HC1.out.below hb2)
          clear k0 k1 k2 k3 k4 k5 k6 k7 k8 k9 k10 k11 k12 k13
          obtain ⟨k0, k1, k2, k3, k4, k5, k6, k7, k8, k9, k10, k11, k12, k13⟩ := HQ2.out.cc
          clear hb2
          go_wp2_with fail
          refine (HBK.out _ HA2.out HC2.out).mono ?_
          rintro e w3 ⟨rfl, hb3⟩
          have HB3 := hide (HB2.out.trans (hb3.mono HB2.out.size))
          have HQ3 := hide (HQ2.out.on hb3 HQ2.out.lt)
          have HA3 := hide (HA2.out.below hb3)
          have HC3 := hide (HC2.out.below hb3)
          clear k0 k1 k2 k3 k4 k5 k6 k7 k8 k9 k10 k11 k12 k13
          obtain ⟨k0, k1, k2, k3, k4, k5, k6, k7, k8, k9, k10, k11, k12, k13⟩ := HQ3.out.cc
          clear hb3
          go_wp2_with fail
          refine (HI3.out _).mono ?_
          rintro e w4 ⟨rfl, hb4⟩
          have HB4 := hide (HB3.out.trans (hb4.mono HB3.out.size))
          have HQ4 := hide (HQ3.out.on hb4 HQ3.out.lt)
          have HA4 := hide (HA3.out.below hb4)
          have HC4 := hide (HC3.out.below hb4)
          clear k0 k1 k2 k3 k4 k5 k6 k7 k8 k9 k10 k11 k12 k13
          obtain ⟨k0, k1, k2, k3, k4, k5, k6, k7, k8, k9, k10, k11, k12, k13⟩ := HQ4.out.cc
          clear hb4
          go_wp2_with fail
          go_ret
          exact ⟨rfl, HB4.out⟩
        | true =>
          cases r2 with
          | false =>
            simp only [Bool.false_and, Bool.and_false, Bool.true_and, Bool.and_true]
            go_enter Tryz.func7, Tryz.ntmps7
            go_wp2_with fail
            refine (HI5.out _).mono ?_
            rintro e w0 ⟨rfl, rfl⟩
            obtain ⟨k0, k1, k2, k3, k4, k5, k6, k7, k8, k9, k10, k11, k12, k13⟩ := HQ0.out.cc
            go_wp2_with fail
            refine (HI1.out _).mono ?_
            rintro e w1 ⟨rfl, hb1⟩
            have HB1 := hide (HB0.out.trans (hb1.mono HB0.out.size))
            have HQ1 := hide (HQ0.out.on hb1 HQ0.out.lt)
            have HA1 := hide (HA0.out.below hb1)
            have HC1 := hide (HC0.out.below hb1)
            clear k0 k1 k2 k3 k4 k5 k6 k7 k8 k9 k10 k11 k12 k13
            obtain ⟨k0, k1, k2, k3, k4, k5, k6, k7, k8, k9, k10, k11, k12, k13⟩ := HQ1.out.cc
            clear hb1
            go_wp2_with fail
            refine (HI2.out _).mono ?_
            rintro e w2 ⟨rfl, hb2⟩
            have HB2 := hide (HB1.out.trans (hb2.mono HB1.out.size))
            have HQ2 := hide (HQ1.out.on hb2 HQ1.out.lt)
            have HA2 := hide (HA1.out.below hb2)
            have HC2 := hide (HC1.out.below hb2)
            clear k0 k1 k2 k3 k4 k5 k6 k7 k8 k9 k10 k11 k12 k13
            obtain ⟨k0, k1, k2, k3, k4, k5, k6, k7, k8, k9, k10, k11, k12, k13⟩ := HQ2.out.cc
            clear hb2
            go_wp2_with fail
            refine (HBK.out _ HA2.out HC2.out).mono ?_
            rintro e w3 ⟨rfl, hb3⟩
            have HB3 := hide (HB2.out.trans (hb3.mono HB2.out.size))
            have HQ3 := hide (HQ2.out.on hb3 HQ2.out.lt)
            have HA3 := hide (HA2.out.below hb3)
            have HC3 := hide (HC2.out.below hb3)
            clear k0 k1 k2 k3 k4 k5 k6 k7 k8 k9 k10 k11 k12 k13
            obtain ⟨k0, k1, k2, k3, k4, k5, k6, k7, k8, k9, k10, k11, k12, k13⟩ := HQ3.out.cc
            clear hb3
            go_wp2_with fail
            refine (HI3.out _).mono ?_
            rintro e w4 ⟨rfl, hb4⟩
            have HB4 := hide (HB3.out.trans (hb4.mono HB3.out.size))
            have HQ4 := hide (HQ3.out.on hb4 HQ3.out.lt)
            have HA4 := hide (HA3.out.below hb4)
            have HC4 := hide (HC3.out.below hb4)
            clear k0 k1 k2 k3 k4 k5 k6 k7 k8 k9 k10 k11 k12 k13
            obtain ⟨k0, k1, k2, k3, k4, k5, k6, k7, k8, k9, k10, k11, k12, k13⟩ := HQ4.out.cc
            clear hb4
            go_wp2_with fail
            refine (HI4.out _).mono ?_
            rintro e w5 ⟨rfl, hb5⟩
            have HB5 := hide (HB4.out.trans (hb5.mono HB4.out.size))
            have HQ5 := hide (HQ4.out.on hb5 HQ4.out.lt)
            have HA5 := hide (HA4.out.below hb5)
            have HC5 := hide (HC4.out.below hb5)
            clear k0 k1 k2 k3 k4 k5 k6 k7 k8 k9 k10 k11 k12 k13
            obtain ⟨k0, k1, k2, k3, k4, k5, k6, k7, k8, k9, k10, k11, k12, k13⟩ := HQ5.out.cc
            clear hb5
            go_wp2_with fail
            go_ret
            exact ⟨rfl, HB5.out⟩
          | true =>
            simp only [Bool.false_and, Bool.and_false, Bool.true_and, Bool.and_true]
            go_enter Tryz.func7, Tryz.ntmps7
            go_wp2_with fail
            refine (HI5.out _).mono ?_
            rintro e w0 ⟨rfl, rfl⟩
            obtain ⟨k0, k1, k2, k3, k4, k5, k6, k7, k8, k9, k10, k11, k12, k13⟩ := HQ0.out.cc
            go_wp2_with fail
            refine (HI1.out _).mono ?_
            rintro e w1 ⟨rfl, hb1⟩
            have HB1 := hide (HB0.out.trans (hb1.mono HB0.out.size))
            have HQ1 := hide (HQ0.out.on hb1 HQ0.out.lt)
            have HA1 := hide (HA0.out.below hb1)
            have HC1 := hide (HC0.out.below hb1)
            clear k0 k1 k2 k3 k4 k5 k6 k7 k8 k9 k10 k11 k12 k13
            obtain ⟨k0, k1, k2, k3, k4, k5, k6, k7, k8, k9, k10, k11, k12, k13⟩ := HQ1.out.cc
            clear hb1
            go_wp2_with fail
            refine (HI2.out _).mono ?_
            rintro e w2 ⟨rfl, hb2⟩
            have HB2 := hide (HB1.out.trans (hb2.mono HB1.out.size))
            have HQ2 := hide (HQ1.out.on hb2 HQ1.out.lt)
            have HA2 := hide (HA1.out.below hb2)
            have HC2 := hide (HC1.out.below hb2)
            clear k0 k1 k2 k3 k4 k5 k6 k7 k8 k9 k10 k11 k12 k13
            obtain ⟨k0, k1, k2, k3, k4, k5, k6, k7, k8, k9, k10, k11, k12, k13⟩ := HQ2.out.cc
            clear hb2
            go_wp2_with fail
            refine (HBK.out _ HA2.out HC2.out).mono ?_
            rintro e w3 ⟨rfl, hb3⟩
            have HB3 := hide (HB2.out.trans (hb3.mono HB2.out.size))
            have HQ3 := hide (HQ2.out.on hb3 HQ2.out.lt)
            have HA3 := hide (HA2.out.below hb3)
            have HC3 := hide (HC2.out.below hb3)
            clear k0 k1 k2 k3 k4 k5 k6 k7 k8 k9 k10 k11 k12 k13
            obtain ⟨k0, k1, k2, k3, k4, k5, k6, k7, k8, k9, k10, k11, k12, k13⟩ := HQ3.out.cc
            clear hb3
            go_wp2_with fail
            refine (HI3.out _).mono ?_
            rintro e w4 ⟨rfl, hb4⟩
            have HB4 := hide (HB3.out.trans (hb4.mono HB3.out.size))
            have HQ4 := hide (HQ3.out.on hb4 HQ3.out.lt)
            have HA4 := hide (HA3.out.below hb4)
            have HC4 := hide (HC3.out.below hb4)
            clear k0 k1 k2 k3 k4 k5 k6 k7 k8 k9 k10 k11 k12 k13
            obtain ⟨k0, k1, k2, k3, k4, k5, k6, k7, k8, k9, k10, k11, k12, k13⟩ := HQ4.out.cc
            clear hb4
            go_wp2_with fail
            refine (HI4.out _).mono ?_
            rintro e w5 ⟨rfl, hb5⟩
            have HB5 := hide (HB4.out.trans (hb5.mono HB4.out.size))
            have HQ5 := hide (HQ4.out.on hb5 HQ4.out.lt)
            have HA5 := hide (HA4.out.below hb5)
            have HC5 := hide (HC4.out.below hb5)
            clear k0 k1 k2 k3 k4 k5 k6 k7 k8 k9 k10 k11 k12 k13
            obtain ⟨k0, k1, k2, k3, k4, k5, k6, k7, k8, k9, k10, k11, k12, k13⟩ := HQ5.out.cc
            clear hb5
            go_wp2_with fail
            go_ret
            exact ⟨rfl, HB5.out⟩

set_option maxHeartbeats 8000000 in
theorem specCommandOk_5 (tk sq id kd sn us mb dp : Int) (oa : Option Addr) (n cl : Nat) (tx : List UInt8) (ob : Option Addr) (m cp : Nat) (ds up : Int) (zl zp : List Int) (hx : tx.length ≤ 1048576) (w : World) (hat : IntsAt w oa n cl zl) (hbt : IntsAt w ob m cp zp) :
    Calls Tryz.prog 7 #[cmval 5 tk sq id kd sn us mb dp (.slice oa n cl) (.slice ob m cp) tx ds up] w fun e w' => e = .returned (.bool (cmdOk (⟨5, tk, sq, ⟨id, kd, sn, us, mb, zl, tx, zp, dp⟩, ds, up⟩ : CmdV))) ∧ Below w.heap.size w w' := by
  have HB0 := hide ((Below.refl w.heap.size w).alloc (Nat.le_refl _) (.cells #[.int .i64 5, .int .i64 tk, .int .i64 sq, .int .i64 id, .int .i64 kd, .int .i64 sn, .int .i64 us, .int .i64 mb, .slice oa n cl, .string ⟨tx.toArray⟩, .slice ob m cp, .int .i64 dp, .int .i64 ds, .int .i64 up] 31))
  have HQ0 := hide (CB.new w 5 tk sq id kd sn us mb dp oa n cl tx ob m cp ds up)
  have HA0 := hide (hat.below HB0.out)
  have HC0 := hide (hbt.below HB0.out)
  have HI1 := hide (fun w => l01In_bel tk 0 1000000 w)
  have HI2 := hide (fun w => l01In_bel sq 0 1000000 w)
  have HI5 := hide (fun w => l01In_yes 5 1 5 (by omega) (by omega) w)
  have e0 : cmdOk (⟨5, tk, sq, ⟨id, kd, sn, us, mb, zl, tx, zp, dp⟩, ds, up⟩ : CmdV) = (inR tk 0 1000000 && (inR sq 0 1000000 && membOk (⟨5, tk, sq, ⟨id, kd, sn, us, mb, zl, tx, zp, dp⟩, ds, up⟩ : CmdV))) := by
    unfold cmdOk rightOf
    simp [inR]
  rw [e0]
  unfold membOk noDest
  simp only
  clear e0
  have hm := hbt.len
  have HBK := hide (fun w hat hbt => l13Blank_any id kd sn us mb dp oa n cl tx ob m cp zl zp w hat hbt)
  generalize blankE (⟨id, kd, sn, us, mb, zl, tx, zp, dp⟩ : EvV) = bE at HBK ⊢
  obtain ⟨d1, qd1⟩ : ∃ d1, decide (ds = 0) = d1 := ⟨_, rfl⟩
  obtain ⟨d2, qd2⟩ : ∃ d2, decide (up = 0) = d2 := ⟨_, rfl⟩
  rw [qd1, qd2]
  have id1 : (ds == 0) = d1 := by rw [← qd1, Bool.eq_iff_iff]; simp
  have nd1 : (ds != 0) = !d1 := by rw [← id1]; rfl
  have id2 : (up == 0) = d2 := by rw [← qd2, Bool.eq_iff_iff]; simp
  have nd2 : (up != 0) = !d2 := by rw [← id2]; rfl
  clear qd1 qd2
  clear hm hat hbt
  generalize inR tk 0 1000000 = b1 at HI1 ⊢
  generalize inR sq 0 1000000 = b2 at HI2 ⊢
  cases b1 with
  | false =>
    simp only [Bool.false_and, Bool.and_false, Bool.true_and, Bool.and_true]
    go_enter Tryz.func7, Tryz.ntmps7
    go_wp2_with fail
    refine (HI5.out _).mono ?_
    rintro e w0 ⟨rfl, rfl⟩
    obtain ⟨k0, k1, k2, k3, k4, k5, k6, k7, k8, k9, k10, k11, k12, k13⟩ := HQ0.out.cc
    go_wp2_with fail
    refine (HI1.out _).mono ?_
    rintro e w1 ⟨rfl, hb1⟩
    have HB1 := hide (HB0.out.trans (hb1.mono HB0.out.size))
    have HQ1 := hide (HQ0.out.on hb1 HQ0.out.lt)
    have HA1 := hide (HA0.out.below hb1)
    have HC1 := hide (HC0.out.below hb1)
    clear k0 k1 k2 k3 k4 k5 k6 k7 k8 k9 k10 k11 k12 k13
    obtain ⟨k0, k1, k2, k3, k4, k5, k6, k7, k8, k9, k10, k11, k12, k13⟩ := HQ1.out.cc
    clear hb1
    go_wp2_with fail
    go_ret
    exact ⟨rfl, HB1.out⟩
  | true =>
    cases b2 with
    | false =>
      simp only [Bool.false_and, Bool.and_false, Bool.true_and, Bool.and_true]
      go_enter Tryz.func7, Tryz.ntmps7
      go_wp2_with fail
      refine (HI5.out _).mono ?_
      rintro e w0 ⟨rfl, rfl⟩
      obtain ⟨k0, k1, k2, k3, k4, k5, k6, k7, k8, k9, k10, k11, k12, k13⟩ := HQ0.out.cc
      go_wp2_with fail
      refine (HI1.out _).mono ?_
      rintro e w1 ⟨rfl, hb1⟩
      have HB1 := hide (HB0.out.trans (hb1.mono HB0.out.size))
      have HQ1 := hide (HQ0.out.on hb1 HQ0.out.lt)
      have HA1 := hide (HA0.out.below hb1)
      have HC1 := hide (HC0.out.below hb1)
      clear k0 k1 k2 k3 k4 k5 k6 k7 k8 k9 k10 k11 k12 k13
      obtain ⟨k0, k1, k2, k3, k4, k5, k6, k7, k8, k9, k10, k11, k12, k13⟩ := HQ1.out.cc
      clear hb1
      go_wp2_with fail
      refine (HI2.out _).mono ?_
      rintro e w2 ⟨rfl, hb2⟩
      have HB2 := hide (HB1.out.trans (hb2.mono HB1.out.size))
      have HQ2 := hide (HQ1.out.on hb2 HQ1.out.lt)
      have HA2 := hide (HA1.out.below hb2)
      have HC2 := hide (HC1.out.below hb2)
      clear k0 k1 k2 k3 k4 k5 k6 k7 k8 k9 k10 k11 k12 k13
      obtain ⟨k0, k1, k2, k3, k4, k5, k6, k7, k8, k9, k10, k11, k12, k13⟩ := HQ2.out.cc
      clear hb2
      go_wp2_with fail
      go_ret
      exact ⟨rfl, HB2.out⟩
    | true =>
      cases bE with
      | false =>
        simp only [Bool.false_and, Bool.and_false, Bool.true_and, Bool.and_true]
        go_enter Tryz.func7, Tryz.ntmps7
        go_wp2_with fail
        refine (HI5.out _).mono ?_
        rintro e w0 ⟨rfl, rfl⟩
        obtain ⟨k0, k1, k2, k3, k4, k5, k6, k7, k8, k9, k10, k11, k12, k13⟩ := HQ0.out.cc
        go_wp2_with fail
        refine (HI1.out _).mono ?_
        rintro e w1 ⟨rfl, hb1⟩
        have HB1 := hide (HB0.out.trans (hb1.mono HB0.out.size))
        have HQ1 := hide (HQ0.out.on hb1 HQ0.out.lt)
        have HA1 := hide (HA0.out.below hb1)
        have HC1 := hide (HC0.out.below hb1)
        clear k0 k1 k2 k3 k4 k5 k6 k7 k8 k9 k10 k11 k12 k13
        obtain ⟨k0, k1, k2, k3, k4, k5, k6, k7, k8, k9, k10, k11, k12, k13⟩ := HQ1.out.cc
        clear hb1
        go_wp2_with fail
        refine (HI2.out _).mono ?_
        rintro e w2 ⟨rfl, hb2⟩
        have HB2 := hide (HB1.out.trans (hb2.mono HB1.out.size))
        have HQ2 := hide (HQ1.out.on hb2 HQ1.out.lt)
        have HA2 := hide (HA1.out.below hb2)
        have HC2 := hide (HC1.out.below hb2)
        clear k0 k1 k2 k3 k4 k5 k6 k7 k8 k9 k10 k11 k12 k13
        obtain ⟨k0, k1, k2, k3, k4, k5, k6, k7, k8, k9, k10, k11, k12, k13⟩ := HQ2.out.cc
        clear hb2
        go_wp2_with fail
        refine (HBK.out _ HA2.out HC2.out).mono ?_
        rintro e w3 ⟨rfl, hb3⟩
        have HB3 := hide (HB2.out.trans (hb3.mono HB2.out.size))
        have HQ3 := hide (HQ2.out.on hb3 HQ2.out.lt)
        have HA3 := hide (HA2.out.below hb3)
        have HC3 := hide (HC2.out.below hb3)
        clear k0 k1 k2 k3 k4 k5 k6 k7 k8 k9 k10 k11 k12 k13
        obtain ⟨k0, k1, k2, k3, k4, k5, k6, k7, k8, k9, k10, k11, k12, k13⟩ := HQ3.out.cc
        clear hb3
        go_wp2_with fail
        go_ret
        exact ⟨rfl, HB3.out⟩
      | true =>
        cases d1 with
        | false =>
          simp only [Bool.not_true, Bool.not_false] at nd1
          simp only [Bool.false_and, Bool.and_false, Bool.true_and, Bool.and_true]
          go_enter Tryz.func7, Tryz.ntmps7
          go_wp2_with fail
          refine (HI5.out _).mono ?_
          rintro e w0 ⟨rfl, rfl⟩
          obtain ⟨k0, k1, k2, k3, k4, k5, k6, k7, k8, k9, k10, k11, k12, k13⟩ := HQ0.out.cc
          go_wp2_with fail
          refine (HI1.out _).mono ?_
          rintro e w1 ⟨rfl, hb1⟩
          have HB1 := hide (HB0.out.trans (hb1.mono HB0.out.size))
          have HQ1 := hide (HQ0.out.on hb1 HQ0.out.lt)
          have HA1 := hide (HA0.out.below hb1)
          have HC1 := hide (HC0.out.below hb1)
          clear k0 k1 k2 k3 k4 k5 k6 k7 k8 k9 k10 k11 k12 k13
          obtain ⟨k0, k1, k2, k3, k4, k5, k6, k7, k8, k9, k10, k11, k12, k13⟩ := HQ1.out.cc
          clear hb1
          go_wp2_with fail
          refine (HI2.out _).mono ?_
          rintro e w2 ⟨rfl, hb2⟩
          have HB2 := hide (HB1.out.trans (hb2.mono HB1.out.size))
          have HQ2 := hide (HQ1.out.on hb2 HQ1.out.lt)
          have HA2 := hide (HA1.out.below hb2)
          have HC2 := hide (HC1.out.below hb2)
          clear k0 k1 k2 k3 k4 k5 k6 k7 k8 k9 k10 k11 k12 k13
          obtain ⟨k0, k1, k2, k3, k4, k5, k6, k7, k8, k9, k10, k11, k12, k13⟩ := HQ2.out.cc
          clear hb2
          go_wp2_with fail
          refine (HBK.out _ HA2.out HC2.out).mono ?_
          rintro e w3 ⟨rfl, hb3⟩
          have HB3 := hide (HB2.out.trans (hb3.mono HB2.out.size))
          have HQ3 := hide (HQ2.out.on hb3 HQ2.out.lt)
          have HA3 := hide (HA2.out.below hb3)
          have HC3 := hide (HC2.out.below hb3)
          clear k0 k1 k2 k3 k4 k5 k6 k7 k8 k9 k10 k11 k12 k13
          obtain ⟨k0, k1, k2, k3, k4, k5, k6, k7, k8, k9, k10, k11, k12, k13⟩ := HQ3.out.cc
          clear hb3
          go_wp2_with fail
          go_ret
          exact ⟨rfl, HB3.out⟩
        | true =>
          cases d2 with
          | false =>
            simp only [Bool.not_true, Bool.not_false] at nd2
            simp only [Bool.not_true, Bool.not_false] at nd1
            simp only [Bool.false_and, Bool.and_false, Bool.true_and, Bool.and_true]
            go_enter Tryz.func7, Tryz.ntmps7
            go_wp2_with fail
            refine (HI5.out _).mono ?_
            rintro e w0 ⟨rfl, rfl⟩
            obtain ⟨k0, k1, k2, k3, k4, k5, k6, k7, k8, k9, k10, k11, k12, k13⟩ := HQ0.out.cc
            go_wp2_with fail
            refine (HI1.out _).mono ?_
            rintro e w1 ⟨rfl, hb1⟩
            have HB1 := hide (HB0.out.trans (hb1.mono HB0.out.size))
            have HQ1 := hide (HQ0.out.on hb1 HQ0.out.lt)
            have HA1 := hide (HA0.out.below hb1)
            have HC1 := hide (HC0.out.below hb1)
            clear k0 k1 k2 k3 k4 k5 k6 k7 k8 k9 k10 k11 k12 k13
            obtain ⟨k0, k1, k2, k3, k4, k5, k6, k7, k8, k9, k10, k11, k12, k13⟩ := HQ1.out.cc
            clear hb1
            go_wp2_with fail
            refine (HI2.out _).mono ?_
            rintro e w2 ⟨rfl, hb2⟩
            have HB2 := hide (HB1.out.trans (hb2.mono HB1.out.size))
            have HQ2 := hide (HQ1.out.on hb2 HQ1.out.lt)
            have HA2 := hide (HA1.out.below hb2)
            have HC2 := hide (HC1.out.below hb2)
            clear k0 k1 k2 k3 k4 k5 k6 k7 k8 k9 k10 k11 k12 k13
            obtain ⟨k0, k1, k2, k3, k4, k5, k6, k7, k8, k9, k10, k11, k12, k13⟩ := HQ2.out.cc
            clear hb2
            go_wp2_with fail
            refine (HBK.out _ HA2.out HC2.out).mono ?_
            rintro e w3 ⟨rfl, hb3⟩
            have HB3 := hide (HB2.out.trans (hb3.mono HB2.out.size))
            have HQ3 := hide (HQ2.out.on hb3 HQ2.out.lt)
            have HA3 := hide (HA2.out.below hb3)
            have HC3 := hide (HC2.out.below hb3)
            clear k0 k1 k2 k3 k4 k5 k6 k7 k8 k9 k10 k11 k12 k13
            obtain ⟨k0, k1, k2, k3, k4, k5, k6, k7, k8, k9, k10, k11, k12, k13⟩ := HQ3.out.cc
            clear hb3
            go_wp2_with fail
            go_ret
            exact ⟨rfl, HB3.out⟩
          | true =>
            simp only [Bool.not_true, Bool.not_false] at nd2
            simp only [Bool.not_true, Bool.not_false] at nd1
            simp only [Bool.false_and, Bool.and_false, Bool.true_and, Bool.and_true]
            go_enter Tryz.func7, Tryz.ntmps7
            go_wp2_with fail
            refine (HI5.out _).mono ?_
            rintro e w0 ⟨rfl, rfl⟩
            obtain ⟨k0, k1, k2, k3, k4, k5, k6, k7, k8, k9, k10, k11, k12, k13⟩ := HQ0.out.cc
            go_wp2_with fail
            refine (HI1.out _).mono ?_
            rintro e w1 ⟨rfl, hb1⟩
            have HB1 := hide (HB0.out.trans (hb1.mono HB0.out.size))
            have HQ1 := hide (HQ0.out.on hb1 HQ0.out.lt)
            have HA1 := hide (HA0.out.below hb1)
            have HC1 := hide (HC0.out.below hb1)
            clear k0 k1 k2 k3 k4 k5 k6 k7 k8 k9 k10 k11 k12 k13
            obtain ⟨k0, k1, k2, k3, k4, k5, k6, k7, k8, k9, k10, k11, k12, k13⟩ := HQ1.out.cc
            clear hb1
            go_wp2_with fail
            refine (HI2.out _).mono ?_
            rintro e w2 ⟨rfl, hb2⟩
            have HB2 := hide (HB1.out.trans (hb2.mono HB1.out.size))
            have HQ2 := hide (HQ1.out.on hb2 HQ1.out.lt)
            have HA2 := hide (HA1.out.below hb2)
            have HC2 := hide (HC1.out.below hb2)
            clear k0 k1 k2 k3 k4 k5 k6 k7 k8 k9 k10 k11 k12 k13
            obtain ⟨k0, k1, k2, k3, k4, k5, k6, k7, k8, k9, k10, k11, k12, k13⟩ := HQ2.out.cc
            clear hb2
            go_wp2_with fail
            refine (HBK.out _ HA2.out HC2.out).mono ?_
            rintro e w3 ⟨rfl, hb3⟩
            have HB3 := hide (HB2.out.trans (hb3.mono HB2.out.size))
            have HQ3 := hide (HQ2.out.on hb3 HQ2.out.lt)
            have HA3 := hide (HA2.out.below hb3)
            have HC3 := hide (HC2.out.below hb3)
            clear k0 k1 k2 k3 k4 k5 k6 k7 k8 k9 k10 k11 k12 k13
            obtain ⟨k0, k1, k2, k3, k4, k5, k6, k7, k8, k9, k10, k11, k12, k13⟩ := HQ3.out.cc
            clear hb3
            go_wp2_with fail
            go_ret
            exact ⟨rfl, HB3.out⟩

set_option maxHeartbeats 2000000 in
theorem specCommandOk_no (op tk sq id kd sn us mb dp : Int) (oa : Option Addr) (n cl : Nat) (tx : List UInt8) (ob : Option Addr) (m cp : Nat) (ds up : Int) (zl zp : List Int) (hx : tx.length ≤ 1048576) (w : World) (hat : IntsAt w oa n cl zl) (hbt : IntsAt w ob m cp zp) (hop : op < 1 ∨ 5 < op) :
    Calls Tryz.prog 7 #[cmval op tk sq id kd sn us mb dp (.slice oa n cl) (.slice ob m cp) tx ds up] w fun e w' => e = .returned (.bool (cmdOk (⟨op, tk, sq, ⟨id, kd, sn, us, mb, zl, tx, zp, dp⟩, ds, up⟩ : CmdV))) ∧ Below w.heap.size w w' := by
  have HB0 := hide ((Below.refl w.heap.size w).alloc (Nat.le_refl _) (.cells #[.int .i64 op, .int .i64 tk, .int .i64 sq, .int .i64 id, .int .i64 kd, .int .i64 sn, .int .i64 us, .int .i64 mb, .slice oa n cl, .string ⟨tx.toArray⟩, .slice ob m cp, .int .i64 dp, .int .i64 ds, .int .i64 up] 31))
  have HI5 := hide (fun w => l01In_no op 1 5 (by omega) w)
  have e0 : cmdOk (⟨op, tk, sq, ⟨id, kd, sn, us, mb, zl, tx, zp, dp⟩, ds, up⟩ : CmdV) = false := by
    unfold cmdOk
    have : inR op 1 5 = false := by simp [inR]; omega
    simp [this]
  rw [e0]
  clear e0 hat hbt
  go_enter Tryz.func7, Tryz.ntmps7
  go_wp2_with fail
  refine (HI5.out _).mono ?_
  rintro e w0 ⟨rfl, rfl⟩
  go_wp2_with fail
  go_ret
  exact ⟨rfl, HB0.out⟩

theorem specCommandOk_any (op tk sq id kd sn us mb dp : Int) (oa : Option Addr) (n cl : Nat) (tx : List UInt8) (ob : Option Addr) (m cp : Nat) (ds up : Int) (zl zp : List Int) (hx : tx.length ≤ 1048576) (w : World) (hat : IntsAt w oa n cl zl) (hbt : IntsAt w ob m cp zp) :
    Calls Tryz.prog 7 #[cmval op tk sq id kd sn us mb dp (.slice oa n cl) (.slice ob m cp) tx ds up] w fun e w' => e = .returned (.bool (cmdOk (⟨op, tk, sq, ⟨id, kd, sn, us, mb, zl, tx, zp, dp⟩, ds, up⟩ : CmdV))) ∧ Below w.heap.size w w' := by
  by_cases c : op < 1 ∨ 5 < op
  · exact specCommandOk_no op tk sq id kd sn us mb dp oa n cl tx ob m cp ds up zl zp hx w hat hbt c
  · rcases (show op = 1 ∨ op = 2 ∨ op = 3 ∨ op = 4 ∨ op = 5 by omega) with rfl | rfl | rfl | rfl | rfl
    · exact specCommandOk_1 tk sq id kd sn us mb dp oa n cl tx ob m cp ds up zl zp hx w hat hbt
    · exact specCommandOk_2 tk sq id kd sn us mb dp oa n cl tx ob m cp ds up zl zp hx w hat hbt
    · exact specCommandOk_3 tk sq id kd sn us mb dp oa n cl tx ob m cp ds up zl zp hx w hat hbt
    · exact specCommandOk_4 tk sq id kd sn us mb dp oa n cl tx ob m cp ds up zl zp hx w hat hbt
    · exact specCommandOk_5 tk sq id kd sn us mb dp oa n cl tx ob m cp ds up zl zp hx w hat hbt

end Go.Proofs.YtckkfjmjcknjdaaGreatDoor
