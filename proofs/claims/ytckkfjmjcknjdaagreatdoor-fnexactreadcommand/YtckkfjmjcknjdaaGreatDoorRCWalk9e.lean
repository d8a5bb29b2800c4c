/-
  Walks and mathematics of Walk9e, Walk9f.
-/
import Derived.Test.YtckkfjmjcknjdaaGreatDoorRCEv4
import Derived.Test.YtckkfjmjcknjdaaGreatDoorRCEv2
import Derived.Test.YtckkfjmjcknjdaaGreatDoorRCWalk5a
import Derived.Test.YtckkfjmjcknjdaaGreatDoorRCWalk3a
import Derived.Deep.RegionHeld3
import Derived.Deep.QuietTactic
import Derived.BigQuiet
import Derived.Laws.Cover1
import Derived.Sort.Walk0
import Derived.Lib.Strings
namespace Go.Proofs.YtckkfjmjcknjdaaGreatDoor.P3
end Go.Proofs.YtckkfjmjcknjdaaGreatDoor.P3
namespace Go.Proofs.YtckkfjmjcknjdaaGreatDoor
open Go.RowKit P1 P3 P9 P11 P12 K
set_option linter.unusedVariables false
set_option linter.unusedSimpArgs false

set_option maxHeartbeats 1000000 in
theorem l09Levels_any (oa : Option Addr) (n cl : Nat) (zl : List Int) (w : World) (hat : IntsAt w oa n cl zl) :
    Calls Tryz.prog 44 #[.slice oa n cl] w fun e w' => e = .returned (.bool (lvOk zl)) ∧ w = w' := by
  have hn := hat.len
  have hc := hat.room
  have hm := hat.most
  unfold maxLen at hm
  have hL : lvOk zl = (lvAll zl && decide (n = 5)) := by rw [← hn]; rfl
  rw [hL]
  have HN := hide hn
  have HAT := hide hat
  clear hn hat hL
  go_enter Tryz.func44, Tryz.ntmps44
  go_wp2_with fail
  go_loop [3] (fun i => ∃ (j : Nat), i = .int .i64 (j : Int) ∧ j ≤ n ∧ lvAll (zl.drop j) = lvAll zl) (fun i => n - (intOf i).toNat)
  case atStart => exact ⟨0, rfl, Nat.zero_le _, rfl⟩
  case round =>
    obtain ⟨j, rfl, hj, hrest⟩ := hrel
    by_cases hlt : j < n
    · have j0 : (j : Int) < (n : Int) := by omega
      obtain ⟨z, b, q, hz, hidx, hb, c0, hwf⟩ := HAT.out.get Tryz.underlying22 infoI j hlt
      rw [lvAll_at hz] at hrest
      by_cases hzr : 0 ≤ z ∧ z ≤ 100
      · obtain ⟨hz1, hz4⟩ := hzr
        have HR := hide (show lvAll (zl.drop (j + 1)) = lvAll zl by rw [← hrest, inR_iff.2 ⟨hz1, hz4⟩, Bool.true_and])
        clear hrest hz
        go_wp2_with (go_at_call 18; refine (l01In_yes _ _ _ hz1 hz4 _).mono ?_; rintro e w' ⟨rfl, rfl⟩)
        go_round
        case rel => exact ⟨j + 1, by go_num, by omega, HR.out⟩
        case measure => simp [intOf]; omega
      · have hnin : inR z 0 100 = false := by (simp [inR]; omega)
        have HR := hide (show lvAll zl = false by rw [← hrest, hnin, Bool.false_and])
        clear hnin
        clear hrest hz
        go_wp2_with (go_at_call 18; refine (l01In_no _ _ _ (by omega) _).mono ?_; rintro e w' ⟨rfl, rfl⟩)
        go_ret
        exact ⟨by rw [HR.out]; rfl, rfl⟩
    · have hjn : j = n := by omega
      have HR := hide (show lvAll zl = true by rw [← hrest, hjn, ← HN.out, List.drop_length]; rfl)
      clear hrest
      by_cases h5 : n = 5
      · have g5 : ((n : Int) == 5) = true := by simp [h5]
        have g6 : (n : Int) = 5 := by omega
        go_wp2_with fail
        go_ret
        exact ⟨by first | rfl | (rw [HR.out]; simp [h5]), rfl⟩
      · have g5 : ((n : Int) == 5) = false := by simp; omega
        have g6 : ¬ (n : Int) = 5 := by omega
        go_wp2_with fail
        go_ret
        exact ⟨by first | rfl | (rw [HR.out]; simp [h5, g6]), rfl⟩

theorem inR_no {a lo hi : Int} (h : ¬ (lo ≤ a ∧ a ≤ hi)) : inR a lo hi = false := by
  cases c : inR a lo hi with
  | false => rfl
  | true => exact absurd (inR_iff.1 c) h

set_option maxHeartbeats 8000000 in
theorem l09Body_any (id kd sn us mb dp : Int) (oa : Option Addr) (n cl : Nat) (tx : List UInt8) (ob : Option Addr) (m cp : Nat) (zl zp : List Int) (hx : tx.length ≤ 1048576) (w : World) (hat : IntsAt w oa n cl zl) :
    Calls Tryz.prog 20 #[evval id kd sn us mb dp (.slice oa n cl) (.slice ob m cp) tx] w fun e w' => e = .returned (.bool (bodyOk (⟨id, kd, sn, us, mb, zl, tx, zp, dp⟩ : EvV))) ∧ Below w.heap.size w w' := by
  have HB := hide ((Below.refl w.heap.size w).alloc (Nat.le_refl _) (.cells #[.int .i64 id, .int .i64 kd, .int .i64 sn, .int .i64 us, .int .i64 mb, .slice oa n cl, .string ⟨tx.toArray⟩, .slice ob m cp, .int .i64 dp] 29))
  have HLV := hide (l09Levels_any oa n cl zl _ (hat.below HB.out))
  have hn := hat.len
  have hmx := Nat.le_trans hat.room hat.most
  unfold maxLen at hmx
  clear hat
  by_cases ck : 1 ≤ kd ∧ kd ≤ 5
  · obtain ⟨ck1, ck5⟩ := ck
    by_cases cs : 1 ≤ sn ∧ sn ≤ 5
    · obtain ⟨cs1, cs5⟩ := cs
      rcases (show kd = 1 ∨ kd = 2 ∨ kd = 3 ∨ kd = 4 ∨ kd = 5 by omega) with rfl | rfl | rfl | rfl | rfl
      · by_cases cu : us = 0
        · subst cu
          by_cases cm : mb = 0
          · subst cm
            by_cases cz : n = 0
            · subst cz
              have hz : zl = [] := List.eq_nil_of_length_eq_zero hn
              have HV := hide (show bodyOk (⟨id, 1, sn, 0, 0, zl, tx, zp, dp⟩ : EvV) = decide (tx.length = 0) by simp [bodyOk, memOk, lvsOk, txOk, inR, cs1, cs5, hz])
              rw [show bodyOk _ = decide (tx.length = 0) from HV.out]
              clear HV
              go_enter Tryz.func20, Tryz.ntmps20
              go_wp2_with (first | ((go_at_call 18; first | refine (l01In_yes _ _ _ (by omega) (by omega) _).mono ?_ | refine (l01In_no _ _ _ (by omega) _).mono ?_); rintro e w' ⟨rfl, rfl⟩) | (go_at_call 44; refine HLV.out.mono ?_; rintro e w' ⟨rfl, rfl⟩))
              go_ret
              exact ⟨by first | rfl | (simp; done) | (cases tx <;> simp; done) | (simp; omega), HB.out⟩
            · have cz2 : (0 : Int) < (n : Int) := by omega
              have hz : ¬ zl = [] := fun q => cz (by rw [← hn, q]; rfl)
              have HV := hide (show bodyOk (⟨id, 1, sn, 0, 0, zl, tx, zp, dp⟩ : EvV) = false by simp [bodyOk, memOk, lvsOk, txOk, inR, cs1, cs5, hz])
              rw [show bodyOk _ = false from HV.out]
              clear HV
              go_enter Tryz.func20, Tryz.ntmps20
              go_wp2_with (first | ((go_at_call 18; first | refine (l01In_yes _ _ _ (by omega) (by omega) _).mono ?_ | refine (l01In_no _ _ _ (by omega) _).mono ?_); rintro e w' ⟨rfl, rfl⟩) | (go_at_call 44; refine HLV.out.mono ?_; rintro e w' ⟨rfl, rfl⟩))
              go_ret
              exact ⟨rfl, HB.out⟩
          · have cm2 : (mb == 0) = false := by simpa using cm
            have HV := hide (show bodyOk (⟨id, 1, sn, 0, mb, zl, tx, zp, dp⟩ : EvV) = false by (have cm3 : memOk (⟨id, 1, sn, 0, mb, zl, tx, zp, dp⟩ : EvV) = false := by (unfold memOk; simp [inR]; exact cm)); simp [bodyOk, cm3])
            rw [show bodyOk _ = false from HV.out]
            clear HV
            go_enter Tryz.func20, Tryz.ntmps20
            go_wp2_with (first | ((go_at_call 18; first | refine (l01In_yes _ _ _ (by omega) (by omega) _).mono ?_ | refine (l01In_no _ _ _ (by omega) _).mono ?_); rintro e w' ⟨rfl, rfl⟩) | (go_at_call 44; refine HLV.out.mono ?_; rintro e w' ⟨rfl, rfl⟩))
            go_ret
            exact ⟨rfl, HB.out⟩
        · have cu2 : (us == 0) = false := by simpa using cu
          have HV := hide (show bodyOk (⟨id, 1, sn, us, mb, zl, tx, zp, dp⟩ : EvV) = false by (have cm3 : memOk (⟨id, 1, sn, us, mb, zl, tx, zp, dp⟩ : EvV) = false := by (unfold memOk; simp [inR]; exact fun q => absurd q cu)); simp [bodyOk, cm3])
          rw [show bodyOk _ = false from HV.out]
          clear HV
          go_enter Tryz.func20, Tryz.ntmps20
          go_wp2_with (first | ((go_at_call 18; first | refine (l01In_yes _ _ _ (by omega) (by omega) _).mono ?_ | refine (l01In_no _ _ _ (by omega) _).mono ?_); rintro e w' ⟨rfl, rfl⟩) | (go_at_call 44; refine HLV.out.mono ?_; rintro e w' ⟨rfl, rfl⟩))
          go_ret
          exact ⟨rfl, HB.out⟩
      · by_cases cu : 1 ≤ us ∧ us ≤ 5
        · obtain ⟨cu1, cu5⟩ := cu
          by_cases cm : 0 ≤ mb ∧ mb ≤ 3
          · obtain ⟨cm1, cm5⟩ := cm
            by_cases cz : n = 0
            · subst cz
              have hz : zl = [] := List.eq_nil_of_length_eq_zero hn
              have HV := hide (show bodyOk (⟨id, 2, sn, us, mb, zl, tx, zp, dp⟩ : EvV) = decide (tx.length = 0) by simp [bodyOk, memOk, lvsOk, txOk, inR, cs1, cs5, hz, cu1, cu5, cm1, cm5])
              rw [show bodyOk _ = decide (tx.length = 0) from HV.out]
              clear HV
              go_enter Tryz.func20, Tryz.ntmps20
              go_wp2_with (first | ((go_at_call 18; first | refine (l01In_yes _ _ _ (by omega) (by omega) _).mono ?_ | refine (l01In_no _ _ _ (by omega) _).mono ?_); rintro e w' ⟨rfl, rfl⟩) | (go_at_call 44; refine HLV.out.mono ?_; rintro e w' ⟨rfl, rfl⟩))
              go_ret
              exact ⟨by first | rfl | (simp; done) | (cases tx <;> simp; done) | (simp; omega), HB.out⟩
            · have cz2 : (0 : Int) < (n : Int) := by omega
              have hz : ¬ zl = [] := fun q => cz (by rw [← hn, q]; rfl)
              have HV := hide (show bodyOk (⟨id, 2, sn, us, mb, zl, tx, zp, dp⟩ : EvV) = false by simp [bodyOk, memOk, lvsOk, txOk, inR, cs1, cs5, hz])
              rw [show bodyOk _ = false from HV.out]
              clear HV
              go_enter Tryz.func20, Tryz.ntmps20
              go_wp2_with (first | ((go_at_call 18; first | refine (l01In_yes _ _ _ (by omega) (by omega) _).mono ?_ | refine (l01In_no _ _ _ (by omega) _).mono ?_); rintro e w' ⟨rfl, rfl⟩) | (go_at_call 44; refine HLV.out.mono ?_; rintro e w' ⟨rfl, rfl⟩))
              go_ret
              exact ⟨rfl, HB.out⟩
          · skip
            have HV := hide (show bodyOk (⟨id, 2, sn, us, mb, zl, tx, zp, dp⟩ : EvV) = false by (have cm3 : memOk (⟨id, 2, sn, us, mb, zl, tx, zp, dp⟩ : EvV) = false := by (unfold memOk; simp [inR]; omega)); simp [bodyOk, cm3])
            rw [show bodyOk _ = false from HV.out]
            clear HV
            go_enter Tryz.func20, Tryz.ntmps20
            go_wp2_with (first | ((go_at_call 18; first | refine (l01In_yes _ _ _ (by omega) (by omega) _).mono ?_ | refine (l01In_no _ _ _ (by omega) _).mono ?_); rintro e w' ⟨rfl, rfl⟩) | (go_at_call 44; refine HLV.out.mono ?_; rintro e w' ⟨rfl, rfl⟩))
            go_ret
            exact ⟨rfl, HB.out⟩
        · skip
          have HV := hide (show bodyOk (⟨id, 2, sn, us, mb, zl, tx, zp, dp⟩ : EvV) = false by (have cm3 : memOk (⟨id, 2, sn, us, mb, zl, tx, zp, dp⟩ : EvV) = false := by (unfold memOk; simp [inR]; omega)); simp [bodyOk, cm3])
          rw [show bodyOk _ = false from HV.out]
          clear HV
          go_enter Tryz.func20, Tryz.ntmps20
          go_wp2_with (first | ((go_at_call 18; first | refine (l01In_yes _ _ _ (by omega) (by omega) _).mono ?_ | refine (l01In_no _ _ _ (by omega) _).mono ?_); rintro e w' ⟨rfl, rfl⟩) | (go_at_call 44; refine HLV.out.mono ?_; rintro e w' ⟨rfl, rfl⟩))
          go_ret
          exact ⟨rfl, HB.out⟩
      · by_cases cu : us = 0
        · subst cu
          by_cases cm : mb = 0
          · subst cm
            cases cl9 : lvOk zl with
            | false =>
              rw [cl9] at HLV
              have HV := hide (show bodyOk (⟨id, 3, sn, 0, 0, zl, tx, zp, dp⟩ : EvV) = false by simp [bodyOk, memOk, lvsOk, txOk, inR, cs1, cs5, cl9])
              rw [show bodyOk _ = false from HV.out]
              clear HV
              go_enter Tryz.func20, Tryz.ntmps20
              go_wp2_with (first | ((go_at_call 18; first | refine (l01In_yes _ _ _ (by omega) (by omega) _).mono ?_ | refine (l01In_no _ _ _ (by omega) _).mono ?_); rintro e w' ⟨rfl, rfl⟩) | (go_at_call 44; refine HLV.out.mono ?_; rintro e w' ⟨rfl, rfl⟩))
              go_ret
              exact ⟨rfl, HB.out⟩
            | true =>
              rw [cl9] at HLV
              have HV := hide (show bodyOk (⟨id, 3, sn, 0, 0, zl, tx, zp, dp⟩ : EvV) = decide (tx.length = 0) by simp [bodyOk, memOk, lvsOk, txOk, inR, cs1, cs5, cl9])
              rw [show bodyOk _ = decide (tx.length = 0) from HV.out]
              clear HV
              go_enter Tryz.func20, Tryz.ntmps20
              go_wp2_with (first | ((go_at_call 18; first | refine (l01In_yes _ _ _ (by omega) (by omega) _).mono ?_ | refine (l01In_no _ _ _ (by omega) _).mono ?_); rintro e w' ⟨rfl, rfl⟩) | (go_at_call 44; refine HLV.out.mono ?_; rintro e w' ⟨rfl, rfl⟩))
              go_ret
              exact ⟨by first | rfl | (simp; done) | (cases tx <;> simp; done) | (simp; omega), HB.out⟩
          · have cm2 : (mb == 0) = false := by simpa using cm
            have HV := hide (show bodyOk (⟨id, 3, sn, 0, mb, zl, tx, zp, dp⟩ : EvV) = false by (have cm3 : memOk (⟨id, 3, sn, 0, mb, zl, tx, zp, dp⟩ : EvV) = false := by (unfold memOk; simp [inR]; exact cm)); simp [bodyOk, cm3])
            rw [show bodyOk _ = false from HV.out]
            clear HV
            go_enter Tryz.func20, Tryz.ntmps20
            go_wp2_with (first | ((go_at_call 18; first | refine (l01In_yes _ _ _ (by omega) (by omega) _).mono ?_ | refine (l01In_no _ _ _ (by omega) _).mono ?_); rintro e w' ⟨rfl, rfl⟩) | (go_at_call 44; refine HLV.out.mono ?_; rintro e w' ⟨rfl, rfl⟩))
            go_ret
            exact ⟨rfl, HB.out⟩
        · have cu2 : (us == 0) = false := by simpa using cu
          have HV := hide (show bodyOk (⟨id, 3, sn, us, mb, zl, tx, zp, dp⟩ : EvV) = false by (have cm3 : memOk (⟨id, 3, sn, us, mb, zl, tx, zp, dp⟩ : EvV) = false := by (unfold memOk; simp [inR]; exact fun q => absurd q cu)); simp [bodyOk, cm3])
          rw [show bodyOk _ = false from HV.out]
          clear HV
          go_enter Tryz.func20, Tryz.ntmps20
          go_wp2_with (first | ((go_at_call 18; first | refine (l01In_yes _ _ _ (by omega) (by omega) _).mono ?_ | refine (l01In_no _ _ _ (by omega) _).mono ?_); rintro e w' ⟨rfl, rfl⟩) | (go_at_call 44; refine HLV.out.mono ?_; rintro e w' ⟨rfl, rfl⟩))
          go_ret
          exact ⟨rfl, HB.out⟩
      · by_cases cu : us = 0
        · subst cu
          by_cases cm : mb = 0
          · subst cm
            by_cases cz : n = 0
            · subst cz
              have hz : zl = [] := List.eq_nil_of_length_eq_zero hn
              have HV := hide (show bodyOk (⟨id, 4, sn, 0, 0, zl, tx, zp, dp⟩ : EvV) = decide (tx.length ≤ 24) by simp [bodyOk, memOk, lvsOk, txOk, inR, cs1, cs5, hz])
              rw [show bodyOk _ = decide (tx.length ≤ 24) from HV.out]
              clear HV
              go_enter Tryz.func20, Tryz.ntmps20
              go_wp2_with (first | ((go_at_call 18; first | refine (l01In_yes _ _ _ (by omega) (by omega) _).mono ?_ | refine (l01In_no _ _ _ (by omega) _).mono ?_); rintro e w' ⟨rfl, rfl⟩) | (go_at_call 44; refine HLV.out.mono ?_; rintro e w' ⟨rfl, rfl⟩))
              go_ret
              exact ⟨by first | rfl | (simp; done) | (cases tx <;> simp; done) | (simp; omega), HB.out⟩
            · have cz2 : (0 : Int) < (n : Int) := by omega
              have hz : ¬ zl = [] := fun q => cz (by rw [← hn, q]; rfl)
              have HV := hide (show bodyOk (⟨id, 4, sn, 0, 0, zl, tx, zp, dp⟩ : EvV) = false by simp [bodyOk, memOk, lvsOk, txOk, inR, cs1, cs5, hz])
              rw [show bodyOk _ = false from HV.out]
              clear HV
              go_enter Tryz.func20, Tryz.ntmps20
              go_wp2_with (first | ((go_at_call 18; first | refine (l01In_yes _ _ _ (by omega) (by omega) _).mono ?_ | refine (l01In_no _ _ _ (by omega) _).mono ?_); rintro e w' ⟨rfl, rfl⟩) | (go_at_call 44; refine HLV.out.mono ?_; rintro e w' ⟨rfl, rfl⟩))
              go_ret
              exact ⟨rfl, HB.out⟩
          · have cm2 : (mb == 0) = false := by simpa using cm
            have HV := hide (show bodyOk (⟨id, 4, sn, 0, mb, zl, tx, zp, dp⟩ : EvV) = false by (have cm3 : memOk (⟨id, 4, sn, 0, mb, zl, tx, zp, dp⟩ : EvV) = false := by (unfold memOk; simp [inR]; exact cm)); simp [bodyOk, cm3])
            rw [show bodyOk _ = false from HV.out]
            clear HV
            go_enter Tryz.func20, Tryz.ntmps20
            go_wp2_with (first | ((go_at_call 18; first | refine (l01In_yes _ _ _ (by omega) (by omega) _).mono ?_ | refine (l01In_no _ _ _ (by omega) _).mono ?_); rintro e w' ⟨rfl, rfl⟩) | (go_at_call 44; refine HLV.out.mono ?_; rintro e w' ⟨rfl, rfl⟩))
            go_ret
            exact ⟨rfl, HB.out⟩
        · have cu2 : (us == 0) = false := by simpa using cu
          have HV := hide (show bodyOk (⟨id, 4, sn, us, mb, zl, tx, zp, dp⟩ : EvV) = false by (have cm3 : memOk (⟨id, 4, sn, us, mb, zl, tx, zp, dp⟩ : EvV) = false := by (unfold memOk; simp [inR]; exact fun q => absurd q cu)); simp [bodyOk, cm3])
          rw [show bodyOk _ = false from HV.out]
          clear HV
          go_enter Tryz.func20, Tryz.ntmps20
          go_wp2_with (first | ((go_at_call 18; first | refine (l01In_yes _ _ _ (by omega) (by omega) _).mono ?_ | refine (l01In_no _ _ _ (by omega) _).mono ?_); rintro e w' ⟨rfl, rfl⟩) | (go_at_call 44; refine HLV.out.mono ?_; rintro e w' ⟨rfl, rfl⟩))
          go_ret
          exact ⟨rfl, HB.out⟩
      · by_cases cu : us = 0
        · subst cu
          by_cases cm : mb = 0
          · subst cm
            by_cases cz : n = 0
            · subst cz
              have hz : zl = [] := List.eq_nil_of_length_eq_zero hn
              have HV := hide (show bodyOk (⟨id, 5, sn, 0, 0, zl, tx, zp, dp⟩ : EvV) = decide (tx.length ≤ 24) by simp [bodyOk, memOk, lvsOk, txOk, inR, cs1, cs5, hz])
              rw [show bodyOk _ = decide (tx.length ≤ 24) from HV.out]
              clear HV
              go_enter Tryz.func20, Tryz.ntmps20
              go_wp2_with (first | ((go_at_call 18; first | refine (l01In_yes _ _ _ (by omega) (by omega) _).mono ?_ | refine (l01In_no _ _ _ (by omega) _).mono ?_); rintro e w' ⟨rfl, rfl⟩) | (go_at_call 44; refine HLV.out.mono ?_; rintro e w' ⟨rfl, rfl⟩))
              go_ret
              exact ⟨by first | rfl | (simp; done) | (cases tx <;> simp; done) | (simp; omega), HB.out⟩
            · have cz2 : (0 : Int) < (n : Int) := by omega
              have hz : ¬ zl = [] := fun q => cz (by rw [← hn, q]; rfl)
              have HV := hide (show bodyOk (⟨id, 5, sn, 0, 0, zl, tx, zp, dp⟩ : EvV) = false by simp [bodyOk, memOk, lvsOk, txOk, inR, cs1, cs5, hz])
              rw [show bodyOk _ = false from HV.out]
              clear HV
              go_enter Tryz.func20, Tryz.ntmps20
              go_wp2_with (first | ((go_at_call 18; first | refine (l01In_yes _ _ _ (by omega) (by omega) _).mono ?_ | refine (l01In_no _ _ _ (by omega) _).mono ?_); rintro e w' ⟨rfl, rfl⟩) | (go_at_call 44; refine HLV.out.mono ?_; rintro e w' ⟨rfl, rfl⟩))
              go_ret
              exact ⟨rfl, HB.out⟩
          · have cm2 : (mb == 0) = false := by simpa using cm
            have HV := hide (show bodyOk (⟨id, 5, sn, 0, mb, zl, tx, zp, dp⟩ : EvV) = false by (have cm3 : memOk (⟨id, 5, sn, 0, mb, zl, tx, zp, dp⟩ : EvV) = false := by (unfold memOk; simp [inR]; exact cm)); simp [bodyOk, cm3])
            rw [show bodyOk _ = false from HV.out]
            clear HV
            go_enter Tryz.func20, Tryz.ntmps20
            go_wp2_with (first | ((go_at_call 18; first | refine (l01In_yes _ _ _ (by omega) (by omega) _).mono ?_ | refine (l01In_no _ _ _ (by omega) _).mono ?_); rintro e w' ⟨rfl, rfl⟩) | (go_at_call 44; refine HLV.out.mono ?_; rintro e w' ⟨rfl, rfl⟩))
            go_ret
            exact ⟨rfl, HB.out⟩
        · have cu2 : (us == 0) = false := by simpa using cu
          have HV := hide (show bodyOk (⟨id, 5, sn, us, mb, zl, tx, zp, dp⟩ : EvV) = false by (have cm3 : memOk (⟨id, 5, sn, us, mb, zl, tx, zp, dp⟩ : EvV) = false := by (unfold memOk; simp [inR]; exact fun q => absurd q cu)); simp [bodyOk, cm3])
          rw [show bodyOk _ = false from HV.out]
          clear HV
          go_enter Tryz.func20, Tryz.ntmps20
          go_wp2_with (first | ((go_at_call 18; first | refine (l01In_yes _ _ _ (by omega) (by omega) _).mono ?_ | refine (l01In_no _ _ _ (by omega) _).mono ?_); rintro e w' ⟨rfl, rfl⟩) | (go_at_call 44; refine HLV.out.mono ?_; rintro e w' ⟨rfl, rfl⟩))
          go_ret
          exact ⟨rfl, HB.out⟩
    · have HV := hide (show bodyOk (⟨id, kd, sn, us, mb, zl, tx, zp, dp⟩ : EvV) = false by simp [bodyOk, inR_no cs])
      rw [show bodyOk _ = false from HV.out]
      clear HV
      go_enter Tryz.func20, Tryz.ntmps20
      go_wp2_with (first | ((go_at_call 18; first | refine (l01In_yes _ _ _ (by omega) (by omega) _).mono ?_ | refine (l01In_no _ _ _ (by omega) _).mono ?_); rintro e w' ⟨rfl, rfl⟩) | (go_at_call 44; refine HLV.out.mono ?_; rintro e w' ⟨rfl, rfl⟩))
      go_ret
      exact ⟨rfl, HB.out⟩
  · have HV := hide (show bodyOk (⟨id, kd, sn, us, mb, zl, tx, zp, dp⟩ : EvV) = false by simp [bodyOk, inR_no ck])
    rw [show bodyOk _ = false from HV.out]
    clear HV
    go_enter Tryz.func20, Tryz.ntmps20
    go_wp2_with (first | ((go_at_call 18; first | refine (l01In_yes _ _ _ (by omega) (by omega) _).mono ?_ | refine (l01In_no _ _ _ (by omega) _).mono ?_); rintro e w' ⟨rfl, rfl⟩) | (go_at_call 44; refine HLV.out.mono ?_; rintro e w' ⟨rfl, rfl⟩))
    go_ret
    exact ⟨rfl, HB.out⟩

end Go.Proofs.YtckkfjmjcknjdaaGreatDoor

namespace Go.Proofs.YtckkfjmjcknjdaaGreatDoor
open Go.RowKit P1 P3 P9 P11 P12 K
set_option linter.unusedVariables false
set_option linter.unusedSimpArgs false

theorem evOk_body {e : EvV} (h : bodyOk e = true) (h1 : inR e.id 1 1000000 = true) (h2 : inR e.depth 0 1000000 = true) : evOk e = prevOk e := by
  unfold evOk
  rw [h, h1, h2]
  rfl

set_option maxHeartbeats 8000000 in
theorem specEventOk_any (id kd sn us mb dp : Int) (oa : Option Addr) (n cl : Nat) (tx : List UInt8) (ob : Option Addr) (m cp : Nat) (zl zp : List Int) (hx : tx.length ≤ 1048576) (w : World) (hat : IntsAt w oa n cl zl) (hbt : IntsAt w ob m cp zp) :
    Calls Tryz.prog 21 #[evval id kd sn us mb dp (.slice oa n cl) (.slice ob m cp) tx] w fun e w' => e = .returned (.bool (evOk (⟨id, kd, sn, us, mb, zl, tx, zp, dp⟩ : EvV))) ∧ Below w.heap.size w w' := by
  have hb0 := (Below.refl w.heap.size w).alloc (Nat.le_refl _) (.cells #[.int .i64 id, .int .i64 kd, .int .i64 sn, .int .i64 us, .int .i64 mb, .slice oa n cl, .string ⟨tx.toArray⟩, .slice ob m cp, .int .i64 dp] 29)
  have HBO := hide (fun w hat => l09Body_any id kd sn us mb dp oa n cl tx ob m cp zl zp hx w hat)
  have HE0 := hide (EB.new w id kd sn us mb dp (.slice oa n cl) (.slice ob m cp) tx)
  have HB0 := hide hb0
  have HAT := hide (hat.below hb0)
  have HBT0 := hide hbt
  have hn := hbt.len
  have hmx := Nat.le_trans hbt.room hbt.most
  unfold maxLen at hmx
  clear hb0 hat hbt
  cases cb : bodyOk (⟨id, kd, sn, us, mb, zl, tx, zp, dp⟩ : EvV) with
  | false =>
    have HV := hide (show evOk (⟨id, kd, sn, us, mb, zl, tx, zp, dp⟩ : EvV) = false by unfold evOk; rw [cb]; rfl)
    rw [cb] at HBO
    clear cb
    go_enter Tryz.func21, Tryz.ntmps21
    go_wp2_with fail
    refine (HBO.out _ HAT.out).mono ?_
    rintro e w1 ⟨rfl, hb1⟩
    have HE1 := hide (HE0.out.on hb1 (by simp))
    have HB1 := hide (HB0.out.trans (hb1.mono (by simp)))
    clear hb1 HE0 HB0
    obtain ⟨e0, e1, e2, e3, e4, e5, e6, e7, e8⟩ := HE1.out.ev
    go_wp2_with ((go_at_call 18; first | refine (l01In_yes _ _ _ (by omega) (by omega) _).mono ?_ | refine (l01In_no _ _ _ (by omega) _).mono ?_); rintro e w' ⟨rfl, rfl⟩)
    go_ret
    exact ⟨by rw [HV.out]; rfl, HB1.out⟩
  | true =>
    by_cases ci : 1 ≤ id ∧ id ≤ 1000000
    · obtain ⟨ci1, ci2⟩ := ci
      by_cases cd : 0 ≤ dp ∧ dp ≤ 1000000
      · obtain ⟨cd1, cd2⟩ := cd
        have hE : evOk (⟨id, kd, sn, us, mb, zl, tx, zp, dp⟩ : EvV) = prevOk (⟨id, kd, sn, us, mb, zl, tx, zp, dp⟩ : EvV) := evOk_body cb (inR_iff.2 ⟨ci1, ci2⟩) (inR_iff.2 ⟨cd1, cd2⟩)
        rw [cb] at HBO
        rw [hE]
        clear cb hE
        by_cases c1 : kd = 1
        · subst c1
          have hp : prevOk (⟨id, 1, sn, us, mb, zl, tx, zp, dp⟩ : EvV) = decide (m = 0) := by rw [← hn]; exact prevOk_create rfl
          rw [hp]
          by_cases c0 : m = 0
          · subst c0
            have HV := hide (show decide ((0 : Nat) = 0) = true from rfl)
            go_enter Tryz.func21, Tryz.ntmps21
            go_wp2_with fail
            refine (HBO.out _ HAT.out).mono ?_
            rintro e w1 ⟨rfl, hb1⟩
            have HE1 := hide (HE0.out.on hb1 (by simp))
            have HB1 := hide (HB0.out.trans (hb1.mono (by simp)))
            clear hb1 HE0 HB0
            obtain ⟨e0, e1, e2, e3, e4, e5, e6, e7, e8⟩ := HE1.out.ev
            go_wp2_with ((go_at_call 18; first | refine (l01In_yes _ _ _ (by omega) (by omega) _).mono ?_ | refine (l01In_no _ _ _ (by omega) _).mono ?_); rintro e w' ⟨rfl, rfl⟩)
            go_loopw [3] (fun i wr => i = .int .i64 0 ∧ wr = w1) (fun i _ => 0)
            case atStart => exact ⟨rfl, rfl⟩
            case round =>
              obtain ⟨rfl, rfl⟩ := hrel
              go_wp2_with fail
              go_ret
              exact ⟨rfl, HB1.out⟩
          · have HV := hide (show decide (m = 0) = false from decide_eq_false c0)
            by_cases c3 : m ≤ 3
            · have g3 : ¬ (3 : Int) < (m : Int) := by omega
              have g0 : ((m : Int) == 0) = false := by simp; omega
              have g1 : ¬ (m : Int) = 0 := by omega
              go_enter Tryz.func21, Tryz.ntmps21
              go_wp2_with fail
              refine (HBO.out _ HAT.out).mono ?_
              rintro e w1 ⟨rfl, hb1⟩
              have HE1 := hide (HE0.out.on hb1 (by simp))
              have HB1 := hide (HB0.out.trans (hb1.mono (by simp)))
              clear hb1 HE0 HB0
              obtain ⟨e0, e1, e2, e3, e4, e5, e6, e7, e8⟩ := HE1.out.ev
              go_wp2_with ((go_at_call 18; first | refine (l01In_yes _ _ _ (by omega) (by omega) _).mono ?_ | refine (l01In_no _ _ _ (by omega) _).mono ?_); rintro e w' ⟨rfl, rfl⟩)
              go_ret
              exact ⟨by rw [HV.out]; rfl, HB1.out⟩
            · have g3 : (3 : Int) < (m : Int) := by omega
              go_enter Tryz.func21, Tryz.ntmps21
              go_wp2_with fail
              refine (HBO.out _ HAT.out).mono ?_
              rintro e w1 ⟨rfl, hb1⟩
              have HE1 := hide (HE0.out.on hb1 (by simp))
              have HB1 := hide (HB0.out.trans (hb1.mono (by simp)))
              clear hb1 HE0 HB0
              obtain ⟨e0, e1, e2, e3, e4, e5, e6, e7, e8⟩ := HE1.out.ev
              go_wp2_with ((go_at_call 18; first | refine (l01In_yes _ _ _ (by omega) (by omega) _).mono ?_ | refine (l01In_no _ _ _ (by omega) _).mono ?_); rintro e w' ⟨rfl, rfl⟩)
              go_ret
              exact ⟨by rw [HV.out]; rfl, HB1.out⟩
        · have q1 : (kd == 1) = false := by simpa using c1
          by_cases c3 : 1 ≤ m ∧ m ≤ 3
          · obtain ⟨c31, c33⟩ := c3
            have g3 : ¬ (3 : Int) < (m : Int) := by omega
            have g0 : ((m : Int) == 0) = false := by simp; omega
            have g1 : ¬ (m : Int) = 0 := by omega
            have hL : prevOk (⟨id, kd, sn, us, mb, zl, tx, zp, dp⟩ : EvV) = pvOk id none zp := prevOk_in c1 ⟨by rw [hn]; exact c31, by rw [hn]; exact c33⟩
            rw [hL]
            have HN := hide hn
            clear hL hn
            go_enter Tryz.func21, Tryz.ntmps21
            go_wp2_with fail
            refine (HBO.out _ HAT.out).mono ?_
            rintro e w1 ⟨rfl, hb1⟩
            have HE1 := hide (HE0.out.on hb1 (by simp))
            have HB1 := hide (HB0.out.trans (hb1.mono (by simp)))
            clear hb1 HE0 HB0
            obtain ⟨e0, e1, e2, e3, e4, e5, e6, e7, e8⟩ := HE1.out.ev
            go_wp2_with ((go_at_call 18; first | refine (l01In_yes _ _ _ (by omega) (by omega) _).mono ?_ | refine (l01In_no _ _ _ (by omega) _).mono ?_); rintro e w' ⟨rfl, rfl⟩)
            have HBT1 := hide (HBT0.out.below HB1.out)
            clear e0 e1 e2 e3 e4 e5 e6 e7 e8
            go_loopw [3] (fun i wr => ∃ (j : Nat), i = .int .i64 (j : Int) ∧ j ≤ m ∧ pvOk id (pv zp j) (zp.drop j) = pvOk id none zp ∧ Drew w1 wr) (fun i _ => m - (intOf i).toNat)
            case atStart => exact ⟨0, rfl, Nat.zero_le _, rfl, 0, rfl⟩
            case round =>
              obtain ⟨j, rfl, hj, hrest, hdr⟩ := hrel
              obtain ⟨e0, e1, e2, e3, e4, e5, e6, e7, e8⟩ := (HE1.out.on hdr.below HE1.out.lt).ev
              by_cases hlt : j < m
              · have j0 : (j : Int) < (m : Int) := by omega
                obtain ⟨z, b, p, hz, hidx, hb, c0, hwf⟩ := (HBT1.out.drew hdr).get Tryz.underlying22 infoI j hlt
                rw [pvOk_at hz] at hrest
                by_cases hzr : 1 ≤ z ∧ z ≤ 1000000
                · obtain ⟨hz1, hz4⟩ := hzr
                  have gz1 : decide (1 ≤ z) = true := decide_eq_true hz1
                  have gz4 : decide (z ≤ 1000000) = true := decide_eq_true hz4
                  rw [inR_iff.2 ⟨hz1, hz4⟩, Bool.true_and] at hrest
                  by_cases hid : z = id
                  · have HR := hide (show pvOk id none zp = false by rw [← hrest]; simp [hid])
                    have gid : (z == id) = true := by simpa using hid
                    clear hrest hz
                    go_wp2_with fail
                    go_quiet ((go_at_call 18; exact Calls.quiet_of_same (l01In5_any _ _ _ _)))
                    go_wp2_with fail
                    go_ret
                    exact ⟨by rw [HR.out]; rfl, HB1.out.trans ((hdr.more _).below.mono HB1.out.size)⟩
                  · have gid : (z == id) = false := by simpa using hid
                    rw [decide_eq_true hid, Bool.true_and] at hrest
                    by_cases hj0 : j = 0
                    · have gj : decide (0 < j) = false := by simp [hj0]
                      have HR := hide (show pvOk id (pv zp (j + 1)) (zp.drop (j + 1)) = pvOk id none zp by rw [← hrest, hj0]; simp [pv, after])
                      clear hrest hz hj0
                      go_wp2_with fail
                      go_quiet ((go_at_call 18; exact Calls.quiet_of_same (l01In5_any _ _ _ _)))
                      go_wp2_with fail
                      go_roundw
                      case rel => exact ⟨j + 1, by go_num, by omega, HR.out, hdr.more _⟩
                      case measure => simp [intOf]; omega
                    · have gj : decide (0 < j) = true := by simp; omega
                      obtain ⟨y, b', p', hy, hidx', hb', c0', hwf'⟩ := (HBT1.out.drew hdr).get Tryz.underlying22 infoI (j - 1) (by omega)
                      have hjc : ((j - 1 : Nat) : Int) = (j : Int) - 1 := by omega
                      rw [hjc] at hidx'
                      have hwr : IntKind.i64.wrap ((j : Int) - 1) = (j : Int) - 1 := by rw [IntKind.wrap_i64]; omega
                      have hpv : pv zp j = some y := by
                        obtain ⟨k, rfl⟩ : ∃ k, j = k + 1 := ⟨j - 1, by omega⟩
                        exact hy
                      rw [hpv] at hrest
                      clear hpv hy hjc hz hj0
                      by_cases hyz : y < z
                      · have gyz : decide (z ≤ y) = false := by simp; omega
                        have HR := hide (show pvOk id (pv zp (j + 1)) (zp.drop (j + 1)) = pvOk id none zp by rw [← hrest]; simp [after, hyz])
                        clear hrest
                        go_wp2_with fail
                        go_quiet ((go_at_call 18; exact Calls.quiet_of_same (l01In5_any _ _ _ _)))
                        go_wp2_with fail
                        go_roundw
                        case rel => exact ⟨j + 1, by go_num, by omega, HR.out, hdr.more _⟩
                        case measure => simp [intOf]; omega
                      · have gyz : decide (z ≤ y) = true := by simp; omega
                        have HR := hide (show pvOk id none zp = false by rw [← hrest]; simp [after, hyz])
                        clear hrest
                        go_wp2_with fail
                        go_quiet ((go_at_call 18; exact Calls.quiet_of_same (l01In5_any _ _ _ _)))
                        go_wp2_with fail
                        go_ret
                        exact ⟨by rw [HR.out]; rfl, HB1.out.trans ((hdr.more _).below.mono HB1.out.size)⟩
                · have gz : (decide (1 ≤ z) && decide (z ≤ 1000000)) = false := by simp; omega
                  have HR := hide (show pvOk id none zp = false by rw [← hrest, inR_no hzr]; rfl)
                  clear hrest hz
                  go_wp2_with fail
                  go_quiet ((go_at_call 18; exact Calls.quiet_of_same (l01In5_any _ _ _ _)))
                  go_wp2_with fail
                  go_ret
                  exact ⟨by rw [HR.out]; rfl, HB1.out.trans ((hdr.more _).below.mono HB1.out.size)⟩
              · have hjn : j = m := by omega
                have HR := hide (show pvOk id none zp = true by rw [← hrest, hjn, ← HN.out, List.drop_length]; exact pvOk_end _ _)
                clear hrest
                go_wp2_with fail
                go_ret
                exact ⟨by rw [HR.out]; rfl, HB1.out.trans (hdr.below.mono HB1.out.size)⟩
          · by_cases c4 : m ≤ 3
            · have c0 : m = 0 := by omega
              subst c0
              have HV := hide (show prevOk (⟨id, kd, sn, us, mb, zl, tx, zp, dp⟩ : EvV) = false from prevOk_off c1 (by rw [hn]; exact c3))
              go_enter Tryz.func21, Tryz.ntmps21
              go_wp2_with fail
              refine (HBO.out _ HAT.out).mono ?_
              rintro e w1 ⟨rfl, hb1⟩
              have HE1 := hide (HE0.out.on hb1 (by simp))
              have HB1 := hide (HB0.out.trans (hb1.mono (by simp)))
              clear hb1 HE0 HB0
              obtain ⟨e0, e1, e2, e3, e4, e5, e6, e7, e8⟩ := HE1.out.ev
              go_wp2_with ((go_at_call 18; first | refine (l01In_yes _ _ _ (by omega) (by omega) _).mono ?_ | refine (l01In_no _ _ _ (by omega) _).mono ?_); rintro e w' ⟨rfl, rfl⟩)
              go_ret
              exact ⟨by rw [HV.out]; rfl, HB1.out⟩
            · have g3 : (3 : Int) < (m : Int) := by omega
              have HV := hide (show prevOk (⟨id, kd, sn, us, mb, zl, tx, zp, dp⟩ : EvV) = false from prevOk_off c1 (by rw [hn]; exact c3))
              go_enter Tryz.func21, Tryz.ntmps21
              go_wp2_with fail
              refine (HBO.out _ HAT.out).mono ?_
              rintro e w1 ⟨rfl, hb1⟩
              have HE1 := hide (HE0.out.on hb1 (by simp))
              have HB1 := hide (HB0.out.trans (hb1.mono (by simp)))
              clear hb1 HE0 HB0
              obtain ⟨e0, e1, e2, e3, e4, e5, e6, e7, e8⟩ := HE1.out.ev
              go_wp2_with ((go_at_call 18; first | refine (l01In_yes _ _ _ (by omega) (by omega) _).mono ?_ | refine (l01In_no _ _ _ (by omega) _).mono ?_); rintro e w' ⟨rfl, rfl⟩)
              go_ret
              exact ⟨by rw [HV.out]; rfl, HB1.out⟩
      · have HV := hide (show evOk (⟨id, kd, sn, us, mb, zl, tx, zp, dp⟩ : EvV) = false by unfold evOk; rw [inR_no (a := dp) cd]; simp)
        rw [cb] at HBO
        clear cb
        go_enter Tryz.func21, Tryz.ntmps21
        go_wp2_with fail
        refine (HBO.out _ HAT.out).mono ?_
        rintro e w1 ⟨rfl, hb1⟩
        have HE1 := hide (HE0.out.on hb1 (by simp))
        have HB1 := hide (HB0.out.trans (hb1.mono (by simp)))
        clear hb1 HE0 HB0
        obtain ⟨e0, e1, e2, e3, e4, e5, e6, e7, e8⟩ := HE1.out.ev
        go_wp2_with ((go_at_call 18; first | refine (l01In_yes _ _ _ (by omega) (by omega) _).mono ?_ | refine (l01In_no _ _ _ (by omega) _).mono ?_); rintro e w' ⟨rfl, rfl⟩)
        go_ret
        exact ⟨by rw [HV.out]; rfl, HB1.out⟩
    · have HV := hide (show evOk (⟨id, kd, sn, us, mb, zl, tx, zp, dp⟩ : EvV) = false by unfold evOk; rw [inR_no (a := id) ci]; simp)
      rw [cb] at HBO
      clear cb
      go_enter Tryz.func21, Tryz.ntmps21
      go_wp2_with fail
      refine (HBO.out _ HAT.out).mono ?_
      rintro e w1 ⟨rfl, hb1⟩
      have HE1 := hide (HE0.out.on hb1 (by simp))
      have HB1 := hide (HB0.out.trans (hb1.mono (by simp)))
      clear hb1 HE0 HB0
      obtain ⟨e0, e1, e2, e3, e4, e5, e6, e7, e8⟩ := HE1.out.ev
      go_wp2_with ((go_at_call 18; first | refine (l01In_yes _ _ _ (by omega) (by omega) _).mono ?_ | refine (l01In_no _ _ _ (by omega) _).mono ?_); rintro e w' ⟨rfl, rfl⟩)
      go_ret
      exact ⟨by rw [HV.out]; rfl, HB1.out⟩

end Go.Proofs.YtckkfjmjcknjdaaGreatDoor
