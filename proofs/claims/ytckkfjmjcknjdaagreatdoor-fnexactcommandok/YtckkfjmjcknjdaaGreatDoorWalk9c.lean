/-
  Walks of chapter 9: levelsOk, textOk, prevOk of the program.
-/
import Derived.Test.YtckkfjmjcknjdaaGreatDoorEv4
import Derived.Test.YtckkfjmjcknjdaaGreatDoorWalk9a
import Derived.Lib.Strings
namespace Go.Proofs.YtckkfjmjcknjdaaGreatDoor
open Go.RowKit P1 P3 P9 P11 P12 K
set_option linter.unusedVariables false
set_option linter.unusedSimpArgs false

theorem ev_of {zl : List Int} {n : Nat} (h : zl.length = n) : (zl.length : Int) = n := by omega

set_option maxHeartbeats 1000000 in
theorem levelsOk_any (id kd sn us mb dp : Int) (oa : Option Addr) (n cl : Nat) (tx : List UInt8) (ob : Option Addr) (m cp : Nat) (zl zp : List Int) (w : World) (hat : IntsAt w oa n cl zl) :
    Calls Tryz.prog 101 #[evval id kd sn us mb dp (.slice oa n cl) (.slice ob m cp) tx] w fun e w' => e = .returned (.bool (lvsOk (⟨id, kd, sn, us, mb, zl, tx, zp, dp⟩ : EvV))) ∧ Below w.heap.size w w' := by
  have HB := hide ((Below.refl w.heap.size w).alloc (Nat.le_refl _) (.cells #[.int .i64 id, .int .i64 kd, .int .i64 sn, .int .i64 us, .int .i64 mb, .slice oa n cl, .string ⟨tx.toArray⟩, .slice ob m cp, .int .i64 dp] 29))
  have HAT := hide (hat.below HB.out)
  have hn := hat.len
  have hmx := Nat.le_trans hat.room hat.most
  unfold maxLen at hmx
  by_cases c : kd = 3
  · subst c
    by_cases d : n = 5
    · subst d
      have hL : lvsOk (⟨id, 3, sn, us, mb, zl, tx, zp, dp⟩ : EvV) = lvAll zl := lvsOk_power rfl hn
      rw [hL]
      have HN := hide hn
      clear hL hat hn
      go_enter Tryz.func101, Tryz.ntmps101
      go_wp2_with fail
      go_loop [19] (fun i => ∃ (j : Nat), i = .int .i64 (j : Int) ∧ j ≤ 5 ∧ lvAll (zl.drop j) = lvAll zl) (fun i => 5 - (intOf i).toNat)
      case atStart => exact ⟨0, rfl, Nat.zero_le _, rfl⟩
      case round =>
        obtain ⟨j, rfl, hj, hrest⟩ := hrel
        by_cases hlt : j < 5
        · have j0 : (j : Int) < 5 := by omega
          obtain ⟨z, b, q, hz, hidx, hb, c0, hwf⟩ := HAT.out.get Tryz.underlying22 infoI j hlt
          rw [lvAll_at hz] at hrest
          by_cases hzr : 0 ≤ z ∧ z ≤ 100
          · obtain ⟨hz1, hz4⟩ := hzr
            have HR := hide (show lvAll (zl.drop (j + 1)) = lvAll zl by rw [← hrest, inR_iff.2 ⟨hz1, hz4⟩, Bool.true_and])
            clear hrest hz
            go_wp2_with (go_at_call 24; refine (within_yes _ _ _ hz1 hz4 _).mono ?_; rintro e w' ⟨rfl, rfl⟩)
            go_round
            case rel => exact ⟨j + 1, by go_num, by omega, HR.out⟩
            case measure => simp [intOf]; omega
          · have hnin : inR z 0 100 = false := by (simp [inR]; omega)
            have HR := hide (show lvAll zl = false by rw [← hrest, hnin, Bool.false_and])
            clear hnin
            clear hrest hz
            go_wp2_with (go_at_call 24; refine (within_no _ _ _ (by omega) _).mono ?_; rintro e w' ⟨rfl, rfl⟩)
            go_ret
            exact ⟨by rw [HR.out]; rfl, HB.out⟩
        · have hjn : j = 5 := by omega
          have HR := hide (show lvAll zl = true by rw [← hrest, hjn, ← HN.out, List.drop_length]; rfl)
          clear hrest
          go_wp2_with fail
          go_ret
          exact ⟨by rw [HR.out]; rfl, HB.out⟩
    · have hL : lvsOk (⟨id, 3, sn, us, mb, zl, tx, zp, dp⟩ : EvV) = false := lvsOk_few rfl (by rw [hn]; exact d)
      rw [hL]
      have d' : ((n : Int) == 5) = false := by simp; omega
      have d2 : ¬ (n : Int) = 5 := by omega
      clear hL hat hn
      go_enter Tryz.func101, Tryz.ntmps101
      go_wp2_with fail
      go_ret
      exact ⟨rfl, HB.out⟩
  · have hL : lvsOk (⟨id, kd, sn, us, mb, zl, tx, zp, dp⟩ : EvV) = decide (n = 0) := by rw [← hn]; exact lvsOk_other c
    rw [hL]
    have c' : (kd == 3) = false := by simpa using c
    clear hL hat hn
    by_cases d : n = 0
    · subst d
      go_enter Tryz.func101, Tryz.ntmps101
      go_wp2_with fail
      go_ret
      exact ⟨rfl, HB.out⟩
    · have d' : ((n : Int) == 0) = false := by simp; omega
      have d2 : ¬ (n : Int) = 0 := by omega
      rw [decide_eq_false d]
      go_enter Tryz.func101, Tryz.ntmps101
      go_wp2_with fail
      go_ret
      exact ⟨by simp [d, d2], HB.out⟩

set_option maxHeartbeats 1000000 in
theorem textOk_any (id kd sn us mb dp : Int) (oa : Option Addr) (n cl : Nat) (tx : List UInt8) (ob : Option Addr) (m cp : Nat) (zl zp : List Int) (hx : tx.length ≤ 1048576) (w : World) :
    Calls Tryz.prog 102 #[evval id kd sn us mb dp (.slice oa n cl) (.slice ob m cp) tx] w fun e w' => e = .returned (.bool (txOk (⟨id, kd, sn, us, mb, zl, tx, zp, dp⟩ : EvV))) ∧ Below w.heap.size w w' := by
  have HB := hide ((Below.refl w.heap.size w).alloc (Nat.le_refl _) (.cells #[.int .i64 id, .int .i64 kd, .int .i64 sn, .int .i64 us, .int .i64 mb, .slice oa n cl, .string ⟨tx.toArray⟩, .slice ob m cp, .int .i64 dp] 29))
  by_cases c4 : kd = 4
  · subst c4
    rw [txOk_word (Or.inl rfl)]
    go_enter Tryz.func102, Tryz.ntmps102
    go_wp2_with fail
    go_ret
    exact ⟨by first | rfl | (simp; omega), HB.out⟩
  · by_cases c5 : kd = 5
    · subst c5
      rw [txOk_word (Or.inr rfl)]
      go_enter Tryz.func102, Tryz.ntmps102
      go_wp2_with fail
      go_ret
      exact ⟨by first | rfl | (simp; omega), HB.out⟩
    · have g4 : (kd == 4) = false := by simpa using c4
      have g5 : (kd == 5) = false := by simpa using c5
      rw [txOk_none (by simp [c4, c5])]
      go_enter Tryz.func102, Tryz.ntmps102
      go_wp2_with fail
      go_ret
      exact ⟨by cases tx <;> simp, HB.out⟩

set_option maxHeartbeats 1000000 in
theorem implPrevOk_any (id kd sn us mb dp : Int) (oa : Option Addr) (n cl : Nat) (tx : List UInt8) (ob : Option Addr) (m cp : Nat) (zl zp : List Int) (w : World) (hat : IntsAt w ob m cp zp) :
    Calls Tryz.prog 103 #[evval id kd sn us mb dp (.slice oa n cl) (.slice ob m cp) tx] w fun e w' => e = .returned (.bool (prevOk (⟨id, kd, sn, us, mb, zl, tx, zp, dp⟩ : EvV))) ∧ Below w.heap.size w w' := by
  have HB := hide ((Below.refl w.heap.size w).alloc (Nat.le_refl _) (.cells #[.int .i64 id, .int .i64 kd, .int .i64 sn, .int .i64 us, .int .i64 mb, .slice oa n cl, .string ⟨tx.toArray⟩, .slice ob m cp, .int .i64 dp] 29))
  have HAT := hide (hat.below HB.out)
  have hn := hat.len
  have hmx := Nat.le_trans hat.room hat.most
  unfold maxLen at hmx
  by_cases c : kd = 1
  · subst c
    have hL : prevOk (⟨id, 1, sn, us, mb, zl, tx, zp, dp⟩ : EvV) = decide (m = 0) := by rw [← hn]; exact prevOk_create rfl
    rw [hL]
    clear hL hat hn
    by_cases d : m = 0
    · subst d
      go_enter Tryz.func103, Tryz.ntmps103
      go_wp2_with fail
      go_ret
      exact ⟨rfl, HB.out⟩
    · have d' : ((m : Int) == 0) = false := by simp; omega
      have d2 : ¬ (m : Int) = 0 := by omega
      rw [decide_eq_false d]
      go_enter Tryz.func103, Tryz.ntmps103
      go_wp2_with fail
      go_ret
      exact ⟨by simp [d, d2], HB.out⟩
  · have c' : (kd == 1) = false := by simpa using c
    by_cases d : 1 ≤ m ∧ m ≤ 3
    · obtain ⟨d1, d3⟩ := d
      have hL : prevOk (⟨id, kd, sn, us, mb, zl, tx, zp, dp⟩ : EvV) = pvOk id none zp := prevOk_in c ⟨by rw [hn]; exact d1, by rw [hn]; exact d3⟩
      rw [hL]
      have HN := hide hn
      clear hL hat hn
      go_enter Tryz.func103, Tryz.ntmps103
      go_wp2_with (go_at_call 24; refine (within_yes _ _ _ (by omega) (by omega) _).mono ?_; rintro e w' ⟨rfl, rfl⟩)
      go_loop [3, 21] (fun la i => ∃ (j : Nat), i = .int .i64 (j : Int) ∧ j ≤ m ∧ la = .int .i64 (lastI (pv zp j)) ∧ 0 ≤ lastI (pv zp j) ∧ lastI (pv zp j) ≤ 1000000 ∧ pvOk id (pv zp j) (zp.drop j) = pvOk id none zp) (fun _ i => m - (intOf i).toNat)
      case atStart => exact ⟨0, rfl, Nat.zero_le _, rfl, by simp [pv, lastI], by simp [pv, lastI], rfl⟩
      case round =>
        obtain ⟨j, rfl, hj, rfl, hl0, hl1, hrest⟩ := hrel
        by_cases hlt : j < m
        · have j0 : (j : Int) < (m : Int) := by omega
          obtain ⟨z, b, q, hz, hidx, hb, c0, hwf⟩ := HAT.out.get Tryz.underlying22 infoI j hlt
          rw [pvOk_at hz] at hrest
          have hnext : lastI (pv zp (j + 1)) = z := by simp [pv, hz, lastI]
          have hal := after_last (z := z) hl0
          generalize lastI (pv zp j) = la at hl0 hl1 hal ⊢
          by_cases hzr : la + 1 ≤ z ∧ z ≤ 1000000
          · obtain ⟨hz1, hz4⟩ := hzr
            by_cases hid : z = id
            · have HR := hide (show pvOk id none zp = false by rw [← hrest]; simp [hid])
              subst hid
              clear hrest hz hnext hal
              go_wp2_with (go_at_call 24; refine (within_yes _ _ _ hz1 hz4 _).mono ?_; rintro e w' ⟨rfl, rfl⟩)
              go_ret
              exact ⟨by rw [HR.out]; rfl, HB.out⟩
            · have gid : (z == id) = false := by simpa using hid
              have HR := hide (show pvOk id (pv zp (j + 1)) (zp.drop (j + 1)) = pvOk id none zp by
                rw [← hrest, Bool.and_left_comm, hal, decide_eq_true hid, inR_iff.2 ⟨hz1, hz4⟩]
                rfl)
              have HX := hide hnext
              clear hrest hz hnext hal
              go_wp2_with (go_at_call 24; refine (within_yes _ _ _ hz1 hz4 _).mono ?_; rintro e w' ⟨rfl, rfl⟩)
              go_round
              case rel => exact ⟨j + 1, by go_num, by omega, by rw [HX.out], by rw [HX.out]; omega, by rw [HX.out]; omega, HR.out⟩
              case measure => simp [intOf]; omega
          · have HR := hide (show pvOk id none zp = false by
              rw [← hrest, Bool.and_left_comm, hal]
              have : inR z (la + 1) 1000000 = false := by (simp [inR]; omega)
              rw [this, Bool.and_false, Bool.false_and])
            clear hrest hz hnext hal
            go_wp2_with (go_at_call 24; refine (within_no _ _ _ (by omega) _).mono ?_; rintro e w' ⟨rfl, rfl⟩)
            go_ret
            exact ⟨by rw [HR.out]; rfl, HB.out⟩
        · have hjn : j = m := by omega
          have HR := hide (show pvOk id none zp = true by rw [← hrest, hjn, ← HN.out, List.drop_length]; exact pvOk_end _ _)
          clear hrest
          go_wp2_with fail
          go_ret
          exact ⟨by rw [HR.out]; rfl, HB.out⟩
    · have hL : prevOk (⟨id, kd, sn, us, mb, zl, tx, zp, dp⟩ : EvV) = false := prevOk_off c (by rw [hn]; exact d)
      rw [hL]
      clear hL hat hn
      go_enter Tryz.func103, Tryz.ntmps103
      go_wp2_with (go_at_call 24; refine (within_no _ _ _ (by omega) _).mono ?_; rintro e w' ⟨rfl, rfl⟩)
      go_ret
      exact ⟨rfl, HB.out⟩

end Go.Proofs.YtckkfjmjcknjdaaGreatDoor
