/-
  Walks and mathematics of Base, Walk1a, Walk5a.
-/
import Derived.Test.YtoalbeiinlcgpaaRows
import Derived.Test.YtoalbeiinlcgpaaKPlain1
import Derived.Test.YtoalbeiinlcgpaaKKit
import Derived.Test.YtoalbeiinlcgpaaKInts
namespace Go.Proofs.Ytoalbeiinlcgpaa
open Go.RowKit P1 K
set_option linter.unusedVariables false

abbrev bl (s : ByteArray) : List UInt8 := s.data.toList

theorem bl_length (s : ByteArray) : (bl s).length = s.size := by simp

theorem bl_take (s : ByteArray) (k : Nat) (h : k < s.size) : (bl s).take (k + 1) = (bl s).take k ++ [s[k]] := by
  rw [List.take_succ_eq_append_getElem (by simpa using h)]; rfl

theorem idx_any (s : ByteArray) (kd : IntKind) (k : Nat) (h : k < s.size) (wx : World) : (Instr.index 9 (.string s) (.int kd (k : Int))).run Try.prog wx = .ok (.int .u8 (s[k].toNat : Int)) wx := by
  rw [run_index_string (P := Try.prog) wx 9 s kd (k : Int) Try.underlying9, dif_pos ⟨by omega, by omega⟩]; rfl

end Go.Proofs.Ytoalbeiinlcgpaa

namespace Go.Proofs.Ytoalbeiinlcgpaa
open Go.RowKit P1 K
set_option linter.unusedVariables false

theorem l01In_yes (x a b : Int) (h0 : a ≤ x) (h1 : x ≤ b) (w : World) :
    Calls Try.prog 23 #[.int .i64 x, .int .i64 a, .int .i64 b] w fun e w' => e = .returned (.bool true) ∧ w = w' := by
  go_enter Try.func23, Try.ntmps23
  go_wp2
  go_ret
  exact ⟨rfl, rfl⟩

theorem l01In_no (x a b : Int) (h : x < a ∨ b < x) (w : World) :
    Calls Try.prog 23 #[.int .i64 x, .int .i64 a, .int .i64 b] w fun e w' => e = .returned (.bool false) ∧ w = w' := by
  by_cases h0 : x < a
  · go_enter Try.func23, Try.ntmps23
    go_wp2
    go_ret
    exact ⟨rfl, rfl⟩
  · have h1 : ¬ x ≤ b := by omega
    have h2 : a ≤ x := by omega
    clear h h0
    go_enter Try.func23, Try.ntmps23
    go_wp2
    go_ret
    exact ⟨rfl, rfl⟩

end Go.Proofs.Ytoalbeiinlcgpaa

namespace Go.Proofs.Ytoalbeiinlcgpaa
open Go.RowKit P1 P9 K
set_option linter.unusedVariables false
set_option linter.unusedSimpArgs false

theorem l01In5_any (x a b : Int) (w : World) :
    Calls Try.prog 23 #[.int .i64 x, .int .i64 a, .int .i64 b] w fun e w' => e = .returned (.bool (decide (a ≤ x) && decide (x ≤ b))) ∧ w' = w := by
  by_cases h : a ≤ x ∧ x ≤ b
  · rw [decide_eq_true h.1, decide_eq_true h.2]
    exact (l01In_yes x a b h.1 h.2 w).mono fun e w' ⟨h1, h2⟩ => ⟨h1, h2.symm⟩
  · have : (decide (a ≤ x) && decide (x ≤ b)) = false := by simp; omega
    rw [this]
    exact (l01In_no x a b (by omega) w).mono fun e w' ⟨h1, h2⟩ => ⟨h1, h2.symm⟩

theorem within_yes (x a b : Int) (h0 : a ≤ x) (h1 : x ≤ b) (w : World) :
    Calls Try.prog 32 #[.int .i64 x, .int .i64 a, .int .i64 b] w fun e w' => e = .returned (.bool true) ∧ w = w' := by
  go_enter Try.func32, Try.ntmps32
  go_wp2
  go_ret
  exact ⟨rfl, rfl⟩

theorem within_no (x a b : Int) (h : x < a ∨ b < x) (w : World) :
    Calls Try.prog 32 #[.int .i64 x, .int .i64 a, .int .i64 b] w fun e w' => e = .returned (.bool false) ∧ w = w' := by
  by_cases h0 : x < a
  · go_enter Try.func32, Try.ntmps32
    go_wp2
    go_ret
    exact ⟨rfl, rfl⟩
  · have h1 : ¬ x ≤ b := by omega
    have h2 : a ≤ x := by omega
    clear h h0
    go_enter Try.func32, Try.ntmps32
    go_wp2
    go_ret
    exact ⟨rfl, rfl⟩

theorem within_any (x a b : Int) (w : World) :
    Calls Try.prog 32 #[.int .i64 x, .int .i64 a, .int .i64 b] w fun e w' => e = .returned (.bool (decide (a ≤ x) && decide (x ≤ b))) ∧ w = w' := by
  by_cases h : a ≤ x ∧ x ≤ b
  · rw [decide_eq_true h.1, decide_eq_true h.2]
    exact within_yes x a b h.1 h.2 w
  · have : (decide (a ≤ x) && decide (x ≤ b)) = false := by simp; omega
    rw [this]
    exact within_no x a b (by omega) w

def Drew (w w' : World) : Prop := ∃ q, w' = w.drewN q

theorem Drew.more {w w' : World} (h : Drew w w') (q : Nat) : Drew w (w'.drewN q) := by
  obtain ⟨k, rfl⟩ := h
  exact ⟨k + q, by simp⟩

theorem Drew.below {w w' : World} (h : Drew w w') : Below w.heap.size w w' := by
  obtain ⟨k, rfl⟩ := h
  exact below_drewN (Below.refl _ _) _

theorem IntsAt.drew {w w' : World} {oa : Option Addr} {n cap : Nat} {zs : List Int} (h : IntsAt w oa n cap zs) (hd : Drew w w') : IntsAt w' oa n cap zs := h.below hd.below

set_option maxHeartbeats 1000000 in
theorem implConfOk_any (oa : Option Addr) (n cap : Nat) (zs : List Int) (w : World) (hat : IntsAt w oa n cap zs) :
    Calls Try.prog 33 #[.slice oa n cap] w fun e w' => e = .returned (.bool (confOk zs)) ∧ w = w' := by
  have hn := hat.len
  have hc := hat.room
  have hm := hat.most
  unfold maxLen at hm
  by_cases hin : 1 ≤ n ∧ n ≤ 4
  · obtain ⟨hin1, hin2⟩ := hin
    have hC : confOk zs = riseF 1 4 none zs := confOk_mid (by rw [hn]; exact ⟨hin1, hin2⟩)
    rw [hC]
    have HN := hide hn
    have HAT := hide hat
    clear hn hat hC
    go_enter Try.func33, Try.ntmps33
    go_wp2_with (go_at_call 32; refine (within_yes _ _ _ (by omega) (by omega) _).mono ?_; rintro e w' ⟨rfl, rfl⟩)
    go_loop [11] (fun i => ∃ (j : Nat), i = .int .i64 (j : Int) ∧ j ≤ n ∧ riseF 1 4 (pv zs j) (zs.drop j) = riseF 1 4 none zs) (fun i => n - (intOf i).toNat)
    case atStart => exact ⟨0, rfl, Nat.zero_le _, rfl⟩
    case round =>
      obtain ⟨j, rfl, hj, hrest⟩ := hrel
      by_cases hlt : j < n
      · have j0 : (j : Int) < (n : Int) := by omega
        obtain ⟨z, b, q, hz, hidx, hb, c0, hwf⟩ := HAT.out.get Try.underlying22 infoI j hlt
        rw [riseF_at hz] at hrest
        by_cases hzr : 1 ≤ z ∧ z ≤ 4
        · obtain ⟨hz1, hz4⟩ := hzr
          rw [decide_eq_true hz1, decide_eq_true hz4] at hrest
          simp only [Bool.true_and] at hrest
          by_cases hj0 : j = 0
          · have gj : ¬ (0 : Int) < (j : Int) := by omega
            have HR := hide (show riseF 1 4 (pv zs (j + 1)) (zs.drop (j + 1)) = riseF 1 4 none zs by rw [← hrest, hj0]; simp [pv, after])
            clear hrest hz hj0
            go_wp2_with (go_at_call 32; refine (within_yes _ _ _ hz1 hz4 _).mono ?_; rintro e w' ⟨rfl, rfl⟩)
            go_round
            case rel => exact ⟨j + 1, by go_num, by omega, HR.out⟩
            case measure => simp [intOf]; omega
          · have gj : (0 : Int) < (j : Int) := by omega
            obtain ⟨y, b', q', hy, hidx', hb', c0', hwf'⟩ := HAT.out.get Try.underlying22 infoI (j - 1) (by omega)
            have hjc : ((j - 1 : Nat) : Int) = (j : Int) - 1 := by omega
            rw [hjc] at hidx'
            have hpv : pv zs j = some y := by
              obtain ⟨k, rfl⟩ : ∃ k, j = k + 1 := ⟨j - 1, by omega⟩
              exact hy
            rw [hpv] at hrest
            clear hpv hy hjc hz hj0
            by_cases hyz : y < z
            · have gyz : ¬ z ≤ y := by omega
              have HR := hide (show riseF 1 4 (pv zs (j + 1)) (zs.drop (j + 1)) = riseF 1 4 none zs by rw [← hrest]; simp [after, hyz])
              clear hrest
              go_wp2_with (go_at_call 32; refine (within_yes _ _ _ hz1 hz4 _).mono ?_; rintro e w' ⟨rfl, rfl⟩)
              go_round
              case rel => exact ⟨j + 1, by go_num, by omega, HR.out⟩
              case measure => simp [intOf]; omega
            · have gyz : z ≤ y := by omega
              have HR := hide (show riseF 1 4 none zs = false by rw [← hrest]; simp [after, hyz])
              clear hrest
              go_wp2_with (go_at_call 32; refine (within_yes _ _ _ hz1 hz4 _).mono ?_; rintro e w' ⟨rfl, rfl⟩)
              go_ret
              exact ⟨by rw [HR.out]; rfl, rfl⟩
        · have HR := hide (show riseF 1 4 none zs = false by rw [← hrest]; have : (decide (1 ≤ z) && decide (z ≤ 4)) = false := by (simp; omega)
                                                             rw [this]; rfl)
          clear hrest hz
          go_wp2_with (go_at_call 32; refine (within_no _ _ _ (by omega) _).mono ?_; rintro e w' ⟨rfl, rfl⟩)
          go_ret
          exact ⟨by rw [HR.out]; rfl, rfl⟩
      · have hjn : j = n := by omega
        have HR := hide (show riseF 1 4 none zs = true by rw [← hrest, hjn, ← HN.out, List.drop_length]; cases pv zs zs.length <;> rfl)
        clear hrest
        go_wp2_with fail
        go_ret
        exact ⟨by rw [HR.out]; rfl, rfl⟩
  · have hC : confOk zs = false := confOk_short (by rw [hn]; exact hin)
    rw [hC]
    go_enter Try.func33, Try.ntmps33
    go_wp2_with (go_at_call 32; refine (within_no _ _ _ (by omega) _).mono ?_; rintro e w' ⟨rfl, rfl⟩)
    go_ret
    exact ⟨rfl, rfl⟩

set_option maxHeartbeats 4000000 in
theorem l05Rise_any (oa : Option Addr) (n cap : Nat) (zs : List Int) (lo hi : Int) (w : World) (hat : IntsAt w oa n cap zs) :
    Calls Try.prog 27 #[.slice oa n cap, .int .i64 lo, .int .i64 hi] w fun e w' => e = .returned (.bool (riseF lo hi none zs)) ∧ Drew w w' := by
  have hn := hat.len
  have hc := hat.room
  have hm := hat.most
  unfold maxLen at hm
  have HN := hide hn
  have HAT := hide hat
  clear hn hat
  go_enter Try.func27, Try.ntmps27
  go_wp2_with fail
  go_loopw [7] (fun i wr => ∃ (j : Nat), i = .int .i64 (j : Int) ∧ j ≤ n ∧ riseF lo hi (pv zs j) (zs.drop j) = riseF lo hi none zs ∧ Drew w wr) (fun i _ => n - (intOf i).toNat)
  case atStart => exact ⟨0, rfl, Nat.zero_le _, rfl, 0, rfl⟩
  case round =>
    obtain ⟨j, rfl, hj, hrest, hdr⟩ := hrel
    by_cases hlt : j < n
    · have j0 : (j : Int) < (n : Int) := by omega
      obtain ⟨z, b, p, hz, hidx, hb, c0, hwf⟩ := (HAT.out.drew hdr).get Try.underlying22 infoI j hlt
      rw [riseF_at hz] at hrest
      by_cases hzr : lo ≤ z ∧ z ≤ hi
      · obtain ⟨hz1, hz4⟩ := hzr
        rw [decide_eq_true hz1, decide_eq_true hz4] at hrest
        simp only [Bool.true_and] at hrest
        have gz1 : decide (lo ≤ z) = true := decide_eq_true hz1
        have gz4 : decide (z ≤ hi) = true := decide_eq_true hz4
        by_cases hj0 : j = 0
        · have gj : decide (0 < j) = false := by simp [hj0]
          have HR := hide (show riseF lo hi (pv zs (j + 1)) (zs.drop (j + 1)) = riseF lo hi none zs by rw [← hrest, hj0]; simp [pv, after])
          clear hrest hz hj0
          go_wp2_with fail
          go_quiet ((go_at_call 23; exact Calls.quiet_of_same (l01In5_any _ _ _ _)))
          go_wp2_with fail
          go_roundw
          case rel => exact ⟨j + 1, by go_num, by omega, HR.out, hdr.more _⟩
          case measure => simp [intOf]; omega
        · have gj : decide (0 < j) = true := by simp; omega
          obtain ⟨y, b', p', hy, hidx', hb', c0', hwf'⟩ := (HAT.out.drew hdr).get Try.underlying22 infoI (j - 1) (by omega)
          have hjc : ((j - 1 : Nat) : Int) = (j : Int) - 1 := by omega
          rw [hjc] at hidx'
          have hwr : IntKind.i64.wrap ((j : Int) - 1) = (j : Int) - 1 := by rw [IntKind.wrap_i64]; omega
          have hpv : pv zs j = some y := by
            obtain ⟨k, rfl⟩ : ∃ k, j = k + 1 := ⟨j - 1, by omega⟩
            exact hy
          rw [hpv] at hrest
          clear hpv hy hjc hz hj0
          by_cases hyz : y < z
          · have gyz : decide (z ≤ y) = false := by simp; omega
            have HR := hide (show riseF lo hi (pv zs (j + 1)) (zs.drop (j + 1)) = riseF lo hi none zs by rw [← hrest]; simp [after, hyz])
            clear hrest
            go_wp2_with fail
            go_quiet ((go_at_call 23; exact Calls.quiet_of_same (l01In5_any _ _ _ _)))
            go_wp2_with fail
            go_roundw
            case rel => exact ⟨j + 1, by go_num, by omega, HR.out, hdr.more _⟩
            case measure => simp [intOf]; omega
          · have gyz : decide (z ≤ y) = true := by simp; omega
            have HR := hide (show riseF lo hi none zs = false by rw [← hrest]; simp [after, hyz])
            clear hrest
            go_wp2_with fail
            go_quiet ((go_at_call 23; exact Calls.quiet_of_same (l01In5_any _ _ _ _)))
            go_wp2_with fail
            go_ret
            exact ⟨by rw [HR.out]; rfl, hdr.more _⟩
      · have gz : (decide (lo ≤ z) && decide (z ≤ hi)) = false := by simp; omega
        have HR := hide (show riseF lo hi none zs = false by rw [← hrest, gz]; rfl)
        clear hrest hz
        go_wp2_with fail
        go_quiet ((go_at_call 23; exact Calls.quiet_of_same (l01In5_any _ _ _ _)))
        go_wp2_with fail
        go_ret
        exact ⟨by rw [HR.out]; rfl, hdr.more _⟩
    · have hjn : j = n := by omega
      have HR := hide (show riseF lo hi none zs = true by rw [← hrest, hjn, ← HN.out, List.drop_length]; cases pv zs zs.length <;> rfl)
      clear hrest
      go_wp2_with fail
      go_ret
      exact ⟨by rw [HR.out]; rfl, hdr⟩

theorem specConfOk_any (oa : Option Addr) (n cap : Nat) (zs : List Int) (w : World) (hat : IntsAt w oa n cap zs) :
    Calls Try.prog 24 #[.slice oa n cap] w fun e w' => e = .returned (.bool (confOk zs)) ∧ Drew w w' := by
  have hn := hat.len
  have hc := hat.room
  have hm := hat.most
  unfold maxLen at hm
  by_cases hin : 1 ≤ n ∧ n ≤ 4
  · obtain ⟨hin1, hin2⟩ := hin
    have hC : confOk zs = riseF 1 4 none zs := confOk_mid (by rw [hn]; exact ⟨hin1, hin2⟩)
    rw [hC]
    have HAT := hide hat
    clear hn hat hC
    go_enter Try.func24, Try.ntmps24
    go_wp2_with (first
      | (go_at_call 23; refine (l01In_yes _ _ _ (by omega) (by omega) _).mono ?_; rintro e w' ⟨rfl, rfl⟩)
      | (go_at_call 27; refine (l05Rise_any oa n cap zs _ _ _ HAT.out).mono ?_; rintro e w' ⟨rfl, hdr⟩))
    go_ret
    exact ⟨rfl, hdr⟩
  · have hC : confOk zs = false := confOk_short (by rw [hn]; exact hin)
    rw [hC]
    go_enter Try.func24, Try.ntmps24
    go_wp2_with (go_at_call 23; refine (l01In_no _ _ _ (by omega) _).mono ?_; rintro e w' ⟨rfl, rfl⟩)
    go_ret
    exact ⟨rfl, 0, rfl⟩

end Go.Proofs.Ytoalbeiinlcgpaa
