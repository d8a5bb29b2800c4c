/-
  Walks of chapter 1: ReadDecimal, of the specification and of the program.
-/
import Derived.Test.YtpenpbopehbncaaDoorWalk1i
import Derived.Deep.RegionHeld3
import Derived.Deep.QuietTactic
import Derived.BigQuiet
import Derived.Lib.Strings
namespace Go.Proofs.YtpenpbopehbncaaDoor
open Go.RowKit P1 K
set_option linter.unusedVariables false

/-- The results of ReadDecimal as values. -/
def rdVal : Option Nat → Value
  | none => .tuple #[.int .i64 0, .bool false]
  | some n => .tuple #[.int .i64 (n : Int), .bool true]

theorem ret_rd_no {r : Option Nat} (h : r = none) : Ending.returned (.tuple #[.int .i64 0, .bool false]) = .returned (rdVal r) := by rw [h]; rfl
theorem ret_rd_yes {r : Option Nat} {n : Nat} {x : Int} (h : r = some n) (hx : x = (n : Int)) : Ending.returned (.tuple #[.int .i64 x, .bool true]) = .returned (rdVal r) := by rw [h, hx]; rfl

theorem mem_bl (s : ByteArray) (k : Nat) (h : k < s.size) : s[k] ∈ bl s := by
  have : (bl s)[k]'(by rw [bl_length]; exact h) = s[k] := rfl
  rw [← this]; exact List.getElem_mem _

theorem toList_bl (s : ByteArray) : s.toList = bl s := Lib.toList_data s

set_option maxHeartbeats 1000000 in
theorem specReadDecimal_any (s : ByteArray) (hs : s.size ≤ 1048576) (w : World) :
    Calls Tryd.prog 90 #[.string s] w fun e w' => e = .returned (rdVal (rdDec (bl s))) ∧ Below w.heap.size w w' := by
  by_cases hlong : 10 < s.size
  · have R := hide (rdDec_long (bl s) (by rw [bl_length]; exact hlong))
    go_enter Tryd.func90, Tryd.ntmps90
    go_wp2_with fail
    go_ret2
    exact ⟨ret_rd_no R.out, Below.refl _ _⟩
  · go_enter Tryd.func90, Tryd.ntmps90
    go_wp2_with fail
    go_loop [4, 5] (fun x i => ∃ k : Nat, i = .int .i64 (k : Int) ∧ x = .int .i64 (valD ((bl s).take k) : Int) ∧ k ≤ s.size ∧ valD ((bl s).take k) < 10 ^ k) (fun _ i => s.size - (intOf i).toNat)
    case atStart => exact ⟨0, rfl, rfl, Nat.zero_le _, by simp [valD]⟩
    case round =>
      obtain ⟨k, rfl, rfl, hk, hv⟩ := hrel
      have hv10 : valD ((bl s).take k) < 10000000000 := Nat.lt_of_lt_of_le hv (Nat.le_trans (Nat.pow_le_pow_right (by decide) (show k ≤ 10 by omega)) (by decide))
      by_cases hlt : k < s.size
      · have hb := s[k].toNat_lt
        by_cases hfig : 48 ≤ s[k].toNat ∧ s[k].toNat ≤ 57
        · obtain ⟨f1, f2⟩ := hfig
          have hn := hide (show valD ((bl s).take (k + 1)) = valD ((bl s).take k) * 10 + (s[k].toNat - 48) by rw [bl_take s k hlt, valD_snoc])
          have hv2 := hide (show valD ((bl s).take (k + 1)) < 10 ^ (k + 1) by rw [hn.out, Nat.pow_succ]; omega)
          clear hv
          go_wp2_with fail
          go_round
          case rel => exact ⟨k + 1, by go_num, congrArg (Value.int .i64) (by rw [hn.out]; omega), by omega, hv2.out⟩
          case measure => simp [intOf]; omega
        · have R := hide (rdDec_bad (bl s) s[k] (mem_bl s k hlt) (by omega))
          by_cases f1 : s[k].toNat < 48
          · clear hfig hv
            go_wp2_with fail
            go_ret2
            exact ⟨ret_rd_no R.out, Below.refl _ _⟩
          · have f2 : 57 < s[k].toNat := by omega
            clear hfig hv
            go_wp2_with fail
            go_ret2
            exact ⟨ret_rd_no R.out, Below.refl _ _⟩
      · have e : (bl s).take k = bl s := List.take_of_length_le (by rw [bl_length]; omega)
        rw [e] at hv hv10 ⊢
        clear e hv
        by_cases hg : 1000000000 < valD (bl s)
        · have R := hide (rdDec_great (bl s) hg)
          have hg' : decide ((1000000000 : Int) < (valD (bl s) : Int)) = true := by simp; omega
          go_wp2_with fail
          go_ret2
          exact ⟨ret_rd_no R.out, Below.refl _ _⟩
        · have hg' : decide ((1000000000 : Int) < (valD (bl s) : Int)) = false := by simp; omega
          by_cases hq : Lib.decDigits (valD (bl s)) = bl s
          · have R := hide (rdDec_yes (bl s) (by omega) hq)
            have q : (Lib.itoa (valD (bl s) : Int) == s.toList) = true := by rw [toList_bl, Lib.itoa_nonneg, hq]; simp
            clear hq
            go_wp2_with (go_at_call 34; refine (specDecimal_any _ (by omega) (by omega) _).mono ?_; rintro e w1 ⟨rfl, hb1⟩)
            go_ret2
            exact ⟨ret_rd_yes R.out rfl, hb1⟩
          · have R := hide (rdDec_no (bl s) hq)
            have q : (Lib.itoa (valD (bl s) : Int) == s.toList) = false := by rw [toList_bl, Lib.itoa_nonneg]; simpa using hq
            clear hq
            go_wp2_with (go_at_call 34; refine (specDecimal_any _ (by omega) (by omega) _).mono ?_; rintro e w1 ⟨rfl, hb1⟩)
            go_ret2
            exact ⟨ret_rd_no R.out, hb1⟩

theorem bad_ne (s : ByteArray) (k : Nat) (h : k < s.size) (hf : s[k].toNat < 48 ∨ 57 < s[k].toNat) (n : Nat) : (Lib.itoa (n : Int) == s.toList) = false := by
  rw [toList_bl, Lib.itoa_nonneg, beq_eq_false_iff_ne]
  intro e
  have h1 := mem_bl s k h
  rw [← e] at h1
  have := dec_figures n _ h1
  omega

set_option maxHeartbeats 1000000 in
theorem implReadDecimal_any (s : ByteArray) (hs : s.size ≤ 1048576) (w : World) (htab : Lib.TabIs Tryd.prog w "internal/strconv.uint64pow10" .u64 Lib.pow10Tab) :
    Calls Tryd.prog 91 #[.string s] w fun e w' => e = .returned (rdVal (rdDec (bl s))) ∧ Below w.heap.size w w' := by
  have HT := hide htab
  clear htab
  go_enter Tryd.func91, Tryd.ntmps91
  go_wp2_with fail
  go_step3
  go_wp2_with fail
  go_step3
  go_wp2_with fail
  go_loop [4, 9] (fun x i => ∃ k : Nat, i = .int .i64 (k : Int) ∧ x = .int .i64 (valD ((bl s).take k) : Int) ∧ k ≤ s.size ∧ valD ((bl s).take k) ≤ 10000000009) (fun _ i => s.size - (intOf i).toNat)
  case atStart => exact ⟨0, rfl, rfl, Nat.zero_le _, by simp [valD]⟩
  case round =>
    obtain ⟨k, rfl, rfl, hk, hv⟩ := hrel
    have hle := valD_take (bl s) k
    by_cases hlt : k < s.size
    · have hb := s[k].toNat_lt
      by_cases hfig : 48 ≤ s[k].toNat ∧ s[k].toNat ≤ 57
      · obtain ⟨f1, f2⟩ := hfig
        by_cases hg : 1000000000 < valD ((bl s).take k)
        · have R := hide (rdDec_great (bl s) (by omega))
          have hg' : decide ((1000000000 : Int) < (valD ((bl s).take k) : Int)) = true := by simp; omega
          go_wp2_with fail
          try rw [Exit.noGoto_ret]
          go_ret2
          exact ⟨ret_rd_no R.out, Below.refl _ _⟩
        · have hn := hide (show valD ((bl s).take (k + 1)) = valD ((bl s).take k) * 10 + (s[k].toNat - 48) by rw [bl_take s k hlt, valD_snoc])
          have hg' : decide ((1000000000 : Int) < (valD ((bl s).take k) : Int)) = false := by simp; omega
          clear hle
          go_wp2_with fail
          go_round
          case rel => exact ⟨k + 1, by go_num, congrArg (Value.int .i64) (by rw [hn.out]; omega), by omega, by rw [hn.out]; omega⟩
          case measure => simp [intOf]; omega
      · have hor : s[k].toNat < 48 ∨ 57 < s[k].toNat := by omega
        have R := hide (rdDec_bad (bl s) s[k] (mem_bl s k hlt) hor)
        have q := bad_ne s k hlt hor (valD ((bl s).take k))
        clear hle hfig
        by_cases hg : 1000000000 < valD ((bl s).take k)
        · have hg' : decide ((1000000000 : Int) < (valD ((bl s).take k) : Int)) = true := by simp; omega
          clear q
          rcases hor with f1 | f1
          all_goals
            go_wp2_with fail
            try rw [Exit.noGoto_ret]
            go_ret2
            exact ⟨ret_rd_no R.out, Below.refl _ _⟩
        · have hg' : decide ((1000000000 : Int) < (valD ((bl s).take k) : Int)) = false := by simp; omega
          rcases hor with f1 | f1
          all_goals
            go_wp2_with (go_at_call 36; refine (implDecimal_any _ (by omega) (by omega) _ HT.out).mono ?_; rintro e w1 ⟨rfl, hb1⟩)
            try rw [Exit.noGoto_ret]
            go_ret2
            exact ⟨ret_rd_no R.out, hb1⟩
    · have e : (bl s).take k = bl s := List.take_of_length_le (by rw [bl_length]; omega)
      rw [e] at hv ⊢
      clear e hle
      by_cases hg : 1000000000 < valD (bl s)
      · have R := hide (rdDec_great (bl s) hg)
        have hg' : decide ((1000000000 : Int) < (valD (bl s) : Int)) = true := by simp; omega
        go_wp2_with fail
        try rw [Exit.noGoto_ret]
        go_ret2
        exact ⟨ret_rd_no R.out, Below.refl _ _⟩
      · have hg' : decide ((1000000000 : Int) < (valD (bl s) : Int)) = false := by simp; omega
        by_cases hq : Lib.decDigits (valD (bl s)) = bl s
        · have R := hide (rdDec_yes (bl s) (by omega) hq)
          have q : (Lib.itoa (valD (bl s) : Int) == s.toList) = true := by rw [toList_bl, Lib.itoa_nonneg, hq]; simp
          clear hq
          go_wp2_with (go_at_call 36; refine (implDecimal_any _ (by omega) (by omega) _ HT.out).mono ?_; rintro e w1 ⟨rfl, hb1⟩)
          try rw [Exit.noGoto_ret]
          go_ret2
          exact ⟨ret_rd_yes R.out rfl, hb1⟩
        · have R := hide (rdDec_no (bl s) hq)
          have q : (Lib.itoa (valD (bl s) : Int) == s.toList) = false := by rw [toList_bl, Lib.itoa_nonneg]; simpa using hq
          clear hq
          go_wp2_with (go_at_call 36; refine (implDecimal_any _ (by omega) (by omega) _ HT.out).mono ?_; rintro e w1 ⟨rfl, hb1⟩)
          try rw [Exit.noGoto_ret]
          go_ret2
          exact ⟨ret_rd_no R.out, hb1⟩

end Go.Proofs.YtpenpbopehbncaaDoor
