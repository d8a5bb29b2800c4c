/-
  Walks of chapter 1: Decimal, of the specification and of the program.
  Walks of chapter 1: ReadDecimal, of the specification and of the program.
-/
import Derived.Test.YtpenpbopehbncaaDoorPack9
import Derived.Test.YtpenpbopehbncaaDoorPack1
import Derived.Test.YtpenpbopehbncaaDoorShelf
import Derived.WalkSmall
import Derived.Deep.RegionHeld3
import Derived.Deep.QuietTactic
import Derived.BigQuiet
import Derived.Lib.Strings
namespace Go.Proofs.YtpenpbopehbncaaDoor
open Go.RowKit P1 K
set_option linter.unusedVariables false

theorem l01Figure_dec (x : Int) (h0 : 0 ≤ x) (h1 : x < 10) (w : World) :
    Calls Tryd.prog 71 #[.int .i64 x] w fun e w' => e = .returned (.int .u8 ((figB x.toNat).toNat : Int)) ∧ w = w' := by
  have hv : Hid (48 + x = ((figB x.toNat).toNat : Int)) := by unfold Hid; rw [figB_lo _ (by omega)]; omega
  go_enter Tryd.func71, Tryd.ntmps71
  go_wp2
  go_ret
  exact ⟨by rw [← hv.out]; rfl, rfl⟩

theorem below_grow {w : World} {k : Nat} {os : Array Obj} : Below w.heap.size w (Go.Sort.grow (w.drewN k) os) :=
  ⟨rfl, rfl, rfl, by simp [Go.Sort.grow], fun i hi => by simp [Go.Sort.grow, Array.getElem?_append_left hi]⟩

theorem implDecimal_any (n : Int) (h0 : -9223372036854775808 ≤ n) (h1 : n ≤ 9223372036854775807) (w : World) (htab : Lib.TabIs Tryd.prog w "internal/strconv.uint64pow10" .u64 Lib.pow10Tab) :
    Calls Tryd.prog 36 #[.int .i64 n] w fun e w' => e = .returned (.string ⟨(Lib.itoa n).toArray⟩) ∧ Below w.heap.size w w' := by
  go_enter Tryd.func36, Tryd.ntmps36
  go_wp2_with (go_at_call 72; refine (Tryd.strconv_Itoa n h0 h1 _ htab).mono ?_; rintro e w1 ⟨rfl, k, os, rfl⟩)
  go_ret
  exact ⟨rfl, below_grow⟩

set_option maxHeartbeats 1000000 in
theorem specDecimal_pos (N : Nat) (h0 : 1 ≤ N) (h1 : N ≤ 9223372036854775807) (w : World) :
    Calls Tryd.prog 34 #[.int .i64 (N : Int)] w fun e w' => e = .returned (.string ⟨(Lib.decDigits N).toArray⟩) ∧ Below w.heap.size w w' := by
  have g1 : ((N : Int) == 0) = false := by simp; omega
  have g2 : ¬ ((N : Int) < 0) := by omega
  have hlen := hide (dec_length N (by omega))
  go_enter Tryd.func34, Tryd.ntmps34
  go_wp2_with fail
  go_loopw [0, 4] (fun x s wr => ∃ (m : Nat) (t : List UInt8), x = .int .i64 (m : Int) ∧ s = .string ⟨t.toArray⟩ ∧ m ≤ 9223372036854775807 ∧ DecRel N m t ∧ Below w.heap.size w wr) (fun x _ _ => (intOf x).toNat)
  case atStart => exact ⟨N, [], rfl, rfl, h1, DecRel.start N (by omega), Below.refl _ _⟩
  case round =>
    obtain ⟨m, t, rfl, rfl, hm, hd, hbel⟩ := hrel
    have hsz := hbel.size
    have hl : t.length ≤ 20 := Nat.le_trans hd.length hlen.out
    by_cases h : m = 0
    · have q : ((m : Int) != 0) = false := by simp [h]
      have e := hide (hd.1 h)
      clear hd h
      go_wp2_with fail
      go_ret
      exact ⟨by rw [e.out]; rfl, hbel⟩
    · have q : ((m : Int) != 0) = true := by rw [bne_iff_ne]; omega
      have R := hd.step h
      have HS := hide (show (m / 10 : Nat) < m by omega)
      clear hd h
      have hconv := fun wx => run_string_one (P := Tryd.prog) wx (src := 93) (dst := 9) Tryd.underlying93 Tryd.underlying5 Tryd.underlying9 (figB (m % 10))
      have e10 : ((m : Int) % 10).toNat = m % 10 := by omega
      go_wp2_with (go_at_call 71; refine (l01Figure_dec _ (by omega) (by omega) _).mono ?_; rintro e w1 ⟨rfl, rfl⟩)
      go_roundw
      case rel => exact ⟨m / 10, figB (m % 10) :: t, by go_num, congrArg Value.string (cat_one _ _), by omega, R, hbel.alloc hsz _⟩
      case measure => have := HS.out; simp only [intOf]; omega

set_option maxHeartbeats 1000000 in
theorem specDecimal_neg (N : Nat) (h0 : 1 ≤ N) (h1 : N ≤ 9223372036854775808) (w : World) :
    Calls Tryd.prog 34 #[.int .i64 (-(N : Int))] w fun e w' => e = .returned (.string ⟨(45 :: Lib.decDigits N).toArray⟩) ∧ Below w.heap.size w w' := by
  have g1 : ((-(N : Int)) == 0) = false := by rw [beq_eq_false_iff_ne]; omega
  have g2 : (-(N : Int)) < 0 := by omega
  have hlen := hide (dec_length N h1)
  go_enter Tryd.func34, Tryd.ntmps34
  go_wp2_with fail
  go_loopw [0, 4] (fun x s wr => ∃ (m : Nat) (t : List UInt8), x = .int .i64 (-(m : Int)) ∧ s = .string ⟨t.toArray⟩ ∧ m ≤ 9223372036854775808 ∧ DecRel N m t ∧ Below w.heap.size w wr) (fun x _ _ => (-(intOf x)).toNat)
  case atStart => exact ⟨N, [], rfl, rfl, h1, DecRel.start N (by omega), Below.refl _ _⟩
  case round =>
    obtain ⟨m, t, rfl, rfl, hm, hd, hbel⟩ := hrel
    have hsz := hbel.size
    have hl : t.length ≤ 20 := Nat.le_trans hd.length hlen.out
    by_cases h : m = 0
    · have q : ((-(m : Int)) != 0) = false := by simp [h]
      have e := hide (hd.1 h)
      clear hd h
      go_wp2_with fail
      go_ret
      exact ⟨by rw [e.out]; exact congrArg (fun x => Ending.returned (Value.string x)) (cat_one 45 t), hbel⟩
    · have q : ((-(m : Int)) != 0) = true := by rw [bne_iff_ne]; omega
      have R := hd.step h
      have HS := hide (show (m / 10 : Nat) < m by omega)
      have hconv := fun wx => run_string_one (P := Tryd.prog) wx (src := 93) (dst := 9) Tryd.underlying93 Tryd.underlying5 Tryd.underlying9 (figB (m % 10))
      have e10 : ((m : Int) % 10).toNat = m % 10 := by omega
      have em : (-(m : Int)).tmod 10 = -((m : Int) % 10) := by rw [Int.neg_tmod, Int.tmod_eq_emod_of_nonneg (by omega)]
      have ed : (-(m : Int)).tdiv 10 = -((m : Int) / 10) := by rw [Int.neg_tdiv, Int.tdiv_eq_ediv_of_nonneg (by omega)]
      clear hd
      by_cases hz : m % 10 = 0
      · have l1 : ¬ (-((m : Int) % 10) < 0) := by omega
        have ez : (-((m : Int) % 10)).toNat = m % 10 := by omega
        clear hz
        go_wp2_with (go_at_call 71; refine (l01Figure_dec _ (by omega) (by omega) _).mono ?_; rintro e w1 ⟨rfl, rfl⟩)
        exact ⟨⟨m / 10, figB (m % 10) :: t, congrArg (Value.int .i64) (by omega), congrArg Value.string (cat_one _ _), by omega, R, hbel.alloc hsz _⟩, by have := HS.out; simp only [intOf]; omega⟩
      · have l1 : (-((m : Int) % 10) < 0) := by omega
        go_wp2_with (go_at_call 71; refine (l01Figure_dec _ (by omega) (by omega) _).mono ?_; rintro e w1 ⟨rfl, rfl⟩)
        exact ⟨⟨m / 10, figB (m % 10) :: t, congrArg (Value.int .i64) (by omega), congrArg Value.string (cat_one _ _), by omega, R, hbel.alloc hsz _⟩, by have := HS.out; simp only [intOf]; omega⟩

theorem specDecimal_any (n : Int) (h0 : -9223372036854775808 ≤ n) (h1 : n ≤ 9223372036854775807) (w : World) :
    Calls Tryd.prog 34 #[.int .i64 n] w fun e w' => e = .returned (.string ⟨(Lib.itoa n).toArray⟩) ∧ Below w.heap.size w w' := by
  by_cases hz : n = 0
  · subst hz
    go_enter Tryd.func34, Tryd.ntmps34
    go_wp2_with fail
    go_ret
    exact ⟨by rw [show (0 : Int) = ((0 : Nat) : Int) from rfl, Lib.itoa_nonneg, dec_small 0 (by decide)]; rfl, Below.refl _ _⟩
  · by_cases hn : n < 0
    · obtain ⟨N, hN⟩ := Int.eq_ofNat_of_zero_le (show 0 ≤ -n by omega)
      have e : n = -(N : Int) := by omega
      subst e
      rw [Lib.itoa_neg N (by omega)]
      exact specDecimal_neg N (by omega) (by omega) w
    · obtain ⟨N, rfl⟩ := Int.eq_ofNat_of_zero_le (show 0 ≤ n by omega)
      rw [Lib.itoa_nonneg]
      exact specDecimal_pos N (by omega) (by omega) w

end Go.Proofs.YtpenpbopehbncaaDoor

namespace Go.Proofs.YtpenpbopehbncaaDoor
open Go.RowKit P1 K
set_option linter.unusedVariables false

/-- The results of ReadDecimal as values. -/
def rdVal : Option Nat → Value
  | none => .tuple #[.int .i64 0, .bool false]
  | some n => .tuple #[.int .i64 (n : Int), .bool true]

theorem ret_rd_no {r : Option Nat} (h : r = none) : Ending.returned (.tuple #[.int .i64 0, .bool false]) = .returned (rdVal r) := by rw [h]; rfl
theorem ret_rd_yes {r : Option Nat} {n : Nat} {x : Int} (h : r = some n) (hx : x = (n : Int)) : Ending.returned (.tuple #[.int .i64 x, .bool true]) = .returned (rdVal r) := by rw [h, hx]; rfl

theorem mem_bl (s : ByteArray) (k : Nat) (h : k < s.size) : s[k] ∈ bl s := by
  have : (bl s)[k]'(by rw [bl_length]; exact h) = s[k] := rfl
  rw [← this]; exact List.getElem_mem _

theorem toList_bl (s : ByteArray) : s.toList = bl s := Lib.toList_data s

set_option maxHeartbeats 1000000 in
theorem specReadDecimal_any (s : ByteArray) (hs : s.size ≤ 1048576) (w : World) :
    Calls Tryd.prog 90 #[.string s] w fun e w' => e = .returned (rdVal (rdDec (bl s))) ∧ Below w.heap.size w w' := by
  by_cases hlong : 10 < s.size
  · have R := hide (rdDec_long (bl s) (by rw [bl_length]; exact hlong))
    go_enter Tryd.func90, Tryd.ntmps90
    go_wp2_with fail
    go_ret2
    exact ⟨ret_rd_no R.out, Below.refl _ _⟩
  · go_enter Tryd.func90, Tryd.ntmps90
    go_wp2_with fail
    go_loop [4, 5] (fun x i => ∃ k : Nat, i = .int .i64 (k : Int) ∧ x = .int .i64 (valD ((bl s).take k) : Int) ∧ k ≤ s.size ∧ valD ((bl s).take k) < 10 ^ k) (fun _ i => s.size - (intOf i).toNat)
    case atStart => exact ⟨0, rfl, rfl, Nat.zero_le _, by simp [valD]⟩
    case round =>
      obtain ⟨k, rfl, rfl, hk, hv⟩ := hrel
      have hv10 : valD ((bl s).take k) < 10000000000 := Nat.lt_of_lt_of_le hv (Nat.le_trans (Nat.pow_le_pow_right (by decide) (show k ≤ 10 by omega)) (by decide))
      by_cases hlt : k < s.size
      · have hb := s[k].toNat_lt
        by_cases hfig : 48 ≤ s[k].toNat ∧ s[k].toNat ≤ 57
        · obtain ⟨f1, f2⟩ := hfig
          have hn := hide (show valD ((bl s).take (k + 1)) = valD ((bl s).take k) * 10 + (s[k].toNat - 48) by rw [bl_take s k hlt, valD_snoc])
          have hv2 := hide (show valD ((bl s).take (k + 1)) < 10 ^ (k + 1) by rw [hn.out, Nat.pow_succ]; omega)
          clear hv
          go_wp2_with fail
          go_round
          case rel => exact ⟨k + 1, by go_num, congrArg (Value.int .i64) (by rw [hn.out]; omega), by omega, hv2.out⟩
          case measure => simp [intOf]; omega
        · have R := hide (rdDec_bad (bl s) s[k] (mem_bl s k hlt) (by omega))
          by_cases f1 : s[k].toNat < 48
          · clear hfig hv
            go_wp2_with fail
            go_ret2
            exact ⟨ret_rd_no R.out, Below.refl _ _⟩
          · have f2 : 57 < s[k].toNat := by omega
            clear hfig hv
            go_wp2_with fail
            go_ret2
            exact ⟨ret_rd_no R.out, Below.refl _ _⟩
      · have e : (bl s).take k = bl s := List.take_of_length_le (by rw [bl_length]; omega)
        rw [e] at hv hv10 ⊢
        clear e hv
        by_cases hg : 1000000000 < valD (bl s)
        · have R := hide (rdDec_great (bl s) hg)
          have hg' : decide ((1000000000 : Int) < (valD (bl s) : Int)) = true := by simp; omega
          go_wp2_with fail
          go_ret2
          exact ⟨ret_rd_no R.out, Below.refl _ _⟩
        · have hg' : decide ((1000000000 : Int) < (valD (bl s) : Int)) = false := by simp; omega
          by_cases hq : Lib.decDigits (valD (bl s)) = bl s
          · have R := hide (rdDec_yes (bl s) (by omega) hq)
            have q : (Lib.itoa (valD (bl s) : Int) == s.toList) = true := by rw [toList_bl, Lib.itoa_nonneg, hq]; simp
            clear hq
            go_wp2_with (go_at_call 34; refine (specDecimal_any _ (by omega) (by omega) _).mono ?_; rintro e w1 ⟨rfl, hb1⟩)
            go_ret2
            exact ⟨ret_rd_yes R.out rfl, hb1⟩
          · have R := hide (rdDec_no (bl s) hq)
            have q : (Lib.itoa (valD (bl s) : Int) == s.toList) = false := by rw [toList_bl, Lib.itoa_nonneg]; simpa using hq
            clear hq
            go_wp2_with (go_at_call 34; refine (specDecimal_any _ (by omega) (by omega) _).mono ?_; rintro e w1 ⟨rfl, hb1⟩)
            go_ret2
            exact ⟨ret_rd_no R.out, hb1⟩

theorem bad_ne (s : ByteArray) (k : Nat) (h : k < s.size) (hf : s[k].toNat < 48 ∨ 57 < s[k].toNat) (n : Nat) : (Lib.itoa (n : Int) == s.toList) = false := by
  rw [toList_bl, Lib.itoa_nonneg, beq_eq_false_iff_ne]
  intro e
  have h1 := mem_bl s k h
  rw [← e] at h1
  have := dec_figures n _ h1
  omega

set_option maxHeartbeats 1000000 in
theorem implReadDecimal_any (s : ByteArray) (hs : s.size ≤ 1048576) (w : World) (htab : Lib.TabIs Tryd.prog w "internal/strconv.uint64pow10" .u64 Lib.pow10Tab) :
    Calls Tryd.prog 91 #[.string s] w fun e w' => e = .returned (rdVal (rdDec (bl s))) ∧ Below w.heap.size w w' := by
  have HT := hide htab
  clear htab
  go_enter Tryd.func91, Tryd.ntmps91
  go_wp2_with fail
  go_step3
  go_wp2_with fail
  go_step3
  go_wp2_with fail
  go_loop [4, 9] (fun x i => ∃ k : Nat, i = .int .i64 (k : Int) ∧ x = .int .i64 (valD ((bl s).take k) : Int) ∧ k ≤ s.size ∧ valD ((bl s).take k) ≤ 10000000009) (fun _ i => s.size - (intOf i).toNat)
  case atStart => exact ⟨0, rfl, rfl, Nat.zero_le _, by simp [valD]⟩
  case round =>
    obtain ⟨k, rfl, rfl, hk, hv⟩ := hrel
    have hle := valD_take (bl s) k
    by_cases hlt : k < s.size
    · have hb := s[k].toNat_lt
      by_cases hfig : 48 ≤ s[k].toNat ∧ s[k].toNat ≤ 57
      · obtain ⟨f1, f2⟩ := hfig
        by_cases hg : 1000000000 < valD ((bl s).take k)
        · have R := hide (rdDec_great (bl s) (by omega))
          have hg' : decide ((1000000000 : Int) < (valD ((bl s).take k) : Int)) = true := by simp; omega
          go_wp2_with fail
          try rw [Exit.noGoto_ret]
          go_ret2
          exact ⟨ret_rd_no R.out, Below.refl _ _⟩
        · have hn := hide (show valD ((bl s).take (k + 1)) = valD ((bl s).take k) * 10 + (s[k].toNat - 48) by rw [bl_take s k hlt, valD_snoc])
          have hg' : decide ((1000000000 : Int) < (valD ((bl s).take k) : Int)) = false := by simp; omega
          clear hle
          go_wp2_with fail
          go_round
          case rel => exact ⟨k + 1, by go_num, congrArg (Value.int .i64) (by rw [hn.out]; omega), by omega, by rw [hn.out]; omega⟩
          case measure => simp [intOf]; omega
      · have hor : s[k].toNat < 48 ∨ 57 < s[k].toNat := by omega
        have R := hide (rdDec_bad (bl s) s[k] (mem_bl s k hlt) hor)
        have q := bad_ne s k hlt hor (valD ((bl s).take k))
        clear hle hfig
        by_cases hg : 1000000000 < valD ((bl s).take k)
        · have hg' : decide ((1000000000 : Int) < (valD ((bl s).take k) : Int)) = true := by simp; omega
          clear q
          rcases hor with f1 | f1
          all_goals
            go_wp2_with fail
            try rw [Exit.noGoto_ret]
            go_ret2
            exact ⟨ret_rd_no R.out, Below.refl _ _⟩
        · have hg' : decide ((1000000000 : Int) < (valD ((bl s).take k) : Int)) = false := by simp; omega
          rcases hor with f1 | f1
          all_goals
            go_wp2_with (go_at_call 36; refine (implDecimal_any _ (by omega) (by omega) _ HT.out).mono ?_; rintro e w1 ⟨rfl, hb1⟩)
            try rw [Exit.noGoto_ret]
            go_ret2
            exact ⟨ret_rd_no R.out, hb1⟩
    · have e : (bl s).take k = bl s := List.take_of_length_le (by rw [bl_length]; omega)
      rw [e] at hv ⊢
      clear e hle
      by_cases hg : 1000000000 < valD (bl s)
      · have R := hide (rdDec_great (bl s) hg)
        have hg' : decide ((1000000000 : Int) < (valD (bl s) : Int)) = true := by simp; omega
        go_wp2_with fail
        try rw [Exit.noGoto_ret]
        go_ret2
        exact ⟨ret_rd_no R.out, Below.refl _ _⟩
      · have hg' : decide ((1000000000 : Int) < (valD (bl s) : Int)) = false := by simp; omega
        by_cases hq : Lib.decDigits (valD (bl s)) = bl s
        · have R := hide (rdDec_yes (bl s) (by omega) hq)
          have q : (Lib.itoa (valD (bl s) : Int) == s.toList) = true := by rw [toList_bl, Lib.itoa_nonneg, hq]; simp
          clear hq
          go_wp2_with (go_at_call 36; refine (implDecimal_any _ (by omega) (by omega) _ HT.out).mono ?_; rintro e w1 ⟨rfl, hb1⟩)
          try rw [Exit.noGoto_ret]
          go_ret2
          exact ⟨ret_rd_yes R.out rfl, hb1⟩
        · have R := hide (rdDec_no (bl s) hq)
          have q : (Lib.itoa (valD (bl s) : Int) == s.toList) = false := by rw [toList_bl, Lib.itoa_nonneg]; simpa using hq
          clear hq
          go_wp2_with (go_at_call 36; refine (implDecimal_any _ (by omega) (by omega) _ HT.out).mono ?_; rintro e w1 ⟨rfl, hb1⟩)
          try rw [Exit.noGoto_ret]
          go_ret2
          exact ⟨ret_rd_no R.out, hb1⟩

end Go.Proofs.YtpenpbopehbncaaDoor
