/-
  Walks of chapter 1: Decimal, of the specification and of the program.
-/
import Derived.Test.YtpenpbopehbncaaDoorTab
import Derived.Test.YtpenpbopehbncaaDoorPlain2
import Derived.Test.YtpenpbopehbncaaDoorShelf
import Derived.WalkSmall
namespace Go.Proofs.YtpenpbopehbncaaDoor
open Go.RowKit P1 K
set_option linter.unusedVariables false

theorem l01Figure_dec (x : Int) (h0 : 0 ≤ x) (h1 : x < 10) (w : World) :
    Calls Tryd.prog 71 #[.int .i64 x] w fun e w' => e = .returned (.int .u8 ((figB x.toNat).toNat : Int)) ∧ w = w' := by
  have hv : Hid (48 + x = ((figB x.toNat).toNat : Int)) := by unfold Hid; rw [figB_lo _ (by omega)]; omega
  go_enter Tryd.func71, Tryd.ntmps71
  go_wp2
  go_ret
  exact ⟨by rw [← hv.out]; rfl, rfl⟩

theorem below_grow {w : World} {k : Nat} {os : Array Obj} : Below w.heap.size w (Go.Sort.grow (w.drewN k) os) :=
  ⟨rfl, rfl, rfl, by simp [Go.Sort.grow], fun i hi => by simp [Go.Sort.grow, Array.getElem?_append_left hi]⟩

theorem implDecimal_any (n : Int) (h0 : -9223372036854775808 ≤ n) (h1 : n ≤ 9223372036854775807) (w : World) (htab : Lib.TabIs Tryd.prog w "internal/strconv.uint64pow10" .u64 Lib.pow10Tab) :
    Calls Tryd.prog 36 #[.int .i64 n] w fun e w' => e = .returned (.string ⟨(Lib.itoa n).toArray⟩) ∧ Below w.heap.size w w' := by
  go_enter Tryd.func36, Tryd.ntmps36
  go_wp2_with (go_at_call 72; refine (Tryd.strconv_Itoa n h0 h1 _ htab).mono ?_; rintro e w1 ⟨rfl, k, os, rfl⟩)
  go_ret
  exact ⟨rfl, below_grow⟩

set_option maxHeartbeats 1000000 in
theorem specDecimal_pos (N : Nat) (h0 : 1 ≤ N) (h1 : N ≤ 9223372036854775807) (w : World) :
    Calls Tryd.prog 34 #[.int .i64 (N : Int)] w fun e w' => e = .returned (.string ⟨(Lib.decDigits N).toArray⟩) ∧ Below w.heap.size w w' := by
  have g1 : ((N : Int) == 0) = false := by simp; omega
  have g2 : ¬ ((N : Int) < 0) := by omega
  have hlen := hide (dec_length N (by omega))
  go_enter Tryd.func34, Tryd.ntmps34
  go_wp2_with fail
  go_loopw [0, 4] (fun x s wr => ∃ (m : Nat) (t : List UInt8), x = .int .i64 (m : Int) ∧ s = .string ⟨t.toArray⟩ ∧ m ≤ 9223372036854775807 ∧ DecRel N m t ∧ Below w.heap.size w wr) (fun x _ _ => (intOf x).toNat)
  case atStart => exact ⟨N, [], rfl, rfl, h1, DecRel.start N (by omega), Below.refl _ _⟩
  case round =>
    obtain ⟨m, t, rfl, rfl, hm, hd, hbel⟩ := hrel
    have hsz := hbel.size
    have hl : t.length ≤ 20 := Nat.le_trans hd.length hlen.out
    by_cases h : m = 0
    · have q : ((m : Int) != 0) = false := by simp [h]
      have e := hide (hd.1 h)
      clear hd h
      go_wp2_with fail
      go_ret
      exact ⟨by rw [e.out]; rfl, hbel⟩
    · have q : ((m : Int) != 0) = true := by rw [bne_iff_ne]; omega
      have R := hd.step h
      have HS := hide (show (m / 10 : Nat) < m by omega)
      clear hd h
      have hconv := fun wx => run_string_one (P := Tryd.prog) wx (src := 93) (dst := 9) Tryd.underlying93 Tryd.underlying5 Tryd.underlying9 (figB (m % 10))
      have e10 : ((m : Int) % 10).toNat = m % 10 := by omega
      go_wp2_with (go_at_call 71; refine (l01Figure_dec _ (by omega) (by omega) _).mono ?_; rintro e w1 ⟨rfl, rfl⟩)
      go_roundw
      case rel => exact ⟨m / 10, figB (m % 10) :: t, by go_num, congrArg Value.string (cat_one _ _), by omega, R, hbel.alloc hsz _⟩
      case measure => have := HS.out; simp only [intOf]; omega

set_option maxHeartbeats 1000000 in
theorem specDecimal_neg (N : Nat) (h0 : 1 ≤ N) (h1 : N ≤ 9223372036854775808) (w : World) :
    Calls Tryd.prog 34 #[.int .i64 (-(N : Int))] w fun e w' => e = .returned (.string ⟨(45 :: Lib.decDigits N).toArray⟩) ∧ Below w.heap.size w w' := by
  have g1 : ((-(N : Int)) == 0) = false := by rw [beq_eq_false_iff_ne]; omega
  have g2 : (-(N : Int)) < 0 := by omega
  have hlen := hide (dec_length N h1)
  go_enter Tryd.func34, Tryd.ntmps34
  go_wp2_with fail
  go_loopw [0, 4] (fun x s wr => ∃ (m : Nat) (t : List UInt8), x = .int .i64 (-(m : Int)) ∧ s = .string ⟨t.toArray⟩ ∧ m ≤ 9223372036854775808 ∧ DecRel N m t ∧ Below w.heap.size w wr) (fun x _ _ => (-(intOf x)).toNat)
  case atStart => exact ⟨N, [], rfl, rfl, h1, DecRel.start N (by omega), Below.refl _ _⟩
  case round =>
    obtain ⟨m, t, rfl, rfl, hm, hd, hbel⟩ := hrel
    have hsz := hbel.size
    have hl : t.length ≤ 20 := Nat.le_trans hd.length hlen.out
    by_cases h : m = 0
    · have q : ((-(m : Int)) != 0) = false := by simp [h]
      have e := hide (hd.1 h)
      clear hd h
      go_wp2_with fail
      go_ret
      exact ⟨by rw [e.out]; exact congrArg (fun x => Ending.returned (Value.string x)) (cat_one 45 t), hbel⟩
    · have q : ((-(m : Int)) != 0) = true := by rw [bne_iff_ne]; omega
      have R := hd.step h
      have HS := hide (show (m / 10 : Nat) < m by omega)
      have hconv := fun wx => run_string_one (P := Tryd.prog) wx (src := 93) (dst := 9) Tryd.underlying93 Tryd.underlying5 Tryd.underlying9 (figB (m % 10))
      have e10 : ((m : Int) % 10).toNat = m % 10 := by omega
      have em : (-(m : Int)).tmod 10 = -((m : Int) % 10) := by rw [Int.neg_tmod, Int.tmod_eq_emod_of_nonneg (by omega)]
      have ed : (-(m : Int)).tdiv 10 = -((m : Int) / 10) := by rw [Int.neg_tdiv, Int.tdiv_eq_ediv_of_nonneg (by omega)]
      clear hd
      by_cases hz : m % 10 = 0
      · have l1 : ¬ (-((m : Int) % 10) < 0) := by omega
        have ez : (-((m : Int) % 10)).toNat = m % 10 := by omega
        clear hz
        go_wp2_with (go_at_call 71; refine (l01Figure_dec _ (by omega) (by omega) _).mono ?_; rintro e w1 ⟨rfl, rfl⟩)
        exact ⟨⟨m / 10, figB (m % 10) :: t, congrArg (Value.int .i64) (by omega), congrArg Value.string (cat_one _ _), by omega, R, hbel.alloc hsz _⟩, by have := HS.out; simp only [intOf]; omega⟩
      · have l1 : (-((m : Int) % 10) < 0) := by omega
        go_wp2_with (go_at_call 71; refine (l01Figure_dec _ (by omega) (by omega) _).mono ?_; rintro e w1 ⟨rfl, rfl⟩)
        exact ⟨⟨m / 10, figB (m % 10) :: t, congrArg (Value.int .i64) (by omega), congrArg Value.string (cat_one _ _), by omega, R, hbel.alloc hsz _⟩, by have := HS.out; simp only [intOf]; omega⟩

theorem specDecimal_any (n : Int) (h0 : -9223372036854775808 ≤ n) (h1 : n ≤ 9223372036854775807) (w : World) :
    Calls Tryd.prog 34 #[.int .i64 n] w fun e w' => e = .returned (.string ⟨(Lib.itoa n).toArray⟩) ∧ Below w.heap.size w w' := by
  by_cases hz : n = 0
  · subst hz
    go_enter Tryd.func34, Tryd.ntmps34
    go_wp2_with fail
    go_ret
    exact ⟨by rw [show (0 : Int) = ((0 : Nat) : Int) from rfl, Lib.itoa_nonneg, dec_small 0 (by decide)]; rfl, Below.refl _ _⟩
  · by_cases hn : n < 0
    · obtain ⟨N, hN⟩ := Int.eq_ofNat_of_zero_le (show 0 ≤ -n by omega)
      have e : n = -(N : Int) := by omega
      subst e
      rw [Lib.itoa_neg N (by omega)]
      exact specDecimal_neg N (by omega) (by omega) w
    · obtain ⟨N, rfl⟩ := Int.eq_ofNat_of_zero_le (show 0 ≤ n by omega)
      rw [Lib.itoa_nonneg]
      exact specDecimal_pos N (by omega) (by omega) w

end Go.Proofs.YtpenpbopehbncaaDoor
