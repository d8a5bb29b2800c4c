/-
  Walks of chapter 2: SumMore and SumOf of the specification.
-/
import Derived.Test.YtpenpbopehbncaaDoorBase
import Derived.Test.YtpenpbopehbncaaDoorPlain3
import Derived.WalkSmall
namespace Go.Proofs.YtpenpbopehbncaaDoor
open Go.RowKit P1 K P3
set_option linter.unusedVariables false

theorem wrap_u32 (n : Int) : IntKind.u32.wrap n = n % 4294967296 := by simp [IntKind.wrap, IntKind.bits, IntKind.signed]

theorem xor_u32 (a b : Nat) (ha : a < 4294967296) (hb : b < 4294967296) : bits .xor .u32 (a : Int) (b : Int) = ((a ^^^ b : Nat) : Int) := by
  have hx : a ^^^ b < 2 ^ 32 := Nat.xor_lt_two_pow (by omega) (by omega)
  have h1 : (BitVec.ofInt 32 (a : Int)).toNat = a := by
    rw [BitVec.ofInt_natCast, BitVec.toNat_ofNat]; exact Nat.mod_eq_of_lt (by omega)
  have h2 : (BitVec.ofInt 32 (b : Int)).toNat = b := by
    rw [BitVec.ofInt_natCast, BitVec.toNat_ofNat]; exact Nat.mod_eq_of_lt (by omega)
  show IntKind.u32.wrap ((BitVec.ofInt 32 (a : Int) ^^^ BitVec.ofInt 32 (b : Int)).toNat : Int) = _
  rw [BitVec.toNat_xor, h1, h2, wrap_u32]
  omega

theorem half_odd {s : Nat} (h : s % 2 = 1) (hs : s < 4294967296) : bits .xor .u32 ((s : Int) / 2) 3558460437 = (half s : Int) := by
  have := xor_u32 (s / 2) 3558460437 (by omega) (by decide)
  unfold half
  rw [if_pos h]
  exact this

theorem half_ev {s : Nat} (h : s % 2 ≠ 1) : (s : Int) / 2 = (half s : Int) := by
  unfold half
  rw [if_neg h]
  rfl

set_option maxHeartbeats 1000000 in
theorem specSumMore_any (n : Nat) (hn : n < 4294967296) (s : ByteArray) (hs : s.size ≤ 281474976710656) (w : World) :
    Calls Tryd.prog 95 #[.int .u32 (n : Int), .string s] w fun e w' => e = .returned (.int .u32 (sumL n (bl s) : Int)) ∧ w = w' := by
  have HN := hide hn
  clear hn
  go_enter Tryd.func95, Tryd.ntmps95
  go_wp2_with fail
  go_loop [0, 5] (fun x i => ∃ k : Nat, i = .int .i64 (k : Int) ∧ k ≤ s.size ∧ x = .int .u32 (sumL n ((bl s).take k) : Int)) (fun _ i => s.size - (intOf i).toNat)
  case atStart => exact ⟨0, rfl, Nat.zero_le _, rfl⟩
  case round =>
    obtain ⟨k, rfl, hk, rfl⟩ := hrel
    by_cases hlt : k < s.size
    · have hb := s[k].toNat_lt
      have h0 := sumL_lt ((bl s).take k) n HN.out
      have e1 := hide (show sumL n ((bl s).take (k + 1)) = sumB (sumL n ((bl s).take k)) s[k] by rw [bl_take s k hlt, sumL_snoc])
      obtain ⟨m, hm⟩ : ∃ m, sumL n ((bl s).take k) = m := ⟨_, rfl⟩
      rw [hm] at h0 e1 ⊢
      clear hm
      have hx := xor_u32 m s[k].toNat h0 (by omega)
      have h1 := hide (xor_byte_lt m s[k] h0)
      go_wp2_with fail
      go_loop [0, 6] (fun x i => ∃ j : Nat, i = .int .i64 (j : Int) ∧ j ≤ 8 ∧ x = .int .u32 (halfs j (m ^^^ s[k].toNat) : Int)) (fun _ i => 8 - (intOf i).toNat)
      case atStart => exact ⟨0, rfl, by omega, rfl⟩
      case round =>
        obtain ⟨j, rfl, hj, rfl⟩ := hrel
        clear hx
        by_cases hlt2 : j < 8
        · have h2 := halfs_lt j _ h1.out
          have e2 := hide (halfs_one j (m ^^^ s[k].toNat))
          obtain ⟨u, hu⟩ : ∃ u, halfs j (m ^^^ s[k].toNat) = u := ⟨_, rfl⟩
          rw [hu] at h2 e2 ⊢
          clear hu
          by_cases ho : u % 2 = 1
          · have q : ((u : Int) % 2 == 1) = true := by rw [beq_iff_eq]; omega
            have e3 := half_odd ho h2
            clear ho
            go_wp2_with fail
            go_round
            case rel => exact ⟨j + 1, by go_num, by omega, by rw [e2.out]⟩
            case measure => simp [intOf]; omega
          · have q : ((u : Int) % 2 == 1) = false := by rw [beq_eq_false_iff_ne]; omega
            have e3 := half_ev ho
            clear ho
            go_wp2_with fail
            go_round
            case rel => exact ⟨j + 1, by go_num, by omega, by rw [e2.out]⟩
            case measure => simp [intOf]; omega
        · have e8 : j = 8 := by omega
          subst e8
          go_wp2_with fail
          go_round
          case rel => exact ⟨k + 1, by go_num, by omega, by rw [e1.out]; rfl⟩
          case measure => simp [intOf]; omega
    · have e : (bl s).take k = bl s := List.take_of_length_le (by rw [bl_length]; omega)
      rw [e]
      go_wp2_with fail
      go_ret
      exact ⟨rfl, rfl⟩

theorem specSumOf_any (s : ByteArray) (hs : s.size ≤ 281474976710656) (w : World) :
    Calls Tryd.prog 75 #[.string s] w fun e w' => e = .returned (.int .u32 (sumOfL (bl s) : Int)) ∧ w = w' := by
  go_enter Tryd.func75, Tryd.ntmps75
  go_wp2_with (go_at_call 95; refine (specSumMore_any 4294967295 (by decide) s hs _).mono ?_; rintro e w1 ⟨rfl, rfl⟩)
  go_ret
  exact ⟨rfl, rfl⟩

end Go.Proofs.YtpenpbopehbncaaDoor
