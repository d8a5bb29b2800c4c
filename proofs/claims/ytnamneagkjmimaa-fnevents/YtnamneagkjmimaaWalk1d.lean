/-
  Walks of chapter 1: ReadVar of the specification.
-/
import Derived.Test.YtnamneagkjmimaaWalk1b
import Derived.Deep.RegionHeld3
import Derived.Deep.QuietTactic
import Derived.BigQuiet
import Derived.WalkSmall
import Derived.Lib.Strings
namespace Go.Proofs.Ytnamneagkjmimaa
open Go.RowKit P1 K
set_option linter.unusedVariables false

theorem l01Var_int (x : Int) (h0 : 0 ≤ x) (h1 : x ≤ 1000000000) (w : World) :
    Calls Try.prog 44 #[.int .i64 x] w fun e w' => e = .returned (.string ⟨(varB x.toNat).toArray⟩) ∧ Below w.heap.size w w' := by
  obtain ⟨n, rfl⟩ := Int.eq_ofNat_of_zero_le h0
  exact l01Var_any n (by omega) w

set_option maxHeartbeats 1000000 in
theorem specReadVar_any (s : ByteArray) (hs : s.size ≤ 1048576) (a : Nat) (ha : a ≤ s.size) (w : World) :
    Calls Try.prog 63 #[.string s, .int .i64 a] w fun e w' => e = .returned (rvVal a (rdGo 5 [] ((bl s).drop a))) ∧ Below w.heap.size w w' := by
  go_enter Try.func63, Try.ntmps63
  go_wp2_with (go_at_call 31; refine (l01In_yes _ _ _ (by omega) (by omega) _).mono ?_; rintro e w' ⟨rfl, rfl⟩)
  go_loopw [7, 8, 9] (fun x y z wr => ∃ n sc p : Nat, x = .int .i64 n ∧ y = .int .i64 sc ∧ z = .int .i64 p ∧ RdRel s a n sc p ∧ w = wr) (fun _ _ z _ => s.size - (intOf z).toNat)
  case atStart => exact ⟨0, 1, a, rfl, rfl, rfl, RdRel.start s a ha, rfl⟩
  case round =>
    obtain ⟨n, sc, p, rfl, rfl, rfl, hr, rfl⟩ := hrel
    have hb := hr.bounds
    obtain ⟨b1, b2, b3, b4, b5, b6, b7, b8, b12⟩ := hb
    clear b12
    by_cases hp : p < s.size
    · by_cases h5 : p < a + 5
      · have b9 := b6 h5
        obtain ⟨b10, b11⟩ := b9
        clear b6 b7
        have hlt := s[p].toNat_lt
        have h5' : (p : Int) < (a : Int) + 5 := by omega
        by_cases hbig : 128 ≤ s[p].toNat
        · have R := hr.on hp h5 hbig
          have hpr : (0 : Int) ≤ ((s[p].toNat : Int) - 128) * (sc : Int) ∧ ((s[p].toNat : Int) - 128) * (sc : Int) ≤ 34091302912 := by
            constructor
            · exact Int.mul_nonneg (by omega) (by omega)
            · have := Int.mul_le_mul (show ((s[p].toNat : Int) - 128) ≤ 127 by omega) (show (sc : Int) ≤ 268435456 by omega) (by omega) (by omega)
              omega
          obtain ⟨hpr1, hpr2⟩ := hpr
          have hmod : (s[p].toNat : Int) % 128 = (s[p].toNat : Int) - 128 := by omega
          have hg : ¬ ((s[p].toNat : Int) < 128) := by omega
          have hcast : Hid (((s[p].toNat - 128 : Nat) : Int) = (s[p].toNat : Int) - 128) := by unfold Hid; omega
          go_wp2_with fail
          go_roundw
          case rel => exact ⟨_, _, p + 1, congrArg (Value.int .i64) (by rw [Int.natCast_add, Int.natCast_mul, hcast.out]), by go_num, by go_num, R, trivial⟩
          case measure => simp [intOf]; omega
        · have hb' : s[p].toNat < 128 := by omega
          clear hbig
          have hpr : (0 : Int) ≤ (s[p].toNat : Int) * (sc : Int) ∧ (s[p].toNat : Int) * (sc : Int) ≤ 34091302912 := by
            constructor
            · exact Int.mul_nonneg (by omega) (by omega)
            · have := Int.mul_le_mul (show (s[p].toNat : Int) ≤ 127 by omega) (show (sc : Int) ≤ 268435456 by omega) (by omega) (by omega)
              omega
          obtain ⟨hpr1, hpr2⟩ := hpr
          have hmod : (s[p].toNat : Int) % 128 = (s[p].toNat : Int) := by omega
          have hg : ((s[p].toNat : Int) < 128) := by omega
          have e : Hid (((n + s[p].toNat * sc : Nat) : Int) = (n : Int) + (s[p].toNat : Int) * (sc : Int)) := by unfold Hid; rw [Int.natCast_add, Int.natCast_mul]
          by_cases hmx : n + s[p].toNat * sc ≤ 1000000000
          · have hmx' : (n : Int) + (s[p].toNat : Int) * (sc : Int) ≤ 1000000000 := by have := e.out; omega
            have hmx2 : 0 ≤ (n : Int) + (s[p].toNat : Int) * (sc : Int) := by omega
            have ev : Hid ((((n : Int) + (s[p].toNat : Int) * (sc : Int))).toNat = n + s[p].toNat * sc) := by have := e.out; unfold Hid; omega
            have hwr : IntKind.i64.wrap ((p : Int) + 1) = (p : Int) + 1 := IntWalk.i64_in _ ⟨by omega, by omega⟩
            have hsl : ∀ wx, (Instr.slice 9 (.string s) (some (.int .i64 (a : Int))) (some (.int .i64 ((p : Int) + 1))) none).run Try.prog wx = .ok (.string (s.extract a (p + 1))) wx :=
              fun wx => run_slice_string (P := Try.prog) (w := wx) 9 s .i64 .i64 (a : Int) ((p : Int) + 1) Try.underlying9 (by omega) (by omega) (by omega)
            have hd : decide ((1000000000 : Int) < (n : Int) + (s[p].toNat : Int) * (sc : Int)) = false := by simp; omega
            by_cases hor : p = a ∨ s[p].toNat ≠ 0
            · have R := hr.yes hp h5 hb' hor hmx
              have hq : (varB ((n : Int) + (s[p].toNat : Int) * (sc : Int)).toNat == (s.extract a (p + 1)).toList) = true := by
                rw [ev.out, R.2, Lib.extract_toList]; simp
              have R1 := hide R.1
              clear R hor hmx
              go_wp2_with fail
              go_region_held3 (fun _ => True) (trivial) (first | (go_at_call 44; refine (l01Var_int _ hmx2 hmx' _).mono ?_; rintro e1 w1 ⟨rfl, hb1⟩))
              have hb2 : Below w.heap.size w w1 := ((Below.refl _ w).drew).trans hb1
              clear hb1
              go_wp2_with fail
              go_ret3
              exact ⟨ret_rv_yes R1.out (by rw [Int.natCast_add, Int.natCast_mul]) (by omega), hb2⟩
            · have R := hr.long hp h5 (by omega) (by omega)
              have hq : (varB ((n : Int) + (s[p].toNat : Int) * (sc : Int)).toNat == (s.extract a (p + 1)).toList) = false := by
                rw [ev.out, Lib.extract_toList]; simpa using R.2
              have R1 := hide R.1
              clear R hor hmx
              go_wp2_with fail
              go_region_held3 (fun _ => True) (trivial) (first | (go_at_call 44; refine (l01Var_int _ hmx2 hmx' _).mono ?_; rintro e1 w1 ⟨rfl, hb1⟩))
              have hb2 : Below w.heap.size w w1 := ((Below.refl _ w).drew).trans hb1
              clear hb1
              go_wp2_with fail
              go_ret3
              exact ⟨ret_rv_no R1.out, hb2⟩
          · have R := hide (hr.great hp h5 hb' (by omega))
            have hmx' : (1000000000 : Int) < (n : Int) + (s[p].toNat : Int) * (sc : Int) := by have := e.out; omega
            clear hmx
            have hd : decide ((1000000000 : Int) < (n : Int) + (s[p].toNat : Int) * (sc : Int)) = true := by simp; omega
            go_wp2_with fail
            go_quiet (fail)
            go_wp2
            go_ret3
            exact ⟨ret_rv_no R.out, below_drewN (Below.refl _ _) _⟩
      · have R := hide (hr.out (Or.inr (by omega)))
        have h5' : ¬ ((p : Int) < (a : Int) + 5) := by omega
        clear b6 b7 hr
        go_wp2_with fail
        go_ret3
        exact ⟨ret_rv_no R.out, Below.refl _ _⟩
    · have R := hide (hr.out (Or.inl (by omega)))
      clear b6 b7 hr
      go_wp2_with fail
      go_ret3
      exact ⟨ret_rv_no R.out, Below.refl _ _⟩

theorem specReadVar_off (s : ByteArray) (hs : s.size ≤ 1048576) (a : Int) (ha : a < 0 ∨ (s.size : Int) < a) (w : World) :
    Calls Try.prog 63 #[.string s, .int .i64 a] w fun e w' => e = .returned (.tuple #[.int .i64 0, .int .i64 0, .bool false]) ∧ w = w' := by
  go_enter Try.func63, Try.ntmps63
  go_wp2_with (go_at_call 31; refine (l01In_no _ _ _ (by omega) _).mono ?_; rintro e w' ⟨rfl, rfl⟩)
  go_ret3
  exact ⟨rfl, rfl⟩

end Go.Proofs.Ytnamneagkjmimaa
