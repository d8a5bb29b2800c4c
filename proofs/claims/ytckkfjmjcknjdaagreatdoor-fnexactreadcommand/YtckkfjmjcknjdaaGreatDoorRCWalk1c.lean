/-
  Walks and mathematics of Walk1c.
-/
import Derived.Test.YtckkfjmjcknjdaaGreatDoorRCWalk1b
namespace Go.Proofs.YtckkfjmjcknjdaaGreatDoor
open Go.RowKit P1 K
set_option linter.unusedVariables false

set_option maxHeartbeats 1000000 in
theorem implReadVar_any (s : ByteArray) (hs : s.size ≤ 1048576) (a : Nat) (ha : a ≤ s.size) (w : World) :
    Calls Tryz.prog 88 #[.string s, .int .i64 a] w fun e w' => e = .returned (rvVal a (rdGo 5 [] ((bl s).drop a))) ∧ w = w' := by
  have g1 : ¬ ((a : Int) < 0) := by omega
  have g2 : ¬ ((s.size : Int) < (a : Int)) := by omega
  go_enter Tryz.func88, Tryz.ntmps88
  go_wp2
  go_step3
  go_wp2
  go_step3
  go_wp2
  go_loop [7, 8, 9] (fun x y z => ∃ n sc p : Nat, x = .int .i64 n ∧ y = .int .i64 sc ∧ z = .int .i64 p ∧ RdRel s a n sc p) (fun _ _ z => s.size - (intOf z).toNat)
  case atStart => exact ⟨0, 1, a, rfl, rfl, rfl, RdRel.start s a ha⟩
  case round =>
    obtain ⟨n, sc, p, rfl, rfl, rfl, hr⟩ := hrel
    have hb := hr.bounds
    obtain ⟨b1, b2, b3, b4, b5, b6, b7, b8, b12⟩ := hb
    by_cases hp : p < s.size
    · by_cases h5 : p < a + 5
      · have b9 := b6 h5
        obtain ⟨b10, b11⟩ := b9
        clear b6 b7
        have hlt := s[p].toNat_lt
        have hsc : (sc : Int) ≤ 1000000000 := by omega
        by_cases hbig : 128 ≤ s[p].toNat
        · have R := hr.on hp h5 hbig
          have hpr : (0 : Int) ≤ ((s[p].toNat : Int) - 128) * (sc : Int) ∧ ((s[p].toNat : Int) - 128) * (sc : Int) ≤ 34091302912 := by
            constructor
            · exact Int.mul_nonneg (by omega) (by omega)
            · have := Int.mul_le_mul (show ((s[p].toNat : Int) - 128) ≤ 127 by omega) (show (sc : Int) ≤ 268435456 by omega) (by omega) (by omega)
              omega
          obtain ⟨hpr1, hpr2⟩ := hpr
          have hg : (127 : Int) < (s[p].toNat : Int) := by omega
          have hcast : Hid (((s[p].toNat - 128 : Nat) : Int) = (s[p].toNat : Int) - 128) := by unfold Hid; omega
          go_wp2
          go_round
          case rel => exact ⟨_, _, p + 1, congrArg (Value.int .i64) (by rw [Int.natCast_add, Int.natCast_mul, hcast.out]), by go_num, by go_num, R⟩
          case measure => simp [intOf]; omega
        · have hb' : s[p].toNat < 128 := by omega
          clear hbig
          have hpr : (0 : Int) ≤ (s[p].toNat : Int) * (sc : Int) ∧ (s[p].toNat : Int) * (sc : Int) ≤ 34091302912 := by
            constructor
            · exact Int.mul_nonneg (by omega) (by omega)
            · have := Int.mul_le_mul (show (s[p].toNat : Int) ≤ 127 by omega) (show (sc : Int) ≤ 268435456 by omega) (by omega) (by omega)
              omega
          obtain ⟨hpr1, hpr2⟩ := hpr
          have hg : ¬ ((127 : Int) < (s[p].toNat : Int)) := by omega
          have B12 := hide b12
          clear b12
          by_cases hpa : a < p ∧ s[p].toNat = 0
          · obtain ⟨hpa, h0⟩ := hpa
            have R := hide (hr.long hp h5 h0 hpa).1
            have z0 : (((s[p].toNat : Nat) : Int) == 0) = true := by rw [h0]; rfl
            clear h0 hpr1 hpr2
            go_wp2
            go_ret3
            exact ⟨ret_rv_no R.out, rfl⟩
          · have hor : p = a ∨ s[p].toNat ≠ 0 := by omega
            by_cases hmx : n + s[p].toNat * sc ≤ 1000000000
            · have R := hide (hr.yes hp h5 hb' hor hmx).1
              have hmx' : (n : Int) + (s[p].toNat : Int) * (sc : Int) ≤ 1000000000 := by
                have e : ((n + s[p].toNat * sc : Nat) : Int) = (n : Int) + (s[p].toNat : Int) * (sc : Int) := by rw [Int.natCast_add, Int.natCast_mul]
                omega
              clear hmx
              rcases hor with hor | hor
              · have z1 : ¬ ((a : Int) < (p : Int)) := by omega
                clear hpa hor
                go_wp2
                · go_ret3
                  exact ⟨ret_rv_yes R.out (by
                    have h0 : s[p].toNat = 0 := by assumption
                    rw [h0]; simp) (by omega), rfl⟩
                · go_ret3
                  exact ⟨ret_rv_yes R.out (by rw [Int.natCast_add, Int.natCast_mul]) (by omega), rfl⟩
              · have z1 : (((s[p].toNat : Nat) : Int) == 0) = false := by simp; omega
                clear hpa hor
                go_wp2
                go_ret3
                exact ⟨ret_rv_yes R.out (by rw [Int.natCast_add, Int.natCast_mul]) (by omega), rfl⟩
            · have R := hide (hr.great hp h5 hb' (by omega))
              have hmx' : (1000000000 : Int) < (n : Int) + (s[p].toNat : Int) * (sc : Int) := by
                have e : ((n + s[p].toNat * sc : Nat) : Int) = (n : Int) + (s[p].toNat : Int) * (sc : Int) := by rw [Int.natCast_add, Int.natCast_mul]
                omega
              clear hmx
              rcases hor with hor | hor
              · have z := B12.out hor
                have z2 : s[p].toNat * sc = s[p].toNat := by rw [z.2]; omega
                omega
              · have z1 : (((s[p].toNat : Nat) : Int) == 0) = false := by simp; omega
                clear hpa hor
                go_wp2
                go_ret3
                exact ⟨ret_rv_no R.out, rfl⟩
      · have R := hide (hr.out (Or.inr (by omega)))
        have hsc : ¬ ((sc : Int) ≤ 1000000000) := by have := b7 (by omega); omega
        clear b6 b7 b12 hr
        go_wp2
        go_ret3
        exact ⟨ret_rv_no R.out, rfl⟩
    · have R := hide (hr.out (Or.inl (by omega)))
      clear b6 b7 b12 hr
      go_wp2
      go_ret3
      exact ⟨ret_rv_no R.out, rfl⟩

theorem implReadVar_off (s : ByteArray) (hs : s.size ≤ 1048576) (a : Int) (ha : a < 0 ∨ (s.size : Int) < a) (w : World) :
    Calls Tryz.prog 88 #[.string s, .int .i64 a] w fun e w' => e = .returned (.tuple #[.int .i64 0, .int .i64 0, .bool false]) ∧ w = w' := by
  by_cases h0 : a < 0
  · go_enter Tryz.func88, Tryz.ntmps88
    go_wp2
    go_step3
    go_wp2
    rw [Exit.noGoto_ret]
    go_ret3
    exact ⟨rfl, rfl⟩
  · have h1 : (s.size : Int) < a := by omega
    clear ha
    go_enter Tryz.func88, Tryz.ntmps88
    go_wp2
    go_step3
    go_wp2
    rw [Exit.noGoto_ret]
    go_ret3
    exact ⟨rfl, rfl⟩

end Go.Proofs.YtckkfjmjcknjdaaGreatDoor
