/-
  Walks and mathematics of Walk1c, Walk1e.
-/
import Derived.Test.YtmllcomppjkhhaaGreatDoorRWalk1b
import Derived.Test.YtmllcomppjkhhaaGreatDoorRWalkClone
namespace Go.Proofs.YtmllcomppjkhhaaGreatDoor
open Go.RowKit P1 K
set_option linter.unusedVariables false

set_option maxHeartbeats 1000000 in
theorem implReadVar_any (s : ByteArray) (hs : s.size ≤ 1048576) (a : Nat) (ha : a ≤ s.size) (w : World) :
    Calls Tryz.prog 88 #[.string s, .int .i64 a] w fun e w' => e = .returned (rvVal a (rdGo 5 [] ((bl s).drop a))) ∧ w = w' := by
  have g1 : ¬ ((a : Int) < 0) := by omega
  have g2 : ¬ ((s.size : Int) < (a : Int)) := by omega
  go_enter Tryz.func88, Tryz.ntmps88
  go_wp2
  go_step3
  go_wp2
  go_step3
  go_wp2
  go_loop [7, 8, 9] (fun x y z => ∃ n sc p : Nat, x = .int .i64 n ∧ y = .int .i64 sc ∧ z = .int .i64 p ∧ RdRel s a n sc p) (fun _ _ z => s.size - (intOf z).toNat)
  case atStart => exact ⟨0, 1, a, rfl, rfl, rfl, RdRel.start s a ha⟩
  case round =>
    obtain ⟨n, sc, p, rfl, rfl, rfl, hr⟩ := hrel
    have hb := hr.bounds
    obtain ⟨b1, b2, b3, b4, b5, b6, b7, b8, b12⟩ := hb
    by_cases hp : p < s.size
    · by_cases h5 : p < a + 5
      · have b9 := b6 h5
        obtain ⟨b10, b11⟩ := b9
        clear b6 b7
        have hlt := s[p].toNat_lt
        have hsc : (sc : Int) ≤ 1000000000 := by omega
        by_cases hbig : 128 ≤ s[p].toNat
        · have R := hr.on hp h5 hbig
          have hpr : (0 : Int) ≤ ((s[p].toNat : Int) - 128) * (sc : Int) ∧ ((s[p].toNat : Int) - 128) * (sc : Int) ≤ 34091302912 := by
            constructor
            · exact Int.mul_nonneg (by omega) (by omega)
            · have := Int.mul_le_mul (show ((s[p].toNat : Int) - 128) ≤ 127 by omega) (show (sc : Int) ≤ 268435456 by omega) (by omega) (by omega)
              omega
          obtain ⟨hpr1, hpr2⟩ := hpr
          have hg : (127 : Int) < (s[p].toNat : Int) := by omega
          have hcast : Hid (((s[p].toNat - 128 : Nat) : Int) = (s[p].toNat : Int) - 128) := by unfold Hid; omega
          go_wp2
          go_round
          case rel => exact ⟨_, _, p + 1, congrArg (Value.int .i64) (by rw [Int.natCast_add, Int.natCast_mul, hcast.out]), by go_num, by go_num, R⟩
          case measure => simp [intOf]; omega
        · have hb' : s[p].toNat < 128 := by omega
          clear hbig
          have hpr : (0 : Int) ≤ (s[p].toNat : Int) * (sc : Int) ∧ (s[p].toNat : Int) * (sc : Int) ≤ 34091302912 := by
            constructor
            · exact Int.mul_nonneg (by omega) (by omega)
            · have := Int.mul_le_mul (show (s[p].toNat : Int) ≤ 127 by omega) (show (sc : Int) ≤ 268435456 by omega) (by omega) (by omega)
              omega
          obtain ⟨hpr1, hpr2⟩ := hpr
          have hg : ¬ ((127 : Int) < (s[p].toNat : Int)) := by omega
          have B12 := hide b12
          clear b12
          by_cases hpa : a < p ∧ s[p].toNat = 0
          · obtain ⟨hpa, h0⟩ := hpa
            have R := hide (hr.long hp h5 h0 hpa).1
            have z0 : (((s[p].toNat : Nat) : Int) == 0) = true := by rw [h0]; rfl
            clear h0 hpr1 hpr2
            go_wp2
            go_ret3
            exact ⟨ret_rv_no R.out, rfl⟩
          · have hor : p = a ∨ s[p].toNat ≠ 0 := by omega
            by_cases hmx : n + s[p].toNat * sc ≤ 1000000000
            · have R := hide (hr.yes hp h5 hb' hor hmx).1
              have hmx' : (n : Int) + (s[p].toNat : Int) * (sc : Int) ≤ 1000000000 := by
                have e : ((n + s[p].toNat * sc : Nat) : Int) = (n : Int) + (s[p].toNat : Int) * (sc : Int) := by rw [Int.natCast_add, Int.natCast_mul]
                omega
              clear hmx
              rcases hor with hor | hor
              · have z1 : ¬ ((a : Int) < (p : Int)) := by omega
                clear hpa hor
                go_wp2
                · go_ret3
                  exact ⟨ret_rv_yes R.out (by
                    have h0 : s[p].toNat = 0 := by assumption
                    rw [h0]; simp) (by omega), rfl⟩
                · go_ret3
                  exact ⟨ret_rv_yes R.out (by rw [Int.natCast_add, Int.natCast_mul]) (by omega), rfl⟩
              · have z1 : (((s[p].toNat : Nat) : Int) == 0) = false := by simp; omega
                clear hpa hor
                go_wp2
                go_ret3
                exact ⟨ret_rv_yes R.out (by rw [Int.natCast_add, Int.natCast_mul]) (by omega), rfl⟩
            · have R := hide (hr.great hp h5 hb' (by omega))
              have hmx' : (1000000000 : Int) < (n : Int) + (s[p].toNat : Int) * (sc : Int) := by
                have e : ((n + s[p].toNat * sc : Nat) : Int) = (n : Int) + (s[p].toNat : Int) * (sc : Int) := by rw [Int.natCast_add, Int.natCast_mul]
                omega
              clear hmx
              rcases hor with hor | hor
              · have z := B12.out hor
                have z2 : s[p].toNat * sc = s[p].toNat := by rw [z.2]; omega
                omega
              · have z1 : (((s[p].toNat : Nat) : Int) == 0) = false := by simp; omega
                clear hpa hor
                go_wp2
                go_ret3
                exact ⟨ret_rv_no R.out, rfl⟩
      · have R := hide (hr.out (Or.inr (by omega)))
        have hsc : ¬ ((sc : Int) ≤ 1000000000) := by have := b7 (by omega); omega
        clear b6 b7 b12 hr
        go_wp2
        go_ret3
        exact ⟨ret_rv_no R.out, rfl⟩
    · have R := hide (hr.out (Or.inl (by omega)))
      clear b6 b7 b12 hr
      go_wp2
      go_ret3
      exact ⟨ret_rv_no R.out, rfl⟩

theorem implReadVar_off (s : ByteArray) (hs : s.size ≤ 1048576) (a : Int) (ha : a < 0 ∨ (s.size : Int) < a) (w : World) :
    Calls Tryz.prog 88 #[.string s, .int .i64 a] w fun e w' => e = .returned (.tuple #[.int .i64 0, .int .i64 0, .bool false]) ∧ w = w' := by
  by_cases h0 : a < 0
  · go_enter Tryz.func88, Tryz.ntmps88
    go_wp2
    go_step3
    go_wp2
    rw [Exit.noGoto_ret]
    go_ret3
    exact ⟨rfl, rfl⟩
  · have h1 : (s.size : Int) < a := by omega
    clear ha
    go_enter Tryz.func88, Tryz.ntmps88
    go_wp2
    go_step3
    go_wp2
    rw [Exit.noGoto_ret]
    go_ret3
    exact ⟨rfl, rfl⟩

end Go.Proofs.YtmllcomppjkhhaaGreatDoor

namespace Go.Proofs.YtmllcomppjkhhaaGreatDoor
open Go.RowKit P1 K
set_option linter.unusedVariables false

theorem implShortText_yes (s : ByteArray) (hs : s.size ≤ 20000) (w : World) :
    Calls Tryz.prog 72 #[.string s] w fun e w' => e = .returned (.tuple #[.string (⟨(varB s.size).toArray⟩ ++ s), .bool true]) ∧ Below w.heap.size w w' := by
  have hl := varB_length s.size
  go_enter Tryz.func72, Tryz.ntmps72
  go_wp2_with (go_at_call 84; refine (implVarText_yes s.size (by omega) _).mono ?_; rintro e w1 ⟨rfl, hb1⟩)
  go_ret2
  exact ⟨rfl, hb1⟩

def rsVal (s : ByteArray) (a : Nat) : Option (Nat × Nat) → Value
  | none => .tuple #[.string ⟨#[]⟩, .int .i64 0, .bool false]
  | some (v, c) => if v ≤ 20000 ∧ a + c + v ≤ s.size then .tuple #[.string (s.extract (a + c) (a + c + v)), .int .i64 (a + c + v : Nat), .bool true] else .tuple #[.string ⟨#[]⟩, .int .i64 0, .bool false]

theorem rsVal_yes {s : ByteArray} {a v c : Nat} {r : Option (Nat × Nat)} {x : Int} (hr : r = some (v, c)) (h1 : v ≤ 20000) (h2 : a + c + v ≤ s.size) (hx : x = ((a + c + v : Nat) : Int)) :
    Ending.returned (.tuple #[.string (s.extract (a + c) (a + c + v)), .int .i64 x, .bool true]) = .returned (rsVal s a r) := by
  subst hr; simp only [rsVal, if_pos (And.intro h1 h2), hx]

theorem rsVal_no {s : ByteArray} {a : Nat} {r : Option (Nat × Nat)} (h : r = none ∨ ∃ v c, r = some (v, c) ∧ ¬ (v ≤ 20000 ∧ a + c + v ≤ s.size)) :
    Ending.returned (.tuple #[.string ⟨#[]⟩, .int .i64 0, .bool false]) = .returned (rsVal s a r) := by
  rcases h with rfl | ⟨v, c, rfl, h⟩
  · rfl
  · simp only [rsVal, if_neg h]

set_option maxHeartbeats 1000000 in
theorem implReadShort_any (s : ByteArray) (hs : s.size ≤ 1048576) (a : Nat) (ha : a ≤ s.size) (w : World) :
    Calls Tryz.prog 79 #[.string s, .int .i64 a] w fun e w' => e = .returned (rsVal s a (rdGo 5 [] ((bl s).drop a))) ∧ Below w.heap.size w w' := by
  cases hrd : rdGo 5 [] ((bl s).drop a) with
  | none =>
    have H := hide hrd
    clear hrd
    go_enter Tryz.func79, Tryz.ntmps79
    go_wp2_with (go_at_call 88; refine (implReadVar_any s hs a ha _).mono ?_; rintro e w1 ⟨rfl, rfl⟩; rw [H.out]; unfold rvVal)
    go_ret3
    exact ⟨rsVal_no (Or.inl rfl), Below.refl _ _⟩
  | some r =>
    obtain ⟨v, c⟩ := r
    have hbd := rdGo_some 5 [] _ v c hrd
    have hlen : ((bl s).drop a).length = s.size - a := by rw [List.length_drop, bl_length]
    rw [hlen] at hbd
    simp only [List.length_nil] at hbd
    obtain ⟨d1, d2, d3, d4⟩ := hbd
    clear hlen
    have H := hide hrd
    clear hrd
    by_cases h1 : v ≤ 20000
    · by_cases h2 : a + c + v ≤ s.size
      · have g1 : ¬ ((s.size : Int) - ((a + c : Nat) : Int) < (v : Int)) := by omega
        have hsl : ∀ wx, (Instr.slice 9 (.string s) (some (.int .i64 ((a : Int) + (c : Int)))) (some (.int .i64 ((a : Int) + (c : Int) + (v : Int)))) none).run Tryz.prog wx = .ok (.string (s.extract (a + c) (a + c + v))) wx :=
          fun wx => run_slice_string (P := Tryz.prog) (w := wx) 9 s .i64 .i64 ((a : Int) + (c : Int)) ((a : Int) + (c : Int) + (v : Int)) Tryz.underlying9 (by omega) (by omega) (by omega)
        have hsz : (s.extract (a + c) (a + c + v)).size ≤ 281474976710656 := by rw [ByteArray.size_extract]; omega
        go_enter Tryz.func79, Tryz.ntmps79
        go_wp2_with (first
          | (go_at_call 88; refine (implReadVar_any s hs a ha _).mono ?_; rintro e w1 ⟨rfl, rfl⟩; rw [H.out]; unfold rvVal)
          | (go_at_call 90; refine (stringsClone_any _ hsz _).mono ?_; rintro e w1 ⟨rfl, hb1⟩))
        go_ret3
        exact ⟨rsVal_yes rfl h1 h2 (by omega), hb1⟩
      · have g1 : ((s.size : Int) - ((a + c : Nat) : Int) < (v : Int)) := by omega
        go_enter Tryz.func79, Tryz.ntmps79
        go_wp2_with (go_at_call 88; refine (implReadVar_any s hs a ha _).mono ?_; rintro e w1 ⟨rfl, rfl⟩; rw [H.out]; unfold rvVal)
        go_ret3
        exact ⟨rsVal_no (Or.inr ⟨v, c, rfl, by omega⟩), Below.refl _ _⟩
    · go_enter Tryz.func79, Tryz.ntmps79
      go_wp2_with (go_at_call 88; refine (implReadVar_any s hs a ha _).mono ?_; rintro e w1 ⟨rfl, rfl⟩; rw [H.out]; unfold rvVal)
      go_ret3
      exact ⟨rsVal_no (Or.inr ⟨v, c, rfl, by omega⟩), Below.refl _ _⟩

theorem implReadShort_off (s : ByteArray) (hs : s.size ≤ 1048576) (a : Int) (ha : a < 0 ∨ (s.size : Int) < a) (w : World) :
    Calls Tryz.prog 79 #[.string s, .int .i64 a] w fun e w' => e = .returned (.tuple #[.string ⟨#[]⟩, .int .i64 0, .bool false]) ∧ w = w' := by
  go_enter Tryz.func79, Tryz.ntmps79
  go_wp2_with (go_at_call 88; refine (implReadVar_off s hs a ha _).mono ?_; rintro e w1 ⟨rfl, rfl⟩)
  go_ret3
  exact ⟨rfl, rfl⟩

end Go.Proofs.YtmllcomppjkhhaaGreatDoor
