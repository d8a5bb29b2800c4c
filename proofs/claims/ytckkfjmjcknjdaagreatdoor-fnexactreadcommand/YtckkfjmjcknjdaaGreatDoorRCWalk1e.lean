/-
  Walks and mathematics of Walk1e.
-/
import Derived.Test.YtckkfjmjcknjdaaGreatDoorRCWalk1c
import Derived.Test.YtckkfjmjcknjdaaGreatDoorRCWalk1b
import Derived.Test.YtckkfjmjcknjdaaGreatDoorRCWalkClone
namespace Go.Proofs.YtckkfjmjcknjdaaGreatDoor
open Go.RowKit P1 K
set_option linter.unusedVariables false

def rsVal (s : ByteArray) (a : Nat) : Option (Nat × Nat) → Value
  | none => .tuple #[.string ⟨#[]⟩, .int .i64 0, .bool false]
  | some (v, c) => if v ≤ 20000 ∧ a + c + v ≤ s.size then .tuple #[.string (s.extract (a + c) (a + c + v)), .int .i64 (a + c + v : Nat), .bool true] else .tuple #[.string ⟨#[]⟩, .int .i64 0, .bool false]

theorem rsVal_yes {s : ByteArray} {a v c : Nat} {r : Option (Nat × Nat)} {x : Int} (hr : r = some (v, c)) (h1 : v ≤ 20000) (h2 : a + c + v ≤ s.size) (hx : x = ((a + c + v : Nat) : Int)) :
    Ending.returned (.tuple #[.string (s.extract (a + c) (a + c + v)), .int .i64 x, .bool true]) = .returned (rsVal s a r) := by
  subst hr; simp only [rsVal, if_pos (And.intro h1 h2), hx]

theorem rsVal_no {s : ByteArray} {a : Nat} {r : Option (Nat × Nat)} (h : r = none ∨ ∃ v c, r = some (v, c) ∧ ¬ (v ≤ 20000 ∧ a + c + v ≤ s.size)) :
    Ending.returned (.tuple #[.string ⟨#[]⟩, .int .i64 0, .bool false]) = .returned (rsVal s a r) := by
  rcases h with rfl | ⟨v, c, rfl, h⟩
  · rfl
  · simp only [rsVal, if_neg h]

set_option maxHeartbeats 1000000 in
theorem implReadShort_any (s : ByteArray) (hs : s.size ≤ 1048576) (a : Nat) (ha : a ≤ s.size) (w : World) :
    Calls Tryz.prog 117 #[.string s, .int .i64 a] w fun e w' => e = .returned (rsVal s a (rdGo 5 [] ((bl s).drop a))) ∧ Below w.heap.size w w' := by
  cases hrd : rdGo 5 [] ((bl s).drop a) with
  | none =>
    have H := hide hrd
    clear hrd
    go_enter Tryz.func117, Tryz.ntmps117
    go_wp2_with (go_at_call 88; refine (implReadVar_any s hs a ha _).mono ?_; rintro e w1 ⟨rfl, rfl⟩; rw [H.out]; unfold rvVal)
    go_ret3
    exact ⟨rsVal_no (Or.inl rfl), Below.refl _ _⟩
  | some r =>
    obtain ⟨v, c⟩ := r
    have hbd := rdGo_some 5 [] _ v c hrd
    have hlen : ((bl s).drop a).length = s.size - a := by rw [List.length_drop, bl_length]
    rw [hlen] at hbd
    simp only [List.length_nil] at hbd
    obtain ⟨d1, d2, d3, d4⟩ := hbd
    clear hlen
    have H := hide hrd
    clear hrd
    by_cases h1 : v ≤ 20000
    · by_cases h2 : a + c + v ≤ s.size
      · have g1 : ¬ ((s.size : Int) - ((a + c : Nat) : Int) < (v : Int)) := by omega
        have hsl : ∀ wx, (Instr.slice 9 (.string s) (some (.int .i64 ((a : Int) + (c : Int)))) (some (.int .i64 ((a : Int) + (c : Int) + (v : Int)))) none).run Tryz.prog wx = .ok (.string (s.extract (a + c) (a + c + v))) wx :=
          fun wx => run_slice_string (P := Tryz.prog) (w := wx) 9 s .i64 .i64 ((a : Int) + (c : Int)) ((a : Int) + (c : Int) + (v : Int)) Tryz.underlying9 (by omega) (by omega) (by omega)
        have hsz : (s.extract (a + c) (a + c + v)).size ≤ 281474976710656 := by rw [ByteArray.size_extract]; omega
        go_enter Tryz.func117, Tryz.ntmps117
        go_wp2_with (first
          | (go_at_call 88; refine (implReadVar_any s hs a ha _).mono ?_; rintro e w1 ⟨rfl, rfl⟩; rw [H.out]; unfold rvVal)
          | (go_at_call 123; refine (stringsClone_any _ hsz _).mono ?_; rintro e w1 ⟨rfl, hb1⟩))
        go_ret3
        exact ⟨rsVal_yes rfl h1 h2 (by omega), hb1⟩
      · have g1 : ((s.size : Int) - ((a + c : Nat) : Int) < (v : Int)) := by omega
        go_enter Tryz.func117, Tryz.ntmps117
        go_wp2_with (go_at_call 88; refine (implReadVar_any s hs a ha _).mono ?_; rintro e w1 ⟨rfl, rfl⟩; rw [H.out]; unfold rvVal)
        go_ret3
        exact ⟨rsVal_no (Or.inr ⟨v, c, rfl, by omega⟩), Below.refl _ _⟩
    · go_enter Tryz.func117, Tryz.ntmps117
      go_wp2_with (go_at_call 88; refine (implReadVar_any s hs a ha _).mono ?_; rintro e w1 ⟨rfl, rfl⟩; rw [H.out]; unfold rvVal)
      go_ret3
      exact ⟨rsVal_no (Or.inr ⟨v, c, rfl, by omega⟩), Below.refl _ _⟩

theorem implReadShort_off (s : ByteArray) (hs : s.size ≤ 1048576) (a : Int) (ha : a < 0 ∨ (s.size : Int) < a) (w : World) :
    Calls Tryz.prog 117 #[.string s, .int .i64 a] w fun e w' => e = .returned (.tuple #[.string ⟨#[]⟩, .int .i64 0, .bool false]) ∧ w = w' := by
  go_enter Tryz.func117, Tryz.ntmps117
  go_wp2_with (go_at_call 88; refine (implReadVar_off s hs a ha _).mono ?_; rintro e w1 ⟨rfl, rfl⟩)
  go_ret3
  exact ⟨rfl, rfl⟩

end Go.Proofs.YtckkfjmjcknjdaaGreatDoor
