/-
  strings.Clone, out of the shelf's contract of what it calls.
  Walks of chapter 1: ShortText and ReadShort, of the specification and of the program; strings.Clone.
  Walks of chapter 5: ConfOk, of the specification and of the program.
-/
import Derived.Test.YtnamneagkjmimaaPack1
import Derived.Test.YtnamneagkjmimaaShelf
import Derived.Test.YtnamneagkjmimaaPack23
import Derived.Test.YtnamneagkjmimaaWalk1d
import Derived.Test.YtnamneagkjmimaaPlain9
import Derived.Test.YtnamneagkjmimaaInts
import Derived.Test.YtnamneagkjmimaaWalk1a
namespace Go.Proofs.Ytnamneagkjmimaa
open Go.RowKit P1 K

theorem stringsClone_any (s : ByteArray) (hs : s.size ≤ 281474976710656) (w : World) :
    Calls Try.prog 77 #[.string s] w fun e w' => e = .returned (.string s) ∧ Below w.heap.size w w' := by
  go_enter Try.func77, Try.ntmps77
  go_wp2_with (go_at_call 78; refine (Try.stringslite_Clone s _ hs).mono ?_; rintro e w1 ⟨rfl, hb1⟩)
  go_ret
  exact ⟨rfl, hb1⟩

end Go.Proofs.Ytnamneagkjmimaa

namespace Go.Proofs.Ytnamneagkjmimaa
open Go.RowKit P1 K
set_option linter.unusedVariables false

theorem implShortText_no (s : ByteArray) (hs : s.size ≤ 1048576) (hbig : 20000 < s.size) (w : World) :
    Calls Try.prog 25 #[.string s] w fun e w' => e = .returned (.tuple #[.string ⟨#[]⟩, .bool false]) ∧ w = w' := by
  go_enter Try.func25, Try.ntmps25
  go_wp2_with fail
  go_ret2
  exact ⟨rfl, rfl⟩

theorem implShortText_yes (s : ByteArray) (hs : s.size ≤ 20000) (w : World) :
    Calls Try.prog 25 #[.string s] w fun e w' => e = .returned (.tuple #[.string (⟨(varB s.size).toArray⟩ ++ s), .bool true]) ∧ Below w.heap.size w w' := by
  have hl := varB_length s.size
  go_enter Try.func25, Try.ntmps25
  go_wp2_with (go_at_call 52; refine (implVarText_yes s.size (by omega) _).mono ?_; rintro e w1 ⟨rfl, hb1⟩)
  go_ret2
  exact ⟨rfl, hb1⟩

/-- The results of ReadShort as values. -/
def rsVal (s : ByteArray) (a : Nat) : Option (Nat × Nat) → Value
  | none => .tuple #[.string ⟨#[]⟩, .int .i64 0, .bool false]
  | some (v, c) => if v ≤ 20000 ∧ a + c + v ≤ s.size then .tuple #[.string (s.extract (a + c) (a + c + v)), .int .i64 (a + c + v : Nat), .bool true] else .tuple #[.string ⟨#[]⟩, .int .i64 0, .bool false]

theorem rsVal_yes {s : ByteArray} {a v c : Nat} {r : Option (Nat × Nat)} {x : Int} (hr : r = some (v, c)) (h1 : v ≤ 20000) (h2 : a + c + v ≤ s.size) (hx : x = ((a + c + v : Nat) : Int)) :
    Ending.returned (.tuple #[.string (s.extract (a + c) (a + c + v)), .int .i64 x, .bool true]) = .returned (rsVal s a r) := by
  subst hr; simp only [rsVal, if_pos (And.intro h1 h2), hx]

theorem rsVal_no {s : ByteArray} {a : Nat} {r : Option (Nat × Nat)} (h : r = none ∨ ∃ v c, r = some (v, c) ∧ ¬ (v ≤ 20000 ∧ a + c + v ≤ s.size)) :
    Ending.returned (.tuple #[.string ⟨#[]⟩, .int .i64 0, .bool false]) = .returned (rsVal s a r) := by
  rcases h with rfl | ⟨v, c, rfl, h⟩
  · rfl
  · simp only [rsVal, if_neg h]

set_option maxHeartbeats 1000000 in
theorem implReadShort_any (s : ByteArray) (hs : s.size ≤ 1048576) (a : Nat) (ha : a ≤ s.size) (w : World) :
    Calls Try.prog 74 #[.string s, .int .i64 a] w fun e w' => e = .returned (rsVal s a (rdGo 5 [] ((bl s).drop a))) ∧ Below w.heap.size w w' := by
  cases hrd : rdGo 5 [] ((bl s).drop a) with
  | none =>
    have H := hide hrd
    clear hrd
    go_enter Try.func74, Try.ntmps74
    go_wp2_with (go_at_call 72; refine (implReadVar_any s hs a ha _).mono ?_; rintro e w1 ⟨rfl, rfl⟩; rw [H.out]; unfold rvVal)
    go_ret3
    exact ⟨rsVal_no (Or.inl rfl), Below.refl _ _⟩
  | some r =>
    obtain ⟨v, c⟩ := r
    have hbd := rdGo_some 5 [] _ v c hrd
    have hlen : ((bl s).drop a).length = s.size - a := by rw [List.length_drop, bl_length]
    rw [hlen] at hbd
    simp only [List.length_nil] at hbd
    obtain ⟨d1, d2, d3, d4⟩ := hbd
    clear hlen
    have H := hide hrd
    clear hrd
    by_cases h1 : v ≤ 20000
    · by_cases h2 : a + c + v ≤ s.size
      · have g1 : ¬ ((s.size : Int) - ((a + c : Nat) : Int) < (v : Int)) := by omega
        have hsl : ∀ wx, (Instr.slice 9 (.string s) (some (.int .i64 ((a : Int) + (c : Int)))) (some (.int .i64 ((a : Int) + (c : Int) + (v : Int)))) none).run Try.prog wx = .ok (.string (s.extract (a + c) (a + c + v))) wx :=
          fun wx => run_slice_string (P := Try.prog) (w := wx) 9 s .i64 .i64 ((a : Int) + (c : Int)) ((a : Int) + (c : Int) + (v : Int)) Try.underlying9 (by omega) (by omega) (by omega)
        have hsz : (s.extract (a + c) (a + c + v)).size ≤ 281474976710656 := by rw [ByteArray.size_extract]; omega
        go_enter Try.func74, Try.ntmps74
        go_wp2_with (first
          | (go_at_call 72; refine (implReadVar_any s hs a ha _).mono ?_; rintro e w1 ⟨rfl, rfl⟩; rw [H.out]; unfold rvVal)
          | (go_at_call 77; refine (stringsClone_any _ hsz _).mono ?_; rintro e w1 ⟨rfl, hb1⟩))
        go_ret3
        exact ⟨rsVal_yes rfl h1 h2 (by omega), hb1⟩
      · have g1 : ((s.size : Int) - ((a + c : Nat) : Int) < (v : Int)) := by omega
        go_enter Try.func74, Try.ntmps74
        go_wp2_with (go_at_call 72; refine (implReadVar_any s hs a ha _).mono ?_; rintro e w1 ⟨rfl, rfl⟩; rw [H.out]; unfold rvVal)
        go_ret3
        exact ⟨rsVal_no (Or.inr ⟨v, c, rfl, by omega⟩), Below.refl _ _⟩
    · go_enter Try.func74, Try.ntmps74
      go_wp2_with (go_at_call 72; refine (implReadVar_any s hs a ha _).mono ?_; rintro e w1 ⟨rfl, rfl⟩; rw [H.out]; unfold rvVal)
      go_ret3
      exact ⟨rsVal_no (Or.inr ⟨v, c, rfl, by omega⟩), Below.refl _ _⟩

theorem implReadShort_off (s : ByteArray) (hs : s.size ≤ 1048576) (a : Int) (ha : a < 0 ∨ (s.size : Int) < a) (w : World) :
    Calls Try.prog 74 #[.string s, .int .i64 a] w fun e w' => e = .returned (.tuple #[.string ⟨#[]⟩, .int .i64 0, .bool false]) ∧ w = w' := by
  go_enter Try.func74, Try.ntmps74
  go_wp2_with (go_at_call 72; refine (implReadVar_off s hs a ha _).mono ?_; rintro e w1 ⟨rfl, rfl⟩)
  go_ret3
  exact ⟨rfl, rfl⟩

end Go.Proofs.Ytnamneagkjmimaa

namespace Go.Proofs.Ytnamneagkjmimaa
open Go.RowKit P1 P9 K
set_option linter.unusedVariables false
set_option linter.unusedSimpArgs false

theorem l01In5_any (x a b : Int) (w : World) :
    Calls Try.prog 31 #[.int .i64 x, .int .i64 a, .int .i64 b] w fun e w' => e = .returned (.bool (decide (a ≤ x) && decide (x ≤ b))) ∧ w' = w := by
  by_cases h : a ≤ x ∧ x ≤ b
  · rw [decide_eq_true h.1, decide_eq_true h.2]
    exact (l01In_yes x a b h.1 h.2 w).mono fun e w' ⟨h1, h2⟩ => ⟨h1, h2.symm⟩
  · have : (decide (a ≤ x) && decide (x ≤ b)) = false := by simp; omega
    rw [this]
    exact (l01In_no x a b (by omega) w).mono fun e w' ⟨h1, h2⟩ => ⟨h1, h2.symm⟩

theorem within_yes (x a b : Int) (h0 : a ≤ x) (h1 : x ≤ b) (w : World) :
    Calls Try.prog 61 #[.int .i64 x, .int .i64 a, .int .i64 b] w fun e w' => e = .returned (.bool true) ∧ w = w' := by
  go_enter Try.func61, Try.ntmps61
  go_wp2
  go_ret
  exact ⟨rfl, rfl⟩

theorem within_no (x a b : Int) (h : x < a ∨ b < x) (w : World) :
    Calls Try.prog 61 #[.int .i64 x, .int .i64 a, .int .i64 b] w fun e w' => e = .returned (.bool false) ∧ w = w' := by
  by_cases h0 : x < a
  · go_enter Try.func61, Try.ntmps61
    go_wp2
    go_ret
    exact ⟨rfl, rfl⟩
  · have h1 : ¬ x ≤ b := by omega
    have h2 : a ≤ x := by omega
    clear h h0
    go_enter Try.func61, Try.ntmps61
    go_wp2
    go_ret
    exact ⟨rfl, rfl⟩

theorem within_any (x a b : Int) (w : World) :
    Calls Try.prog 61 #[.int .i64 x, .int .i64 a, .int .i64 b] w fun e w' => e = .returned (.bool (decide (a ≤ x) && decide (x ≤ b))) ∧ w = w' := by
  by_cases h : a ≤ x ∧ x ≤ b
  · rw [decide_eq_true h.1, decide_eq_true h.2]
    exact within_yes x a b h.1 h.2 w
  · have : (decide (a ≤ x) && decide (x ≤ b)) = false := by simp; omega
    rw [this]
    exact within_no x a b (by omega) w

/-- The world has only drawn. -/
def Drew (w w' : World) : Prop := ∃ q, w' = w.drewN q

theorem Drew.more {w w' : World} (h : Drew w w') (q : Nat) : Drew w (w'.drewN q) := by
  obtain ⟨k, rfl⟩ := h
  exact ⟨k + q, by simp⟩

theorem Drew.below {w w' : World} (h : Drew w w') : Below w.heap.size w w' := by
  obtain ⟨k, rfl⟩ := h
  exact below_drewN (Below.refl _ _) _

theorem IntsAt.drew {w w' : World} {oa : Option Addr} {n cap : Nat} {zs : List Int} (h : IntsAt w oa n cap zs) (hd : Drew w w') : IntsAt w' oa n cap zs := h.below hd.below

end Go.Proofs.Ytnamneagkjmimaa
