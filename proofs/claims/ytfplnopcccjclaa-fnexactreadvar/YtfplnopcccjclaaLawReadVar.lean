/-
  The law FnExactReadVar, walked out of the contracts.
-/
import Derived.Test.YtfplnopcccjclaaWalk1c
import Derived.Test.YtfplnopcccjclaaWalk1d
namespace Go.Proofs.Ytfplnopcccjclaa
open Go.RowKit P1 K
set_option linter.unusedVariables false

theorem FnExactReadVar_walk (a0 : ByteArray) (a1 : Int) (w0 : a0.size ≤ maxLen) (w1 : (Lit.int .i64 a1).wf = true) (w : World) :
    Calls Try.prog 4 #[.string a0, .int .i64 a1] w fun e w' => e = .returned (.bool true) ∧ Below w.heap.size w w' := by
  unfold maxLen at w0
  by_cases hbig : 1048576 < a0.size
  · clear w1
    go_enter Try.func4, Try.ntmps4
    go_wp2_with fail
    go_ret
    exact ⟨rfl, Below.refl _ _⟩
  · have hs : a0.size ≤ 1048576 := by omega
    clear w1 w0
    by_cases h : 0 ≤ a1 ∧ a1 ≤ a0.size
    · obtain ⟨h0, h1⟩ := h
      obtain ⟨n, rfl⟩ := Int.eq_ofNat_of_zero_le h0
      have hn : n ≤ a0.size := by omega
      cases hrd : rdGo 5 [] ((bl a0).drop n) with
      | none =>
        have H := hide hrd
        clear hrd
        go_enter Try.func4, Try.ntmps4
        go_wp2_with (first
          | (go_at_call 10; refine (specReadVar_any a0 hs n hn _).mono ?_; rintro e w1 ⟨rfl, hb1⟩; rw [H.out]; unfold rvVal)
          | (go_at_call 11; refine (implReadVar_any a0 hs n hn _).mono ?_; rintro e w2 ⟨rfl, rfl⟩; rw [H.out]; unfold rvVal))
        go_ret
        exact ⟨rfl, hb1⟩
      | some r =>
        obtain ⟨v, c⟩ := r
        have H := hide hrd
        clear hrd
        go_enter Try.func4, Try.ntmps4
        go_wp2_with (first
          | (go_at_call 10; refine (specReadVar_any a0 hs n hn _).mono ?_; rintro e w1 ⟨rfl, hb1⟩; rw [H.out]; unfold rvVal)
          | (go_at_call 11; refine (implReadVar_any a0 hs n hn _).mono ?_; rintro e w2 ⟨rfl, rfl⟩; rw [H.out]; unfold rvVal))
        go_ret
        exact ⟨rfl, hb1⟩
    · go_enter Try.func4, Try.ntmps4
      go_wp2_with (first
        | (go_at_call 10; refine (specReadVar_off a0 hs a1 (by omega) _).mono ?_; rintro e w1 ⟨rfl, rfl⟩)
        | (go_at_call 11; refine (implReadVar_off a0 hs a1 (by omega) _).mono ?_; rintro e w2 ⟨rfl, rfl⟩))
      go_ret
      exact ⟨rfl, Below.refl _ _⟩

end Go.Proofs.Ytfplnopcccjclaa
