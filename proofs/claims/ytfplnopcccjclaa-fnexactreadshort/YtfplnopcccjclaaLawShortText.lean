/-
  The laws FnExactShortText and FnExactReadShort, walked out of the contracts.
-/
import Derived.Test.YtfplnopcccjclaaWalk1e
namespace Go.Proofs.Ytfplnopcccjclaa
open Go.RowKit P1 K
set_option linter.unusedVariables false

theorem FnExactShortText_walk (a0 : ByteArray) (w0 : a0.size ≤ maxLen) (w : World) :
    Calls Try.prog 5 #[.string a0] w fun e w' => e = .returned (.bool true) ∧ Below w.heap.size w w' := by
  unfold maxLen at w0
  by_cases hbig : 1048576 < a0.size
  · go_enter Try.func5, Try.ntmps5
    go_wp2_with fail
    go_ret
    exact ⟨rfl, Below.refl _ _⟩
  · have hs : a0.size ≤ 1048576 := by omega
    clear w0
    by_cases h : a0.size ≤ 20000
    · go_enter Try.func5, Try.ntmps5
      go_wp2_with (first
        | (go_at_call 12; refine (specShortText_yes a0 h _).mono ?_; rintro e w1 ⟨rfl, hb1⟩)
        | (go_at_call 13; refine (implShortText_yes a0 h _).mono ?_; rintro e w2 ⟨rfl, hb2⟩))
      go_ret
      exact ⟨rfl, hb1.trans (hb2.mono hb1.size)⟩
    · have h' : 20000 < a0.size := by omega
      go_enter Try.func5, Try.ntmps5
      go_wp2_with (first
        | (go_at_call 12; refine (specShortText_no a0 hs h' _).mono ?_; rintro e w1 ⟨rfl, rfl⟩)
        | (go_at_call 13; refine (implShortText_no a0 hs h' _).mono ?_; rintro e w2 ⟨rfl, rfl⟩))
      go_ret
      exact ⟨rfl, Below.refl _ _⟩

theorem rsVal_form (s : ByteArray) (a : Nat) (r : Option (Nat × Nat)) : ∃ x y z, rsVal s a r = .tuple #[.string x, .int .i64 y, .bool z] := by
  unfold rsVal
  split
  · exact ⟨_, _, _, rfl⟩
  · split <;> exact ⟨_, _, _, rfl⟩

theorem FnExactReadShort_walk (a0 : ByteArray) (a1 : Int) (w0 : a0.size ≤ maxLen) (w1 : (Lit.int .i64 a1).wf = true) (w : World) :
    Calls Try.prog 6 #[.string a0, .int .i64 a1] w fun e w' => e = .returned (.bool true) ∧ Below w.heap.size w w' := by
  unfold maxLen at w0
  by_cases hbig : 1048576 < a0.size
  · clear w1
    go_enter Try.func6, Try.ntmps6
    go_wp2_with fail
    go_ret
    exact ⟨rfl, Below.refl _ _⟩
  · have hs : a0.size ≤ 1048576 := by omega
    clear w1 w0
    by_cases h : 0 ≤ a1 ∧ a1 ≤ a0.size
    · obtain ⟨h0, h1⟩ := h
      obtain ⟨n, rfl⟩ := Int.eq_ofNat_of_zero_le h0
      have hn : n ≤ a0.size := by omega
      obtain ⟨x, y, z, hv⟩ := rsVal_form a0 n (rdGo 5 [] ((bl a0).drop n))
      have H := hide hv
      clear hv
      go_enter Try.func6, Try.ntmps6
      go_wp2_with (first
        | (go_at_call 14; refine (specReadShort_any a0 hs n hn _).mono ?_; rintro e w1 ⟨rfl, hb1⟩; rw [H.out])
        | (go_at_call 15; refine (implReadShort_any a0 hs n hn _).mono ?_; rintro e w2 ⟨rfl, hb2⟩; rw [H.out]))
      go_ret
      exact ⟨rfl, hb1.trans (hb2.mono hb1.size)⟩
    · go_enter Try.func6, Try.ntmps6
      go_wp2_with (first
        | (go_at_call 14; refine (specReadShort_off a0 hs a1 (by omega) _).mono ?_; rintro e w1 ⟨rfl, rfl⟩)
        | (go_at_call 15; refine (implReadShort_off a0 hs a1 (by omega) _).mono ?_; rintro e w2 ⟨rfl, rfl⟩))
      go_ret
      exact ⟨rfl, Below.refl _ _⟩

end Go.Proofs.Ytfplnopcccjclaa
