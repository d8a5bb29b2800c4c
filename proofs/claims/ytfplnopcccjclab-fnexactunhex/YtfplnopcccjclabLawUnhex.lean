/-
  The law FnExactUnhex, walked out of the contracts.
-/
import Derived.Test.YtfplnopcccjclabWalk1h
namespace Go.Proofs.Ytfplnopcccjclab
open Go.RowKit P1 K
set_option linter.unusedVariables false

theorem uhVal_form {l : List UInt8} {v : Value} (h : uhVal l v) : ∃ x z, v = .tuple #[.string x, .bool z] := by
  rcases h with ⟨_, h⟩ | ⟨_, h⟩ <;> exact ⟨_, _, h⟩

theorem FnExactUnhex_walk (a0 : ByteArray) (w0 : a0.size ≤ maxLen) (w : World) :
    Calls Try.prog 3 #[.string a0] w fun e w' => e = .returned (.bool true) ∧ Below w.heap.size w w' := by
  unfold maxLen at w0
  by_cases hbig : 1048576 < a0.size
  · go_enter Try.func3, Try.ntmps3
    go_wp2_with fail
    go_ret
    exact ⟨rfl, Below.refl _ _⟩
  · have hs : a0.size ≤ 1048576 := by omega
    clear w0
    by_cases h : a0.size ≤ 40000 ∧ a0.size % 2 = 0
    · obtain ⟨h1, h2⟩ := h
      have H2 := hide h2
      clear h2
      go_enter Try.func3, Try.ntmps3
      go_wp2_with fail
      refine (specUnhex_yes a0 h1 H2.out _).mono ?_
      rintro e w1 ⟨⟨v, rfl, hv⟩, hb1⟩
      obtain ⟨x, z, rfl⟩ := uhVal_form hv
      go_wp2_with fail
      refine (implUnhex_yes a0 h1 H2.out _).mono ?_
      rintro e w2 ⟨⟨v', rfl, hv'⟩, hb2⟩
      obtain rfl := uhVal_one hv hv'
      clear hv hv'
      go_wp2_with fail
      go_ret
      exact ⟨rfl, hb1.trans (hb2.mono hb1.size)⟩
    · have h' : 40000 < a0.size ∨ a0.size % 2 = 1 := by omega
      have H := hide h'
      clear h h'
      go_enter Try.func3, Try.ntmps3
      go_wp2_with (first
        | (go_at_call 4; refine (specUnhex_no a0 hs H.out _).mono ?_; rintro e w1 ⟨rfl, rfl⟩)
        | (go_at_call 5; refine (implUnhex_no a0 hs H.out _).mono ?_; rintro e w2 ⟨rfl, rfl⟩))
      go_ret
      exact ⟨rfl, Below.refl _ _⟩

end Go.Proofs.Ytfplnopcccjclab
