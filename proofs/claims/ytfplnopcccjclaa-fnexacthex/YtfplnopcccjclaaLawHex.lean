/-
  The law FnExactHex, walked out of the contracts.
-/
import Derived.Test.YtfplnopcccjclaaWalk1f
namespace Go.Proofs.Ytfplnopcccjclaa
open Go.RowKit P1 K
set_option linter.unusedVariables false

theorem FnExactHex_walk (a0 : ByteArray) (w0 : a0.size ≤ maxLen) (w : World) :
    Calls Try.prog 7 #[.string a0] w fun e w' => e = .returned (.bool true) ∧ Below w.heap.size w w' := by
  unfold maxLen at w0
  by_cases hbig : 1048576 < a0.size
  · go_enter Try.func7, Try.ntmps7
    go_wp2_with fail
    go_ret
    exact ⟨rfl, Below.refl _ _⟩
  · have hs : a0.size ≤ 1048576 := by omega
    clear w0
    by_cases h : a0.size ≤ 20000
    · go_enter Try.func7, Try.ntmps7
      go_wp2_with (first
        | (go_at_call 16; refine (specHex_yes a0 h _).mono ?_; rintro e w1 ⟨rfl, hb1⟩)
        | (go_at_call 17; refine (implHex_yes a0 h _).mono ?_; rintro e w2 ⟨rfl, hb2⟩))
      go_ret
      exact ⟨rfl, hb1.trans (hb2.mono hb1.size)⟩
    · have h' : 20000 < a0.size := by omega
      go_enter Try.func7, Try.ntmps7
      go_wp2_with (first
        | (go_at_call 16; refine (specHex_no a0 hs h' _).mono ?_; rintro e w1 ⟨rfl, rfl⟩)
        | (go_at_call 17; refine (implHex_no a0 hs h' _).mono ?_; rintro e w2 ⟨rfl, rfl⟩))
      go_ret
      exact ⟨rfl, Below.refl _ _⟩

end Go.Proofs.Ytfplnopcccjclaa
