/-
  The law FnExactReadDecimal, walked out of the contracts; the table of powers of ten as the row lists it.
-/
import Derived.Test.YtfplnopcccjclabDoorWalk1j
import Derived.Lib.LaidTab
import Derived.LaidSub
import Derived.Stop.Joined
import Derived.LaidMore
namespace Go.Proofs.YtfplnopcccjclabDoor
open Go.RowKit P1 K
set_option linter.unusedVariables false

theorem pow_of_laid_read {w : World} (h : laidMetH Tryd.prog Rows.fnExactReadDecimalRow.laid w) : Lib.TabIs Tryd.prog w "internal/strconv.uint64pow10" .u64 Lib.pow10Tab := by
  have h1 := laidMetH.filter (fun x => x.1 == "internal/strconv.uint64pow10") h
  have e : Rows.fnExactReadDecimalRow.laid.filter (fun x => x.1 == "internal/strconv.uint64pow10") = [("internal/strconv.uint64pow10", Lib.tabData .u64 Lib.pow10Tab)] := by kernel_rfl
  rw [e, MakeChecks.laidMetH_plain _ _ _ (by kernel_rfl)] at h1
  exact Lib.tabIs_of_head (rest := []) (g := 2) (by kernel_rfl) (t := 66) (by kernel_rfl) Tryd.underlying66 Tryd.underlying48 (by kernel_rfl) (by kernel_rfl) h1

theorem FnExactReadDecimal_walk (a0 : ByteArray) (w0 : a0.size ≤ maxLen) (w : World) (hL : laidMetH Tryd.prog Rows.fnExactReadDecimalRow.laid w) :
    Calls Tryd.prog 4 #[.string a0] w fun e w' => e = .returned (.bool true) ∧ Below w.heap.size w w' := by
  unfold maxLen at w0
  have HT := hide (pow_of_laid_read hL)
  clear hL
  by_cases hbig : 1048576 < a0.size
  · go_enter Tryd.func4, Tryd.ntmps4
    go_wp2_with fail
    go_ret
    exact ⟨rfl, Below.refl _ _⟩
  · have hs : a0.size ≤ 1048576 := by omega
    clear w0
    cases hr : rdDec (bl a0) with
    | none =>
      have H := hide hr
      clear hr
      go_enter Tryd.func4, Tryd.ntmps4
      go_wp2_with (first
        | (go_at_call 8; refine (specReadDecimal_any a0 hs _).mono ?_; rintro e w1 ⟨rfl, hb1⟩; rw [H.out]; unfold rdVal)
        | (go_at_call 9; refine (implReadDecimal_any a0 hs _ (tab_below HT.out hb1)).mono ?_; rintro e w2 ⟨rfl, hb2⟩; rw [H.out]; unfold rdVal))
      go_ret
      exact ⟨rfl, hb1.trans (hb2.mono hb1.size)⟩
    | some n =>
      have H := hide hr
      clear hr
      go_enter Tryd.func4, Tryd.ntmps4
      go_wp2_with (first
        | (go_at_call 8; refine (specReadDecimal_any a0 hs _).mono ?_; rintro e w1 ⟨rfl, hb1⟩; rw [H.out]; unfold rdVal)
        | (go_at_call 9; refine (implReadDecimal_any a0 hs _ (tab_below HT.out hb1)).mono ?_; rintro e w2 ⟨rfl, hb2⟩; rw [H.out]; unfold rdVal))
      go_ret
      exact ⟨rfl, hb1.trans (hb2.mono hb1.size)⟩

end Go.Proofs.YtfplnopcccjclabDoor
