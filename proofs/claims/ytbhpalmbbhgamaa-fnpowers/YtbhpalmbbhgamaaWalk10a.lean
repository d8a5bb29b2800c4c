/-
  Walks of chapter 10: the laws' own small functions over Items.
-/
import Derived.Test.YtbhpalmbbhgamaaItemsArg
import Derived.Test.YtbhpalmbbhgamaaIntsMark
import Derived.Test.YtbhpalmbbhgamaaQuietIn
import Derived.Deep.RegionHeld3
import Derived.Deep.QuietTactic
import Derived.BigQuiet
namespace Go.Proofs.Ytbhpalmbbhgamaa
open Go.RowKit P5 P9 K
set_option linter.unusedVariables false
set_option linter.unusedSimpArgs false

theorem infoII : (Try.prog.info? 44).map (·.size) = some 2 := by kernel_rfl

theorem infoIIz : (Try.prog.info? 44).map (fun i => (i.zero, i.size, i.bytes)) = some (some (.agg #[.int .i64 0, .int .i64 0]), 2, 16) := by kernel_rfl

theorem own_two {w : World} {base : Nat} {e : TypeId} {g n cap : Nat} {xs : List Value} (h : w.ownsRow base e 2 (.slice (some ⟨g, 0, none⟩) n cap) n xs) (j : Nat) (hj : j < n) :
    (∃ u, w.cell? ⟨g, j * 2, none⟩ = some u) ∧ (∃ u, w.cell? ⟨g, j * 2 + 1, none⟩ = some u) := by
  have hl := h.1
  exact ⟨⟨_, by rw [h.cellAt (j * 2) (by omega), List.getElem?_eq_getElem (by omega)]⟩, ⟨_, by rw [h.cellAt (j * 2 + 1) (by omega), List.getElem?_eq_getElem (by omega)]⟩⟩

/-- The marks k, k + 1 .. of n Items. -/
def marksP (k n : Nat) : List (Int × Int) := (List.range n).map fun i => (((k + 2 * i : Nat) : Int), ((k + 2 * i + 1 : Nat) : Int))

theorem marksP_length (k n : Nat) : (marksP k n).length = n := by simp [marksP]
theorem marksP_at (k n j : Nat) (h : j < n) : (marksP k n)[j]? = some (((k + 2 * j : Nat) : Int), ((k + 2 * j + 1 : Nat) : Int)) := by simp [marksP, h]

end Go.Proofs.Ytbhpalmbbhgamaa
