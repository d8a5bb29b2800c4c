/-
  A slice of Items that came in as an argument.
-/
import Derived.Test.YtijnejbfjpclhaaItemsArg
import Derived.ChangeSlices
import Derived.WideShapes
namespace Go.Proofs.Ytijnejbfjpclhaa
open Go.RowKit Go.Deep Go.ChangeShapes Go.WideShapes K
set_option linter.unusedVariables false

set_option maxRecDepth 100000 in
theorem items_in {H : Type} {enc : TypeId × Value → H} {W : World} {r : Reach} {b0 : Nat} {v : Value} {d : DataW H} {p : List MemPlace} (hv : Value.okWide Try.prog W r b0 22 v) (h : DataW.Trod enc Try.prog W 0 (fun _ => true) true 22 v d p) :
    ∃ (oa : Option Addr) (n cap : Nat) (s : List (Int × Int)), v = .slice oa n cap ∧ ItemsAt W oa n cap s ∧ ∀ y ∈ s, WideI y := by
  obtain ⟨oa, n, cap, rfl⟩ := okWide_slice Try.underlying22 hv
  obtain ⟨fuel, hf⟩ := h
  obtain ⟨oa', n', cap', s, hcs, hat, hw⟩ := open_items (tI := 3) Try.underlying22 Try.underlying52 Try.underlying3 rfl rfl rfl rfl (by kernel_rfl) (by kernel_rfl) hf
  simp [Value.cells] at hcs
  obtain ⟨rfl, rfl, rfl⟩ := hcs
  exact ⟨_, _, _, s, rfl, hat, hw⟩

end Go.Proofs.Ytijnejbfjpclhaa
