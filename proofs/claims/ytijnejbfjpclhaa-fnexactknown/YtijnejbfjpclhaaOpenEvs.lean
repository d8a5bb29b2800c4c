/-
  A slice of events that came in as an argument.
-/
import Derived.Test.YtijnejbfjpclhaaEvsArg
import Derived.ChangeSlices
import Derived.WideShapes
namespace Go.Proofs.Ytijnejbfjpclhaa
open Go.RowKit Go.Deep Go.ChangeShapes Go.WideShapes P5 P12 K
set_option linter.unusedVariables false

set_option maxRecDepth 100000 in
theorem events_in {H : Type} {enc : TypeId × Value → H} {W : World} {r : Reach} {b0 : Nat} {v : Value} {d : DataW H} {p : List MemPlace} (hv : Value.okWide Try.prog W r b0 33 v) (h : DataW.Trod enc Try.prog W 0 (fun _ => true) true 33 v d p) :
    ∃ (oa : Option Addr) (n cap : Nat) (es : List EvV), v = .slice oa n cap ∧ EvsAt W oa n cap es := by
  obtain ⟨oa, n, cap, rfl⟩ := okWide_slice Try.underlying33 hv
  obtain ⟨fuel, hf⟩ := h
  obtain ⟨oa', n', cap', es, hcs, hat⟩ := open_events (tS := 9) (tI := 3) (tL := 35) Try.underlying33 Try.underlying61 Try.underlying9 Try.underlying3 Try.underlying35 rfl rfl rfl rfl rfl rfl rfl rfl rfl rfl rfl rfl rfl rfl rfl rfl rfl rfl (by kernel_rfl) (by kernel_rfl) (by kernel_rfl) (by kernel_rfl) hf
  simp [Value.cells] at hcs
  obtain ⟨rfl, rfl, rfl⟩ := hcs
  exact ⟨_, _, _, es, rfl, hat⟩

end Go.Proofs.Ytijnejbfjpclhaa
