/-
  Walks and mathematics of NdN.
-/
import Derived.Test.YtoalbeiinlcgpaaKNd6
import Derived.Test.YtoalbeiinlcgpaaKNdB
namespace Go.Proofs.Ytoalbeiinlcgpaa.P11
end Go.Proofs.Ytoalbeiinlcgpaa.P11
namespace Go.Proofs.Ytoalbeiinlcgpaa.P18
end Go.Proofs.Ytoalbeiinlcgpaa.P18
namespace Go.Proofs.Ytoalbeiinlcgpaa.P3
end Go.Proofs.Ytoalbeiinlcgpaa.P3
namespace Go.Proofs.Ytoalbeiinlcgpaa.P5
end Go.Proofs.Ytoalbeiinlcgpaa.P5
namespace Go.Proofs.Ytoalbeiinlcgpaa
open Go.RowKit P1 P3 P5 P9 P11 P12 P18 K
set_option linter.unusedVariables false
set_option linter.unusedSimpArgs false

def ndZ : NdV := ⟨0, 0, 0, 0, 0, [], 0, 0, [], 0, 0, 0, [], []⟩

abbrev nilS : NdS := ⟨none, 0, none, 0, none, 0, none, 0⟩

def NfRes (w : World) (r : NdV × Bool) (e : Ending) (w' : World) : Prop := ∃ S, e = .returned (.tuple #[ndval r.1 S, .bool r.2]) ∧ NdOwn w' w.heap.size r.1 S ∧ Below w.heap.size w w'

theorem ndZ_own (w : World) (base : Nat) : NdOwn w base ndZ nilS :=
  ⟨World.ownsRow_nil _ _ _ _, World.ownsRow_nil _ _ _ _, World.ownsRow_nil _ _ _ _, World.ownsRow_nil _ _ _ _, fun k h => by cases h⟩

end Go.Proofs.Ytoalbeiinlcgpaa
