/-
  Walks and mathematics of Walk5a.
-/
import Derived.Test.YthieilmjbefamaaQPlain2
import Derived.Test.YthieilmjbefamaaQItemsArg
import Derived.Test.YthieilmjbefamaaRows
import Derived.Test.YthieilmjbefamaaQPlain5
namespace Go.Proofs.Ythieilmjbefamaa.P9
end Go.Proofs.Ythieilmjbefamaa.P9
namespace Go.Proofs.Ythieilmjbefamaa
open Go.RowKit P1 P9 K
set_option linter.unusedVariables false
set_option linter.unusedSimpArgs false

def Drew (w w' : World) : Prop := ∃ q, w' = w.drewN q

theorem Drew.below {w w' : World} (h : Drew w w') : Below w.heap.size w w' := by
  obtain ⟨k, rfl⟩ := h
  exact below_drewN (Below.refl _ _) _

theorem IntsAt.drew {w w' : World} {oa : Option Addr} {n cap : Nat} {zs : List Int} (h : IntsAt w oa n cap zs) (hd : Drew w w') : IntsAt w' oa n cap zs := h.below hd.below

end Go.Proofs.Ythieilmjbefamaa
