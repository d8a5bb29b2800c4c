/-
  Walks and mathematics of Walk10c.
-/
import Derived.Test.YthieilmjbefamaaQPlain2
import Derived.Test.YthieilmjbefamaaQWalk10b
import Derived.Carry
namespace Go.Proofs.Ythieilmjbefamaa.P11
end Go.Proofs.Ythieilmjbefamaa.P11
namespace Go.Proofs.Ythieilmjbefamaa.P9
end Go.Proofs.Ythieilmjbefamaa.P9
namespace Go.Proofs.Ythieilmjbefamaa
open Go.RowKit P1 P5 P9 P11 P12 P14 K
set_option linter.unusedVariables false
set_option linter.unusedSimpArgs false

def IdsOk (w : World) (b : Nat) (s : List (Int × Int)) : Prop := ∃ D m, m ≤ s.length ∧ IdTab w b (stFind s) m D

theorem IdsOk.below {w w' : World} {b : Nat} {s : List (Int × Int)} (h : IdsOk w b s) (hb : Below w.heap.size w w') : IdsOk w' b s := by
  obtain ⟨D, m, hm, h⟩ := h
  exact ⟨D, m, hm, h.below hb⟩

end Go.Proofs.Ythieilmjbefamaa
