/-
  Walks and mathematics of Apart.
-/
import Derived.Test.YtckkfjmjcknjdaaSHRowK
import Derived.Test.YtckkfjmjcknjdaaSHBox
import Derived.Maps.OwnSet
namespace Go.Proofs.Ytckkfjmjcknjdaa
open Go.RowKit K
set_option linter.unusedVariables false

theorem own_apart {w : World} {b1 b2 : Nat} {e1 e2 : TypeId} {k1 k2 : Nat} {v1 v2 : Value} {n1 n2 : Nat} {xs1 xs2 : List Value} (h1 : w.ownsRow b1 e1 k1 v1 n1 xs1) (h2 : w.ownsRow b2 e2 k2 v2 n2 xs2) (hne : e1 ≠ e2) : ∀ g, v1.ownBlock = some g → v2.ownBlock ≠ some g := by
  intro g q1 q2
  rcases h1.2 with ⟨rfl, -⟩ | ⟨g1, cap1, cur1, rfl, -, hb1, -⟩
  · cases q1
  · cases q1
    rcases h2.2 with ⟨rfl, -⟩ | ⟨g2, cap2, cur2, rfl, -, hb2, -⟩
    · cases q2
    · cases q2
      rw [hb1] at hb2
      cases hb2
      exact hne rfl

end Go.Proofs.Ytckkfjmjcknjdaa
