/-
  Walks and mathematics of Walk5d.
-/
import Derived.Test.YtoalbeiinlcgpaaKWalk5b
import Derived.Test.YtoalbeiinlcgpaaKWalkClone
namespace Go.Proofs.Ytoalbeiinlcgpaa
open Go.RowKit P1 P9 K
set_option linter.unusedVariables false
set_option linter.unusedSimpArgs false

def ContAt (w : World) (k : Int) (s : ByteArray) (v : Value) : Prop :=
  (k = 1 ∧ s = ⟨#[]⟩ ∧ v = .iface 108 (.agg #[])) ∨
  (k = 2 ∧ confOk (confZ (bl s)) = true ∧ ∃ g cap, v = .iface 109 (.slice (some ⟨g, 0, none⟩) s.size cap) ∧ IntsAt w (some ⟨g, 0, none⟩) s.size cap (confZ (bl s))) ∨
  (k = 3 ∧ s.size ≤ 120 ∧ v = .iface 110 (.string s))

theorem ContAt.below {w w' : World} {k : Int} {s : ByteArray} {v : Value} (h : ContAt w k s v) (hb : Below w.heap.size w w') : ContAt w' k s v := by
  rcases h with h | ⟨h1, h2, g, cap, h3, h4⟩ | h
  · exact Or.inl h
  · exact Or.inr (Or.inl ⟨h1, h2, g, cap, h3, h4.below hb⟩)
  · exact Or.inr (Or.inr h)

end Go.Proofs.Ytoalbeiinlcgpaa
