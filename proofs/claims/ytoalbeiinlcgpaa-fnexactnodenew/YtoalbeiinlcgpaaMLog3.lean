/-
  Walks and mathematics of Log3.
-/
import Derived.Test.YtoalbeiinlcgpaaMLog2
import Derived.Test.YtoalbeiinlcgpaaMWalk6a
import Derived.Deep.RegionHeld3
namespace Go.Proofs.Ytoalbeiinlcgpaa
open Go.RowKit P1 P9 K
set_option linter.unusedVariables false
set_option linter.unusedSimpArgs false

theorem cell_block {w w' : World} {p : Addr} (h : w'.heap[p.block]? = w.heap[p.block]?) : w'.cell? p = w.cell? p := by
  unfold World.cell?
  rw [h]

theorem own_form3 {w : World} {base : Nat} {e : TypeId} {size : Nat} {v : Value} {n : Nat} {xs : List Value} (h : w.ownsRow base e size v n xs) : ∃ oa cap, v = .slice oa n cap := by
  rcases h.2 with ⟨rfl, rfl⟩ | ⟨g, cap, cur, rfl, _⟩
  · exact ⟨_, _, rfl⟩
  · exact ⟨_, _, rfl⟩

theorem entsAt_own {w : World} {base : Nat} {e : TypeId} {v : Value} {n : Nat} {es : List EntV} (h : w.ownsRow base e 3 v n (es.flatMap ecells)) : ∃ oa cap, v = .slice oa n cap ∧ EntsAt w oa n cap es := rowsAt_of_own ecells_length (by omega) h

end Go.Proofs.Ytoalbeiinlcgpaa
