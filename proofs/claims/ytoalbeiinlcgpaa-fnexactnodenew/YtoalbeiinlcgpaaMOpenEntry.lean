/-
  Walks and mathematics of OpenEntry.
-/
import Derived.Test.YtoalbeiinlcgpaaMWalk5e
import Derived.WideShapes
import Derived.Deep.Slices
import Derived.ChangeSame
namespace Go.Proofs.Ytoalbeiinlcgpaa
open Go.RowKit Go.Deep Go.ChangeShapes Go.WideShapes P1 P9 K
set_option linter.unusedVariables false
set_option linter.unusedSimpArgs false

def ecells (e : EntV) : List Value := [.int .i64 e.term, .int .i64 e.kind, .string e.data]

section
variable {H : Type} {enc : TypeId × Value → H} {P : Program} {w : World} {base : Nat} {spare : Nat → Bool} {held : Bool}

end

set_option maxHeartbeats 1000000 in
theorem eqEntry_any (e : EntV) (w : World) :
    Calls Try.prog 78 #[eval e, eval e] w fun r w' => r = .returned (.bool true) ∧ Below w.heap.size w w' := by
  obtain ⟨t, k, s⟩ := e
  simp only [eval]
  go_enter Try.func78, Try.ntmps78
  go_wp2_with fail
  all_goals first | go_quiet (fail) | skip
  go_wp2_with fail
  go_ret
  exact ⟨rfl, ((Below.refl _ _).alloc (Nat.le_refl _) _).alloc (by simp) _⟩

end Go.Proofs.Ytoalbeiinlcgpaa
