/-
  Walks and mathematics of WalkClone.
-/
import Derived.Test.YtoalbeiinlcgpaaKBase
import Derived.Test.YtoalbeiinlcgpaaKShelf
namespace Go.Proofs.Ytoalbeiinlcgpaa
open Go.RowKit P1 K

theorem stringsClone_any (s : ByteArray) (hs : s.size ≤ 281474976710656) (w : World) :
    Calls Try.prog 79 #[.string s] w fun e w' => e = .returned (.string s) ∧ Below w.heap.size w w' := by
  go_enter Try.func79, Try.ntmps79
  go_wp2_with (go_at_call 84; refine (Try.stringslite_Clone s _ hs).mono ?_; rintro e w1 ⟨rfl, hb1⟩)
  go_ret
  exact ⟨rfl, hb1⟩

end Go.Proofs.Ytoalbeiinlcgpaa
