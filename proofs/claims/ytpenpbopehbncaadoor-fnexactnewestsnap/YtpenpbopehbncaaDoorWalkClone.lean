/-
  strings.Clone, out of the shelf's contract of what it calls.
-/
import Derived.Test.YtpenpbopehbncaaDoorBase
import Derived.Test.YtpenpbopehbncaaDoorShelf
namespace Go.Proofs.YtpenpbopehbncaaDoor
open Go.RowKit P1 K

theorem stringsClone_any (s : ByteArray) (hs : s.size ≤ 281474976710656) (w : World) :
    Calls Tryd.prog 88 #[.string s] w fun e w' => e = .returned (.string s) ∧ Below w.heap.size w w' := by
  go_enter Tryd.func88, Tryd.ntmps88
  go_wp2_with (go_at_call 103; refine (Tryd.stringslite_Clone s _ hs).mono ?_; rintro e w1 ⟨rfl, hb1⟩)
  go_ret
  exact ⟨rfl, hb1⟩

end Go.Proofs.YtpenpbopehbncaaDoor
