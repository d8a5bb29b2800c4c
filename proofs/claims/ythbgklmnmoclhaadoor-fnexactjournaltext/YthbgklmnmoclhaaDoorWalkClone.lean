/-
  strings.Clone, out of the shelf's contract of what it calls.
-/
import Derived.Test.YthbgklmnmoclhaaDoorBase
import Derived.Test.YthbgklmnmoclhaaDoorShelf
namespace Go.Proofs.YthbgklmnmoclhaaDoor
open Go.RowKit P1 K

theorem stringsClone_any (s : ByteArray) (hs : s.size ≤ 281474976710656) (w : World) :
    Calls Tryd.prog 97 #[.string s] w fun e w' => e = .returned (.string s) ∧ Below w.heap.size w w' := by
  go_enter Tryd.func97, Tryd.ntmps97
  go_wp2_with (go_at_call 112; refine (Tryd.stringslite_Clone s _ hs).mono ?_; rintro e w1 ⟨rfl, hb1⟩)
  go_ret
  exact ⟨rfl, hb1⟩

end Go.Proofs.YthbgklmnmoclhaaDoor
