/-
  strings.Clone, out of the shelf's contract of what it calls.
-/
import Derived.Test.YtijnejbfjpclhaaBase
import Derived.Test.YtijnejbfjpclhaaShelf
namespace Go.Proofs.Ytijnejbfjpclhaa
open Go.RowKit P1 K

theorem stringsClone_any (s : ByteArray) (hs : s.size ≤ 281474976710656) (w : World) :
    Calls Try.prog 52 #[.string s] w fun e w' => e = .returned (.string s) ∧ Below w.heap.size w w' := by
  go_enter Try.func52, Try.ntmps52
  go_wp2_with (go_at_call 56; refine (Try.stringslite_Clone s _ hs).mono ?_; rintro e w1 ⟨rfl, hb1⟩)
  go_ret
  exact ⟨rfl, hb1⟩

end Go.Proofs.Ytijnejbfjpclhaa
