/-
  strings.Clone, out of the shelf's contract of what it calls.
-/
import Derived.Test.YtmifhdoaknbkbaaBase
import Derived.Test.YtmifhdoaknbkbaaShelf
namespace Go.Proofs.Ytmifhdoaknbkbaa
open Go.RowKit P1 K

theorem stringsClone_any (s : ByteArray) (hs : s.size ≤ 281474976710656) (w : World) :
    Calls Try.prog 87 #[.string s] w fun e w' => e = .returned (.string s) ∧ Below w.heap.size w w' := by
  go_enter Try.func87, Try.ntmps87
  go_wp2_with (go_at_call 108; refine (Try.stringslite_Clone s _ hs).mono ?_; rintro e w1 ⟨rfl, hb1⟩)
  go_ret
  exact ⟨rfl, hb1⟩

end Go.Proofs.Ytmifhdoaknbkbaa
