/-
  Walks and mathematics of WalkClone.
-/
import Derived.Test.YthieilmjbefamaaRows
import Derived.Test.YthieilmjbefamaaSPlain1
import Derived.Test.YthieilmjbefamaaSKit
import Derived.Test.YthieilmjbefamaaSShelf
namespace Go.Proofs.Ythieilmjbefamaa
open Go.RowKit P1 K

theorem stringsClone_any (s : ByteArray) (hs : s.size ≤ 281474976710656) (w : World) :
    Calls Try.prog 31 #[.string s] w fun e w' => e = .returned (.string s) ∧ Below w.heap.size w w' := by
  go_enter Try.func31, Try.ntmps31
  go_wp2_with (go_at_call 42; refine (Try.stringslite_Clone s _ hs).mono ?_; rintro e w1 ⟨rfl, hb1⟩)
  go_ret
  exact ⟨rfl, hb1⟩

end Go.Proofs.Ythieilmjbefamaa
