/-
  Walks and mathematics of WalkClone.
-/
import Derived.Test.YtmllcomppjkhhaaDoorQdBase
import Derived.Test.YtmllcomppjkhhaaDoorQdShelf
namespace Go.Proofs.YtmllcomppjkhhaaDoor
open Go.RowKit P1 K

theorem stringsClone_any (s : ByteArray) (hs : s.size ≤ 281474976710656) (w : World) :
    Calls Tryd.prog 90 #[.string s] w fun e w' => e = .returned (.string s) ∧ Below w.heap.size w w' := by
  go_enter Tryd.func90, Tryd.ntmps90
  go_wp2_with (go_at_call 93; refine (Tryd.stringslite_Clone s _ hs).mono ?_; rintro e w1 ⟨rfl, hb1⟩)
  go_ret
  exact ⟨rfl, hb1⟩

end Go.Proofs.YtmllcomppjkhhaaDoor
