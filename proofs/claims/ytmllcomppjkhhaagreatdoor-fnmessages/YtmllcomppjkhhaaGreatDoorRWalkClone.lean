/-
  Walks and mathematics of WalkClone.
-/
import Derived.Test.YtmllcomppjkhhaaGreatDoorRBase
import Derived.Test.YtmllcomppjkhhaaGreatDoorRShelf
namespace Go.Proofs.YtmllcomppjkhhaaGreatDoor
open Go.RowKit P1 K

theorem stringsClone_any (s : ByteArray) (hs : s.size ≤ 281474976710656) (w : World) :
    Calls Tryz.prog 90 #[.string s] w fun e w' => e = .returned (.string s) ∧ Below w.heap.size w w' := by
  go_enter Tryz.func90, Tryz.ntmps90
  go_wp2_with (go_at_call 99; refine (Tryz.stringslite_Clone s _ hs).mono ?_; rintro e w1 ⟨rfl, hb1⟩)
  go_ret
  exact ⟨rfl, hb1⟩

end Go.Proofs.YtmllcomppjkhhaaGreatDoor
