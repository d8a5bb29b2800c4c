/-
  Walks and mathematics of Walk1e.
-/
import Derived.Test.YtckkfjmjcknjdaaGreatDoorCTWalk1a
import Derived.Deep.RegionWith
import Derived.Test.YtckkfjmjcknjdaaGreatDoorCTWalk1d
import Derived.Test.YtckkfjmjcknjdaaGreatDoorCTBase
import Derived.Test.YtckkfjmjcknjdaaGreatDoorCTShelf
namespace Go.Proofs.YtckkfjmjcknjdaaGreatDoor
open Go.RowKit P1 K
set_option linter.unusedVariables false

theorem implShortText_yes (s : ByteArray) (hs : s.size ≤ 20000) (w : World) :
    Calls Tryz.prog 116 #[.string s] w fun e w' => e = .returned (.tuple #[.string (⟨(varB s.size).toArray⟩ ++ s), .bool true]) ∧ Below w.heap.size w w' := by
  have hl := varB_length s.size
  go_enter Tryz.func116, Tryz.ntmps116
  go_wp2_with (go_at_call 115; refine (implVarText_yes s.size (by omega) _).mono ?_; rintro e w1 ⟨rfl, hb1⟩)
  go_ret2
  exact ⟨rfl, hb1⟩

end Go.Proofs.YtckkfjmjcknjdaaGreatDoor
