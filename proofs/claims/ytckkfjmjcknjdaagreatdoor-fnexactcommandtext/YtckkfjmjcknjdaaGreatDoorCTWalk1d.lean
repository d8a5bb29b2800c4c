/-
  Walks and mathematics of Walk1d.
-/
import Derived.Test.YtckkfjmjcknjdaaGreatDoorCTWalk1a
import Derived.Deep.RegionWith
import Derived.Deep.RegionHeld3
import Derived.Deep.QuietTactic
import Derived.BigQuiet
import Derived.WalkSmall
import Derived.Lib.Strings
namespace Go.Proofs.YtckkfjmjcknjdaaGreatDoor
open Go.RowKit P1 K
set_option linter.unusedVariables false

theorem l01Var_int (x : Int) (h0 : 0 ≤ x) (h1 : x ≤ 1000000000) (w : World) :
    Calls Tryz.prog 27 #[.int .i64 x] w fun e w' => e = .returned (.string ⟨(varB x.toNat).toArray⟩) ∧ Below w.heap.size w w' := by
  obtain ⟨n, rfl⟩ := Int.eq_ofNat_of_zero_le h0
  exact l01Var_any n (by omega) w

end Go.Proofs.YtckkfjmjcknjdaaGreatDoor
