/-
  Walks and mathematics of OpenEntry.
-/
import Derived.Test.YtmllcomppjkhhaaGreatDoorRWalk5e
import Derived.WideShapes
import Derived.Deep.Slices
import Derived.ChangeSame
namespace Go.Proofs.YtmllcomppjkhhaaGreatDoor
open Go.RowKit Go.Deep Go.ChangeShapes Go.WideShapes P1 P9 K
set_option linter.unusedVariables false
set_option linter.unusedSimpArgs false

def ecells (e : EntV) : List Value := [.int .i64 e.term, .int .i64 e.kind, .string e.data]

section
variable {H : Type} {enc : TypeId × Value → H} {P : Program} {w : World} {base : Nat} {spare : Nat → Bool} {held : Bool}

end

end Go.Proofs.YtmllcomppjkhhaaGreatDoor
