/-
  Walks of chapter 1: ReadVar of the specification.
-/
import Derived.Test.YtgblmnlomcfjhaaDoorWalk1b
import Derived.Deep.RegionHeld3
import Derived.Deep.QuietTactic
import Derived.BigQuiet
import Derived.WalkSmall
import Derived.Lib.Strings
namespace Go.Proofs.YtgblmnlomcfjhaaDoor
open Go.RowKit P1 K
set_option linter.unusedVariables false

end Go.Proofs.YtgblmnlomcfjhaaDoor
