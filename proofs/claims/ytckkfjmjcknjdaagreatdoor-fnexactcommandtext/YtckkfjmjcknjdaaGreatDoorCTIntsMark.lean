/-
  Walks and mathematics of IntsMark.
-/
import Derived.Test.YtckkfjmjcknjdaaGreatDoorCTInts
import Derived.Test.YtckkfjmjcknjdaaGreatDoorCTPlain1
namespace Go.Proofs.YtckkfjmjcknjdaaGreatDoor.P5
end Go.Proofs.YtckkfjmjcknjdaaGreatDoor.P5
namespace Go.Proofs.YtckkfjmjcknjdaaGreatDoor
open Go.RowKit P5 P9 K
set_option linter.unusedVariables false
set_option linter.unusedSimpArgs false

theorem wf_small {z : Int} (h0 : -1000000000 ≤ z) (h1 : z ≤ 1000000000000) : (Lit.int .i64 z).wf = true := by
  simp [Lit.wf, IntKind.min, IntKind.max, IntKind.signed, IntKind.bits]
  omega

end Go.Proofs.YtckkfjmjcknjdaaGreatDoor
