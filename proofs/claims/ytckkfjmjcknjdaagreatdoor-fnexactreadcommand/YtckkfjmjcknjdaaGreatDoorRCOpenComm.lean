/-
  Walks and mathematics of OpenComm.
-/
import Derived.Test.YtckkfjmjcknjdaaGreatDoorRCInts
import Derived.ChangeSlices
import Derived.WideShapes
import Derived.Test.YtckkfjmjcknjdaaGreatDoorRCEv2
import Derived.Deep.Slices
import Derived.ChangeSame
namespace Go.Proofs.YtckkfjmjcknjdaaGreatDoor.P5
end Go.Proofs.YtckkfjmjcknjdaaGreatDoor.P5
namespace Go.Proofs.YtckkfjmjcknjdaaGreatDoor
open Go.RowKit Go.Deep Go.ChangeShapes Go.WideShapes P5 K
set_option linter.unusedVariables false

abbrev cmval (op tk sq id kd sn us mb dp : Int) (xl xp : Value) (tx : List UInt8) (ds up : Int) : Value := .agg #[.int .i64 op, .int .i64 tk, .int .i64 sq, .int .i64 id, .int .i64 kd, .int .i64 sn, .int .i64 us, .int .i64 mb, xl, .string ⟨tx.toArray⟩, xp, .int .i64 dp, .int .i64 ds, .int .i64 up]

end Go.Proofs.YtckkfjmjcknjdaaGreatDoor
