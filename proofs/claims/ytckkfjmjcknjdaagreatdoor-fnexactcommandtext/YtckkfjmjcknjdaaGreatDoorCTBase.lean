/-
  Walks and mathematics of Base.
-/
import Derived.Test.YtckkfjmjcknjdaaGreatDoorRows
import Derived.Test.YtckkfjmjcknjdaaGreatDoorCTPlain1
import Derived.Test.YtckkfjmjcknjdaaGreatDoorCTKit
namespace Go.Proofs.YtckkfjmjcknjdaaGreatDoor
open Go.RowKit P1 K
set_option linter.unusedVariables false

theorem infoByte : (Tryz.prog.info? 5).map (fun i => (i.zero, i.size, i.bytes)) = some (some (.int .u8 0), 1, 1) := by kernel_rfl

theorem toNat_ofNat_small (x : Nat) (h : x < 256) : (UInt8.ofNat x).toNat = x := by
  simp [UInt8.toNat_ofNat']; omega

end Go.Proofs.YtckkfjmjcknjdaaGreatDoor
