/-
  Walks and mathematics of Mtv.
-/
import Derived.Test.YtmllcomppjkhhaaGreatDoorRMsg1
import Derived.Test.YtmllcomppjkhhaaGreatDoorRMsgA
namespace Go.Proofs.YtmllcomppjkhhaaGreatDoor.P18
end Go.Proofs.YtmllcomppjkhhaaGreatDoor.P18
namespace Go.Proofs.YtmllcomppjkhhaaGreatDoor.P3
end Go.Proofs.YtmllcomppjkhhaaGreatDoor.P3
namespace Go.Proofs.YtmllcomppjkhhaaGreatDoor
open Go.RowKit P1 P3 P9 P11 P12 P18 K

def mtV (r : Option (List UInt8)) : Value := match r with | some x => .tuple #[.string ⟨x.toArray⟩, .bool true] | none => .tuple #[.string ⟨#[]⟩, .bool false]

end Go.Proofs.YtmllcomppjkhhaaGreatDoor
