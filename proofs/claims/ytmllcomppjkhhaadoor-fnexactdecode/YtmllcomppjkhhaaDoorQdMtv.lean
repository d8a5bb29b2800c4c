/-
  Walks and mathematics of Mtv.
-/
import Derived.Test.YtmllcomppjkhhaaDoorQdMsg1
import Derived.Test.YtmllcomppjkhhaaDoorQdMsgA
namespace Go.Proofs.YtmllcomppjkhhaaDoor.P18
end Go.Proofs.YtmllcomppjkhhaaDoor.P18
namespace Go.Proofs.YtmllcomppjkhhaaDoor.P3
end Go.Proofs.YtmllcomppjkhhaaDoor.P3
namespace Go.Proofs.YtmllcomppjkhhaaDoor
open Go.RowKit P1 P3 P9 P11 P12 P18 K

def mtV (r : Option (List UInt8)) : Value := match r with | some x => .tuple #[.string ⟨x.toArray⟩, .bool true] | none => .tuple #[.string ⟨#[]⟩, .bool false]

end Go.Proofs.YtmllcomppjkhhaaDoor
