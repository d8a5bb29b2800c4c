/-
  Walks and mathematics of Walk10h.
-/
import Derived.Test.YthieilmjbefamaaQEv3
import Derived.Shelf.LaysM
import Derived.Shelf.Strconv.Clone
import Derived.Test.YthieilmjbefamaaProg
import Derived.Test.YthieilmjbefamaaRows
import Derived.Test.YthieilmjbefamaaQPlain5
import Derived.Deep.Cut
namespace Go.Proofs.Ythieilmjbefamaa.P11
end Go.Proofs.Ythieilmjbefamaa.P11
namespace Go.Proofs.Ythieilmjbefamaa.P3
end Go.Proofs.Ythieilmjbefamaa.P3
namespace Go.Proofs.Ythieilmjbefamaa.P9
end Go.Proofs.Ythieilmjbefamaa.P9
namespace Go.Proofs.Ythieilmjbefamaa
open Go.RowKit P1 P3 P5 P9 P11 P12 P14 K
set_option linter.unusedVariables false
set_option linter.unusedSimpArgs false

def noEv : EvV := ⟨0, 0, 0, 0, 0, [], [], [], 0⟩
def evKn (es : List EvV) (id : Int) : EvV × Bool := match evFind es id with | some e => (e, true) | none => (noEv, false)

end Go.Proofs.Ythieilmjbefamaa
