/-
  Walks and mathematics of ArgFlat.
-/
import Derived.Test.YthieilmjbefamaaSPlain5
import Derived.Test.YthieilmjbefamaaSFlat
import Derived.Deep.Slices
import Derived.ChangeSame
namespace Go.Proofs.Ythieilmjbefamaa
open Go.RowKit Go.Deep Go.ChangeShapes Go.WideShapes P5 K
set_option linter.unusedVariables false

def fcells (f : FileV) : List Value := [.string ⟨f.name.toArray⟩, .string ⟨f.text.toArray⟩, .int .i64 f.kept]

section
variable {H : Type} {enc : TypeId × Value → H} {P : Program} {w : World} {base : Nat} {spare : Nat → Bool} {held : Bool}

end

end Go.Proofs.Ythieilmjbefamaa
