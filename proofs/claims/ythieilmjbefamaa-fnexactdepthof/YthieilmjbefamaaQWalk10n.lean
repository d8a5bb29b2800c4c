/-
  Walks and mathematics of Walk10n.
-/
import Derived.Test.YthieilmjbefamaaQWalk10c
import Derived.Test.YthieilmjbefamaaQWalk10h
namespace Go.Proofs.Ythieilmjbefamaa.P11
end Go.Proofs.Ythieilmjbefamaa.P11
namespace Go.Proofs.Ythieilmjbefamaa.P3
end Go.Proofs.Ythieilmjbefamaa.P3
namespace Go.Proofs.Ythieilmjbefamaa.P9
end Go.Proofs.Ythieilmjbefamaa.P9
namespace Go.Proofs.Ythieilmjbefamaa
open Go.RowKit P1 P3 P5 P9 P11 P12 P14 K
set_option linter.unusedVariables false
set_option linter.unusedSimpArgs false

structure ArgsE (w : World) (oa : Option Addr) (n cap : Nat) (es : List EvV) (ob : Option Addr) (m cb : Nat) (s : List (Int × Int)) : Prop where
  evs : EvsAt w oa n cap es
  its : ItemsAt w ob m cb s
theorem ArgsE.on {w w' : World} {oa : Option Addr} {n cap : Nat} {es : List EvV} {ob : Option Addr} {m cb : Nat} {s : List (Int × Int)} (h : ArgsE w oa n cap es ob m cb s) (hb : Below w.heap.size w w') : ArgsE w' oa n cap es ob m cb s := ⟨h.evs.below hb, h.its.below hb⟩

end Go.Proofs.Ythieilmjbefamaa
