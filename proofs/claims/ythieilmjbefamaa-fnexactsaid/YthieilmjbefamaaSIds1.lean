/-
  Walks and mathematics of Ids1.
-/
import Derived.Test.YthieilmjbefamaaSItemsArg
import Derived.Test.YthieilmjbefamaaSEvent1
import Derived.Maps.OwnSet
namespace Go.Proofs.Ythieilmjbefamaa.P14
end Go.Proofs.Ythieilmjbefamaa.P14
namespace Go.Proofs.Ythieilmjbefamaa
open Go.RowKit P14 K
set_option linter.unusedVariables false

abbrev numD (i : Int) : DataW Unit := .lit (.int .i64 i)

structure IdTab (w : World) (b : Nat) (F : Int → Option Int) (m : Nat) (D : DataW Unit) : Prop where
  own : w.ownsMap Try.prog 3 (plainElem Try.prog 3) b m D
  size : Maps.size D = m
  no : ∀ k, F k = none → Maps.has D (.int .i64 k) = false
  yes : ∀ k i, F k = some i → Maps.has D (.int .i64 k) = true ∧ D.atKey (.int .i64 k) (numD 0) = numD i
  wide : ∀ k i, F k = some i → (Lit.int .i64 k).wf = true ∧ (Lit.int .i64 i).wf = true

variable {w w' : World} {b m : Nat} {F : Int → Option Int} {D : DataW Unit}

theorem IdTab.kept (h : IdTab w b F m D) {row : Option Nat} (hg : w.grownBy w' row) (hr : some b ≠ row) : IdTab w' b F m D :=
  ⟨h.own.kept hg hr, h.size, h.no, h.yes, h.wide⟩

theorem IdTab.below (h : IdTab w b F m D) (hb : Below w.heap.size w w') : IdTab w' b F m D := h.kept (row := none) (grown_below hb) (fun e => by cases e)

theorem IdTab.lt (h : IdTab w b F m D) : b < w.heap.size := h.own.lt

end Go.Proofs.Ythieilmjbefamaa
