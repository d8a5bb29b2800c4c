/-
  Walks and mathematics of Plain9, Event1.
-/
import Derived.Lib.ItoaNum
import Derived.Lib.ItoaMem
import Derived.Lib.ItoaLen
namespace Go.Proofs.Ytckkfjmjcknjdaa.P1
end Go.Proofs.Ytckkfjmjcknjdaa.P1
namespace Go.Proofs.Ytckkfjmjcknjdaa.P11
end Go.Proofs.Ytckkfjmjcknjdaa.P11
namespace Go.Proofs.Ytckkfjmjcknjdaa.P3
end Go.Proofs.Ytckkfjmjcknjdaa.P3
namespace Go.Proofs.Ytckkfjmjcknjdaa.P9
open P1

def pv (zs : List Int) : Nat → Option Int
  | 0 => none
  | j + 1 => zs[j]?

end Go.Proofs.Ytckkfjmjcknjdaa.P9

namespace Go.Proofs.Ytckkfjmjcknjdaa.P12
open P1 P3 P9 P11
set_option linter.unusedVariables false

structure EvV where
  id : Int
  kind : Int
  sender : Int
  user : Int
  member : Int
  levels : List Int
  text : List UInt8
  prev : List Int
  depth : Int
deriving DecidableEq

structure EvIn (e : EvV) : Prop where
  id : 1 ≤ e.id ∧ e.id ≤ 1000000
  kind : 1 ≤ e.kind ∧ e.kind ≤ 5
  sender : 1 ≤ e.sender ∧ e.sender ≤ 5
  user : 0 ≤ e.user ∧ e.user ≤ 5
  member : 0 ≤ e.member ∧ e.member ≤ 3
  levels : ∀ z ∈ e.levels, 0 ≤ z ∧ z ≤ 100
  many : e.levels.length ≤ 5
  text : e.text.length ≤ 24
  prev : ∀ z ∈ e.prev, 1 ≤ z ∧ z ≤ 1000000
  prevs : e.prev.length ≤ 3
  depth : 0 ≤ e.depth ∧ e.depth ≤ 1000000

end Go.Proofs.Ytckkfjmjcknjdaa.P12
