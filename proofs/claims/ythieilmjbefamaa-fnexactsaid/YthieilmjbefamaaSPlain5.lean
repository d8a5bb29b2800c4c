/-
  Walks and mathematics of Plain5.
-/
namespace Go.Proofs.Ythieilmjbefamaa.P5

structure FileV where
  name : List UInt8
  text : List UInt8
  kept : Int
deriving DecidableEq

end Go.Proofs.Ythieilmjbefamaa.P5
