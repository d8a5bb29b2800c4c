/-
  A region that draws its order, whose operations only read and whose callees may make new memory: one walk, in a class of worlds of our own.
-/
import Derived.BigQuiet
namespace Go.Proofs.YtckkfjmjcknjdaaGreatDoor.K
open Go

/-- A world of which F holds. -/
structure InW (F : World → Prop) where
  w : World
  h : F w

theorem wp_region_in {P : Program} {F : World → Prop} {id : Nat} {Q : Exit → Act → World → Prop} {a : Act} {w : World} {l : List Oper} (hm : P.follows .mixedOrders = true) (hB : Region.lexB .any l.toArray = true) (hF : F w.drew)
    (h : wpQuiet P l.toArray (fun w' => ∃ n : InW F, w' = n.w) (fun a' => ∀ w', (∃ n : InW F, w' = n.w) → Q .normal a' w') l a) : (Code.region id l.toArray true).wp P Q a w :=
  wp_region_quiet (C := fun w' => ∃ n : InW F, w' = n.w) hm hB ⟨⟨_, hF⟩, rfl⟩ (by simpa using h)

end Go.Proofs.YtckkfjmjcknjdaaGreatDoor.K
