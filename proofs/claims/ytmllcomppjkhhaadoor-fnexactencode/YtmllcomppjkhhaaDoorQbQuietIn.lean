/-
  Walks and mathematics of QuietIn.
-/
import Derived.BigQuiet
namespace Go.Proofs.YtmllcomppjkhhaaDoor.K
open Go

structure InW (F : World → Prop) where
  w : World
  h : F w

theorem wp_region_in {P : Program} {F : World → Prop} {id : Nat} {Q : Exit → Act → World → Prop} {a : Act} {w : World} {l : List Oper} (hm : P.follows .mixedOrders = true) (hB : Region.lexB .any l.toArray = true) (hF : F w.drew)
    (h : wpQuiet P l.toArray (fun w' => ∃ n : InW F, w' = n.w) (fun a' => ∀ w', (∃ n : InW F, w' = n.w) → Q .normal a' w') l a) : (Code.region id l.toArray true).wp P Q a w :=
  wp_region_quiet (C := fun w' => ∃ n : InW F, w' = n.w) hm hB ⟨⟨_, hF⟩, rfl⟩ (by simpa using h)

end Go.Proofs.YtmllcomppjkhhaaDoor.K
