/-
  Walks and mathematics of Flat2.
-/
import Derived.Test.YtmllcomppjkhhaaDoorQbWalk3a
import Derived.Laws.OwnMore
namespace Go.Proofs.YtmllcomppjkhhaaDoor.P5
end Go.Proofs.YtmllcomppjkhhaaDoor.P5
namespace Go.Proofs.YtmllcomppjkhhaaDoor
open Go.RowKit P5 K
set_option linter.unusedVariables false

theorem own_three {w : World} {base : Nat} {e : TypeId} {g n cap : Nat} {xs : List Value} (h : w.ownsRow base e 3 (.slice (some ⟨g, 0, none⟩) n cap) n xs) (j : Nat) (hj : j < n) :
    (∃ u, w.cell? ⟨g, j * 3, none⟩ = some u) ∧ (∃ u, w.cell? ⟨g, j * 3 + 1, none⟩ = some u) ∧ (∃ u, w.cell? ⟨g, j * 3 + 2, none⟩ = some u) := by
  have hl := h.1
  exact ⟨⟨_, by rw [h.cellAt (j * 3) (by omega), List.getElem?_eq_getElem (by omega)]⟩, ⟨_, by rw [h.cellAt (j * 3 + 1) (by omega), List.getElem?_eq_getElem (by omega)]⟩, ⟨_, by rw [h.cellAt (j * 3 + 2) (by omega), List.getElem?_eq_getElem (by omega)]⟩⟩

theorem own_base {w : World} {base base' : Nat} {e : TypeId} {size : Nat} {v : Value} {n : Nat} {xs : List Value} (h : w.ownsRow base e size v n xs) (hb : base' ≤ base) : w.ownsRow base' e size v n xs := by
  obtain ⟨h1, h2⟩ := h
  refine ⟨h1, ?_⟩
  rcases h2 with h2 | ⟨g, cap, cur, hv, hg, r⟩
  · exact Or.inl h2
  · exact Or.inr ⟨g, cap, cur, hv, by omega, r⟩

end Go.Proofs.YtmllcomppjkhhaaDoor
