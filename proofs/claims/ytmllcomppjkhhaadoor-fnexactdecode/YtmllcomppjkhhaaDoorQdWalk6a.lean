/-
  Walks and mathematics of Walk6a.
-/
import Derived.Test.YtmllcomppjkhhaaDoorQdLog1
namespace Go.Proofs.YtmllcomppjkhhaaDoor
open Go.RowKit P1 P9 K
set_option linter.unusedVariables false
set_option linter.unusedSimpArgs false

theorem drop_at6 {es : List EntV} {j : Nat} {f : EntV} (h : es[j]? = some f) : es.drop j = f :: es.drop (j + 1) := by
  obtain ⟨hlt, he⟩ := List.getElem?_eq_some_iff.1 h
  rw [List.drop_eq_getElem_cons hlt, he]

end Go.Proofs.YtmllcomppjkhhaaDoor
