/-
  Walks and mathematics of Mask.
-/
import Derived.Test.YthieilmjbefamaaQOpenInts
import Derived.Test.YthieilmjbefamaaQBox
import Derived.Test.YthieilmjbefamaaQPlain2
namespace Go.Proofs.Ythieilmjbefamaa
open Go.RowKit K P12
set_option linter.unusedVariables false

theorem ints_own {w : World} {base : Nat} {v : Value} {n : Nat} {zs : List Int} (h : w.ownsRow base 3 1 v n (zs.map icell)) (hf : ∀ z ∈ zs, (Lit.int .i64 z).wf = true) : ∃ oa cap, v = .slice oa n cap ∧ IntsAt w oa n cap zs := by
  have hn : zs.length = n := by have := h.1; simpa using this
  rcases h.2 with ⟨rfl, rfl⟩ | ⟨g, cap, cur, rfl, hb, hg, hnc, hcm, hcs, htake⟩
  · have : zs = [] := List.eq_nil_of_length_eq_zero hn
    subst this
    exact ⟨none, 0, rfl, ints_nil w⟩
  · refine ⟨some ⟨g, 0, none⟩, cap, rfl, ⟨hn, hnc, hcm, hf, fun i z hz => ⟨g, 0, rfl, ?_⟩⟩⟩
    have hi := (List.getElem?_eq_some_iff.1 hz).1
    rw [Nat.zero_add, h.cellAt i (by omega)]
    simp [icell, hz]

end Go.Proofs.Ythieilmjbefamaa
