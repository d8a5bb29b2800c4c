/-
  Walks and mathematics of CloneI.
-/
import Derived.Test.YtoalbeiinlcgpaaKIntsMark
import Derived.Test.YtoalbeiinlcgpaaKBase
import Derived.Test.YtoalbeiinlcgpaaKShelf
namespace Go.Proofs.Ytoalbeiinlcgpaa.P5
end Go.Proofs.Ytoalbeiinlcgpaa.P5
namespace Go.Proofs.Ytoalbeiinlcgpaa
open Go.RowKit P1 P5 K
set_option linter.unusedVariables false
set_option linter.unusedSimpArgs false

theorem ints_none16 {w : World} {n cap : Nat} {zs : List Int} (h : IntsAt w none n cap zs) : zs = [] ∧ n = 0 := by
  have : zs = [] := by
    cases zs with
    | nil => rfl
    | cons x r =>
      obtain ⟨b, o, he, _⟩ := h.at_ 0 x rfl
      cases he
  subst this
  exact ⟨rfl, by have := h.len; simpa using this.symm⟩

set_option maxRecDepth 100000 in
theorem cloneInts_v (oa : Option Addr) (n cap : Nat) (zs : List Int) (hn20 : n ≤ 1048576) (w : World) (hat : IntsAt w oa n cap zs) :
    Calls Try.prog 62 #[.slice oa n cap] w fun e w' => ∃ v, e = .returned v ∧ w'.ownsRow w.heap.size 3 1 v n (zs.map icell) ∧ Below w.heap.size w w' := by
  cases oa with
  | none =>
    obtain ⟨rfl, rfl⟩ := ints_none16 hat
    refine (Try.slices_Clone_int_nil 0 cap w).mono ?_
    rintro e w' ⟨rfl, rfl⟩
    exact ⟨_, rfl, World.ownsRow_nil _ _ _ _, Below.refl _ _⟩
  | some ad =>
    by_cases hz : zs = []
    · subst hz
      have : n = 0 := by have := hat.len; simpa using this.symm
      subst this
      refine (Try.slices_Clone_int_zero ad cap w).mono ?_
      rintro e w' ⟨v, rfl, h1, _, h3⟩
      exact ⟨v, rfl, h1, h3⟩
    · obtain ⟨b, o, he⟩ : ∃ b o, (some ad : Option Addr) = some ⟨b, o, none⟩ := by
        cases zs with
        | nil => exact absurd rfl hz
        | cons y r => obtain ⟨b, o, he, _⟩ := hat.at_ 0 y rfl; exact ⟨b, o, he⟩
      cases he
      have hl := hat.len
      refine (Try.slices_Clone_int b o n cap zs w (by omega) (by omega) (fun j hj => ?_)).mono ?_
      · obtain ⟨b', o', he, hc⟩ := hat.at_ j zs[j] (List.getElem?_eq_getElem hj)
        cases he
        rw [hc]
        simp [List.getD_eq_getElem?_getD, List.getElem?_eq_getElem hj]
      · rintro e w' ⟨v, rfl, h1, _, h3⟩
        rw [List.take_of_length_le (by omega)] at h1
        exact ⟨v, rfl, h1, h3⟩

end Go.Proofs.Ytoalbeiinlcgpaa
