/-
  Walks and mathematics of Ev4.
-/
import Derived.Test.YtckkfjmjcknjdaaGreatDoorCTPlain1
namespace Go.Proofs.YtckkfjmjcknjdaaGreatDoor.P3
end Go.Proofs.YtckkfjmjcknjdaaGreatDoor.P3
namespace Go.Proofs.YtckkfjmjcknjdaaGreatDoor.P12
open P1 P3 P9 P11
set_option linter.unusedVariables false

def lvAll (zs : List Int) : Bool := zs.all (fun z => inR z 0 100)

theorem lvAll_at {zs : List Int} {j : Nat} {z : Int} (h : zs[j]? = some z) : lvAll (zs.drop j) = (inR z 0 100 && lvAll (zs.drop (j + 1))) := by
  obtain ⟨hj, he⟩ := List.getElem?_eq_some_iff.1 h
  rw [List.drop_eq_getElem_cons hj, he]
  rfl

theorem lvsOk_power {e : EvV} (h : e.kind = 3) (hl : e.levels.length = 5) : lvsOk e = lvAll e.levels := by
  unfold lvsOk lvOk
  rw [if_pos h, decide_eq_true hl, Bool.and_true]
  rfl

theorem lvsOk_few {e : EvV} (h : e.kind = 3) (hl : e.levels.length ≠ 5) : lvsOk e = false := by
  unfold lvsOk lvOk
  rw [if_pos h, decide_eq_false hl, Bool.and_false]

theorem lvsOk_other {e : EvV} (h : e.kind ≠ 3) : lvsOk e = decide (e.levels.length = 0) := by
  unfold lvsOk
  rw [if_neg h, Bool.eq_iff_iff, decide_eq_true_iff, decide_eq_true_iff]
  exact List.length_eq_zero_iff.symm

theorem pvOk_at {id : Int} {zs : List Int} {j : Nat} {z : Int} (h : zs[j]? = some z) : pvOk id (pv zs j) (zs.drop j) = ((inR z 1 1000000 && (decide (z ≠ id) && after (pv zs j) z)) && pvOk id (pv zs (j + 1)) (zs.drop (j + 1))) := by
  obtain ⟨hj, he⟩ := List.getElem?_eq_some_iff.1 h
  rw [List.drop_eq_getElem_cons hj, he]
  simp only [pvOk, pv, h]

theorem pvOk_end (id : Int) (p : Option Int) : pvOk id p [] = true := by cases p <;> rfl

theorem prevOk_create {e : EvV} (h : e.kind = 1) : prevOk e = decide (e.prev.length = 0) := by
  unfold prevOk
  by_cases c : e.prev = []
  · rw [c]
    simp [h, pvOk_end]
  · have : ¬ (e.kind = 1 ↔ e.prev = []) := fun q => c (q.1 h)
    rw [decide_eq_false this, Bool.false_and, Bool.and_false, decide_eq_false (fun q => c (List.length_eq_zero_iff.1 q))]

theorem prevOk_off {e : EvV} (h : e.kind ≠ 1) (hl : ¬ (1 ≤ e.prev.length ∧ e.prev.length ≤ 3)) : prevOk e = false := by
  unfold prevOk
  by_cases c : e.prev.length ≤ 3
  · have : ¬ (e.kind = 1 ↔ e.prev = []) := fun q => h (q.2 (List.length_eq_zero_iff.1 (by omega)))
    rw [decide_eq_false this, Bool.false_and, Bool.and_false]
  · rw [decide_eq_false c, Bool.false_and]

theorem prevOk_in {e : EvV} (h : e.kind ≠ 1) (hl : 1 ≤ e.prev.length ∧ e.prev.length ≤ 3) : prevOk e = pvOk e.id none e.prev := by
  unfold prevOk
  have : (e.kind = 1 ↔ e.prev = []) := ⟨fun q => absurd q h, fun q => by rw [q] at hl; simp at hl⟩
  rw [decide_eq_true hl.2, decide_eq_true this, Bool.true_and, Bool.true_and]

theorem txOk_word {e : EvV} (h : e.kind = 4 ∨ e.kind = 5) : txOk e = decide (e.text.length ≤ 24) := if_pos h

theorem txOk_none {e : EvV} (h : ¬ (e.kind = 4 ∨ e.kind = 5)) : txOk e = decide (e.text.length = 0) := by
  unfold txOk
  rw [if_neg h, Bool.eq_iff_iff, decide_eq_true_iff, decide_eq_true_iff]
  exact List.length_eq_zero_iff.symm

def lastI : Option Int → Int
  | none => 0
  | some z => z

theorem after_last {p : Option Int} {z : Int} (h : 0 ≤ lastI p) : (inR z 1 1000000 && after p z) = inR z (lastI p + 1) 1000000 := by
  cases p with
  | none => simp [after, lastI]
  | some y =>
    simp only [lastI] at h ⊢
    rw [Bool.eq_iff_iff]
    simp only [after, Bool.and_eq_true, inR_iff, decide_eq_true_iff]
    omega

end Go.Proofs.YtckkfjmjcknjdaaGreatDoor.P12
