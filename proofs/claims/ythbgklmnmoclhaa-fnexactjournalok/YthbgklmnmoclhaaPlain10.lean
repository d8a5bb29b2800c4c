/-
  Plain mathematics of chapter 5: how an entry is read, step by step.
-/
import Derived.Test.YthbgklmnmoclhaaPlain9
namespace Go.Proofs.Ythbgklmnmoclhaa.P9
open P1

/-- Not an entry's text: at each step. -/
theorem rdEntry_nil : rdEntry [] = none := rfl

theorem rdEntry_head {l : List UInt8} (h : l.head? ≠ some 69) : rdEntry l = none := by
  cases l with
  | nil => rfl
  | cons b r =>
    have hb : ¬ b = 69 := fun e => h (by rw [e]; rfl)
    simp only [rdEntry]
    cases h1 : rdGo 5 [] r with
    | none => rfl
    | some p =>
      obtain ⟨i, c1⟩ := p
      simp only
      cases h2 : rdGo 5 [] (r.drop c1) with
      | none => rfl
      | some q =>
        obtain ⟨t, c2⟩ := q
        simp only
        cases h3 : (r.drop c1).drop c2 with
        | nil => rfl
        | cons k d => simp only; rw [if_neg (fun q => hb q.1)]

theorem rdEntry_one {l : List UInt8} (h1 : rdGo 5 [] (l.drop 1) = none) : rdEntry l = none := by
  cases l with
  | nil => rfl
  | cons b r =>
    simp only [List.drop_one, List.tail_cons] at h1
    simp only [rdEntry, h1]

theorem rdEntry_two {l : List UInt8} {i c1 : Nat} (h1 : rdGo 5 [] (l.drop 1) = some (i, c1)) (h2 : rdGo 5 [] (l.drop (1 + c1)) = none) : rdEntry l = none := by
  cases l with
  | nil => rfl
  | cons b r =>
    rw [← List.drop_drop] at h2
    simp only [List.drop_one, List.tail_cons] at h1 h2
    simp only [rdEntry, h1, h2]

theorem rdEntry_short {l : List UInt8} {i c1 t c2 : Nat} (h1 : rdGo 5 [] (l.drop 1) = some (i, c1)) (h2 : rdGo 5 [] (l.drop (1 + c1)) = some (t, c2)) (h3 : l.drop (1 + c1 + c2) = []) : rdEntry l = none := by
  cases l with
  | nil => rfl
  | cons b r =>
    rw [← List.drop_drop, ← List.drop_drop] at h3
    rw [← List.drop_drop] at h2
    simp only [List.drop_one, List.tail_cons] at h1 h2 h3
    simp only [rdEntry, h1, h2, h3]

theorem rdEntry_all {l : List UInt8} {i c1 t c2 : Nat} {k : UInt8} {d : List UInt8} (h1 : rdGo 5 [] (l.drop 1) = some (i, c1)) (h2 : rdGo 5 [] (l.drop (1 + c1)) = some (t, c2)) (h3 : l.drop (1 + c1 + c2) = k :: d) :
    rdEntry l = if l.head? = some 69 ∧ indexOk i = true ∧ entryOk t k.toNat d = true then some (i, t, k.toNat, d) else none := by
  cases l with
  | nil => simp at h3
  | cons b r =>
    rw [← List.drop_drop, ← List.drop_drop] at h3
    rw [← List.drop_drop] at h2
    simp only [List.drop_one, List.tail_cons] at h1 h2 h3
    simp only [rdEntry, h1, h2, h3]
    simp

/-- What the text of what is read comes to. -/
theorem entryB_all {l : List UInt8} {i c1 t c2 : Nat} {k : UInt8} {d : List UInt8} (h1 : rdGo 5 [] (l.drop 1) = some (i, c1)) (h2 : rdGo 5 [] (l.drop (1 + c1)) = some (t, c2)) (h3 : l.drop (1 + c1 + c2) = k :: d) :
    entryB i t k.toNat d = l ↔ l.head? = some 69 := by
  cases l with
  | nil => simp at h3
  | cons b r =>
    rw [← List.drop_drop, ← List.drop_drop] at h3
    rw [← List.drop_drop] at h2
    simp only [List.drop_one, List.tail_cons] at h1 h2 h3
    rw [parts_of_read h1 h2 h3]
    simp

end Go.Proofs.Ythbgklmnmoclhaa.P9
