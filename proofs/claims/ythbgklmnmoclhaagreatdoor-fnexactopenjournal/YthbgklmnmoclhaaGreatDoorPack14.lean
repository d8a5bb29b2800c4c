/-
  Plain mathematics of chapter 7: journals, their names, their texts, what is read of a text.
  Plain mathematics of chapter 7: pairs of numbers within limits; what the records so far make of a journal.
-/
import Derived.Test.YthbgklmnmoclhaaGreatDoorPack3
import Derived.Test.YthbgklmnmoclhaaGreatDoorPack2
import Derived.Test.YthbgklmnmoclhaaGreatDoorPack4
import Derived.Test.YthbgklmnmoclhaaGreatDoorPack13
namespace Go.Proofs.YthbgklmnmoclhaaGreatDoor
open P1 P3 P9
set_option linter.unusedVariables false

/-- A journal. -/
structure JnV where
  number : Int
  term : Int
  vote : Int
  s : Int
  u : Int
  es : List EntV

def jnIn (n : Int) : Bool := decide (0 ≤ n ∧ n ≤ 999)
def jnName (n : Int) : List UInt8 := if jnIn n = true then 106 :: Lib.decDigits n.toNat else []
def jnHd (t v : Int) : Bool := decide (0 ≤ t ∧ t ≤ 100000 ∧ 0 ≤ v ∧ v ≤ 4)
def JnV.ok (j : JnV) : Bool := jnIn j.number && (jnHd j.term j.vote && lgOk j.s j.u j.es)

theorem jnIn_iff {n : Int} : jnIn n = true ↔ 0 ≤ n ∧ n ≤ 999 := by simp [jnIn]
theorem jnHd_iff {t v : Int} : jnHd t v = true ↔ 0 ≤ t ∧ t ≤ 100000 ∧ 0 ≤ v ∧ v ≤ 4 := by simp [jnHd]

/-- The number of a journal's name, -1 of any other text. -/
def jnNumber (l : List UInt8) : Int :=
  if l.length < 2 then -1 else
    match rdDec (l.drop 1) with
    | none => -1
    | some n => if jnName n = l then (n : Int) else -1

theorem dec_room (n : Nat) (h : n ≤ 999) : (Lib.decDigits n).length ≤ 10 := dec_len10 9 n (by omega)

theorem jnName_length (n : Int) : (jnName n).length ≤ 11 := by
  unfold jnName
  split
  · rename_i h
    have h := jnIn_iff.1 h
    have := dec_room n.toNat (by omega)
    simp only [List.length_cons]
    omega
  · simp

theorem jnNumber_range (l : List UInt8) : -1 ≤ jnNumber l ∧ jnNumber l ≤ 999 := by
  unfold jnNumber
  split
  · omega
  · rename_i h2
    split
    · omega
    · rename_i n hn
      split
      · rename_i he
        by_cases hi : jnIn (n : Int) = true
        · have := jnIn_iff.1 hi
          omega
        · unfold jnName at he
          rw [if_neg hi] at he
          rw [← he] at h2
          simp at h2
      · omega

/-- The frames of a beginning, of a term and a vote, of entries behind an index. -/
def twoB (x : UInt8) (a b : Nat) : List UInt8 := x :: (varB a ++ varB b)
def entB (i : Int) (e : EntV) : List UInt8 := entryB i.toNat e.term.toNat e.kind.toNat (bl e.data)
def hardB (t v : Int) : List UInt8 := frameL (twoB 72 t.toNat v.toNat)
def headB (s u : Int) : List UInt8 := frameL (twoB 66 s.toNat u.toNat)
def framesB : Int → List EntV → List UInt8
  | _, [] => []
  | s, e :: r => frameL (entB (s + 1) e) ++ framesB (s + 1) r
def JnV.text (j : JnV) : List UInt8 := headB j.s j.u ++ hardB j.term j.vote ++ framesB j.s j.es
def JnV.writes (j : JnV) : Bool := j.ok && decide (j.text.length ≤ 20000)

theorem varB_room (n : Nat) : (varB n).length ≤ 10 := varB_length n

theorem twoB_length (x : UInt8) (a b : Nat) : 1 ≤ (twoB x a b).length ∧ (twoB x a b).length ≤ 21 := by
  have h1 := varB_room a
  have h2 := varB_room b
  simp only [twoB, List.length_cons, List.length_append]
  omega

theorem entB_length {i : Int} {e : EntV} (h : e.ok = true) : 1 ≤ (entB i e).length ∧ (entB i e).length ≤ 142 := by
  unfold EntV.ok entryOk at h
  simp only [Bool.and_eq_true] at h
  have h3 := (contOk_len h.1).1
  have h1 := varB_room i.toNat
  have h2 := varB_room e.term.toNat
  simp only [entB, entryB, List.length_cons, List.length_append]
  omega

theorem upE_ok : ∀ (es : List EntV) (t : Int), upE t es = true → ∀ e ∈ es, e.ok = true
  | [], _, _, e, he => by simp at he
  | a :: r, t, h, e, he => by
    simp only [upE_cons, Bool.and_eq_true] at h
    rcases List.mem_cons.1 he with rfl | he
    · exact h.1
    · exact upE_ok r _ h.2.2 e he

theorem lgOk_ok {s u : Int} {es : List EntV} (h : lgOk s u es = true) : ∀ e ∈ es, e.ok = true := by
  unfold lgOk at h
  simp only [Bool.and_eq_true] at h
  exact upE_ok es u h.2

theorem lgOk_rm {s u : Int} {es : List EntV} (h : lgOk s u es = true) : 0 ≤ s ∧ s ≤ 1000000 ∧ 0 ≤ u ∧ u ≤ 100000 ∧ es.length ≤ 60 ∧ s + es.length ≤ 1000000 := by
  unfold lgOk at h
  simp only [Bool.and_eq_true] at h
  simpa [lgHd] using h.1

theorem JnV.parts {j : JnV} (h : j.ok = true) : (0 ≤ j.number ∧ j.number ≤ 999) ∧ (0 ≤ j.term ∧ j.term ≤ 100000 ∧ 0 ≤ j.vote ∧ j.vote ≤ 4) ∧ lgOk j.s j.u j.es = true := by
  unfold JnV.ok at h
  simp only [Bool.and_eq_true] at h
  exact ⟨jnIn_iff.1 h.1, jnHd_iff.1 h.2.1, h.2.2⟩

theorem ok_data {e : EntV} (h : e.ok = true) : e.data.size ≤ 120 := by
  unfold EntV.ok entryOk at h
  simp only [Bool.and_eq_true] at h
  have h3 := (contOk_len h.1).1
  rw [bl_length] at h3
  exact h3

theorem frameL_room {l : List UInt8} {k : Nat} (h : l.length ≤ k) : (frameL l).length ≤ k + 14 := by
  have := varB_room l.length
  rw [frameL_length]
  omega

theorem framesB_length : ∀ (es : List EntV) (s : Int), (∀ e ∈ es, e.ok = true) → (framesB s es).length ≤ 156 * es.length
  | [], _, _ => Nat.zero_le _
  | e :: r, s, h => by
    have h1 := framesB_length r (s + 1) (fun x hx => h x (List.mem_cons_of_mem _ hx))
    have h2 := frameL_room (entB_length (i := s + 1) (h e (by simp))).2
    simp only [framesB, List.length_append, List.length_cons]
    omega

theorem framesB_append : ∀ (xs ys : List EntV) (s : Int), framesB s (xs ++ ys) = framesB s xs ++ framesB (s + xs.length) ys
  | [], ys, s => by simp [framesB]
  | e :: r, ys, s => by
    simp only [List.cons_append, framesB, framesB_append r ys (s + 1), List.append_assoc, List.length_cons]
    congr 3
    push_cast
    omega

theorem text_room {j : JnV} (h : lgOk j.s j.u j.es = true) : j.text.length ≤ 9430 := by
  have h1 := framesB_length j.es j.s (lgOk_ok h)
  have h2 := (lgOk_rm h).2.2.2.2.1
  have h3 := frameL_room (twoB_length 66 j.s.toNat j.u.toNat).2
  have h4 := frameL_room (twoB_length 72 j.term.toNat j.vote.toNat).2
  simp only [JnV.text, headB, hardB, List.length_append]
  omega

/-- A letter and two numbers. -/
def rdTwo (x : UInt8) (l : List UInt8) : Option (Nat × Nat) :=
  match rdGo 5 [] (l.drop 1) with
  | none => none
  | some (a, c) =>
    match rdGo 5 [] (l.drop (1 + c)) with
    | none => none
    | some (b, c') => if twoB x a b = l then some (a, b) else none

theorem rdTwo_small {x : UInt8} {l : List UInt8} {a b : Nat} (h : rdTwo x l = some (a, b)) : a ≤ 1000000000 ∧ b ≤ 1000000000 := by
  unfold rdTwo at h
  cases h1 : rdGo 5 [] (l.drop 1) with
  | none => rw [h1] at h; cases h
  | some p =>
    obtain ⟨a', c⟩ := p
    rw [h1] at h
    dsimp only at h
    cases h2 : rdGo 5 [] (l.drop (1 + c)) with
    | none => rw [h2] at h; cases h
    | some q =>
      obtain ⟨b', c'⟩ := q
      rw [h2] at h
      dsimp only at h
      split at h
      · cases h
        exact ⟨(rdGo_some 5 [] _ _ _ h1).1, (rdGo_some 5 [] _ _ _ h2).1⟩
      · cases h

/-- One more record. -/
def jnMore (j : JnV) (l : List UInt8) : Option JnV :=
  match rdTwo 72 l with
  | some (t, v) => if jnHd t v = true then some { j with term := t, vote := v } else none
  | none =>
    match rdEntry l with
    | none => none
    | some (i, t, k, d) => if putOk j.s j.u j.es i ⟨t, k, ⟨d.toArray⟩⟩ = true then some { j with es := putL j.s j.es i ⟨t, k, ⟨d.toArray⟩⟩ } else none

def jnFold : JnV → Nat → List (List UInt8) → JnV × Nat
  | j, e, [] => (j, e)
  | j, e, x :: r =>
    match jnMore j x with
    | none => (j, e)
    | some j' => jnFold j' (e + (frameL x).length) r

/-- What a journal's file tells. -/
def rdJn (n : Int) (l : List UInt8) : Option (JnV × Nat) :=
  if jnIn n = true then
    match (unframeL l).1 with
    | [] => none
    | x :: r =>
      match rdTwo 66 x with
      | none => none
      | some (a, b) => if lgOk a b [] = true then some (jnFold ⟨n, 0, 0, a, b, []⟩ (frameL x).length r) else none
  else none

theorem putL_ok {s u : Int} {es : List EntV} {ix : Int} {e : EntV} (h : putOk s u es ix e = true) : lgOk s u (putL s es ix e) = true := by
  unfold putOk at h
  simp only [Bool.and_eq_true] at h
  exact h.2.2

/-- What is read stays right. -/
theorem jnMore_ok {j j' : JnV} {l : List UInt8} (h : jnMore j l = some j') (hj : lgOk j.s j.u j.es = true) (hh : jnHd j.term j.vote = true) : lgOk j'.s j'.u j'.es = true ∧ jnHd j'.term j'.vote = true ∧ j'.number = j.number := by
  unfold jnMore at h
  split at h
  · split at h
    · rename_i hd
      cases h
      exact ⟨hj, hd, rfl⟩
    · cases h
  · split at h
    · cases h
    · split at h
      · rename_i hp
        cases h
        exact ⟨putL_ok hp, hh, rfl⟩
      · cases h

theorem jnFold_ok : ∀ (xs : List (List UInt8)) (j : JnV) (e : Nat), lgOk j.s j.u j.es = true → jnHd j.term j.vote = true → lgOk (jnFold j e xs).1.s (jnFold j e xs).1.u (jnFold j e xs).1.es = true ∧ jnHd (jnFold j e xs).1.term (jnFold j e xs).1.vote = true ∧ (jnFold j e xs).1.number = j.number
  | [], j, e, h1, h2 => ⟨h1, h2, rfl⟩
  | x :: r, j, e, h1, h2 => by
    unfold jnFold
    cases hm : jnMore j x with
    | none => exact ⟨h1, h2, rfl⟩
    | some j' =>
      have h3 := jnMore_ok hm h1 h2
      have h4 := jnFold_ok r j' (e + (frameL x).length) h3.1 h3.2.1
      exact ⟨h4.1, h4.2.1, h4.2.2.trans h3.2.2⟩

theorem rdJn_ok {n : Int} {l : List UInt8} {j : JnV} {e : Nat} (h : rdJn n l = some (j, e)) : j.ok = true ∧ j.number = n := by
  unfold rdJn at h
  split at h
  · rename_i hn
    split at h
    · cases h
    · rename_i x r _
      split at h
      · cases h
      · rename_i a b _
        split at h
        · rename_i hl
          have h1 := Option.some.inj h
          have h2 := jnFold_ok r ⟨n, 0, 0, (a : Int), (b : Int), []⟩ (frameL x).length hl (show jnHd 0 0 = true by decide)
          rw [h1] at h2
          refine ⟨?_, h2.2.2⟩
          unfold JnV.ok
          rw [h2.2.2, hn, h2.2.1, h2.1]
          rfl
        · cases h
  · cases h

end Go.Proofs.YthbgklmnmoclhaaGreatDoor

namespace Go.Proofs.YthbgklmnmoclhaaGreatDoor
open P1 P3 P9
set_option linter.unusedVariables false

theorem rdTwo_one {x : UInt8} {l : List UInt8} (h1 : rdGo 5 [] (l.drop 1) = none) : rdTwo x l = none := by
  unfold rdTwo; rw [h1]
theorem rdTwo_two {x : UInt8} {l : List UInt8} {a c : Nat} (h1 : rdGo 5 [] (l.drop 1) = some (a, c)) (h2 : rdGo 5 [] (l.drop (1 + c)) = none) : rdTwo x l = none := by
  unfold rdTwo; rw [h1]; simp only; rw [h2]
theorem rdTwo_head {x : UInt8} {l : List UInt8} (h : l.head? ≠ some x) : rdTwo x l = none := by
  cases h1 : rdGo 5 [] (l.drop 1) with
  | none => exact rdTwo_one h1
  | some p =>
    obtain ⟨a, c⟩ := p
    cases h2 : rdGo 5 [] (l.drop (1 + c)) with
    | none => exact rdTwo_two h1 h2
    | some q =>
      obtain ⟨b, c'⟩ := q
      unfold rdTwo; rw [h1]; simp only; rw [h2]; simp only
      rw [if_neg (fun e => h (by rw [← e]; rfl))]

theorem rdTwo_all {x : UInt8} {l : List UInt8} {a c b c' : Nat} (h1 : rdGo 5 [] (l.drop 1) = some (a, c)) (h2 : rdGo 5 [] (l.drop (1 + c)) = some (b, c')) (hh : l.head? = some x) :
    rdTwo x l = if 1 + c + c' = l.length then some (a, b) else none := by
  cases l with
  | nil => cases hh
  | cons y r =>
    have hy : y = x := by simpa using hh
    subst hy
    rw [← List.drop_drop] at h2
    simp only [List.drop_one, List.tail_cons] at h1 h2
    have e1 := rdGo_is5 h1
    have e2 := rdGo_is5 h2
    have b1 := rdGo_some 5 [] _ _ _ h1
    have b2 := rdGo_some 5 [] _ _ _ h2
    rw [List.length_drop] at b2
    simp only [List.length_nil] at b1 b2
    have e3 : varB a ++ varB b = r.take (c + c') := by
      rw [e1, e2, List.take_add]
    unfold rdTwo
    rw [show (y :: r).drop 1 = r from rfl, h1]
    simp only
    rw [← List.drop_drop, show (y :: r).drop 1 = r from rfl, h2]
    simp only
    unfold twoB
    rw [e3]
    by_cases hc : 1 + c + c' = (y :: r).length
    · rw [if_pos hc, if_pos]
      rw [List.take_of_length_le (by simp only [List.length_cons] at hc; omega)]
    · rw [if_neg hc, if_neg]
      intro e
      have := congrArg List.length e
      simp only [List.length_cons, List.length_take] at this hc
      omega

/-- A letter and two numbers within their limits. -/
def rdPair (x : UInt8) (l : List UInt8) (m1 m2 : Nat) : Option (Nat × Nat) :=
  match rdTwo x l with
  | none => none
  | some (a, b) => if a ≤ m1 ∧ b ≤ m2 then some (a, b) else none

theorem rdPair_none {x : UInt8} {l : List UInt8} {m1 m2 : Nat} (h : rdTwo x l = none) : rdPair x l m1 m2 = none := by unfold rdPair; rw [h]
theorem rdPair_some {x : UInt8} {l : List UInt8} {m1 m2 a b : Nat} (h : rdPair x l m1 m2 = some (a, b)) : rdTwo x l = some (a, b) ∧ a ≤ m1 ∧ b ≤ m2 := by
  unfold rdPair at h
  cases h1 : rdTwo x l with
  | none => rw [h1] at h; cases h
  | some p =>
    obtain ⟨a', b'⟩ := p
    rw [h1] at h
    simp only at h
    split at h
    · rename_i hc
      cases h
      exact ⟨rfl, hc⟩
    · cases h

theorem rdPair_first {x : UInt8} {l : List UInt8} {m1 m2 a c : Nat} (h1 : rdGo 5 [] (l.drop 1) = some (a, c)) (hm : m1 < a) : rdPair x l m1 m2 = none := by
  cases h : rdPair x l m1 m2 with
  | none => rfl
  | some p =>
    obtain ⟨a', b'⟩ := p
    obtain ⟨h2, h3, -⟩ := rdPair_some h
    unfold rdTwo at h2
    rw [h1] at h2
    simp only at h2
    split at h2
    · cases h2
    · split at h2
      · cases h2
        omega
      · cases h2

theorem rdPair_all {x : UInt8} {l : List UInt8} {m1 m2 a c b c' : Nat} (h1 : rdGo 5 [] (l.drop 1) = some (a, c)) (h2 : rdGo 5 [] (l.drop (1 + c)) = some (b, c')) (hh : l.head? = some x) (ha : a ≤ m1) :
    rdPair x l m1 m2 = if b ≤ m2 ∧ 1 + c + c' = l.length then some (a, b) else none := by
  unfold rdPair
  rw [rdTwo_all h1 h2 hh]
  by_cases hc : 1 + c + c' = l.length
  · rw [if_pos hc]
    simp only
    by_cases hb : b ≤ m2
    · rw [if_pos ⟨ha, hb⟩, if_pos ⟨hb, hc⟩]
    · rw [if_neg (fun h => hb h.2), if_neg (fun h => hb h.1)]
  · rw [if_neg hc, if_neg (fun h => hc h.2)]

theorem rdTwo_is {x : UInt8} {l : List UInt8} {p : Nat × Nat} (h : rdTwo x l = some p) : l.head? = some x := by
  by_cases hh : l.head? = some x
  · exact hh
  · rw [rdTwo_head hh] at h
    cases h

theorem jnHd_nat (t v : Nat) : jnHd t v = decide (t ≤ 100000 ∧ v ≤ 4) := by
  unfold jnHd
  congr 1
  apply propext
  omega

/-- An entry put into a journal. -/
def jnEntry (j : JnV) (l : List UInt8) : Option JnV :=
  match rdEntry l with
  | none => none
  | some (i, t, k, d) => if putOk j.s j.u j.es i ⟨t, k, ⟨d.toArray⟩⟩ = true then some { j with es := putL j.s j.es i ⟨t, k, ⟨d.toArray⟩⟩ } else none

theorem jnMore_pair {j : JnV} {l : List UInt8} {t v : Nat} (h : rdPair 72 l 100000 4 = some (t, v)) : jnMore j l = some { j with term := t, vote := v } := by
  obtain ⟨h1, h2, h3⟩ := rdPair_some h
  unfold jnMore
  rw [h1]
  simp only
  rw [if_pos (by rw [jnHd_nat]; simp; omega)]

theorem jnMore_other {j : JnV} {l : List UInt8} (h : rdPair 72 l 100000 4 = none) : jnMore j l = jnEntry j l := by
  cases h1 : rdTwo 72 l with
  | none => unfold jnMore; rw [h1]; rfl
  | some p =>
    obtain ⟨t, v⟩ := p
    have hh := rdTwo_is h1
    have h2 : ¬ (t ≤ 100000 ∧ v ≤ 4) := fun hc => by
      unfold rdPair at h
      rw [h1] at h
      simp only at h
      rw [if_pos hc] at h
      cases h
    unfold jnMore jnEntry
    rw [h1, rdEntry_head (by rw [hh]; decide)]
    simp only
    rw [if_neg (by rw [jnHd_nat]; simpa using h2)]

/-- The records so far went on. -/
def jnGoes : JnV → List (List UInt8) → Option JnV
  | j, [] => some j
  | j, x :: r => match jnMore j x with | none => none | some j' => jnGoes j' r
def jnBegin (n : Int) (x : List UInt8) : Option JnV := match rdPair 66 x 1000000 100000 with | none => none | some (a, b) => some ⟨n, 0, 0, a, b, []⟩
def jnAt (n : Int) : List (List UInt8) → Option JnV
  | [] => some ⟨n, 0, 0, 0, 0, []⟩
  | x :: r => match jnBegin n x with | none => none | some j => jnGoes j r

theorem jnGoes_snoc : ∀ (xs : List (List UInt8)) (j j' : JnV) (x : List UInt8), jnGoes j xs = some j' → jnGoes j (xs ++ [x]) = jnMore j' x
  | [], j, j', x, h => by
    cases h
    simp only [List.nil_append, jnGoes]
    cases jnMore j x <;> rfl
  | y :: r, j, j', x, h => by
    simp only [jnGoes] at h
    simp only [List.cons_append, jnGoes]
    cases hm : jnMore j y with
    | none => rw [hm] at h; cases h
    | some j1 =>
      rw [hm] at h
      exact jnGoes_snoc r j1 j' x h

theorem jnAt_first (n : Int) (x : List UInt8) : jnAt n [x] = jnBegin n x := by
  simp only [jnAt]
  cases jnBegin n x <;> rfl

theorem jnAt_snoc {n : Int} {xs : List (List UInt8)} {j : JnV} (h : jnAt n xs = some j) (hne : xs ≠ []) (x : List UInt8) : jnAt n (xs ++ [x]) = jnMore j x := by
  cases xs with
  | nil => exact absurd rfl hne
  | cons y r =>
    simp only [jnAt] at h
    simp only [List.cons_append, jnAt]
    cases hm : jnBegin n y with
    | none => rw [hm] at h; cases h
    | some j1 =>
      rw [hm] at h
      exact jnGoes_snoc r j1 j x h

def flen (xs : List (List UInt8)) : Nat := (xs.map (fun x => (frameL x).length)).sum

theorem jnFold_goes : ∀ (xs ys : List (List UInt8)) (j j' : JnV) (e : Nat), jnGoes j xs = some j' → jnFold j e (xs ++ ys) = jnFold j' (e + flen xs) ys
  | [], ys, j, j', e, h => by
    cases h
    simp [flen]
  | x :: r, ys, j, j', e, h => by
    simp only [jnGoes] at h
    simp only [List.cons_append, jnFold]
    cases hm : jnMore j x with
    | none => rw [hm] at h; cases h
    | some j1 =>
      rw [hm] at h
      simp only
      rw [jnFold_goes r ys j1 j' _ h]
      simp only [flen, List.map_cons, List.sum_cons]
      congr 1
      omega

theorem lgOk_nil (a b : Nat) : lgOk a b [] = decide (a ≤ 1000000 ∧ b ≤ 100000) := by
  unfold lgOk lgHd upE
  rw [Bool.and_true]
  congr 1
  apply propext
  simp only [List.length_nil]
  omega

/-- What is read, where all records so far went on and more stand behind. -/
theorem rdJn_more {n : Int} {l : List UInt8} {xs ys : List (List UInt8)} {e : Nat} {j : JnV} (hn : jnIn n = true) (hu : unframeL l = (xs ++ ys, e)) (hj : jnAt n xs = some j) (hne : xs ≠ []) : rdJn n l = some (jnFold j (flen xs) ys) := by
  cases xs with
  | nil => exact absurd rfl hne
  | cons x r =>
    simp only [jnAt] at hj
    cases hb : jnBegin n x with
    | none => rw [hb] at hj; cases hj
    | some j1 =>
      rw [hb] at hj
      simp only at hj
      unfold jnBegin at hb
      cases hp : rdPair 66 x 1000000 100000 with
      | none => rw [hp] at hb; cases hb
      | some p =>
        obtain ⟨a, b⟩ := p
        rw [hp] at hb
        simp only [Option.some.injEq] at hb
        subst hb
        obtain ⟨h1, h2, h3⟩ := rdPair_some hp
        unfold rdJn
        rw [if_pos hn, hu]
        simp only [List.cons_append]
        rw [h1]
        simp only
        rw [if_pos (by rw [lgOk_nil]; simp; omega), jnFold_goes r ys _ j _ hj]
        simp only [flen, List.map_cons, List.sum_cons]

theorem rdJn_first {n : Int} {l : List UInt8} {x : List UInt8} {ys : List (List UInt8)} {e : Nat} (hu : unframeL l = (x :: ys, e)) (hb : jnBegin n x = none) : rdJn n l = none := by
  unfold rdJn
  split
  · rw [hu]
    simp only
    unfold jnBegin at hb
    cases hp : rdPair 66 x 1000000 100000 with
    | some p => rw [hp] at hb; cases hb
    | none =>
      cases h1 : rdTwo 66 x with
      | none => rfl
      | some q =>
        obtain ⟨a, b⟩ := q
        simp only
        unfold rdPair at hp
        rw [h1] at hp
        simp only at hp
        rw [if_neg]
        intro hl
        rw [lgOk_nil] at hl
        rw [if_pos (by simpa using hl)] at hp
        cases hp
  · rfl

theorem rdJn_none {n : Int} {l : List UInt8} {e : Nat} (hu : unframeL l = ([], e)) : rdJn n l = none := by
  unfold rdJn
  split
  · rw [hu]
  · rfl

theorem rdJn_out {n : Int} {l : List UInt8} (hn : jnIn n = false) : rdJn n l = none := by
  unfold rdJn
  rw [hn]
  rfl

theorem jnFold_stop {j : JnV} {e : Nat} {x : List UInt8} {ys : List (List UInt8)} (h : jnMore j x = none) : jnFold j e (x :: ys) = (j, e) := by
  unfold jnFold; rw [h]

theorem jnAt_ok {n : Int} {xs : List (List UInt8)} {j : JnV} (h : jnAt n xs = some j) : lgOk j.s j.u j.es = true ∧ jnHd j.term j.vote = true ∧ j.number = n := by
  cases xs with
  | nil =>
    simp only [jnAt, Option.some.injEq] at h
    subst h
    exact ⟨show lgOk 0 0 [] = true by decide, show jnHd 0 0 = true by decide, rfl⟩
  | cons x r =>
    simp only [jnAt] at h
    cases hb : jnBegin n x with
    | none => rw [hb] at h; cases h
    | some j1 =>
      rw [hb] at h
      simp only at h
      unfold jnBegin at hb
      cases hp : rdPair 66 x 1000000 100000 with
      | none => rw [hp] at hb; cases hb
      | some p =>
        obtain ⟨a, b⟩ := p
        rw [hp] at hb
        simp only [Option.some.injEq] at hb
        subst hb
        obtain ⟨h1, h2, h3⟩ := rdPair_some hp
        have hl : lgOk (a : Int) (b : Int) [] = true := by rw [lgOk_nil]; simp; omega
        clear hp h1
        have key : ∀ (ys : List (List UInt8)) (j j' : JnV), jnGoes j ys = some j' → lgOk j.s j.u j.es = true → jnHd j.term j.vote = true → lgOk j'.s j'.u j'.es = true ∧ jnHd j'.term j'.vote = true ∧ j'.number = j.number := by
          intro ys
          induction ys with
          | nil => intro j j' h a b; cases h; exact ⟨a, b, rfl⟩
          | cons y r ih =>
            intro j j' h a b
            simp only [jnGoes] at h
            cases hm : jnMore j y with
            | none => rw [hm] at h; cases h
            | some j1 =>
              rw [hm] at h
              have k := jnMore_ok hm a b
              have k2 := ih j1 j' h k.1 k.2.1
              exact ⟨k2.1, k2.2.1, k2.2.2.trans k.2.2⟩
        exact key r _ j h hl (show jnHd 0 0 = true by decide)

end Go.Proofs.YthbgklmnmoclhaaGreatDoor
