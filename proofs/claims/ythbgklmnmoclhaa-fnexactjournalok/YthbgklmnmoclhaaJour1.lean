/-
  Plain mathematics of chapter 7: journals, their names, their texts, what is read of a text.
-/
import Derived.Test.YthbgklmnmoclhaaPack28
import Derived.Test.YthbgklmnmoclhaaPlain2
import Derived.Test.YthbgklmnmoclhaaPlain10
import Derived.Test.YthbgklmnmoclhaaPut1
namespace Go.Proofs.Ythbgklmnmoclhaa
open P1 P3 P9
set_option linter.unusedVariables false

/-- A journal. -/
structure JnV where
  number : Int
  term : Int
  vote : Int
  s : Int
  u : Int
  es : List EntV

def jnIn (n : Int) : Bool := decide (0 ≤ n ∧ n ≤ 999)
def jnName (n : Int) : List UInt8 := if jnIn n = true then 106 :: Lib.decDigits n.toNat else []
def jnHd (t v : Int) : Bool := decide (0 ≤ t ∧ t ≤ 100000 ∧ 0 ≤ v ∧ v ≤ 4)
def JnV.ok (j : JnV) : Bool := jnIn j.number && (jnHd j.term j.vote && lgOk j.s j.u j.es)

theorem jnIn_iff {n : Int} : jnIn n = true ↔ 0 ≤ n ∧ n ≤ 999 := by simp [jnIn]
theorem jnHd_iff {t v : Int} : jnHd t v = true ↔ 0 ≤ t ∧ t ≤ 100000 ∧ 0 ≤ v ∧ v ≤ 4 := by simp [jnHd]

/-- The number of a journal's name, -1 of any other text. -/
def jnNumber (l : List UInt8) : Int :=
  if l.length < 2 then -1 else
    match rdDec (l.drop 1) with
    | none => -1
    | some n => if jnName n = l then (n : Int) else -1

theorem dec_room (n : Nat) (h : n ≤ 999) : (Lib.decDigits n).length ≤ 10 := dec_len10 9 n (by omega)

theorem jnName_length (n : Int) : (jnName n).length ≤ 11 := by
  unfold jnName
  split
  · rename_i h
    have h := jnIn_iff.1 h
    have := dec_room n.toNat (by omega)
    simp only [List.length_cons]
    omega
  · simp

theorem jnNumber_range (l : List UInt8) : -1 ≤ jnNumber l ∧ jnNumber l ≤ 999 := by
  unfold jnNumber
  split
  · omega
  · rename_i h2
    split
    · omega
    · rename_i n hn
      split
      · rename_i he
        by_cases hi : jnIn (n : Int) = true
        · have := jnIn_iff.1 hi
          omega
        · unfold jnName at he
          rw [if_neg hi] at he
          rw [← he] at h2
          simp at h2
      · omega

/-- The frames of a beginning, of a term and a vote, of entries behind an index. -/
def twoB (x : UInt8) (a b : Nat) : List UInt8 := x :: (varB a ++ varB b)
def entB (i : Int) (e : EntV) : List UInt8 := entryB i.toNat e.term.toNat e.kind.toNat (bl e.data)
def hardB (t v : Int) : List UInt8 := frameL (twoB 72 t.toNat v.toNat)
def headB (s u : Int) : List UInt8 := frameL (twoB 66 s.toNat u.toNat)
def framesB : Int → List EntV → List UInt8
  | _, [] => []
  | s, e :: r => frameL (entB (s + 1) e) ++ framesB (s + 1) r
def JnV.text (j : JnV) : List UInt8 := headB j.s j.u ++ hardB j.term j.vote ++ framesB j.s j.es
def JnV.writes (j : JnV) : Bool := j.ok && decide (j.text.length ≤ 20000)

theorem varB_room (n : Nat) : (varB n).length ≤ 10 := varB_length n

theorem twoB_length (x : UInt8) (a b : Nat) : 1 ≤ (twoB x a b).length ∧ (twoB x a b).length ≤ 21 := by
  have h1 := varB_room a
  have h2 := varB_room b
  simp only [twoB, List.length_cons, List.length_append]
  omega

theorem entB_length {i : Int} {e : EntV} (h : e.ok = true) : 1 ≤ (entB i e).length ∧ (entB i e).length ≤ 142 := by
  unfold EntV.ok entryOk at h
  simp only [Bool.and_eq_true] at h
  have h3 := (contOk_len h.1).1
  have h1 := varB_room i.toNat
  have h2 := varB_room e.term.toNat
  simp only [entB, entryB, List.length_cons, List.length_append]
  omega

theorem upE_ok : ∀ (es : List EntV) (t : Int), upE t es = true → ∀ e ∈ es, e.ok = true
  | [], _, _, e, he => by simp at he
  | a :: r, t, h, e, he => by
    simp only [upE_cons, Bool.and_eq_true] at h
    rcases List.mem_cons.1 he with rfl | he
    · exact h.1
    · exact upE_ok r _ h.2.2 e he

theorem lgOk_ok {s u : Int} {es : List EntV} (h : lgOk s u es = true) : ∀ e ∈ es, e.ok = true := by
  unfold lgOk at h
  simp only [Bool.and_eq_true] at h
  exact upE_ok es u h.2

theorem lgOk_rm {s u : Int} {es : List EntV} (h : lgOk s u es = true) : 0 ≤ s ∧ s ≤ 1000000 ∧ 0 ≤ u ∧ u ≤ 100000 ∧ es.length ≤ 60 ∧ s + es.length ≤ 1000000 := by
  unfold lgOk at h
  simp only [Bool.and_eq_true] at h
  simpa [lgHd] using h.1

theorem JnV.parts {j : JnV} (h : j.ok = true) : (0 ≤ j.number ∧ j.number ≤ 999) ∧ (0 ≤ j.term ∧ j.term ≤ 100000 ∧ 0 ≤ j.vote ∧ j.vote ≤ 4) ∧ lgOk j.s j.u j.es = true := by
  unfold JnV.ok at h
  simp only [Bool.and_eq_true] at h
  exact ⟨jnIn_iff.1 h.1, jnHd_iff.1 h.2.1, h.2.2⟩

theorem ok_data {e : EntV} (h : e.ok = true) : e.data.size ≤ 120 := by
  unfold EntV.ok entryOk at h
  simp only [Bool.and_eq_true] at h
  have h3 := (contOk_len h.1).1
  rw [bl_length] at h3
  exact h3

theorem frameL_room {l : List UInt8} {k : Nat} (h : l.length ≤ k) : (frameL l).length ≤ k + 14 := by
  have := varB_room l.length
  rw [frameL_length]
  omega

theorem framesB_length : ∀ (es : List EntV) (s : Int), (∀ e ∈ es, e.ok = true) → (framesB s es).length ≤ 156 * es.length
  | [], _, _ => Nat.zero_le _
  | e :: r, s, h => by
    have h1 := framesB_length r (s + 1) (fun x hx => h x (List.mem_cons_of_mem _ hx))
    have h2 := frameL_room (entB_length (i := s + 1) (h e (by simp))).2
    simp only [framesB, List.length_append, List.length_cons]
    omega

theorem framesB_append : ∀ (xs ys : List EntV) (s : Int), framesB s (xs ++ ys) = framesB s xs ++ framesB (s + xs.length) ys
  | [], ys, s => by simp [framesB]
  | e :: r, ys, s => by
    simp only [List.cons_append, framesB, framesB_append r ys (s + 1), List.append_assoc, List.length_cons]
    congr 3
    push_cast
    omega

theorem text_room {j : JnV} (h : lgOk j.s j.u j.es = true) : j.text.length ≤ 9430 := by
  have h1 := framesB_length j.es j.s (lgOk_ok h)
  have h2 := (lgOk_rm h).2.2.2.2.1
  have h3 := frameL_room (twoB_length 66 j.s.toNat j.u.toNat).2
  have h4 := frameL_room (twoB_length 72 j.term.toNat j.vote.toNat).2
  simp only [JnV.text, headB, hardB, List.length_append]
  omega

/-- A letter and two numbers. -/
def rdTwo (x : UInt8) (l : List UInt8) : Option (Nat × Nat) :=
  match rdGo 5 [] (l.drop 1) with
  | none => none
  | some (a, c) =>
    match rdGo 5 [] (l.drop (1 + c)) with
    | none => none
    | some (b, c') => if twoB x a b = l then some (a, b) else none

theorem rdTwo_small {x : UInt8} {l : List UInt8} {a b : Nat} (h : rdTwo x l = some (a, b)) : a ≤ 1000000000 ∧ b ≤ 1000000000 := by
  unfold rdTwo at h
  cases h1 : rdGo 5 [] (l.drop 1) with
  | none => rw [h1] at h; cases h
  | some p =>
    obtain ⟨a', c⟩ := p
    rw [h1] at h
    dsimp only at h
    cases h2 : rdGo 5 [] (l.drop (1 + c)) with
    | none => rw [h2] at h; cases h
    | some q =>
      obtain ⟨b', c'⟩ := q
      rw [h2] at h
      dsimp only at h
      split at h
      · cases h
        exact ⟨(rdGo_some 5 [] _ _ _ h1).1, (rdGo_some 5 [] _ _ _ h2).1⟩
      · cases h

/-- One more record. -/
def jnMore (j : JnV) (l : List UInt8) : Option JnV :=
  match rdTwo 72 l with
  | some (t, v) => if jnHd t v = true then some { j with term := t, vote := v } else none
  | none =>
    match rdEntry l with
    | none => none
    | some (i, t, k, d) => if putOk j.s j.u j.es i ⟨t, k, ⟨d.toArray⟩⟩ = true then some { j with es := putL j.s j.es i ⟨t, k, ⟨d.toArray⟩⟩ } else none

def jnFold : JnV → Nat → List (List UInt8) → JnV × Nat
  | j, e, [] => (j, e)
  | j, e, x :: r =>
    match jnMore j x with
    | none => (j, e)
    | some j' => jnFold j' (e + (frameL x).length) r

/-- What a journal's file tells. -/
def rdJn (n : Int) (l : List UInt8) : Option (JnV × Nat) :=
  if jnIn n = true then
    match (unframeL l).1 with
    | [] => none
    | x :: r =>
      match rdTwo 66 x with
      | none => none
      | some (a, b) => if lgOk a b [] = true then some (jnFold ⟨n, 0, 0, a, b, []⟩ (frameL x).length r) else none
  else none

theorem putL_ok {s u : Int} {es : List EntV} {ix : Int} {e : EntV} (h : putOk s u es ix e = true) : lgOk s u (putL s es ix e) = true := by
  unfold putOk at h
  simp only [Bool.and_eq_true] at h
  exact h.2.2

/-- What is read stays right. -/
theorem jnMore_ok {j j' : JnV} {l : List UInt8} (h : jnMore j l = some j') (hj : lgOk j.s j.u j.es = true) (hh : jnHd j.term j.vote = true) : lgOk j'.s j'.u j'.es = true ∧ jnHd j'.term j'.vote = true ∧ j'.number = j.number := by
  unfold jnMore at h
  split at h
  · split at h
    · rename_i hd
      cases h
      exact ⟨hj, hd, rfl⟩
    · cases h
  · split at h
    · cases h
    · split at h
      · rename_i hp
        cases h
        exact ⟨putL_ok hp, hh, rfl⟩
      · cases h

theorem jnFold_ok : ∀ (xs : List (List UInt8)) (j : JnV) (e : Nat), lgOk j.s j.u j.es = true → jnHd j.term j.vote = true → lgOk (jnFold j e xs).1.s (jnFold j e xs).1.u (jnFold j e xs).1.es = true ∧ jnHd (jnFold j e xs).1.term (jnFold j e xs).1.vote = true ∧ (jnFold j e xs).1.number = j.number
  | [], j, e, h1, h2 => ⟨h1, h2, rfl⟩
  | x :: r, j, e, h1, h2 => by
    unfold jnFold
    cases hm : jnMore j x with
    | none => exact ⟨h1, h2, rfl⟩
    | some j' =>
      have h3 := jnMore_ok hm h1 h2
      have h4 := jnFold_ok r j' (e + (frameL x).length) h3.1 h3.2.1
      exact ⟨h4.1, h4.2.1, h4.2.2.trans h3.2.2⟩

theorem rdJn_ok {n : Int} {l : List UInt8} {j : JnV} {e : Nat} (h : rdJn n l = some (j, e)) : j.ok = true ∧ j.number = n := by
  unfold rdJn at h
  split at h
  · rename_i hn
    split at h
    · cases h
    · rename_i x r _
      split at h
      · cases h
      · rename_i a b _
        split at h
        · rename_i hl
          have h1 := Option.some.inj h
          have h2 := jnFold_ok r ⟨n, 0, 0, (a : Int), (b : Int), []⟩ (frameL x).length hl (show jnHd 0 0 = true by decide)
          rw [h1] at h2
          refine ⟨?_, h2.2.2⟩
          unfold JnV.ok
          rw [h2.2.2, hn, h2.2.1, h2.1]
          rfl
        · cases h
  · cases h

end Go.Proofs.Ythbgklmnmoclhaa
