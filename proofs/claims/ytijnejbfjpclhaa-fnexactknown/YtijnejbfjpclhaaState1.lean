/-
  Plain mathematics of chapter 10: states as pairs of numbers, who is a member and of which level, what the rules allow; nothing of the program.
-/
import Derived.Test.YtijnejbfjpclhaaEvent1
namespace Go.Proofs.Ytijnejbfjpclhaa.P14
open P1 P3 P9 P11 P12
set_option linter.unusedVariables false

/-- A Key that a state may have. -/
def stKey (k : Int) : Bool := inR k 1 3 || inR k 11 15

/-- Items behind a Key: each right, their Keys ascending. -/
def stFrom : Option Int → List (Int × Int) → Bool
  | _, [] => true
  | p, x :: r => (stKey x.1 && (inR x.2 1 1000000 && after p x.1)) && stFrom (some x.1) r

def stOk (s : List (Int × Int)) : Bool := decide (s.length ≤ 8) && stFrom none s

/-- The Id of a Key. -/
def stAt : List (Int × Int) → Int → Int
  | [], _ => 0
  | x :: r, k => if x.1 = k then x.2 else stAt r k

/-- The state with a Key's Id put in, as the specification makes it. -/
def stIn (s : List (Int × Int)) (k i : Int) : List (Int × Int) := s.filter (fun x => decide (x.1 < k)) ++ (k, i) :: s.filter (fun x => decide (k < x.1))
def stPut (s : List (Int × Int)) (k i : Int) : List (Int × Int) := if stOk s && stOk (stIn s k i) then stIn s k i else s

/-- The same, made by going along. -/
def stIns : List (Int × Int) → Int → Int → List (Int × Int)
  | [], k, i => [(k, i)]
  | x :: r, k, i => if x.1 < k then x :: stIns r k i else if x.1 = k then (k, i) :: r else (k, i) :: x :: r

theorem after_trans {p : Option Int} {a b : Int} (h : after p a = true) (hab : a < b) : after p b = true := by
  cases p with
  | none => rfl
  | some y => simp only [after, decide_eq_true_eq] at h ⊢; omega

theorem stFrom_after : ∀ {s : List (Int × Int)} {p : Option Int}, stFrom p s = true → ∀ x ∈ s, after p x.1 = true
  | y :: r, p, h, x, hx => by
    simp only [stFrom, Bool.and_eq_true] at h
    rcases List.mem_cons.1 hx with rfl | hx
    · exact h.1.2.2
    · have := stFrom_after h.2 x hx
      exact after_trans h.1.2.2 (by simpa [after] using this)

theorem stFrom_mem : ∀ {s : List (Int × Int)} {p : Option Int}, stFrom p s = true → ∀ x ∈ s, stKey x.1 = true ∧ inR x.2 1 1000000 = true
  | y :: r, p, h, x, hx => by
    simp only [stFrom, Bool.and_eq_true] at h
    rcases List.mem_cons.1 hx with rfl | hx
    · exact ⟨h.1.1, h.1.2.1⟩
    · exact stFrom_mem h.2 x hx

theorem stFrom_weak {s : List (Int × Int)} {p q : Option Int} (h : stFrom p s = true) (hq : ∀ x ∈ s, after q x.1 = true) : stFrom q s = true := by
  cases s with
  | nil => rfl
  | cons x r =>
    simp only [stFrom, Bool.and_eq_true] at h ⊢
    exact ⟨⟨h.1.1, h.1.2.1, hq x (by simp)⟩, h.2⟩

/-- The place of a Key among the eight. -/
def stRank (k : Int) : Int := if k ≤ 3 then k else k - 7

theorem stKey_cases {k : Int} (h : stKey k = true) : (1 ≤ k ∧ k ≤ 3) ∨ (11 ≤ k ∧ k ≤ 15) := by
  simp only [stKey, Bool.or_eq_true, inR_iff] at h
  exact h

theorem stRank_in {k : Int} (h : stKey k = true) : 1 ≤ stRank k ∧ stRank k ≤ 8 := by
  have := stKey_cases h
  unfold stRank
  split <;> omega

theorem stRank_lt {a b : Int} (ha : stKey a = true) (hb : stKey b = true) (h : a < b) : stRank a < stRank b := by
  have := stKey_cases ha
  have := stKey_cases hb
  unfold stRank
  split <;> split <;> omega

theorem stFrom_len : ∀ {s : List (Int × Int)} {k : Int}, stKey k = true → stFrom (some k) s = true → (s.length : Int) + stRank k ≤ 8
  | [], k, hk, _ => by have := stRank_in hk; simp; omega
  | x :: r, k, hk, h => by
    simp only [stFrom, Bool.and_eq_true] at h
    have ih := stFrom_len h.1.1 h.2
    have := stRank_lt hk h.1.1 (by simpa [after] using h.1.2.2)
    simp only [List.length_cons]
    omega

/-- Eight Keys: never more Items. -/
theorem stFrom_eight {s : List (Int × Int)} (h : stFrom none s = true) : s.length ≤ 8 := by
  cases s with
  | nil => simp
  | cons x r =>
    simp only [stFrom, Bool.and_eq_true] at h
    have := stFrom_len h.1.1 h.2
    have := stRank_in h.1.1
    simp only [List.length_cons]
    omega

theorem stOk_eq (s : List (Int × Int)) : stOk s = stFrom none s := by
  unfold stOk
  cases h : stFrom none s with
  | false => simp
  | true => simp [stFrom_eight h]

theorem filter_all {α : Type} {f : α → Bool} : ∀ {l : List α}, (∀ x ∈ l, f x = true) → l.filter f = l := fun h => List.filter_eq_self.2 h
theorem filter_none {α : Type} {f : α → Bool} : ∀ {l : List α}, (∀ x ∈ l, f x = false) → l.filter f = [] := fun h => List.filter_eq_nil_iff.2 (fun x hx => by simp [h x hx])

theorem stIn_ins : ∀ {s : List (Int × Int)} {p : Option Int} {k i : Int}, stFrom p s = true → stIn s k i = stIns s k i
  | [], p, k, i, _ => rfl
  | x :: r, p, k, i, h => by
    simp only [stFrom, Bool.and_eq_true] at h
    have hr : ∀ y ∈ r, x.1 < y.1 := fun y hy => by simpa [after] using stFrom_after h.2 y hy
    have ih := stIn_ins (k := k) (i := i) h.2
    unfold stIn at ih ⊢
    unfold stIns
    by_cases h1 : x.1 < k
    · rw [if_pos h1, ← ih]
      rw [List.filter_cons_of_pos (by simpa using h1), List.filter_cons_of_neg (by simp; omega)]
      rfl
    · rw [if_neg h1]
      have e1 : r.filter (fun x => decide (x.1 < k)) = [] := filter_none (fun y hy => by have := hr y hy; simp; omega)
      have e2 : r.filter (fun x => decide (k < x.1)) = r := filter_all (fun y hy => by have := hr y hy; simp; omega)
      rw [List.filter_cons_of_neg (by simpa using h1), e1]
      by_cases h2 : x.1 = k
      · rw [if_pos h2, List.filter_cons_of_neg (by simp; omega), e2]
        rfl
      · rw [if_neg h2, List.filter_cons_of_pos (by simp; omega), e2]
        rfl

/-- What is put in is right where its Key and its Id are. -/
theorem stIns_from : ∀ {s : List (Int × Int)} {p : Option Int} {k i : Int}, stFrom p s = true → stKey k = true → inR i 1 1000000 = true → after p k = true → stFrom p (stIns s k i) = true
  | [], p, k, i, _, hk, hi, hp => by simp [stIns, stFrom, hk, hi, hp]
  | x :: r, p, k, i, h, hk, hi, hp => by
    simp only [stFrom, Bool.and_eq_true] at h
    unfold stIns
    split
    · rename_i h1
      simp only [stFrom, Bool.and_eq_true]
      exact ⟨h.1, stIns_from h.2 hk hi (by simpa [after] using h1)⟩
    · rename_i h1
      split
      · rename_i h2
        subst h2
        simp only [stFrom, Bool.and_eq_true]
        exact ⟨⟨hk, hi, hp⟩, h.2⟩
      · rename_i h2
        simp only [stFrom, Bool.and_eq_true]
        exact ⟨⟨hk, hi, hp⟩, ⟨h.1.1, h.1.2.1, by simp only [after, decide_eq_true_eq]; omega⟩, h.2⟩

theorem stIns_mem {k i : Int} : ∀ (s : List (Int × Int)), (k, i) ∈ stIns s k i
  | [] => by simp [stIns]
  | x :: r => by
    unfold stIns
    split
    · exact List.mem_cons_of_mem _ (stIns_mem r)
    · split <;> simp

theorem stIns_ok {s : List (Int × Int)} {k i : Int} (h : stOk s = true) : stOk (stIns s k i) = (stKey k && inR i 1 1000000) := by
  rw [stOk_eq] at h
  rw [stOk_eq]
  by_cases hb : (stKey k && inR i 1 1000000) = true
  · rw [hb]
    simp only [Bool.and_eq_true] at hb
    exact stIns_from h hb.1 hb.2 rfl
  · rw [Bool.not_eq_true] at hb
    rw [hb]
    cases hq : stFrom none (stIns s k i) with
    | false => rfl
    | true =>
      obtain ⟨h1, h2⟩ := stFrom_mem hq _ (stIns_mem s)
      simp only at h1 h2
      rw [h1, h2] at hb
      cases hb

/-- Put, told by what comes. -/
theorem stPut_eq (s : List (Int × Int)) (k i : Int) : stPut s k i = if stOk s && (stKey k && inR i 1 1000000) then stIns s k i else s := by
  unfold stPut
  cases h : stOk s with
  | false => rfl
  | true => rw [stIn_ins (by rw [← stOk_eq]; exact h : stFrom none s = true), stIns_ok h]

theorem stPut_ok {s : List (Int × Int)} {k i : Int} (h : stOk s = true) : stOk (stPut s k i) = true := by
  rw [stPut_eq, h]
  split
  · rename_i hb
    rw [stIns_ok h]
    simpa using hb
  · exact h

theorem stAt_ins_same : ∀ (s : List (Int × Int)) (k i : Int), stAt (stIns s k i) k = i
  | [], k, i => by simp [stIns, stAt]
  | x :: r, k, i => by
    unfold stIns
    split
    · rename_i h1
      unfold stAt
      rw [if_neg (by omega)]
      exact stAt_ins_same r k i
    · split <;> simp [stAt]

theorem stAt_ins_other {q : Int} : ∀ (s : List (Int × Int)) (k i : Int), q ≠ k → stAt (stIns s k i) q = stAt s q
  | [], k, i, h => by simp [stIns, stAt, Ne.symm h]
  | x :: r, k, i, h => by
    have ih := stAt_ins_other r k i h
    unfold stIns
    split
    · simp only [stAt, ih]
    · split
      · rename_i h2
        simp only [stAt]
        rw [if_neg (Ne.symm h), if_neg (by rw [h2]; exact Ne.symm h)]
      · simp only [stAt]
        rw [if_neg (Ne.symm h)]

theorem stAt_mem : ∀ {s : List (Int × Int)} {p : Option Int}, stFrom p s = true → ∀ x ∈ s, stAt s x.1 = x.2
  | y :: r, p, h, x, hx => by
    simp only [stFrom, Bool.and_eq_true] at h
    unfold stAt
    rcases List.mem_cons.1 hx with rfl | hx
    · rw [if_pos rfl]
    · have := stFrom_after h.2 x hx
      rw [if_neg (by simp only [after, decide_eq_true_eq] at this; omega)]
      exact stAt_mem h.2 x hx

theorem stIns_len : ∀ (s : List (Int × Int)) (k i : Int), (stIns s k i).length ≤ s.length + 1
  | [], k, i => by simp [stIns]
  | x :: r, k, i => by
    have ih := stIns_len r k i
    unfold stIns
    split
    · simp only [List.length_cons]; omega
    · split <;> simp

/-- The event of an Id: the first one. -/
def evFind : List EvV → Int → Option EvV
  | [], _ => none
  | e :: r, i => if e.id = i then some e else evFind r i

theorem evFind_mem : ∀ {es : List EvV} {i : Int} {e : EvV}, evFind es i = some e → e ∈ es ∧ e.id = i
  | x :: r, i, e, h => by
    unfold evFind at h
    split at h
    · rename_i h1
      cases h
      exact ⟨by simp, h1⟩
    · have := evFind_mem h
      exact ⟨List.mem_cons_of_mem _ this.1, this.2⟩

theorem evFind_some : ∀ {es : List EvV} {e : EvV}, e ∈ es → ∃ x, evFind es e.id = some x
  | x :: r, e, h => by
    unfold evFind
    by_cases h1 : x.id = e.id
    · exact ⟨x, by rw [if_pos h1]⟩
    · rw [if_neg h1]
      rcases List.mem_cons.1 h with rfl | h
      · exact absurd rfl h1
      · exact evFind_some h

theorem evFind_none : ∀ {es : List EvV} {i : Int}, (∀ e ∈ es, e.id ≠ i) → evFind es i = none
  | [], i, _ => rfl
  | x :: r, i, h => by
    unfold evFind
    rw [if_neg (h x (by simp))]
    exact evFind_none (fun e he => h e (List.mem_cons_of_mem _ he))

/-- A user's membership: 0 Left, 1 Invited, 2 Joined, 3 Banned. -/
def memOf (es : List EvV) (s : List (Int × Int)) (u : Int) : Int :=
  if inR u 1 5 then
    match evFind es (stAt s (10 + u)) with
    | none => 0
    | some e => if e.kind = 2 ∧ e.user = u then e.member else 0
  else 0

/-- A user's level. -/
def levOf (es : List EvV) (s : List (Int × Int)) (u : Int) : Int :=
  let made : Int := match evFind es (stAt s 1) with
    | none => 0
    | some c => if c.kind = 1 ∧ c.sender = u then 100 else 0
  if inR u 1 5 then
    match evFind es (stAt s 2) with
    | none => made
    | some p => if p.kind = 3 ∧ p.levels.length = 5 then p.levels.getD (u.toNat - 1) 0 else made
  else 0

/-- No Item tells a member. -/
def stBare (s : List (Int × Int)) : Bool := s.all (fun x => decide (x.1 ≤ 10))

def okSelf (es : List EvV) (s : List (Int × Int)) (e : EvV) : Bool :=
  let now := memOf es s e.user
  let asked := decide (now = 1) || decide (now = 2)
  let first := match evFind es (stAt s 1) with
    | none => false
    | some c => decide (c.sender = e.sender) && stBare s
  if e.member = 2 then asked || first else if e.member = 0 then asked else false

def okMember (es : List EvV) (s : List (Int × Int)) (e : EvV) : Bool :=
  if e.user = e.sender then okSelf es s e else
    let now := memOf es s e.user
    let mine := levOf es s e.sender
    let above := decide (50 ≤ mine) && decide (levOf es s e.user < mine)
    decide (memOf es s e.sender = 2) && (if e.member = 1 then decide (now = 0) else if e.member = 0 then (decide (now = 1) || decide (now = 2)) && above else if e.member = 3 then decide (now ≠ 3) && above else false)

/-- A level that is the same, or may become another. -/
def okLevel (es : List EvV) (s : List (Int × Int)) (e : EvV) (u : Int) : Bool :=
  let mine := levOf es s e.sender
  let old := levOf es s u
  let now := e.levels.getD (u.toNat - 1) 0
  decide (now = old) || (decide (now ≤ mine) && (decide (old < mine) || decide (u = e.sender)))

def okPower (es : List EvV) (s : List (Int × Int)) (e : EvV) : Bool :=
  (decide (memOf es s e.sender = 2) && decide (50 ≤ levOf es s e.sender)) && ([1, 2, 3, 4, 5] : List Int).all (okLevel es s e)

/-- What the rules allow. -/
def allowed (es : List EvV) (s : List (Int × Int)) (e : EvV) : Bool :=
  evOk e && (if e.kind = 1 then decide (s = []) else
    (match evFind es (stAt s 1) with
      | none => false
      | some c => decide (c.kind = 1)) &&
    (if e.kind = 2 then okMember es s e else if e.kind = 3 then okPower es s e else if e.kind = 4 then decide (memOf es s e.sender = 2) && decide (50 ≤ levOf es s e.sender) else decide (memOf es s e.sender = 2)))

end Go.Proofs.Ytijnejbfjpclhaa.P14
