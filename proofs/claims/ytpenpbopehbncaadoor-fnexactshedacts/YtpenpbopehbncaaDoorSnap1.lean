/-
  Plain mathematics of chapter 8: names of snapshots, what is dropped, the pieces of a text, the newest one of a disk; nothing of the program.
-/
import Derived.Test.YtpenpbopehbncaaDoorPack3
import Derived.Test.YtpenpbopehbncaaDoorPlain8
import Derived.Test.YtpenpbopehbncaaDoorPack1
namespace Go.Proofs.YtpenpbopehbncaaDoor
open P1 P3 P5 P9 P11
set_option linter.unusedVariables false

def snIn (n : Int) : Bool := decide (0 ≤ n ∧ n ≤ 1000000)
def snName (n : Int) : List UInt8 := if snIn n = true then 115 :: Lib.decDigits n.toNat else []
theorem snIn_iff {n : Int} : snIn n = true ↔ 0 ≤ n ∧ n ≤ 1000000 := by simp [snIn]

/-- The number of a snapshot's name, -1 of any other text. -/
def snNumber (l : List UInt8) : Int :=
  if l.length < 2 then -1 else
    match rdDec (l.drop 1) with
    | none => -1
    | some n => if snName n = l then (n : Int) else -1

theorem dec_roomS (n : Nat) (h : n ≤ 1000000) : (Lib.decDigits n).length ≤ 7 := dec_len10 6 n (by omega)

theorem snName_length (n : Int) : (snName n).length ≤ 8 := by
  unfold snName
  split
  · rename_i h
    have h := snIn_iff.1 h
    have := dec_roomS n.toNat (by omega)
    simp only [List.length_cons]
    omega
  · simp

/-- NameSnapNew. -/
def nmSnap : List UInt8 := [115, 43]

theorem rdDec_isS {l : List UInt8} {n : Nat} (h : rdDec l = some n) : Lib.decDigits n = l := by
  unfold rdDec at h
  split at h
  · rename_i c
    cases h
    exact c.2
  · cases h

theorem snName_in {n : Nat} (h : n ≤ 1000000) : snName n = 115 :: Lib.decDigits n := by
  unfold snName
  rw [if_pos (snIn_iff.2 (by omega))]
  rfl
theorem snName_out {n : Nat} (h : 1000000 < n) : snName n = [] := by
  unfold snName
  rw [if_neg (fun k => by have := snIn_iff.1 k; omega)]

/-- The number of a name as the program finds it. -/
def numS (l : List UInt8) : Int :=
  match l with
  | [] => -1
  | b :: t => if b = 115 then (match rdDec t with | none => -1 | some n => if 1000000 < n then -1 else (n : Int)) else -1

theorem dec_nonemptyS (n : Nat) (h : n ≤ 1000000000) : Lib.decDigits n ≠ [] := by
  by_cases c : n < 10
  · rw [dec_small n c]
    simp
  · rw [dec_big n c]
    simp

theorem numS_is (l : List UInt8) : numS l = snNumber l := by
  cases l with
  | nil => rfl
  | cons b t =>
    unfold numS snNumber
    simp only [List.length_cons, List.drop_one, List.tail_cons]
    by_cases hb : b = 115
    · rw [if_pos hb]
      cases hr : rdDec t with
      | none => simp
      | some n =>
        have hd := rdDec_isS hr
        have ht : t ≠ [] := fun e => dec_nonemptyS n (rdDec_some hr) (by rw [hd, e])
        have hl : ¬ t.length + 1 < 2 := by
          have : t.length ≠ 0 := fun e => ht (List.eq_nil_of_length_eq_zero e)
          omega
        rw [if_neg hl]
        simp only
        by_cases hn : 1000000 < n
        · rw [if_pos hn, if_neg]
          rw [snName_out hn]
          intro e
          cases e
        · rw [if_neg hn, if_pos]
          rw [snName_in (by omega), hd, hb]
    · rw [if_neg hb]
      split
      · rfl
      · cases hr : rdDec t with
        | none => rfl
        | some n =>
          simp only
          rw [if_neg]
          intro e
          by_cases hn : 1000000 < n
          · rw [snName_out hn] at e
            cases e
          · rw [snName_in (by omega)] at e
            injection e with e1 e2
            exact hb e1.symm

def dropSA (l : List UInt8) : ActV := ⟨4, l, [], []⟩
/-- Whether a file is dropped: NameSnapNew, or a snapshot's other file. -/
def isOtherS (b : Int) (f : FileV) : Bool := decide (0 ≤ snNumber f.name) && decide (snNumber f.name ≠ b)
def isDropS (b : Int) (f : FileV) : Bool := decide (f.name = nmSnap) || isOtherS b f
def dropsS (b : Int) (fs : List FileV) : List ActV := (fs.filter (isDropS b)).map (fun f => dropSA f.name)
def othersS (b : Int) (fs : List FileV) : List ActV := (fs.filter (isOtherS b)).map (fun f => dropSA f.name)
def newDropS (fs : List FileV) : List ActV := if (fileAt fs nmSnap).isSome = true then [dropSA nmSnap] else []

theorem sn_new : snNumber nmSnap = -1 := by
  rw [← numS_is]
  unfold numS nmSnap
  simp only [if_true]
  rw [rdDec_bad [43] 43 (by simp) (by decide)]

theorem sn_behind {l : List UInt8} (h : 0 ≤ snNumber l) : nmSnap < l := by
  rw [← numS_is] at h
  cases l with
  | nil => simp [numS] at h
  | cons b t =>
    unfold numS at h
    simp only at h
    split at h
    · rename_i hb
      subst hb
      split at h
      · omega
      · rename_i n hr
        have hd := rdDec_isS hr
        cases t with
        | nil => exact absurd hd (dec_nonemptyS n (rdDec_some hr))
        | cons c r =>
          have hc : 48 ≤ c.toNat := (dec_figures n c (by rw [hd]; simp)).1
          show [115, 43] < 115 :: c :: r
          apply List.Lex.cons
          apply List.Lex.rel
          show (43 : UInt8) < c
          rw [UInt8.lt_iff_toNat_lt]
          show 43 < c.toNat
          omega
    · omega

theorem asc_noneS {fs : List FileV} {x : List UInt8} (h : ∀ f ∈ fs, nmSnap < f.name) : fileAt fs nmSnap = none := by
  unfold fileAt
  rw [List.find?_eq_none]
  intro f hf e
  have he : f.name = nmSnap := by simpa using e
  have := h f hf
  rw [he] at this
  exact absurd this (List.lt_irrefl _)

theorem dropsS_none {b : Int} : ∀ {fs : List FileV}, (∀ f ∈ fs, nmSnap < f.name) → dropsS b fs = othersS b fs
  | [], _ => rfl
  | f :: r, h => by
    have hf := h f (by simp)
    have hne : ¬ f.name = nmSnap := fun e => by rw [e] at hf; exact absurd hf (List.lt_irrefl _)
    have ih := dropsS_none (b := b) (fs := r) (fun g hg => h g (List.mem_cons_of_mem _ hg))
    unfold dropsS othersS at ih ⊢
    have hk : isDropS b f = isOtherS b f := by unfold isDropS; simp [hne]
    simp only [List.filter_cons, hk]
    split <;> simp [ih]

/-- On a right disk NameSnapNew stands ahead of every journal's file. -/
theorem dropsS_is {b : Int} : ∀ {fs : List FileV}, Asc fs → dropsS b fs = newDropS fs ++ othersS b fs
  | [], _ => rfl
  | f :: r, h => by
    have hlt : ∀ g ∈ r, f.name < g.name := fun g hg => (List.pairwise_cons.1 h).1 g hg
    have hr := (List.pairwise_cons.1 h).2
    have ih := dropsS_is (b := b) hr
    by_cases hn : f.name = nmSnap
    · have hall : ∀ g ∈ r, nmSnap < g.name := fun g hg => by rw [← hn]; exact hlt g hg
      have h1 := dropsS_none (b := b) hall
      have hd : isDropS b f = true := by unfold isDropS; simp [hn]
      have ho : isOtherS b f = false := by unfold isOtherS; rw [hn, sn_new]; rfl
      have hw : newDropS (f :: r) = [dropSA nmSnap] := by
        unfold newDropS fileAt
        rw [List.find?_cons_of_pos (by simp [hn])]
        rfl
      rw [hw]
      unfold dropsS othersS at h1 ⊢
      simp only [List.filter_cons, hd, ho, if_true, List.map_cons, hn]
      rw [h1]
      rfl
    · have hw : newDropS (f :: r) = newDropS r := by
        unfold newDropS fileAt
        rw [List.find?_cons_of_neg (by simpa using hn)]
      have hk : isDropS b f = isOtherS b f := by unfold isDropS; simp [hn]
      by_cases ho : isOtherS b f = true
      · have hj : 0 ≤ snNumber f.name := by unfold isOtherS at ho; simp only [Bool.and_eq_true, decide_eq_true_eq] at ho; exact ho.1
        have hall : ∀ g ∈ r, nmSnap < g.name := fun g hg => List.lt_trans (sn_behind hj) (hlt g hg)
        have hw0 : newDropS r = [] := by unfold newDropS; rw [asc_noneS (x := nmSnap) hall]; rfl
        rw [hw, hw0, List.nil_append]
        have h1 := dropsS_none (b := b) hall
        unfold dropsS othersS at h1 ⊢
        simp only [List.filter_cons, hk, ho, if_true, List.map_cons, h1]
      · have ho' : isOtherS b f = false := by simpa using ho
        rw [hw]
        unfold dropsS othersS at ih ⊢
        simp only [List.filter_cons, hk, ho', Bool.false_eq_true, if_false]
        exact ih

theorem snNumber_range (l : List UInt8) : -1 ≤ snNumber l ∧ snNumber l ≤ 1000000 := by
  rw [← numS_is]
  unfold numS
  split
  · omega
  · split
    · split
      · omega
      · split <;> omega
    · omega

theorem snNumber_name {l : List UInt8} (h : 0 ≤ snNumber l) : snName (snNumber l) = l := by
  unfold snNumber at h ⊢
  split
  · rename_i hl; rw [if_pos hl] at h; omega
  · rename_i hl
    rw [if_neg hl] at h
    cases hr : rdDec (l.drop 1) with
    | none => rw [hr] at h; simp only at h; omega
    | some n =>
      rw [hr] at h
      simp only at h ⊢
      split
      · rename_i he; exact he
      · rename_i he; rw [if_neg he] at h; omega

theorem snName_number {n : Int} (h : 0 ≤ n ∧ n ≤ 1000000) : snNumber (snName n) = n := by
  obtain ⟨N, rfl⟩ := Int.eq_ofNat_of_zero_le h.1
  rw [← numS_is, show snName (N : Int) = 115 :: Lib.decDigits N from snName_in (by omega)]
  unfold numS
  simp only [if_true]
  rw [rdDec_dec N (by omega)]
  simp only
  rw [if_neg (by omega)]

/-- Pieces of n bytes, the last one shorter. -/
def chunksF (n : Nat) : Nat → List UInt8 → List (List UInt8)
  | 0, _ => []
  | f + 1, l => if l = [] then [] else l.take n :: chunksF n f (l.drop n)

def chunksL (l : List UInt8) : List (List UInt8) := chunksF 60 l.length l

theorem chunksF_more (n : Nat) (hn : 0 < n) : ∀ (f g : Nat) (l : List UInt8), l.length ≤ f → l.length ≤ g → chunksF n f l = chunksF n g l
  | 0, 0, l, _, _ => rfl
  | 0, g + 1, l, h, _ => by
    have : l = [] := List.eq_nil_of_length_eq_zero (by omega)
    subst this
    rfl
  | f + 1, 0, l, _, h => by
    have : l = [] := List.eq_nil_of_length_eq_zero (by omega)
    subst this
    rfl
  | f + 1, g + 1, l, h1, h2 => by
    unfold chunksF
    split
    · rfl
    · rename_i hne
      have hp : 0 < l.length := List.length_pos_iff.2 hne
      rw [chunksF_more n hn f g (l.drop n) (by rw [List.length_drop]; omega) (by rw [List.length_drop]; omega)]

theorem chunksL_nil : chunksL [] = [] := rfl
theorem chunksL_cons {l : List UInt8} (h : l ≠ []) : chunksL l = l.take 60 :: chunksL (l.drop 60) := by
  have hp : 0 < l.length := List.length_pos_iff.2 h
  unfold chunksL
  obtain ⟨m, hm⟩ : ∃ m, l.length = m + 1 := ⟨l.length - 1, by omega⟩
  rw [hm]
  show (if l = [] then [] else l.take 60 :: chunksF 60 m (l.drop 60)) = _
  rw [if_neg h, chunksF_more 60 (by omega) m (l.drop 60).length (l.drop 60) (by rw [List.length_drop]; omega) (Nat.le_refl _)]

/-- The acts that write a text in pieces. -/
def addsA (l : List UInt8) : List ActV := (chunksL l).map fun c => ⟨1, nmSnap, c, []⟩

theorem addsA_nil : addsA [] = [] := rfl
theorem addsA_cons {l : List UInt8} (h : l ≠ []) : addsA l = ⟨1, nmSnap, l.take 60, []⟩ :: addsA (l.drop 60) := by
  unfold addsA
  rw [chunksL_cons h]
  rfl

theorem chunksL_length (l : List UInt8) : (chunksL l).length ≤ l.length := by
  unfold chunksL
  have : ∀ (f : Nat) (l : List UInt8), (chunksF 60 f l).length ≤ f := by
    intro f
    induction f with
    | zero => intro l; simp [chunksF]
    | succ f ih =>
      intro l
      unfold chunksF
      split
      · simp
      · have := ih (l.drop 60)
        simp only [List.length_cons]
        omega
  exact this _ _

/-- The acts of a snapshot. -/
def snActs (fs : List FileV) (i : Int) (text : List UInt8) : List ActV :=
  newDropS fs ++ (addsA text ++ ([⟨2, nmSnap, [], []⟩, ⟨3, nmSnap, [], snName i⟩] ++ othersS i fs))

/-- A snapshot as values. -/
structure SnV where
  index : Int
  term : Int
  conf : List Int
  body : List UInt8

/-- The snapshot of a file: of its text, when it has the index of its name. -/
def snOf (f : FileV) : Option SnV :=
  match rdSnap f.text with
  | none => none
  | some (i, t, z, b) => if snNumber f.name = (i : Int) then some ⟨i, t, z, b⟩ else none

def snBest (m : Option SnV) (f : FileV) : Option SnV :=
  match snOf f with
  | none => m
  | some s => match m with | none => some s | some y => if y.index < s.index then some s else some y

def snNewest (fs : List FileV) : Option SnV := fs.foldl snBest none

theorem snOf_index {f : FileV} {s : SnV} (h : snOf f = some s) : snNumber f.name = s.index ∧ 0 ≤ s.index := by
  unfold snOf at h
  split at h
  · cases h
  · split at h
    · cases h
      rename_i he
      exact ⟨he, by simp⟩
    · cases h

/-- What ShedActs drop. -/
def snShed (fs : List FileV) : List ActV :=
  match snNewest fs with
  | none => []
  | some s => newDropS fs ++ othersS s.index fs

end Go.Proofs.YtpenpbopehbncaaDoor
