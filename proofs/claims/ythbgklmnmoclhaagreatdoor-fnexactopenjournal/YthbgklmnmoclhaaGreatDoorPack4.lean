/-
  Plain mathematics of chapter 5: confs and entries, as lists of numbers and of bytes; nothing of the program.
  Plain mathematics of chapter 5: how an entry is read, step by step.
  Disks in plain words: files in order of their names, and what acts make of them.
  Rows of structs of plain cells: a list of things, k cells each, one behind the other.
  Arguments opened, over any program: a slice of structs of three plain fields (two texts and a number), at every index.
-/
import Derived.Test.YthbgklmnmoclhaaGreatDoorPack2
import Derived.Test.YthbgklmnmoclhaaGreatDoorPack1
import Derived.Deep.Slices
import Derived.ChangeSame
namespace Go.Proofs.YthbgklmnmoclhaaGreatDoor.P9
open P1

/-- Numbers in lo .. hi, each greater than the one ahead of it. -/
def after : Option Int → Int → Bool
  | none, _ => true
  | some y, z => decide (y < z)

def riseF (lo hi : Int) : Option Int → List Int → Bool
  | _, [] => true
  | p, z :: r => (decide (lo ≤ z) && decide (z ≤ hi) && after p z) && riseF lo hi (some z) r

/-- The number ahead of place j. -/
def pv (zs : List Int) : Nat → Option Int
  | 0 => none
  | j + 1 => zs[j]?

def confOk (zs : List Int) : Bool := decide (1 ≤ zs.length ∧ zs.length ≤ 4) && riseF 1 4 none zs

theorem riseF_at {lo hi : Int} {zs : List Int} {j : Nat} {z : Int} (h : zs[j]? = some z) : riseF lo hi (pv zs j) (zs.drop j) = ((decide (lo ≤ z) && decide (z ≤ hi) && after (pv zs j) z) && riseF lo hi (pv zs (j + 1)) (zs.drop (j + 1))) := by
  obtain ⟨hj, he⟩ := List.getElem?_eq_some_iff.1 h
  rw [List.drop_eq_getElem_cons hj, he]
  simp only [riseF, pv, h]

theorem riseF_mem {lo hi : Int} : ∀ (zs : List Int) (p : Option Int), riseF lo hi p zs = true → ∀ z ∈ zs, lo ≤ z ∧ z ≤ hi
  | y :: r, p, h, z, hz => by
    simp only [riseF, Bool.and_eq_true, decide_eq_true_eq] at h
    rcases List.mem_cons.1 hz with rfl | hz
    · exact ⟨h.1.1.1, h.1.1.2⟩
    · exact riseF_mem r _ h.2 z hz

theorem confOk_mem {zs : List Int} (h : confOk zs = true) : ∀ z ∈ zs, 1 ≤ z ∧ z ≤ 4 := by
  unfold confOk at h
  simp only [Bool.and_eq_true] at h
  exact riseF_mem zs none h.2

theorem confOk_len {zs : List Int} (h : confOk zs = true) : 1 ≤ zs.length ∧ zs.length ≤ 4 := by
  unfold confOk at h
  simp only [Bool.and_eq_true, decide_eq_true_eq] at h
  exact h.1

theorem confOk_short {zs : List Int} (h : ¬ (1 ≤ zs.length ∧ zs.length ≤ 4)) : confOk zs = false := by
  unfold confOk
  simp [h]

theorem confOk_mid {zs : List Int} (h : 1 ≤ zs.length ∧ zs.length ≤ 4) : confOk zs = riseF 1 4 none zs := by
  unfold confOk
  simp [h]

/-- A conf as bytes, and back. -/
def confB (zs : List Int) : List UInt8 := zs.map fun z => UInt8.ofNat z.toNat
def confZ (l : List UInt8) : List Int := l.map fun b => (b.toNat : Int)

theorem confB_snoc (zs : List Int) (z : Int) : confB (zs ++ [z]) = confB zs ++ [UInt8.ofNat z.toNat] := by simp [confB]
theorem confZ_snoc (l : List UInt8) (b : UInt8) : confZ (l ++ [b]) = confZ l ++ [(b.toNat : Int)] := by simp [confZ]
theorem confB_length (zs : List Int) : (confB zs).length = zs.length := by simp [confB]
theorem confZ_length (l : List UInt8) : (confZ l).length = l.length := by simp [confZ]
theorem confB_confZ (l : List UInt8) : confB (confZ l) = l := by
  induction l with
  | nil => rfl
  | cons b l ih =>
    simp only [confB, confZ, List.map_cons, List.map_map] at ih ⊢
    rw [ih]
    simp
theorem confZ_confB {zs : List Int} (h : ∀ z ∈ zs, 1 ≤ z ∧ z ≤ 4) : confZ (confB zs) = zs := by
  induction zs with
  | nil => rfl
  | cons z l ih =>
    have h1 := h z (by simp)
    have h2 := ih (fun y hy => h y (by simp [hy]))
    simp only [confB, confZ, List.map_cons] at h2 ⊢
    rw [h2]
    have : (UInt8.ofNat z.toNat).toNat = z.toNat := by simp [UInt8.toNat_ofNat']; omega
    rw [this]
    congr 1
    omega

/-- Is this a right content of an entry of a kind? -/
def contOk (k : Int) (l : List UInt8) : Bool :=
  if k = 1 then decide (l.length = 0) else if k = 2 then confOk (confZ l) else if k = 3 then decide (l.length ≤ 120) else false

def termOk (t : Int) : Bool := decide (0 ≤ t) && decide (t ≤ 100000)
def indexOk (i : Int) : Bool := decide (1 ≤ i) && decide (i ≤ 1000000)
def entryOk (t k : Int) (l : List UInt8) : Bool := contOk k l && termOk t

theorem contOk_kind {k : Int} {l : List UInt8} (h : contOk k l = true) : k = 1 ∧ l = [] ∨ k = 2 ∧ confOk (confZ l) = true ∨ k = 3 ∧ l.length ≤ 120 := by
  unfold contOk at h
  split at h
  · left; exact ⟨by assumption, List.eq_nil_of_length_eq_zero (by simpa using h)⟩
  · split at h
    · right; left; exact ⟨by assumption, h⟩
    · split at h
      · right; right; exact ⟨by assumption, by simpa using h⟩
      · cases h

theorem contOk_len {k : Int} {l : List UInt8} (h : contOk k l = true) : l.length ≤ 120 ∧ 1 ≤ k ∧ k ≤ 3 := by
  rcases contOk_kind h with ⟨rfl, rfl⟩ | ⟨rfl, h⟩ | ⟨rfl, h⟩
  · simp
  · have := confOk_len h
    rw [confZ_length] at this
    omega
  · omega

/-- The text of an entry. -/
def entryB (i t k : Nat) (l : List UInt8) : List UInt8 := 69 :: (varB i ++ (varB t ++ (UInt8.ofNat k :: l)))

/-- What is read by ReadVar is written so. -/
theorem rdGo_is : ∀ (f : Nat) (pre r : List UInt8) (v c : Nat), pre.length + f ≤ 9 → (∀ b ∈ pre, 128 ≤ b.toNat) → rdGo f pre r = some (v, c) → varB v = (pre ++ r).take c
  | 0, _, _, _, _, _, _, h => by simp [rdGo] at h
  | _ + 1, _, [], _, _, _, _, h => by simp [rdGo] at h
  | f + 1, pre, b :: r, v, c, hl, hp, h => by
    unfold rdGo at h
    split at h
    · rename_i hb
      split at h
      · rename_i h2
        simp at h
        obtain ⟨rfl, rfl⟩ := h
        unfold varB
        rw [varF_raw pre b hb hp h2.1 9 (by omega)]
        have : pre ++ b :: r = (pre ++ [b]) ++ r := by simp
        rw [this, List.take_append_of_le_length (by simp), List.take_of_length_le (by simp)]
      · cases h
    · rename_i hb
      have := rdGo_is f (pre ++ [b]) r v c (by simp; omega) (fun x hx => by
        rcases List.mem_append.1 hx with hx | hx
        · exact hp x hx
        · simp at hx; subst hx; omega) h
      simpa using this

theorem rdGo_is5 {r : List UInt8} {v c : Nat} (h : rdGo 5 [] r = some (v, c)) : varB v = r.take c := by
  simpa using rdGo_is 5 [] r v c (by simp) (by simp) h

/-- What ReadEntry finds. -/
def rdEntry : List UInt8 → Option (Nat × Nat × Nat × List UInt8)
  | [] => none
  | h :: r =>
    match rdGo 5 [] r with
    | none => none
    | some (i, c1) =>
      match rdGo 5 [] (r.drop c1) with
      | none => none
      | some (t, c2) =>
        match (r.drop c1).drop c2 with
        | [] => none
        | k :: d => if h = 69 ∧ indexOk i = true ∧ entryOk t k.toNat d = true then some (i, t, k.toNat, d) else none

/-- The bytes are those of the entry that is found. -/
theorem parts_of_read {h : UInt8} {r d : List UInt8} {i t c1 c2 : Nat} {k : UInt8} (h1 : rdGo 5 [] r = some (i, c1)) (h2 : rdGo 5 [] (r.drop c1) = some (t, c2)) (h3 : (r.drop c1).drop c2 = k :: d) :
    entryB i t k.toNat d = h :: r ↔ h = 69 := by
  have e1 := rdGo_is5 h1
  have e2 := rdGo_is5 h2
  have : varB i ++ (varB t ++ (UInt8.ofNat k.toNat :: d)) = r := by
    rw [e1, e2]
    have hk : UInt8.ofNat k.toNat = k := by simp
    rw [hk, ← h3, List.take_append_drop, List.take_append_drop]
  unfold entryB
  rw [this]
  constructor
  · intro h; simp at h; exact h.symm
  · rintro rfl; rfl

theorem rdEntry_text {i t k : Nat} {l : List UInt8} (hi : indexOk i = true) (he : entryOk t k l = true) : rdEntry (entryB i t k l) = some (i, t, k, l) := by
  unfold entryB rdEntry
  have hi' := hi
  simp only [indexOk, Bool.and_eq_true, decide_eq_true_eq] at hi'
  have he' := he
  unfold entryOk termOk at he'
  simp only [Bool.and_eq_true, decide_eq_true_eq] at he'
  have hk := contOk_len he'.1
  simp only
  rw [rdGo_varB i (by omega)]
  simp only
  rw [List.drop_left, rdGo_varB t (by omega)]
  simp only
  rw [List.drop_left]
  simp only
  have : (UInt8.ofNat k).toNat = k := by simp [UInt8.toNat_ofNat']; omega
  rw [this, if_pos ⟨trivial, hi, he⟩]

/-- More than half of a conf. -/
def mostOf (conf list : List Int) : Bool := confOk conf && decide (conf.length < 2 * (conf.filter fun z => list.contains z).length)

end Go.Proofs.YthbgklmnmoclhaaGreatDoor.P9

namespace Go.Proofs.YthbgklmnmoclhaaGreatDoor.P9
open P1

/-- Not an entry's text: at each step. -/
theorem rdEntry_nil : rdEntry [] = none := rfl

theorem rdEntry_head {l : List UInt8} (h : l.head? ≠ some 69) : rdEntry l = none := by
  cases l with
  | nil => rfl
  | cons b r =>
    have hb : ¬ b = 69 := fun e => h (by rw [e]; rfl)
    simp only [rdEntry]
    cases h1 : rdGo 5 [] r with
    | none => rfl
    | some p =>
      obtain ⟨i, c1⟩ := p
      simp only
      cases h2 : rdGo 5 [] (r.drop c1) with
      | none => rfl
      | some q =>
        obtain ⟨t, c2⟩ := q
        simp only
        cases h3 : (r.drop c1).drop c2 with
        | nil => rfl
        | cons k d => simp only; rw [if_neg (fun q => hb q.1)]

theorem rdEntry_one {l : List UInt8} (h1 : rdGo 5 [] (l.drop 1) = none) : rdEntry l = none := by
  cases l with
  | nil => rfl
  | cons b r =>
    simp only [List.drop_one, List.tail_cons] at h1
    simp only [rdEntry, h1]

theorem rdEntry_two {l : List UInt8} {i c1 : Nat} (h1 : rdGo 5 [] (l.drop 1) = some (i, c1)) (h2 : rdGo 5 [] (l.drop (1 + c1)) = none) : rdEntry l = none := by
  cases l with
  | nil => rfl
  | cons b r =>
    rw [← List.drop_drop] at h2
    simp only [List.drop_one, List.tail_cons] at h1 h2
    simp only [rdEntry, h1, h2]

theorem rdEntry_short {l : List UInt8} {i c1 t c2 : Nat} (h1 : rdGo 5 [] (l.drop 1) = some (i, c1)) (h2 : rdGo 5 [] (l.drop (1 + c1)) = some (t, c2)) (h3 : l.drop (1 + c1 + c2) = []) : rdEntry l = none := by
  cases l with
  | nil => rfl
  | cons b r =>
    rw [← List.drop_drop, ← List.drop_drop] at h3
    rw [← List.drop_drop] at h2
    simp only [List.drop_one, List.tail_cons] at h1 h2 h3
    simp only [rdEntry, h1, h2, h3]

theorem rdEntry_all {l : List UInt8} {i c1 t c2 : Nat} {k : UInt8} {d : List UInt8} (h1 : rdGo 5 [] (l.drop 1) = some (i, c1)) (h2 : rdGo 5 [] (l.drop (1 + c1)) = some (t, c2)) (h3 : l.drop (1 + c1 + c2) = k :: d) :
    rdEntry l = if l.head? = some 69 ∧ indexOk i = true ∧ entryOk t k.toNat d = true then some (i, t, k.toNat, d) else none := by
  cases l with
  | nil => simp at h3
  | cons b r =>
    rw [← List.drop_drop, ← List.drop_drop] at h3
    rw [← List.drop_drop] at h2
    simp only [List.drop_one, List.tail_cons] at h1 h2 h3
    simp only [rdEntry, h1, h2, h3]
    simp

/-- What the text of what is read comes to. -/
theorem entryB_all {l : List UInt8} {i c1 t c2 : Nat} {k : UInt8} {d : List UInt8} (h1 : rdGo 5 [] (l.drop 1) = some (i, c1)) (h2 : rdGo 5 [] (l.drop (1 + c1)) = some (t, c2)) (h3 : l.drop (1 + c1 + c2) = k :: d) :
    entryB i t k.toNat d = l ↔ l.head? = some 69 := by
  cases l with
  | nil => simp at h3
  | cons b r =>
    rw [← List.drop_drop, ← List.drop_drop] at h3
    rw [← List.drop_drop] at h2
    simp only [List.drop_one, List.tail_cons] at h1 h2 h3
    rw [parts_of_read h1 h2 h3]
    simp

end Go.Proofs.YthbgklmnmoclhaaGreatDoor.P9

namespace Go.Proofs.YthbgklmnmoclhaaGreatDoor.P5

structure FileV where
  name : List UInt8
  text : List UInt8
  kept : Int
deriving DecidableEq

/-- Texts byte by byte, a beginning being less. -/
def ltB (x y : List UInt8) : Bool := decide (x < y)

def nameOk (s : List UInt8) : Bool := decide (1 ≤ s.length) && decide (s.length ≤ 8)
def fileOk (f : FileV) : Bool := nameOk f.name && decide (f.text.length ≤ 20000) && decide (0 ≤ f.kept) && decide (f.kept ≤ (f.text.length : Int))

/-- Each right, its name behind the one before. -/
def okFrom : Option (List UInt8) → List FileV → Bool
  | _, [] => true
  | p, f :: r => fileOk f && (match p with | none => true | some x => ltB x f.name) && okFrom (some f.name) r

def diskOk (d : List FileV) : Bool := decide (d.length ≤ 30) && okFrom none d

def fileAt (d : List FileV) (n : List UInt8) : Option FileV := d.find? fun f => f.name == n
def without (d : List FileV) (n : List UInt8) : List FileV := d.filter fun f => f.name != n
def put (d : List FileV) (f : FileV) : List FileV := (d.filter fun g => ltB g.name f.name) ++ f :: d.filter fun g => ltB f.name g.name

/-- What the power leaves of a file. -/
def leftOf (f : FileV) (n : Int) : Nat := (max (min n (f.text.length : Int)) f.kept).toNat
def loseF (f : FileV) (n : Int) : FileV := ⟨f.name, f.text.take (leftOf f n), (leftOf f n : Int)⟩
def lose (d : List FileV) (left : List Int) : List FileV := d.mapIdx fun i f => loseF f (left.getD i 0)

theorem fileOk_kept {f : FileV} (h : fileOk f = true) : 0 ≤ f.kept ∧ f.kept ≤ (f.text.length : Int) := by
  simp [fileOk] at h
  omega

theorem leftOf_le {f : FileV} (h : fileOk f = true) (n : Int) : leftOf f n ≤ f.text.length := by
  have := fileOk_kept h
  unfold leftOf
  omega

theorem kept_le_left {f : FileV} (h : fileOk f = true) (n : Int) : f.kept ≤ (leftOf f n : Int) := by
  have := fileOk_kept h
  unfold leftOf
  omega

/-- All that is left is kept. -/
theorem loseF_kept {f : FileV} (h : fileOk f = true) (n : Int) : (loseF f n).kept = ((loseF f n).text.length : Int) := by
  have := leftOf_le h n
  simp [loseF, List.length_take]
  omega

/-- Lost again, nothing more is lost. -/
theorem loseF_again {f : FileV} (h : fileOk f = true) (n m : Int) : loseF (loseF f n) m = loseF f n := by
  have h1 := loseF_kept h n
  have e : leftOf (loseF f n) m = (loseF f n).text.length := by
    unfold leftOf
    rw [h1]
    omega
  show FileV.mk (loseF f n).name ((loseF f n).text.take (leftOf (loseF f n) m)) (leftOf (loseF f n) m : Int) = loseF f n
  rw [e, List.take_length, ← h1]

end Go.Proofs.YthbgklmnmoclhaaGreatDoor.P5

namespace Go.Proofs.YthbgklmnmoclhaaGreatDoor.K
open Go.RowKit

theorem flat_length {α : Type} (f : α → List Value) (k : Nat) (hk : ∀ x, (f x).length = k) : ∀ xs : List α, (xs.flatMap f).length = xs.length * k
  | [] => by simp
  | x :: xs => by
    rw [List.flatMap_cons, List.length_append, hk, flat_length f k hk xs, List.length_cons, Nat.add_mul, Nat.one_mul, Nat.add_comm]

theorem flat_get {α : Type} (f : α → List Value) (k : Nat) (hk : ∀ x, (f x).length = k) : ∀ (xs : List α) (i j : Nat) (hi : i < xs.length), j < k → (xs.flatMap f)[i * k + j]? = (f xs[i])[j]?
  | x :: xs, 0, j, _, hj => by
    rw [List.flatMap_cons, List.getElem?_append_left (by rw [hk]; omega)]
    simp
  | x :: xs, i + 1, j, hi, hj => by
    rw [List.flatMap_cons, List.getElem?_append_right (by rw [hk, Nat.add_mul]; omega), hk, show (i + 1) * k + j - k = i * k + j by rw [Nat.add_mul]; omega]
    rw [flat_get f k hk xs i j (by simpa using hi) hj]
    simp

theorem flat_set {α : Type} (f : α → List Value) (k : Nat) (hk : ∀ x, (f x).length = k) (v : Value) : ∀ (xs : List α) (i j : Nat) (y : α) (hi : i < xs.length), j < k → f y = (f xs[i]).set j v → (xs.flatMap f).set (i * k + j) v = (xs.set i y).flatMap f
  | x :: xs, 0, j, y, _, hj, hy => by
    rw [List.flatMap_cons, Nat.zero_mul, Nat.zero_add, List.set_append_left _ _ (by rw [hk]; omega), List.set_cons_zero, List.flatMap_cons, hy]
    rfl
  | x :: xs, i + 1, j, y, hi, hj, hy => by
    rw [List.flatMap_cons, List.set_append_right _ _ (by rw [hk, Nat.add_mul]; omega), hk, show (i + 1) * k + j - k = i * k + j by rw [Nat.add_mul]; omega, List.set_cons_succ, List.flatMap_cons]
    rw [flat_set f k hk v xs i j y (by simpa using hi) hj (by simpa using hy)]

/-- A cell of an owned row. -/
theorem own_at {w : World} {base : Nat} {e : TypeId} {size g n cap : Nat} {xs : List Value} (h : w.ownsRow base e size (.slice (some ⟨g, 0, none⟩) n cap) n xs) (j : Nat) (u : Value) (hu : xs[j]? = some u) : w.cell? ⟨g, j, none⟩ = some u := by
  have := h.cells (g := g) rfl j u hu
  have ha : (⟨g, 0, none⟩ : Addr).add j = ⟨g, j, none⟩ := by unfold Addr.add; split <;> simp_all
  rwa [ha] at this

end Go.Proofs.YthbgklmnmoclhaaGreatDoor.K

namespace Go.Proofs.YthbgklmnmoclhaaGreatDoor
open Go.RowKit Go.Deep Go.ChangeShapes Go.WideShapes P5 K
set_option linter.unusedVariables false

/-- A file's cells. -/
def fcells (f : FileV) : List Value := [.string ⟨f.name.toArray⟩, .string ⟨f.text.toArray⟩, .int .i64 f.kept]

theorem fcells_length (f : FileV) : (fcells f).length = 3 := rfl

section
variable {H : Type} {enc : TypeId × Value → H} {P : Program} {w : World} {base : Nat} {spare : Nat → Bool} {held : Bool}

/-- One struct of two texts and a number. -/
theorem file_of_trod {e tS tI : TypeId} {f0 f1 f2 : Field} {fuel : Nat} {cs : List Value} {x : DataW H × List MemPlace} (he : P.underlying e = some (.struct #[f0, f1, f2]))
    (hS : P.underlying tS = some .string) (hI : P.underlying tI = some (.int .i64)) (t0 : f0.type = tS) (t1 : f1.type = tS) (t2 : f2.type = tI) (o0 : f0.offset = 0) (o1 : f1.offset = 1) (o2 : f2.offset = 2)
    (ce : P.cellsOf e = 3) (cS : P.cellsOf tS = 1) (cI : P.cellsOf tI = 1) (h : DataW.trod enc P w base spare held fuel e cs = some x) :
    ∃ f : FileV, cs = fcells f ∧ f.name.length ≤ maxLen ∧ f.text.length ≤ maxLen ∧ (Lit.int .i64 f.kept).wf = true := by
  obtain ⟨xs, n, _, _, hlen, hxl, hf⟩ := DataW.trod_struct he h
  rw [ce] at hlen
  match xs, hxl, cs, hlen with
  | [y0, y1, y2], _, [v0, v1, v2], _ =>
    have g0 := hf 0 f0 rfl
    have g1 := hf 1 f1 rfl
    have g2 := hf 2 f2 rfl
    simp [o0, o1, o2, t0, t1, t2, cS, cI] at g0 g1 g2
    obtain ⟨s0, e0, _, m0⟩ := DataW.trod_string hS g0
    obtain ⟨s1, e1, _, m1⟩ := DataW.trod_string hS g1
    obtain ⟨k, e2, _, m2⟩ := DataW.trod_int hI g2
    cases e0; cases e1; cases e2
    exact ⟨⟨s0.data.toList, s1.data.toList, k⟩, rfl, m0, m1, m2⟩

/-- A slice of such structs that came in. -/
theorem open_files {t e tS tI : TypeId} {f0 f1 f2 : Field} {fuel : Nat} {cs : List Value} {x : DataW H × List MemPlace} (ht : P.underlying t = some (.slice e)) (he : P.underlying e = some (.struct #[f0, f1, f2]))
    (hS : P.underlying tS = some .string) (hI : P.underlying tI = some (.int .i64)) (t0 : f0.type = tS) (t1 : f1.type = tS) (t2 : f2.type = tI) (o0 : f0.offset = 0) (o1 : f1.offset = 1) (o2 : f2.offset = 2)
    (ce : P.cellsOf e = 3) (cS : P.cellsOf tS = 1) (cI : P.cellsOf tI = 1) (h : DataW.trod enc P w base (fun _ => true) held fuel t cs = some x) :
    cs = [.slice none 0 0] ∨ ∃ (a : Addr) (len cap : Nat) (F : Nat → FileV), cs = [.slice (some a) len cap] ∧ len ≤ cap ∧ cap ≤ maxLen ∧
      ∀ i, i < len → (∀ j, j < 3 → w.cell? (a.add (i * 3 + j)) = (fcells (F i))[j]?) ∧ (F i).name.length ≤ maxLen ∧ (F i).text.length ≤ maxLen ∧ (Lit.int .i64 (F i).kept).wf = true := by
  rcases open_slice ht h with h0 | ⟨a, len, cap, m, n, D, Pl, rfl, hb, hl, hm, hmm, _, hx⟩
  · exact Or.inl h0.1
  · right
    have each : ∀ i, i < len → ∃ f : FileV, (∀ j, j < 3 → w.cell? (a.add (i * 3 + j)) = (fcells f)[j]?) ∧ f.name.length ≤ maxLen ∧ f.text.length ≤ maxLen ∧ (Lit.int .i64 f.kept).wf = true := by
      intro i hi
      obtain ⟨cs', h1, h2⟩ := hx i (by rw [hmm]; simp; omega)
      rw [ce] at h1
      obtain ⟨_, _, hcell⟩ := World.cells?_some h1
      obtain ⟨f, rfl, b1, b2, b3⟩ := file_of_trod he hS hI t0 t1 t2 o0 o1 o2 ce cS cI h2
      exact ⟨f, fun j hj => by rw [← add_add]; exact hcell j hj, b1, b2, b3⟩
    have : Inhabited FileV := ⟨⟨[], [], 0⟩⟩
    obtain ⟨F, hF⟩ := choose_lt each
    exact ⟨a, len, cap, F, rfl, hl, hm, hF⟩
end

end Go.Proofs.YthbgklmnmoclhaaGreatDoor
