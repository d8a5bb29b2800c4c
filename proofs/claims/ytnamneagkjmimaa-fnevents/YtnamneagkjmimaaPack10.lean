/-
  Disks in plain words: files in order of their names, and what acts make of them.
  Rows of structs of plain cells: a list of things, k cells each, one behind the other.
  Arguments opened, over any program: a slice of structs of three plain fields (two texts and a number), at every index.
-/
import Derived.Test.YtnamneagkjmimaaPack1
import Derived.Deep.Slices
import Derived.ChangeSame
namespace Go.Proofs.Ytnamneagkjmimaa.P5

structure FileV where
  name : List UInt8
  text : List UInt8
  kept : Int
deriving DecidableEq

/-- Texts byte by byte, a beginning being less. -/
def ltB (x y : List UInt8) : Bool := decide (x < y)

def nameOk (s : List UInt8) : Bool := decide (1 ≤ s.length) && decide (s.length ≤ 8)
def fileOk (f : FileV) : Bool := nameOk f.name && decide (f.text.length ≤ 20000) && decide (0 ≤ f.kept) && decide (f.kept ≤ (f.text.length : Int))

/-- Each right, its name behind the one before. -/
def okFrom : Option (List UInt8) → List FileV → Bool
  | _, [] => true
  | p, f :: r => fileOk f && (match p with | none => true | some x => ltB x f.name) && okFrom (some f.name) r

def diskOk (d : List FileV) : Bool := decide (d.length ≤ 30) && okFrom none d

def fileAt (d : List FileV) (n : List UInt8) : Option FileV := d.find? fun f => f.name == n
def without (d : List FileV) (n : List UInt8) : List FileV := d.filter fun f => f.name != n
def put (d : List FileV) (f : FileV) : List FileV := (d.filter fun g => ltB g.name f.name) ++ f :: d.filter fun g => ltB f.name g.name

/-- What the power leaves of a file. -/
def leftOf (f : FileV) (n : Int) : Nat := (max (min n (f.text.length : Int)) f.kept).toNat
def loseF (f : FileV) (n : Int) : FileV := ⟨f.name, f.text.take (leftOf f n), (leftOf f n : Int)⟩
def lose (d : List FileV) (left : List Int) : List FileV := d.mapIdx fun i f => loseF f (left.getD i 0)

theorem fileOk_kept {f : FileV} (h : fileOk f = true) : 0 ≤ f.kept ∧ f.kept ≤ (f.text.length : Int) := by
  simp [fileOk] at h
  omega

theorem leftOf_le {f : FileV} (h : fileOk f = true) (n : Int) : leftOf f n ≤ f.text.length := by
  have := fileOk_kept h
  unfold leftOf
  omega

theorem kept_le_left {f : FileV} (h : fileOk f = true) (n : Int) : f.kept ≤ (leftOf f n : Int) := by
  have := fileOk_kept h
  unfold leftOf
  omega

/-- All that is left is kept. -/
theorem loseF_kept {f : FileV} (h : fileOk f = true) (n : Int) : (loseF f n).kept = ((loseF f n).text.length : Int) := by
  have := leftOf_le h n
  simp [loseF, List.length_take]
  omega

/-- Lost again, nothing more is lost. -/
theorem loseF_again {f : FileV} (h : fileOk f = true) (n m : Int) : loseF (loseF f n) m = loseF f n := by
  have h1 := loseF_kept h n
  have e : leftOf (loseF f n) m = (loseF f n).text.length := by
    unfold leftOf
    rw [h1]
    omega
  show FileV.mk (loseF f n).name ((loseF f n).text.take (leftOf (loseF f n) m)) (leftOf (loseF f n) m : Int) = loseF f n
  rw [e, List.take_length, ← h1]

end Go.Proofs.Ytnamneagkjmimaa.P5

namespace Go.Proofs.Ytnamneagkjmimaa.K
open Go.RowKit

theorem flat_length {α : Type} (f : α → List Value) (k : Nat) (hk : ∀ x, (f x).length = k) : ∀ xs : List α, (xs.flatMap f).length = xs.length * k
  | [] => by simp
  | x :: xs => by
    rw [List.flatMap_cons, List.length_append, hk, flat_length f k hk xs, List.length_cons, Nat.add_mul, Nat.one_mul, Nat.add_comm]

theorem flat_get {α : Type} (f : α → List Value) (k : Nat) (hk : ∀ x, (f x).length = k) : ∀ (xs : List α) (i j : Nat) (hi : i < xs.length), j < k → (xs.flatMap f)[i * k + j]? = (f xs[i])[j]?
  | x :: xs, 0, j, _, hj => by
    rw [List.flatMap_cons, List.getElem?_append_left (by rw [hk]; omega)]
    simp
  | x :: xs, i + 1, j, hi, hj => by
    rw [List.flatMap_cons, List.getElem?_append_right (by rw [hk, Nat.add_mul]; omega), hk, show (i + 1) * k + j - k = i * k + j by rw [Nat.add_mul]; omega]
    rw [flat_get f k hk xs i j (by simpa using hi) hj]
    simp

theorem flat_set {α : Type} (f : α → List Value) (k : Nat) (hk : ∀ x, (f x).length = k) (v : Value) : ∀ (xs : List α) (i j : Nat) (y : α) (hi : i < xs.length), j < k → f y = (f xs[i]).set j v → (xs.flatMap f).set (i * k + j) v = (xs.set i y).flatMap f
  | x :: xs, 0, j, y, _, hj, hy => by
    rw [List.flatMap_cons, Nat.zero_mul, Nat.zero_add, List.set_append_left _ _ (by rw [hk]; omega), List.set_cons_zero, List.flatMap_cons, hy]
    rfl
  | x :: xs, i + 1, j, y, hi, hj, hy => by
    rw [List.flatMap_cons, List.set_append_right _ _ (by rw [hk, Nat.add_mul]; omega), hk, show (i + 1) * k + j - k = i * k + j by rw [Nat.add_mul]; omega, List.set_cons_succ, List.flatMap_cons]
    rw [flat_set f k hk v xs i j y (by simpa using hi) hj (by simpa using hy)]

/-- A cell of an owned row. -/
theorem own_at {w : World} {base : Nat} {e : TypeId} {size g n cap : Nat} {xs : List Value} (h : w.ownsRow base e size (.slice (some ⟨g, 0, none⟩) n cap) n xs) (j : Nat) (u : Value) (hu : xs[j]? = some u) : w.cell? ⟨g, j, none⟩ = some u := by
  have := h.cells (g := g) rfl j u hu
  have ha : (⟨g, 0, none⟩ : Addr).add j = ⟨g, j, none⟩ := by unfold Addr.add; split <;> simp_all
  rwa [ha] at this

end Go.Proofs.Ytnamneagkjmimaa.K

namespace Go.Proofs.Ytnamneagkjmimaa
open Go.RowKit Go.Deep Go.ChangeShapes Go.WideShapes P5 K
set_option linter.unusedVariables false

/-- A file's cells. -/
def fcells (f : FileV) : List Value := [.string ⟨f.name.toArray⟩, .string ⟨f.text.toArray⟩, .int .i64 f.kept]

theorem fcells_length (f : FileV) : (fcells f).length = 3 := rfl

section
variable {H : Type} {enc : TypeId × Value → H} {P : Program} {w : World} {base : Nat} {spare : Nat → Bool} {held : Bool}

/-- One struct of two texts and a number. -/
theorem file_of_trod {e tS tI : TypeId} {f0 f1 f2 : Field} {fuel : Nat} {cs : List Value} {x : DataW H × List MemPlace} (he : P.underlying e = some (.struct #[f0, f1, f2]))
    (hS : P.underlying tS = some .string) (hI : P.underlying tI = some (.int .i64)) (t0 : f0.type = tS) (t1 : f1.type = tS) (t2 : f2.type = tI) (o0 : f0.offset = 0) (o1 : f1.offset = 1) (o2 : f2.offset = 2)
    (ce : P.cellsOf e = 3) (cS : P.cellsOf tS = 1) (cI : P.cellsOf tI = 1) (h : DataW.trod enc P w base spare held fuel e cs = some x) :
    ∃ f : FileV, cs = fcells f ∧ f.name.length ≤ maxLen ∧ f.text.length ≤ maxLen ∧ (Lit.int .i64 f.kept).wf = true := by
  obtain ⟨xs, n, _, _, hlen, hxl, hf⟩ := DataW.trod_struct he h
  rw [ce] at hlen
  match xs, hxl, cs, hlen with
  | [y0, y1, y2], _, [v0, v1, v2], _ =>
    have g0 := hf 0 f0 rfl
    have g1 := hf 1 f1 rfl
    have g2 := hf 2 f2 rfl
    simp [o0, o1, o2, t0, t1, t2, cS, cI] at g0 g1 g2
    obtain ⟨s0, e0, _, m0⟩ := DataW.trod_string hS g0
    obtain ⟨s1, e1, _, m1⟩ := DataW.trod_string hS g1
    obtain ⟨k, e2, _, m2⟩ := DataW.trod_int hI g2
    cases e0; cases e1; cases e2
    exact ⟨⟨s0.data.toList, s1.data.toList, k⟩, rfl, m0, m1, m2⟩

/-- A slice of such structs that came in. -/
theorem open_files {t e tS tI : TypeId} {f0 f1 f2 : Field} {fuel : Nat} {cs : List Value} {x : DataW H × List MemPlace} (ht : P.underlying t = some (.slice e)) (he : P.underlying e = some (.struct #[f0, f1, f2]))
    (hS : P.underlying tS = some .string) (hI : P.underlying tI = some (.int .i64)) (t0 : f0.type = tS) (t1 : f1.type = tS) (t2 : f2.type = tI) (o0 : f0.offset = 0) (o1 : f1.offset = 1) (o2 : f2.offset = 2)
    (ce : P.cellsOf e = 3) (cS : P.cellsOf tS = 1) (cI : P.cellsOf tI = 1) (h : DataW.trod enc P w base (fun _ => true) held fuel t cs = some x) :
    cs = [.slice none 0 0] ∨ ∃ (a : Addr) (len cap : Nat) (F : Nat → FileV), cs = [.slice (some a) len cap] ∧ len ≤ cap ∧ cap ≤ maxLen ∧
      ∀ i, i < len → (∀ j, j < 3 → w.cell? (a.add (i * 3 + j)) = (fcells (F i))[j]?) ∧ (F i).name.length ≤ maxLen ∧ (F i).text.length ≤ maxLen ∧ (Lit.int .i64 (F i).kept).wf = true := by
  rcases open_slice ht h with h0 | ⟨a, len, cap, m, n, D, Pl, rfl, hb, hl, hm, hmm, _, hx⟩
  · exact Or.inl h0.1
  · right
    have each : ∀ i, i < len → ∃ f : FileV, (∀ j, j < 3 → w.cell? (a.add (i * 3 + j)) = (fcells f)[j]?) ∧ f.name.length ≤ maxLen ∧ f.text.length ≤ maxLen ∧ (Lit.int .i64 f.kept).wf = true := by
      intro i hi
      obtain ⟨cs', h1, h2⟩ := hx i (by rw [hmm]; simp; omega)
      rw [ce] at h1
      obtain ⟨_, _, hcell⟩ := World.cells?_some h1
      obtain ⟨f, rfl, b1, b2, b3⟩ := file_of_trod he hS hI t0 t1 t2 o0 o1 o2 ce cS cI h2
      exact ⟨f, fun j hj => by rw [← add_add]; exact hcell j hj, b1, b2, b3⟩
    have : Inhabited FileV := ⟨⟨[], [], 0⟩⟩
    obtain ⟨F, hF⟩ := choose_lt each
    exact ⟨a, len, cap, F, rfl, hl, hm, hF⟩
end

end Go.Proofs.Ytnamneagkjmimaa
