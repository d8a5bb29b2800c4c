/-
  A struct that was handed over, in a block of its own: its cells, while only new memory is made.
  Walks of chapter 6: LogBehind of the program.
  Walks of chapter 6: LogBehind of the specification (made by wip/tools/gen6e.py).
  What is put into a log; what stands while the new list is made, in whatever order.
-/
import Derived.Test.YthbgklmnmoclhaaGreatDoorPack1
import Derived.Test.YthbgklmnmoclhaaGreatDoorPack12
import Derived.WalkSmall
import Derived.Laws.IdiomCopy
import Derived.Test.YthbgklmnmoclhaaGreatDoorPack9
namespace Go.Proofs.YthbgklmnmoclhaaGreatDoor
open Go.RowKit K
set_option linter.unusedVariables false

/-- A block that is known whole: a cell of it, and that it may be written. -/
theorem blk_cell {w : World} {b : Nat} {cs : Array Value} {t : TypeId} (h : w.heap[b]? = some (.cells cs t (0, 0))) (j : Nat) {u : Value} (hu : cs[j]? = some u) : w.cell? ⟨b, j, none⟩ = some u := by
  rw [cell_of_row w b j _ _ _ h]; exact hu
theorem blk_free {w : World} {b : Nat} {cs : Array Value} {t : TypeId} (h : w.heap[b]? = some (.cells cs t (0, 0))) (j : Nat) : w.frozen? ⟨b, j, none⟩ = false := by
  simp [World.frozen?, h]
theorem blk_lt {w : World} {b : Nat} {x : Obj} (h : w.heap[b]? = some x) : b < w.heap.size := (Array.getElem?_eq_some_iff.1 h).1
theorem blk_set {w : World} {p k : Nat} {cs : Array Value} {e : TypeId} (v : Value) (h : w.heap[p]? = some (.cells cs e (0, 0))) : (w.setCell ⟨p, k, none⟩ v).heap[p]? = some (.cells (cs.setIfInBounds k v) e (0, 0)) := by
  simp only [World.setCell, Array.getElem?_modify, if_true, h]
  rfl
theorem blk_grown (w : World) (p k : Nat) (v : Value) : w.grownBy (w.setCell ⟨p, k, none⟩ v) (some p) :=
  ⟨rfl, rfl, rfl, by simp [World.setCell], fun j hj hne => Below.heap_setCell _ _ _ _ (fun e => hne (by rw [e]))⟩

/-- Cells of a block written one behind the other. -/
def setArr (cs : Array Value) : Nat → List Value → Array Value
  | _, [] => cs
  | o, v :: r => setArr (cs.setIfInBounds o v) (o + 1) r

theorem blk_setAll {p : Nat} {e : TypeId} : ∀ (vs : List Value) (w : World) (cs : Array Value) (o : Nat), w.heap[p]? = some (.cells cs e (0, 0)) →
    (w.setCells p o vs).heap[p]? = some (.cells (setArr cs o vs) e (0, 0)) ∧ w.grownBy (w.setCells p o vs) (some p)
  | [], w, cs, o, h => ⟨h, World.grownBy.refl _ _⟩
  | v :: r, w, cs, o, h => by
    have h1 := blk_setAll r (w.setCell ⟨p, o, none⟩ v) (cs.setIfInBounds o v) (o + 1) (blk_set (k := o) v h)
    exact ⟨h1.1, grown_trans (blk_grown w p o v) h1.2⟩

/-- A row's value, written out. -/
theorem row_form {w : World} {base : Nat} {e : TypeId} {size : Nat} {v : Value} {n : Nat} {xs : List Value} (h : w.ownsRow base e size v n xs) : ∃ oa cap, v = .slice oa n cap := by
  rcases h.2 with ⟨rfl, rfl⟩ | ⟨g, cap, cur, rfl, _⟩
  · exact ⟨_, _, rfl⟩
  · exact ⟨_, _, rfl⟩

/-- What was handed over stands where it was laid: at the first new block. -/
def BoxS (w : World) (cs : Array Value) (t : TypeId) (w' : World) : Prop := Below w.heap.size w w' ∧ w'.heap[w.heap.size]? = some (.cells cs t (0, 0))

theorem BoxS.new (w : World) (cs : Array Value) (t : TypeId) : BoxS w cs t (w.alloc (.cells cs t)) := ⟨(Below.refl _ _).alloc (Nat.le_refl _) _, heap_alloc_new _ _⟩
theorem BoxS.lt {w : World} {cs : Array Value} {t : TypeId} {w' : World} (h : BoxS w cs t w') : w.heap.size < w'.heap.size := blk_lt h.2
theorem BoxS.call {w : World} {cs : Array Value} {t : TypeId} {w' w'' : World} (h : BoxS w cs t w') (hb : Below w'.heap.size w' w'') : BoxS w cs t w'' :=
  ⟨h.1.trans (hb.mono (Nat.le_of_lt h.lt)), (hb.block _ h.lt).trans h.2⟩
theorem BoxS.alloc {w : World} {cs : Array Value} {t : TypeId} {w' : World} (h : BoxS w cs t w') (o : Obj) : BoxS w cs t (w'.alloc o) := h.call ((Below.refl _ _).alloc (Nat.le_refl _) _)
theorem BoxS.drew {w : World} {cs : Array Value} {t : TypeId} {w' : World} (h : BoxS w cs t w') : BoxS w cs t w'.drew := h.call (Below.refl _ _).drew
theorem BoxS.cell {w : World} {cs : Array Value} {t : TypeId} {w' : World} (h : BoxS w cs t w') (j : Nat) {u : Value} (hu : cs[j]? = some u) : w'.cell? ⟨w.heap.size, j, none⟩ = some u := blk_cell h.2 j hu

end Go.Proofs.YthbgklmnmoclhaaGreatDoor

namespace Go.Proofs.YthbgklmnmoclhaaGreatDoor
open Go.RowKit P1 P9 K
set_option linter.unusedVariables false
set_option linter.unusedSimpArgs false

theorem lgOk_hd {s u : Int} {es : List EntV} (h : lgOk s u es = true) : 0 ≤ s ∧ s ≤ 1000000 ∧ 0 ≤ u ∧ u ≤ 100000 ∧ es.length ≤ 60 ∧ s + es.length ≤ 1000000 ∧ upE u es = true := by
  unfold lgOk lgHd at h
  simp only [Bool.and_eq_true, decide_eq_true_eq] at h
  exact ⟨h.1.1, h.1.2.1, h.1.2.2.1, h.1.2.2.2.1, h.1.2.2.2.2.1, h.1.2.2.2.2.2, h.2⟩

theorem lastI_in {s : Int} {n : Nat} (h0 : 0 ≤ s) (h1 : s ≤ 1000000) (hn : n ≤ 60) : lastI s n = s + n := by
  unfold lastI
  split
  · omega
  · unfold wrap64
    omega

theorem blk_new2 (w : World) (X Y : Obj) : ((w.alloc X).alloc Y).heap[w.heap.size + 1]? = some Y := by
  have h := heap_alloc_new (w.alloc X) Y
  rwa [show (w.alloc X).heap.size = w.heap.size + 1 by simp] at h

/-- Whether a log has this base with this term; what is behind it. -/
def bhOk (s u : Int) (es : List EntV) (b t : Int) : Bool := lgOk s u es && ((decide (s ≤ b) && decide (b ≤ s + es.length)) && decide (lastT u (es.take (b - s).toNat) = t))
def bhL (s u : Int) (es : List EntV) (b t : Int) : List EntV := if bhOk s u es b t = true then es.drop (b - s).toNat else []

end Go.Proofs.YthbgklmnmoclhaaGreatDoor

namespace Go.Proofs.YthbgklmnmoclhaaGreatDoor
open Go.RowKit P1 P9 K
set_option linter.unusedVariables false
set_option linter.unusedSimpArgs false

theorem blk_new3 (w : World) (X Y Z : Obj) : (((w.alloc X).alloc Y).alloc Z).heap[w.heap.size + 1 + 1]? = some Z := by
  have h := heap_alloc_new ((w.alloc X).alloc Y) Z
  rwa [show ((w.alloc X).alloc Y).heap.size = w.heap.size + 1 + 1 by simp] at h

end Go.Proofs.YthbgklmnmoclhaaGreatDoor

namespace Go.Proofs.YthbgklmnmoclhaaGreatDoor
open Go.RowKit P1 P9 K
set_option linter.unusedVariables false
set_option linter.unusedSimpArgs false

def putL (s : Int) (es : List EntV) (ix : Int) (e : EntV) : List EntV := es.take (ix - s - 1).toNat ++ [e]
def putOk (s u : Int) (es : List EntV) (ix : Int) (e : EntV) : Bool := lgOk s u es && ((decide (s + 1 ≤ ix) && decide (ix ≤ s + es.length + 1)) && lgOk s u (putL s es ix e))
def putR (s u : Int) (es : List EntV) (ix : Int) (e : EntV) : Int × Int × List EntV × Bool := if putOk s u es ix e = true then (s, u, putL s es ix e, true) else (0, 0, [], false)

/-- A log and a bool that are handed back. -/
def LogRes2 (w : World) (r : Int × Int × List EntV × Bool) (e : Ending) (w' : World) : Prop :=
  ∃ v, e = .returned (.tuple #[lgv r.1 r.2.1 v, .bool r.2.2.2]) ∧ w'.ownsRow w.heap.size 111 3 v r.2.2.1.length (r.2.2.1.flatMap ecells) ∧ Below w.heap.size w w'

/-- The log and the entry that were handed in stand where they were laid. -/
def PutS (B : Nat) (s u : Int) (v : Value) (e : EntV) (W w' : World) : Prop :=
  Below W.heap.size W w' ∧ LV w' B s u v ∧ w'.cell? ⟨B + 1, 0, none⟩ = some (.int .i64 e.term) ∧ w'.cell? ⟨B + 1, 1, none⟩ = some (.int .i64 e.kind) ∧ w'.cell? ⟨B + 1, 2, none⟩ = some (.string e.data)

theorem PutS.cells {B : Nat} {s u : Int} {v : Value} {e : EntV} {W w' : World} (h : PutS B s u v e W w') : w'.cell? ⟨B, 0, none⟩ = some (.int .i64 s) ∧ w'.cell? ⟨B, 1, none⟩ = some (.int .i64 u) ∧ w'.cell? ⟨B, 2, none⟩ = some v ∧ w'.cell? ⟨B + 1, 0, none⟩ = some (.int .i64 e.term) ∧ w'.cell? ⟨B + 1, 1, none⟩ = some (.int .i64 e.kind) ∧ w'.cell? ⟨B + 1, 2, none⟩ = some (.string e.data) :=
  ⟨h.2.1.c0, h.2.1.c1, h.2.1.c2, h.2.2.1, h.2.2.2.1, h.2.2.2.2⟩

/-- What stood in W stands as long as only new memory is written. -/
theorem PutS.of {B : Nat} {s u : Int} {v : Value} {e : EntV} {W w' : World} (h : PutS B s u v e W W) (hb : Below W.heap.size W w') : PutS B s u v e W w' :=
  ⟨hb, h.2.1.on hb, (hb.cell (cell_lt h.2.2.1)).trans h.2.2.1, (hb.cell (cell_lt h.2.2.2.1)).trans h.2.2.2.1, (hb.cell (cell_lt h.2.2.2.2)).trans h.2.2.2.2⟩

/-- The state of a list in the making: o4 an empty block, o13 a row of the entries ahead, o15 the entry's block, o16 the whole row, o18 the new log's block. -/
structure PuSt (W : World) (e : EntV) (xs ys : List EntV) (o4 : Option Nat) (o13 : Option Value) (o15 : Option Nat) (o16 : Option Value) (o18 : Option Nat) (w : World) : Prop where
  bel : Below W.heap.size W w
  h4 : ∀ g, o4 = some g → W.heap.size ≤ g ∧ w.heap[g]? = some (.cells #[] 111 (0, 0))
  h13 : ∀ v, o13 = some v → w.ownsRow W.heap.size 111 3 v xs.length (xs.flatMap ecells)
  h15 : ∀ b, o15 = some b → w.heap[b]? = some (.cells #[.int .i64 e.term, .int .i64 e.kind, .string e.data] 111 (0, 0))
  h16 : ∀ v, o16 = some v → w.ownsRow W.heap.size 111 3 v ys.length (ys.flatMap ecells)
  h18 : ∀ b, o18 = some b → W.heap.size ≤ b ∧ w.heap[b]? = some (.cells #[.int .i64 0, .int .i64 0, .slice none 0 0] 28 (0, 0))

section
variable {W : World} {e : EntV} {xs ys : List EntV} {o4 : Option Nat} {o13 : Option Value} {o15 : Option Nat} {o16 : Option Value} {o18 : Option Nat} {w w' : World}

theorem PuSt.start (W : World) (e : EntV) (xs ys : List EntV) : PuSt W e xs ys none none none none none W.drew :=
  ⟨(Below.refl _ _).drew, (fun _ h => by cases h), (fun _ h => by cases h), (fun _ h => by cases h), (fun _ h => by cases h), (fun _ h => by cases h)⟩

theorem PuSt.on (h : PuSt W e xs ys o4 o13 o15 o16 o18 w) (hb : Below w.heap.size w w') : PuSt W e xs ys o4 o13 o15 o16 o18 w' :=
  ⟨h.bel.trans (hb.mono h.bel.size), fun g hg => ⟨(h.h4 g hg).1, (hb.block g (blk_lt (h.h4 g hg).2)).trans (h.h4 g hg).2⟩, fun v hv => own_below (h.h13 v hv) hb, fun b hb' => (hb.block b (blk_lt (h.h15 b hb'))).trans (h.h15 b hb'), fun v hv => own_below (h.h16 v hv) hb, fun b hb' => ⟨(h.h18 b hb').1, (hb.block b (blk_lt (h.h18 b hb').2)).trans (h.h18 b hb').2⟩⟩

theorem PuSt.alloc4 (h : PuSt W e xs ys none o13 o15 o16 o18 w) : PuSt W e xs ys (some w.heap.size) o13 o15 o16 o18 (w.alloc (.cells #[] 111)) := by
  have k := h.on ((Below.refl w.heap.size w).alloc (Nat.le_refl _) (.cells #[] 111))
  exact ⟨k.bel, fun g hg => by cases hg; exact ⟨h.bel.size, heap_alloc_new _ _⟩, k.h13, k.h15, k.h16, k.h18⟩

theorem PuSt.alloc15 (h : PuSt W e xs ys o4 o13 none o16 o18 w) : PuSt W e xs ys o4 o13 (some w.heap.size) o16 o18 (w.alloc (.cells #[.int .i64 e.term, .int .i64 e.kind, .string e.data] 111)) := by
  have k := h.on ((Below.refl w.heap.size w).alloc (Nat.le_refl _) (.cells #[.int .i64 e.term, .int .i64 e.kind, .string e.data] 111))
  exact ⟨k.bel, k.h4, k.h13, fun b hb => by cases hb; exact heap_alloc_new _ _, k.h16, k.h18⟩

theorem PuSt.alloc18 (h : PuSt W e xs ys o4 o13 o15 o16 none w) : PuSt W e xs ys o4 o13 o15 o16 (some w.heap.size) (w.alloc (.cells #[.int .i64 0, .int .i64 0, .slice none 0 0] 28)) := by
  have k := h.on ((Below.refl w.heap.size w).alloc (Nat.le_refl _) (.cells #[.int .i64 0, .int .i64 0, .slice none 0 0] 28))
  exact ⟨k.bel, k.h4, k.h13, k.h15, k.h16, fun b hb => by cases hb; exact ⟨h.bel.size, heap_alloc_new _ _⟩⟩

theorem PuSt.grow13 {g : Nat} {v : Value} (h : PuSt W e xs ys (some g) none o15 none o18 w) (ho : w'.ownsRow W.heap.size 111 3 v xs.length (xs.flatMap ecells)) (hg : w.grownBy w' (some g)) : PuSt W e xs ys none (some v) o15 none o18 w' := by
  have k4 := h.h4 g rfl
  refine ⟨h.bel.grown hg h.bel.size (fun q hq => by cases hq; exact k4.1), (fun _ h => by cases h), fun v' hv => by cases hv; exact ho, fun b hb => ?_, (fun _ h => by cases h), fun b hb => ?_⟩
  · have k := h.h15 b hb
    refine (hg.block b (blk_lt k) (fun e1 => ?_)).trans k
    cases e1
    rw [k4.2] at k
    cases k
  · have k := h.h18 b hb
    refine ⟨k.1, (hg.block b (blk_lt k.2) (fun e1 => ?_)).trans k.2⟩
    cases e1
    have k2 := k.2
    rw [k4.2] at k2
    cases k2

theorem PuSt.grow16 {v v' : Value} {b : Nat} (h : PuSt W e xs ys none (some v) (some b) none o18 w) (ho : w'.ownsRow W.heap.size 111 3 v' ys.length (ys.flatMap ecells)) (hg : w.grownBy w' v.ownBlock) : PuSt W e xs ys none none none (some v') o18 w' := by
  have k13 := h.h13 v rfl
  refine ⟨h.bel.grown hg h.bel.size (fun q hq => (k13.lt q hq).1), (fun _ h => by cases h), (fun _ h => by cases h), (fun _ h => by cases h), fun v2 hv => by cases hv; exact ho, fun b hb => ?_⟩
  have k := h.h18 b hb
  refine ⟨k.1, (hg.block b (blk_lt k.2) (fun e1 => ?_)).trans k.2⟩
  rcases k13.2 with ⟨rfl, -⟩ | ⟨g, cap, cur, rfl, -, hgb, -⟩
  · cases e1
  · cases e1
    have k2 := k.2
    rw [hgb] at k2
    cases k2

theorem PuSt.growFull {v' : Value} {b : Nat} (h : PuSt W e xs ys none none (some b) none o18 w) (ho : w'.ownsRow w.heap.size 111 3 v' ys.length (ys.flatMap ecells)) (hg : w.grownBy w' none) : PuSt W e xs ys none none none (some v') o18 w' :=
  ⟨h.bel.grown hg h.bel.size (fun q hq => by cases hq), (fun _ h => by cases h), (fun _ h => by cases h), (fun _ h => by cases h), fun v2 hv => by cases hv; exact own_base ho h.bel.size, fun b hb => ⟨(h.h18 b hb).1, (hg.block b (blk_lt (h.h18 b hb).2) (by simp)).trans (h.h18 b hb).2⟩⟩

/-- The new log stored. -/
theorem PuSt.stored {v : Value} {b : Nat} {s u : Int} (h : PuSt W e xs ys none none none (some v) (some b) w) :
    Below W.heap.size W (((w.setCell ⟨b, 0, none⟩ (.int .i64 s)).setCell ⟨b, 1, none⟩ (.int .i64 u)).setCell ⟨b, 2, none⟩ v) ∧
    LV (((w.setCell ⟨b, 0, none⟩ (.int .i64 s)).setCell ⟨b, 1, none⟩ (.int .i64 u)).setCell ⟨b, 2, none⟩ v) b s u v ∧
    (((w.setCell ⟨b, 0, none⟩ (.int .i64 s)).setCell ⟨b, 1, none⟩ (.int .i64 u)).setCell ⟨b, 2, none⟩ v).ownsRow W.heap.size 111 3 v ys.length (ys.flatMap ecells) := by
  have k := h.h18 b rfl
  have ho := h.h16 v rfl
  have hne : ∀ g, v.ownBlock = some g → g ≠ b := by
    rcases ho.2 with ⟨rfl, -⟩ | ⟨g, cap, cur, rfl, -, hgb, -⟩
    · intro g hg; cases hg
    · intro q hq e1
      cases hq
      subst e1
      have k2 := k.2
      rw [hgb] at k2
      cases k2
  have hs : (((w.setCell ⟨b, 0, none⟩ (.int .i64 s)).setCell ⟨b, 1, none⟩ (.int .i64 u)).setCell ⟨b, 2, none⟩ v).heap[b]? = some (.cells #[.int .i64 s, .int .i64 u, v] 28 (0, 0)) := by
    have k0 := blk_set (k := 0) (.int .i64 s) k.2
    have k1 := blk_set (k := 1) (.int .i64 u) k0
    have k2 := blk_set (k := 2) v k1
    simpa using k2
  refine ⟨((h.bel.setCell (by simpa using k.1) _).setCell (by simpa using k.1) _).setCell (by simpa using k.1) _, ⟨blk_cell hs 0 rfl, blk_cell hs 1 rfl, blk_cell hs 2 rfl⟩, ?_⟩
  exact own_setOther (own_setOther (own_setOther ho hne) hne) hne
end

end Go.Proofs.YthbgklmnmoclhaaGreatDoor
