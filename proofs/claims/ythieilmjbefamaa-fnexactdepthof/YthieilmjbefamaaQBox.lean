/-
  Walks and mathematics of Box, RowK, StsArg.
-/
import Derived.Test.YthieilmjbefamaaQPlain5
import Derived.Deep.RegionHeld3
import Derived.Deep.DrawnRows
import Derived.WalkSmall
import Derived.Laws.IdiomCopy
import Derived.Test.YthieilmjbefamaaQItemsArg
import Derived.Laws.OwnMore
import Derived.Deep.MidRow
namespace Go.Proofs.Ythieilmjbefamaa
open Go.RowKit K
set_option linter.unusedVariables false

theorem blk_cell {w : World} {b : Nat} {cs : Array Value} {t : TypeId} (h : w.heap[b]? = some (.cells cs t (0, 0))) (j : Nat) {u : Value} (hu : cs[j]? = some u) : w.cell? ⟨b, j, none⟩ = some u := by
  rw [cell_of_row w b j _ _ _ h]; exact hu
theorem blk_free {w : World} {b : Nat} {cs : Array Value} {t : TypeId} (h : w.heap[b]? = some (.cells cs t (0, 0))) (j : Nat) : w.frozen? ⟨b, j, none⟩ = false := by
  simp [World.frozen?, h]
theorem blk_lt {w : World} {b : Nat} {x : Obj} (h : w.heap[b]? = some x) : b < w.heap.size := (Array.getElem?_eq_some_iff.1 h).1
theorem blk_set {w : World} {p k : Nat} {cs : Array Value} {e : TypeId} (v : Value) (h : w.heap[p]? = some (.cells cs e (0, 0))) : (w.setCell ⟨p, k, none⟩ v).heap[p]? = some (.cells (cs.setIfInBounds k v) e (0, 0)) := by
  simp only [World.setCell, Array.getElem?_modify, if_true, h]
  rfl
theorem blk_grown (w : World) (p k : Nat) (v : Value) : w.grownBy (w.setCell ⟨p, k, none⟩ v) (some p) :=
  ⟨rfl, rfl, rfl, by simp [World.setCell], fun j hj hne => Below.heap_setCell _ _ _ _ (fun e => hne (by rw [e]))⟩

def setArr (cs : Array Value) : Nat → List Value → Array Value
  | _, [] => cs
  | o, v :: r => setArr (cs.setIfInBounds o v) (o + 1) r

theorem blk_setAll {p : Nat} {e : TypeId} : ∀ (vs : List Value) (w : World) (cs : Array Value) (o : Nat), w.heap[p]? = some (.cells cs e (0, 0)) →
    (w.setCells p o vs).heap[p]? = some (.cells (setArr cs o vs) e (0, 0)) ∧ w.grownBy (w.setCells p o vs) (some p)
  | [], w, cs, o, h => ⟨h, World.grownBy.refl _ _⟩
  | v :: r, w, cs, o, h => by
    have h1 := blk_setAll r (w.setCell ⟨p, o, none⟩ v) (cs.setIfInBounds o v) (o + 1) (blk_set (k := o) v h)
    exact ⟨h1.1, grown_trans (blk_grown w p o v) h1.2⟩

theorem row_form {w : World} {base : Nat} {e : TypeId} {size : Nat} {v : Value} {n : Nat} {xs : List Value} (h : w.ownsRow base e size v n xs) : ∃ oa cap, v = .slice oa n cap := by
  rcases h.2 with ⟨rfl, rfl⟩ | ⟨g, cap, cur, rfl, _⟩
  · exact ⟨_, _, rfl⟩
  · exact ⟨_, _, rfl⟩

def BoxS (w : World) (cs : Array Value) (t : TypeId) (w' : World) : Prop := Below w.heap.size w w' ∧ w'.heap[w.heap.size]? = some (.cells cs t (0, 0))

theorem BoxS.new (w : World) (cs : Array Value) (t : TypeId) : BoxS w cs t (w.alloc (.cells cs t)) := ⟨(Below.refl _ _).alloc (Nat.le_refl _) _, heap_alloc_new _ _⟩
theorem BoxS.lt {w : World} {cs : Array Value} {t : TypeId} {w' : World} (h : BoxS w cs t w') : w.heap.size < w'.heap.size := blk_lt h.2
theorem BoxS.call {w : World} {cs : Array Value} {t : TypeId} {w' w'' : World} (h : BoxS w cs t w') (hb : Below w'.heap.size w' w'') : BoxS w cs t w'' :=
  ⟨h.1.trans (hb.mono (Nat.le_of_lt h.lt)), (hb.block _ h.lt).trans h.2⟩
theorem BoxS.alloc {w : World} {cs : Array Value} {t : TypeId} {w' : World} (h : BoxS w cs t w') (o : Obj) : BoxS w cs t (w'.alloc o) := h.call ((Below.refl _ _).alloc (Nat.le_refl _) _)
theorem BoxS.drew {w : World} {cs : Array Value} {t : TypeId} {w' : World} (h : BoxS w cs t w') : BoxS w cs t w'.drew := h.call (Below.refl _ _).drew
theorem BoxS.cell {w : World} {cs : Array Value} {t : TypeId} {w' : World} (h : BoxS w cs t w') (j : Nat) {u : Value} (hu : cs[j]? = some u) : w'.cell? ⟨w.heap.size, j, none⟩ = some u := blk_cell h.2 j hu

end Go.Proofs.Ythieilmjbefamaa

namespace Go.Proofs.Ythieilmjbefamaa
open Go.RowKit K
set_option linter.unusedVariables false
set_option linter.unusedSimpArgs false

section
variable {α : Type} {k : Nat} {cf : α → List Value}

structure RowsAt (k : Nat) (cf : α → List Value) (w : World) (oa : Option Addr) (n cap : Nat) (xs : List α) : Prop where
  len : xs.length = n
  room : n ≤ cap
  most : cap ≤ maxLen
  at_ : ∀ (i : Nat) (x : α), xs[i]? = some x → ∃ b o, oa = some ⟨b, o, none⟩ ∧ ∀ (j : Nat) u, (cf x)[j]? = some u → w.cell? ⟨b, o + i * k + j, none⟩ = some u

theorem RowsAt.below {w w' : World} {oa : Option Addr} {n cap : Nat} {xs : List α} (h : RowsAt k cf w oa n cap xs) (hb : Below w.heap.size w w') : RowsAt k cf w' oa n cap xs :=
  ⟨h.len, h.room, h.most, fun i f hf => by
    obtain ⟨b, o, ha, hc⟩ := h.at_ i f hf
    refine ⟨b, o, ha, fun j u hu => ?_⟩
    have h1 := hc j u hu
    rw [hb.cell (cell_lt h1)]
    exact h1⟩

theorem RowsAt.get {w : World} {oa : Option Addr} {n cap : Nat} {xs : List α} (h : RowsAt k cf w oa n cap xs) {P : Program} {t e : TypeId} (ht : P.underlying t = some (.slice e)) (hi : (P.info? e).map (·.size) = some k) (hk : ∀ x, (cf x).length = k) (hp : 0 < k) (i : Nat) (hin : i < n) :
    ∃ x b q, xs[i]? = some x ∧ (∀ wx, (Instr.indexAt t (.slice oa n cap) (.int .i64 (i : Int))).run P wx = .ok (.pointer (some ⟨b, q, none⟩)) wx) ∧ b < w.heap.size ∧ ∀ (j : Nat) u, (cf x)[j]? = some u → w.cell? ⟨b, q + j, none⟩ = some u := by
  obtain ⟨x, hx⟩ : ∃ x, xs[i]? = some x := ⟨_, List.getElem?_eq_getElem (by rw [h.len]; exact hin)⟩
  obtain ⟨b, o, rfl, hc⟩ := h.at_ i x hx
  obtain ⟨u, hu⟩ : ∃ u, (cf x)[0]? = some u := ⟨_, List.getElem?_eq_getElem (by rw [hk]; exact hp)⟩
  exact ⟨x, b, o + i * k, hx, fun wx => run_indexAt_slice wx t e k ht hi b o n cap i hin, cell_lt (hc 0 u hu), hc⟩

end

end Go.Proofs.Ythieilmjbefamaa

namespace Go.Proofs.Ythieilmjbefamaa
open Go.RowKit K
set_option linter.unusedVariables false

structure StsAt (w : World) (oa : Option Addr) (n cap : Nat) (ss : List (List (Int × Int))) : Prop where
  len : ss.length = n
  room : n ≤ cap
  most : cap ≤ maxLen
  at_ : ∀ (i : Nat) (s : List (Int × Int)), ss[i]? = some s → ∃ b o xa xc, oa = some ⟨b, o, none⟩ ∧ w.cell? ⟨b, o + i, none⟩ = some (.slice xa s.length xc) ∧ ItemsAt w xa s.length xc s

theorem StsAt.below {w w' : World} {oa : Option Addr} {n cap : Nat} {ss : List (List (Int × Int))} (h : StsAt w oa n cap ss) (hb : Below w.heap.size w w') : StsAt w' oa n cap ss :=
  ⟨h.len, h.room, h.most, fun i s hs => by
    obtain ⟨b, o, xa, xc, h1, h2, h3⟩ := h.at_ i s hs
    exact ⟨b, o, xa, xc, h1, (hb.cell (cell_lt h2)).trans h2, h3.below hb⟩⟩

theorem stsAt_nil (w : World) : StsAt w none 0 0 [] := ⟨rfl, Nat.le_refl _, by unfold maxLen; omega, fun i e he => by simp at he⟩

theorem StsAt.get {w : World} {oa : Option Addr} {n cap : Nat} {ss : List (List (Int × Int))} (h : StsAt w oa n cap ss) {P : Program} {t e : TypeId} (ht : P.underlying t = some (.slice e)) (hi : (P.info? e).map (·.size) = some 1) (i : Nat) (hin : i < n) :
    ∃ s b q xa xc, ss[i]? = some s ∧ (∀ wx, (Instr.indexAt t (.slice oa n cap) (.int .i64 (i : Int))).run P wx = .ok (.pointer (some ⟨b, q, none⟩)) wx) ∧ w.cell? ⟨b, q, none⟩ = some (.slice xa s.length xc) ∧ ItemsAt w xa s.length xc s := by
  obtain ⟨s, hs⟩ : ∃ s, ss[i]? = some s := ⟨_, List.getElem?_eq_getElem (by rw [h.len]; exact hin)⟩
  obtain ⟨b, o, xa, xc, rfl, h2, h3⟩ := h.at_ i s hs
  refine ⟨s, b, o + i, xa, xc, hs, fun wx => ?_, h2, h3⟩
  have := run_indexAt_slice wx t e 1 ht hi b o n cap i hin
  rwa [Nat.mul_one] at this

theorem infoSt : (Try.prog.info? 73).map (·.size) = some 1 := by kernel_rfl

structure OutN (w wr : World) (v : Value) (l : List Int) : Prop where
  own : wr.ownsRow w.heap.size 3 1 v l.length (l.map icell)
  bel : Below w.heap.size w wr

theorem OutN.new (w : World) : OutN w (w.alloc (.cells #[] 3)) (.slice (some ⟨w.heap.size, 0, none⟩) 0 0) [] :=
  ⟨World.ownsRow_made (w := w) #[] 0 (Nat.le_refl _) (by decide) rfl, (Below.refl _ _).alloc (Nat.le_refl _) _⟩

end Go.Proofs.Ythieilmjbefamaa
