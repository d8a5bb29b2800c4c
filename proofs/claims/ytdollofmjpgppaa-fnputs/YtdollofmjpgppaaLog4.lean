/-
  A log in a variable, its entries in a row of the call's own: what keeps it.
-/
import Derived.Test.YtdollofmjpgppaaPut1
namespace Go.Proofs.Ytdollofmjpgppaa
open Go.RowKit P1 P9 K
set_option linter.unusedVariables false
set_option linter.unusedSimpArgs false

/-- A variable at block b that holds a log whose entries lie in a row from block 'base' on. -/
structure KL (w : World) (b base : Nat) (s u : Int) (v : Value) (n : Nat) (es : List EntV) : Prop where
  blk : w.heap[b]? = some (.cells #[.int .i64 s, .int .i64 u, v] 26 (0, 0))
  own : w.ownsRow base 28 3 v n (es.flatMap ecells)

section
variable {w w' : World} {b base : Nat} {s u : Int} {v : Value} {n : Nat} {es : List EntV}

theorem KL.new (ho : w.ownsRow base 28 3 v n (es.flatMap ecells)) : KL (w.alloc (.cells #[.int .i64 s, .int .i64 u, v] 26)) w.heap.size base s u v n es :=
  ⟨heap_alloc_new _ _, ho.alloc _⟩

theorem KL.on (h : KL w b base s u v n es) (hb : Below w.heap.size w w') : KL w' b base s u v n es :=
  ⟨(hb.block b (blk_lt h.blk)).trans h.blk, own_below h.own hb⟩

theorem KL.lt (h : KL w b base s u v n es) : b < w.heap.size := blk_lt h.blk

theorem KL.lv (h : KL w b base s u v n es) : LV w b s u v := ⟨blk_cell h.blk 0 rfl, blk_cell h.blk 1 rfl, blk_cell h.blk 2 rfl⟩

/-- Another row written leaves it. -/
theorem KL.kept {base2 : Nat} {v2 : Value} {n2 : Nat} {xs2 : List Value} (h : KL w b base s u v n es) (ho : w.ownsRow base2 28 3 v2 n2 xs2) (hg : w.grownBy w' v2.ownBlock) (hne : ∀ g, v.ownBlock = some g → v2.ownBlock ≠ some g) : KL w' b base s u v n es := by
  refine ⟨(hg.block b (blk_lt h.blk) (fun e1 => ?_)).trans h.blk, h.own.kept hg ?_⟩
  · rcases ho.2 with ⟨rfl, -⟩ | ⟨g, cap, cur, rfl, -, hgb, -⟩
    · cases e1
    · cases e1
      have k := h.blk
      rw [hgb] at k
      cases k
  · cases hv : v.ownBlock with
    | none => exact Or.inl rfl
    | some g => exact Or.inr (fun e => hne g hv e.symm)

/-- Its own row written leaves the variable. -/
theorem KL.marked (h : KL w b base s u v n es) {ms : List EntV} (ho : w'.ownsRow base 28 3 v n (ms.flatMap ecells)) (hg : w.grownBy w' v.ownBlock) : KL w' b base s u v n ms := by
  refine ⟨(hg.block b (blk_lt h.blk) (fun e1 => ?_)).trans h.blk, ho⟩
  rcases h.own.2 with ⟨rfl, -⟩ | ⟨g, cap, cur, rfl, -, hgb, -⟩
  · cases e1
  · cases e1
    have k := h.blk
    rw [hgb] at k
    cases k

theorem KL.row (h : KL w b base s u v n es) : ∀ g, v.ownBlock = some g → base ≤ g ∧ g < w.heap.size := h.own.lt

end

theorem own_marks_at {w : World} {base : Nat} {v : Value} {n k : Nat} (h : w.ownsRow base 28 3 v n ((marksE k n).flatMap ecells)) : ∃ oa cap, v = .slice oa n cap ∧ EntsAt w oa n cap (marksE k n) := entsAt_own h

/-- Rows of the call that write only into new memory and into rows from 'base' on. -/
theorem below_row {B base : Nat} {W w w' : World} {v : Value} {n : Nat} {xs : List Value} (h : Below B W w) (hB : B ≤ w.heap.size) (hb : B ≤ base) (ho : w.ownsRow base 28 3 v n xs) (hg : w.grownBy w' v.ownBlock) : Below B W w' :=
  h.grown hg hB (fun q hq => Nat.le_trans hb (ho.lt q hq).1)

end Go.Proofs.Ytdollofmjpgppaa
