/-
  Walks of chapter 6: LogBehind of the program.
  Walks of chapter 6: LogBehind of the specification (made by wip/tools/gen6e.py).
-/
import Derived.Test.YthbgklmnmoclhaaPiece
import Derived.Test.YthbgklmnmoclhaaBox
import Derived.Test.YthbgklmnmoclhaaPack20
namespace Go.Proofs.Ythbgklmnmoclhaa
open Go.RowKit P1 P9 K
set_option linter.unusedVariables false
set_option linter.unusedSimpArgs false

theorem lgOk_hd {s u : Int} {es : List EntV} (h : lgOk s u es = true) : 0 ≤ s ∧ s ≤ 1000000 ∧ 0 ≤ u ∧ u ≤ 100000 ∧ es.length ≤ 60 ∧ s + es.length ≤ 1000000 ∧ upE u es = true := by
  unfold lgOk lgHd at h
  simp only [Bool.and_eq_true, decide_eq_true_eq] at h
  exact ⟨h.1.1, h.1.2.1, h.1.2.2.1, h.1.2.2.2.1, h.1.2.2.2.2.1, h.1.2.2.2.2.2, h.2⟩

theorem lastI_in {s : Int} {n : Nat} (h0 : 0 ≤ s) (h1 : s ≤ 1000000) (hn : n ≤ 60) : lastI s n = s + n := by
  unfold lastI
  split
  · omega
  · unfold wrap64
    omega

theorem blk_new2 (w : World) (X Y : Obj) : ((w.alloc X).alloc Y).heap[w.heap.size + 1]? = some Y := by
  have h := heap_alloc_new (w.alloc X) Y
  rwa [show (w.alloc X).heap.size = w.heap.size + 1 by simp] at h

/-- Whether a log has this base with this term; what is behind it. -/
def bhOk (s u : Int) (es : List EntV) (b t : Int) : Bool := lgOk s u es && ((decide (s ≤ b) && decide (b ≤ s + es.length)) && decide (lastT u (es.take (b - s).toNat) = t))
def bhL (s u : Int) (es : List EntV) (b t : Int) : List EntV := if bhOk s u es b t = true then es.drop (b - s).toNat else []

end Go.Proofs.Ythbgklmnmoclhaa

namespace Go.Proofs.Ythbgklmnmoclhaa
open Go.RowKit P1 P9 K
set_option linter.unusedVariables false
set_option linter.unusedSimpArgs false

theorem blk_new3 (w : World) (X Y Z : Obj) : (((w.alloc X).alloc Y).alloc Z).heap[w.heap.size + 1 + 1]? = some Z := by
  have h := heap_alloc_new ((w.alloc X).alloc Y) Z
  rwa [show ((w.alloc X).alloc Y).heap.size = w.heap.size + 1 + 1 by simp] at h

end Go.Proofs.Ythbgklmnmoclhaa
