/-
  Walks of chapter 6: LogBehind of the specification (made by wip/tools/gen6e.py).
-/
import Derived.Test.YthbgklmnmoclhaaDoorWalk6d
import Derived.Test.YthbgklmnmoclhaaDoorQuietIn
namespace Go.Proofs.YthbgklmnmoclhaaDoor
open Go.RowKit P1 P9 K
set_option linter.unusedVariables false
set_option linter.unusedSimpArgs false

theorem blk_new3 (w : World) (X Y Z : Obj) : (((w.alloc X).alloc Y).alloc Z).heap[w.heap.size + 1 + 1]? = some Z := by
  have h := heap_alloc_new ((w.alloc X).alloc Y) Z
  rwa [show ((w.alloc X).alloc Y).heap.size = w.heap.size + 1 + 1 by simp] at h

end Go.Proofs.YthbgklmnmoclhaaDoor
