/-
  The table of halves as the rows list it.
-/
import Derived.Test.YtpenpbopehbncaaDoorWalk2b
import Derived.Test.YtpenpbopehbncaaDoorTab
import Derived.LaidSub
import Derived.Stop.Joined
import Derived.LaidMore
namespace Go.Proofs.YtpenpbopehbncaaDoor
open Go.RowKit P1 K P3
set_option linter.unusedVariables false

theorem sums_of_laid {row : List (String × DataW Unit)} {w : World} (e : row.filter (fun x => x.1 == "loop.example/g00127/impl.sumHalves") = [("loop.example/g00127/impl.sumHalves", Lib.tabData .u32 sumTab)]) (h : laidMetH Tryd.prog row w) : SumTabIs w := by
  have h1 := laidMetH.filter (fun x => x.1 == "loop.example/g00127/impl.sumHalves") h
  rw [e, MakeChecks.laidMetH_plain _ _ _ (by kernel_rfl)] at h1
  exact Lib.tabIs_of_head (rest := []) (g := 0) (by kernel_rfl) (t := 135) (by kernel_rfl) Tryd.underlying135 Tryd.underlying95 (by kernel_rfl) (by kernel_rfl) h1

end Go.Proofs.YtpenpbopehbncaaDoor
