/-
  Walks and mathematics of Walk10a.
-/
import Derived.Test.YtnkjjbpmdghcbaaGreatQItemsArg
import Derived.Test.YtnkjjbpmdghcbaaGreatQIntsMark
import Derived.Deep.RegionHeld3
import Derived.Deep.QuietTactic
import Derived.BigQuiet
namespace Go.Proofs.YtnkjjbpmdghcbaaGreat
open Go.RowKit P5 P9 K
set_option linter.unusedVariables false
set_option linter.unusedSimpArgs false

theorem infoII : (Tryz.prog.info? 36).map (·.size) = some 2 := by kernel_rfl

theorem infoIIz : (Tryz.prog.info? 36).map (fun i => (i.zero, i.size, i.bytes)) = some (some (.agg #[.int .i64 0, .int .i64 0]), 2, 16) := by kernel_rfl

end Go.Proofs.YtnkjjbpmdghcbaaGreat
