/-
  Walks and mathematics of Walk9a.
-/
import Derived.Test.YtckkfjmjcknjdaaSHEv2
import Derived.Test.YtckkfjmjcknjdaaSHWalk5a
import Derived.Laws.Small
namespace Go.Proofs.Ytckkfjmjcknjdaa.P1
end Go.Proofs.Ytckkfjmjcknjdaa.P1
namespace Go.Proofs.Ytckkfjmjcknjdaa.P11
end Go.Proofs.Ytckkfjmjcknjdaa.P11
namespace Go.Proofs.Ytckkfjmjcknjdaa.P3
end Go.Proofs.Ytckkfjmjcknjdaa.P3
namespace Go.Proofs.Ytckkfjmjcknjdaa
open Go.RowKit P1 P3 P9 P11 P12 K
set_option linter.unusedVariables false
set_option linter.unusedSimpArgs false
attribute [local go_sem ↓] Go.wp_at_zero Go.wp_at_succ

abbrev nval (id kd sn us mb dp : Int) : Value := .agg #[.int .i64 id, .int .i64 kd, .int .i64 sn, .int .i64 us, .int .i64 mb, .int .i64 dp]

set_option maxHeartbeats 1000000 in
theorem numbers_any (id kd sn us mb dp : Int) (oa : Option Addr) (n cl : Nat) (tx : List UInt8) (ob : Option Addr) (m cp : Nat) (w : World) :
    Calls Try.prog 78 #[evval id kd sn us mb dp (.slice oa n cl) (.slice ob m cp) tx] w fun e w' => e = .returned (nval id kd sn us mb dp) ∧ Below w.heap.size w w' := by
  have HB := hide (((Below.refl w.heap.size w).alloc (Nat.le_refl _) (.cells #[.int .i64 id, .int .i64 kd, .int .i64 sn, .int .i64 us, .int .i64 mb, .slice oa n cl, .string ⟨tx.toArray⟩, .slice ob m cp, .int .i64 dp] 83)).alloc (by simp) (.cells #[.int .i64 id, .int .i64 kd, .int .i64 sn, .int .i64 us, .int .i64 mb, .int .i64 dp] 105))
  go_enter Try.func78, Try.ntmps78
  go_wp2_with fail
  refine bodyPost_ret (v := nval id kd sn us mb dp) (by simp [results, Try.results78, go_sem]) rfl ⟨rfl, ?_⟩
  repeat (refine Below.setCell ?_ (by simp) _)
  exact HB.out

end Go.Proofs.Ytckkfjmjcknjdaa
