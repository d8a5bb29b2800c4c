/-
  Walks and mathematics of Walk9d.
-/
import Derived.Test.YtckkfjmjcknjdaaSHWalk9a
import Derived.Test.YtckkfjmjcknjdaaSHPlain9
import Derived.Lib.Strings
import Derived.Test.YtckkfjmjcknjdaaSHQuietIn
import Derived.Laws.StructEq
namespace Go.Proofs.Ytckkfjmjcknjdaa.P1
end Go.Proofs.Ytckkfjmjcknjdaa.P1
namespace Go.Proofs.Ytckkfjmjcknjdaa.P11
end Go.Proofs.Ytckkfjmjcknjdaa.P11
namespace Go.Proofs.Ytckkfjmjcknjdaa.P3
end Go.Proofs.Ytckkfjmjcknjdaa.P3
namespace Go.Proofs.Ytckkfjmjcknjdaa
open Go.RowKit P1 P3 P9 P11 P12 K
set_option linter.unusedVariables false
set_option linter.unusedSimpArgs false
attribute [local go_sem ↓] Go.wp_at_zero Go.wp_at_succ

theorem fieldsN : Try.prog.fieldsOf 105 = #[⟨ "id", 3, 0, false, "", "loop.example/g00127/impl", 0⟩, ⟨ "kind", 3, 1, false, "", "loop.example/g00127/impl", 8⟩, ⟨ "sender", 3, 2, false, "", "loop.example/g00127/impl", 16⟩, ⟨ "user", 3, 3, false, "", "loop.example/g00127/impl", 24⟩, ⟨ "member", 3, 4, false, "", "loop.example/g00127/impl", 32⟩, ⟨ "depth", 3, 5, false, "", "loop.example/g00127/impl", 40⟩] := by kernel_rfl

theorem underN : Try.prog.underlying 105 = some (.struct (Try.prog.fieldsOf 105)) := by kernel_rfl

theorem nv_eql (a0 a1 a2 a3 a4 a5 b0 b1 b2 b3 b4 b5 : Int) (wx : World) : (binOp .eql 105 (nval a0 a1 a2 a3 a4 a5) (nval b0 b1 b2 b3 b4 b5)).run Try.prog wx = .ok (.bool (decide (a0 = b0) && (decide (a1 = b1) && (decide (a2 = b2) && (decide (a3 = b3) && (decide (a4 = b4) && decide (a5 = b5))))))) wx := by
  have hu := Try.underlying3
  rw [run_eql_struct, run_equalIn_agg wx 9999 _ _ _ underN (by kernel_rfl), fieldsN]
  simp [go_sem, hu]
  by_cases c0 : a0 = b0
  · by_cases c1 : a1 = b1
    · by_cases c2 : a2 = b2
      · by_cases c3 : a3 = b3
        · by_cases c4 : a4 = b4
          · by_cases c5 : a5 = b5
            · simp [c0, c1, c2, c3, c4, c5]
            · simp [c0, c1, c2, c3, c4, c5]
          · simp [c0, c1, c2, c3, c4]
        · simp [c0, c1, c2, c3]
      · simp [c0, c1, c2]
    · simp [c0, c1]
  · simp [c0]

end Go.Proofs.Ytckkfjmjcknjdaa
