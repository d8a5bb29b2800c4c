/-
  The law FnExactReadEntry: its walk.
-/
import Derived.Test.YtplkogggedjaoaaWalk5k
import Derived.Test.YtplkogggedjaoaaOpenEntry
namespace Go.Proofs.Ytplkogggedjaoaa
open Go.RowKit P1 P9 K
set_option linter.unusedVariables false
set_option linter.unusedSimpArgs false

set_option maxHeartbeats 2000000 in
theorem FnExactReadEntry_walk (a0 : ByteArray) (w0 : a0.size ≤ maxLen) (w : World) :
    Calls Try.prog 8 #[.string a0] w fun e w' => e = .returned (.bool true) ∧ Below w.heap.size w w' := by
  unfold maxLen at w0
  by_cases hbig : a0.size ≤ 1048576
  · have gb : ¬ (1048576 : Int) < (a0.size : Int) := by omega
    obtain ⟨i, t, k, d, b, hv⟩ : ∃ (i t k : Int) (d : ByteArray) (b : Bool), reVal (rdEntry (bl a0)) = .tuple #[.int .i64 i, .agg #[.int .i64 t, .int .i64 k, .string d], .bool b] := by
      cases rdEntry (bl a0) with
      | none => exact ⟨_, _, _, _, _, rfl⟩
      | some p =>
        obtain ⟨i, t, k, d⟩ := p
        exact ⟨_, _, _, _, _, rfl⟩
    have HV := hide hv
    clear hv
    go_enter Try.func8, Try.ntmps8
    go_wp2_with fail
    refine (specReadEntry_any a0 hbig _).mono ?_
    rw [HV.out]
    rintro e w1 ⟨rfl, hb1⟩
    have B1 := hide hb1
    have s1 := hb1.size
    clear hb1
    go_wp2_with fail
    have B2 := hide (B1.out.alloc s1 (.cells #[.int .i64 t, .int .i64 k, .string d] 36))
    refine (implReadEntry_any a0 hbig _).mono ?_
    rw [HV.out]
    rintro e w3 ⟨rfl, hb3⟩
    have c0 : w3.cell? ⟨w1.heap.size, 0, none⟩ = some (.int .i64 t) := (hb3.cell (by simp)).trans (by simp)
    have c1 : w3.cell? ⟨w1.heap.size, 1, none⟩ = some (.int .i64 k) := (hb3.cell (by simp)).trans (by simp)
    have c2 : w3.cell? ⟨w1.heap.size, 2, none⟩ = some (.string d) := (hb3.cell (by simp)).trans (by simp)
    have s3 : w1.heap.size < w3.heap.size := by have := hb3.size; simp at this; omega
    have B3 := hide (B2.out.trans (hb3.mono (by simp; omega)))
    clear hb3
    go_wp2_with fail
    have B4 := hide (B3.out.alloc (by omega) (.cells #[.int .i64 t, .int .i64 k, .string d] 36))
    refine (eqEntry_any ⟨t, k, d⟩ _).mono ?_
    rintro e w5 ⟨rfl, hb5⟩
    have B5 := hide (B4.out.trans (hb5.mono (by simp; omega)))
    clear hb5
    go_wp2_with fail
    go_ret
    exact ⟨rfl, B5.out⟩
  · have gb : (1048576 : Int) < (a0.size : Int) := by omega
    go_enter Try.func8, Try.ntmps8
    go_wp2_with fail
    go_ret
    exact ⟨rfl, Below.refl _ _⟩

end Go.Proofs.Ytplkogggedjaoaa
