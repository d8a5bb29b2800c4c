/-
  Walks of chapter 1: ReadVar of the specification.
  Walks of chapter 7: names, numbers, right journals, the frame of a term and a vote, of the specification.
-/
import Derived.Test.YthbgklmnmoclhaaWalk1b
import Derived.Deep.RegionHeld3
import Derived.Deep.QuietTactic
import Derived.BigQuiet
import Derived.WalkSmall
import Derived.Lib.Strings
import Derived.Test.YthbgklmnmoclhaaJour1
import Derived.Test.YthbgklmnmoclhaaPack37
namespace Go.Proofs.Ythbgklmnmoclhaa
open Go.RowKit P1 K
set_option linter.unusedVariables false

end Go.Proofs.Ythbgklmnmoclhaa

namespace Go.Proofs.Ythbgklmnmoclhaa
open Go.RowKit P1 P3 P9 K
set_option linter.unusedVariables false
set_option linter.unusedSimpArgs false

theorem cat_name (d : List UInt8) : (⟨#[106]⟩ : ByteArray) ++ ⟨d.toArray⟩ = ⟨(106 :: d).toArray⟩ := by
  apply ByteArray.ext
  simp

theorem bl_rest (l : List UInt8) : bl ((⟨l.toArray⟩ : ByteArray).extract 1 (⟨l.toArray⟩ : ByteArray).size) = l.drop 1 := by
  unfold bl
  rw [ByteArray.data_extract, Array.toList_extract, List.extract_eq_take_drop]
  show List.take (l.length - 1) (l.drop 1) = l.drop 1
  exact List.take_of_length_le (by simp)

/-- A journal as a value. -/
abbrev jval (n t v s u : Int) (x : Value) : Value := .agg #[.int .i64 n, .int .i64 t, .int .i64 v, .int .i64 s, .int .i64 u, x]

theorem ok_false_n {j : JnV} (h : j.number < 0 ∨ 999 < j.number) : j.ok = false := by
  unfold JnV.ok
  rw [show jnIn j.number = false by simp [jnIn]; omega, Bool.false_and]
theorem ok_false_h {j : JnV} (h : j.term < 0 ∨ 100000 < j.term ∨ j.vote < 0 ∨ 4 < j.vote) : j.ok = false := by
  unfold JnV.ok
  rw [show jnHd j.term j.vote = false by simp [jnHd]; omega, Bool.false_and, Bool.and_false]
theorem ok_log {j : JnV} (h : 0 ≤ j.number ∧ j.number ≤ 999) (h2 : 0 ≤ j.term ∧ j.term ≤ 100000 ∧ 0 ≤ j.vote ∧ j.vote ≤ 4) : j.ok = lgOk j.s j.u j.es := by
  unfold JnV.ok
  rw [jnIn_iff.2 h, jnHd_iff.2 h2, Bool.true_and, Bool.true_and]

set_option maxHeartbeats 2000000 in
theorem specJournalOk_any (j : JnV) (oa : Option Addr) (n cap : Nat) (w : World) (hat : EntsAt w oa n cap j.es) (hw : ∀ f ∈ j.es, f.data.size ≤ 1048576) :
    Calls Try.prog 5 #[jval j.number j.term j.vote j.s j.u (.slice oa n cap)] w fun e w' => e = .returned (.bool j.ok) ∧ Below w.heap.size w w' := by
  have hb0 := (Below.refl w.heap.size w).alloc (Nat.le_refl _) (.cells #[.int .i64 j.number, .int .i64 j.term, .int .i64 j.vote, .int .i64 j.s, .int .i64 j.u, .slice oa n cap] 33)
  have HLO := hide (specLogOk_any j.s j.u oa n cap j.es _ (hat.below hb0) hw)
  have HB0 := hide hb0
  clear hat hw hb0
  by_cases c1 : 0 ≤ j.number ∧ j.number ≤ 999
  · by_cases c2 : 0 ≤ j.term ∧ j.term ≤ 100000
    · by_cases c3 : 0 ≤ j.vote ∧ j.vote ≤ 4
      · have R := hide (ok_log c1 ⟨c2.1, c2.2, c3⟩)
        go_enter Try.func5, Try.ntmps5
        go_wp2_with (go_at_call 10; refine (l01In_yes _ _ _ (by omega) (by omega) _).mono ?_; rintro e w1 ⟨rfl, rfl⟩)
        refine HLO.out.mono ?_
        rintro e w1 ⟨rfl, hb1⟩
        go_wp2_with fail
        go_ret
        exact ⟨by rw [R.out]; rfl, HB0.out.trans (hb1.mono (by simp))⟩
      · have R := hide (ok_false_h (j := j) (by omega))
        go_enter Try.func5, Try.ntmps5
        go_wp2_with (go_at_call 10; first | (refine (l01In_yes _ _ _ (by omega) (by omega) _).mono ?_; rintro e w1 ⟨rfl, rfl⟩) | (refine (l01In_no _ _ _ (by omega) _).mono ?_; rintro e w1 ⟨rfl, rfl⟩))
        go_ret
        exact ⟨by rw [R.out]; rfl, HB0.out⟩
    · have R := hide (ok_false_h (j := j) (by omega))
      go_enter Try.func5, Try.ntmps5
      go_wp2_with (go_at_call 10; first | (refine (l01In_yes _ _ _ (by omega) (by omega) _).mono ?_; rintro e w1 ⟨rfl, rfl⟩) | (refine (l01In_no _ _ _ (by omega) _).mono ?_; rintro e w1 ⟨rfl, rfl⟩))
      go_ret
      exact ⟨by rw [R.out]; rfl, HB0.out⟩
  · have R := hide (ok_false_n (j := j) (by omega))
    go_enter Try.func5, Try.ntmps5
    go_wp2_with (go_at_call 10; refine (l01In_no _ _ _ (by omega) _).mono ?_; rintro e w1 ⟨rfl, rfl⟩)
    go_ret
    exact ⟨by rw [R.out]; rfl, HB0.out⟩

theorem cat_hard (x : UInt8) (a b : Nat) : (⟨#[x]⟩ : ByteArray) ++ ⟨(varB a).toArray⟩ ++ ⟨(varB b).toArray⟩ = ⟨(twoB x a b).toArray⟩ := by
  apply ByteArray.ext
  simp [twoB]

theorem bl_mk7 (l : List UInt8) : bl ⟨l.toArray⟩ = l := rfl
theorem size_mk7 (l : List UInt8) : (⟨l.toArray⟩ : ByteArray).size = l.length := rfl

end Go.Proofs.Ythbgklmnmoclhaa
