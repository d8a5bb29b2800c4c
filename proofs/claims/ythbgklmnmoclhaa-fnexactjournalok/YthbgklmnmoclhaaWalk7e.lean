/-
  JournalOk of the program.
-/
import Derived.Test.YthbgklmnmoclhaaPack39
import Derived.Test.YthbgklmnmoclhaaJour4
import Derived.Test.YthbgklmnmoclhaaWalk5a
import Derived.Test.YthbgklmnmoclhaaWalk6a
namespace Go.Proofs.Ythbgklmnmoclhaa
open Go.RowKit P1 P3 P9 K
set_option linter.unusedVariables false
set_option linter.unusedSimpArgs false

set_option maxHeartbeats 2000000 in
theorem implJournalOk_any (j : JnV) (oa : Option Addr) (n cap : Nat) (w : World) (hat : EntsAt w oa n cap j.es) (hw : ∀ f ∈ j.es, f.data.size ≤ 1048576) :
    Calls Try.prog 7 #[jval j.number j.term j.vote j.s j.u (.slice oa n cap)] w fun e w' => e = .returned (.bool j.ok) ∧ Below w.heap.size w w' := by
  have hb0 := (Below.refl w.heap.size w).alloc (Nat.le_refl _) (.cells #[.int .i64 j.number, .int .i64 j.term, .int .i64 j.vote, .int .i64 j.s, .int .i64 j.u, .slice oa n cap] 33)
  have HLO := hide (implLogOk_any j.s j.u oa n cap j.es _ (hat.below hb0) hw)
  have HB0 := hide hb0
  clear hat hw hb0
  by_cases c1 : 0 ≤ j.number ∧ j.number ≤ 999
  · by_cases c2 : 0 ≤ j.term ∧ j.term ≤ 100000
    · by_cases c3 : 0 ≤ j.vote ∧ j.vote ≤ 4
      · have R := hide (ok_log c1 ⟨c2.1, c2.2, c3⟩)
        go_enter Try.func7, Try.ntmps7
        go_wp2_with (go_at_call 13; refine (within_yes _ _ _ (by omega) (by omega) _).mono ?_; rintro e w1 ⟨rfl, rfl⟩)
        refine HLO.out.mono ?_
        rintro e w1 ⟨rfl, hb1⟩
        go_wp2_with fail
        go_ret
        exact ⟨by rw [R.out]; rfl, HB0.out.trans (hb1.mono (by simp))⟩
      · have R := hide (ok_false_h (j := j) (by omega))
        go_enter Try.func7, Try.ntmps7
        go_wp2_with (go_at_call 13; first | (refine (within_yes _ _ _ (by omega) (by omega) _).mono ?_; rintro e w1 ⟨rfl, rfl⟩) | (refine (within_no _ _ _ (by omega) _).mono ?_; rintro e w1 ⟨rfl, rfl⟩))
        go_ret
        exact ⟨by rw [R.out]; rfl, HB0.out⟩
    · have R := hide (ok_false_h (j := j) (by omega))
      go_enter Try.func7, Try.ntmps7
      go_wp2_with (go_at_call 13; first | (refine (within_yes _ _ _ (by omega) (by omega) _).mono ?_; rintro e w1 ⟨rfl, rfl⟩) | (refine (within_no _ _ _ (by omega) _).mono ?_; rintro e w1 ⟨rfl, rfl⟩))
      go_ret
      exact ⟨by rw [R.out]; rfl, HB0.out⟩
  · have R := hide (ok_false_n (j := j) (by omega))
    go_enter Try.func7, Try.ntmps7
    go_wp2_with (go_at_call 13; refine (within_no _ _ _ (by omega) _).mono ?_; rintro e w1 ⟨rfl, rfl⟩)
    go_ret
    exact ⟨by rw [R.out]; rfl, HB0.out⟩

end Go.Proofs.Ythbgklmnmoclhaa
