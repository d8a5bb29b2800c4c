/-
  JournalName of the program.
-/
import Derived.Test.YthbgklmnmoclhaaDoorWalk7a
import Derived.Test.YthbgklmnmoclhaaDoorWalk1i
import Derived.Test.YthbgklmnmoclhaaDoorWalk5a
namespace Go.Proofs.YthbgklmnmoclhaaDoor
open Go.RowKit P1 P3 P9 K
set_option linter.unusedVariables false
set_option linter.unusedSimpArgs false

set_option maxHeartbeats 1000000 in
theorem implJournalName_any (n : Int) (h0 : -9223372036854775808 ≤ n) (h1 : n ≤ 9223372036854775807) (w : World) (ht : Lib.TabIs Tryd.prog w "internal/strconv.uint64pow10" .u64 Lib.pow10Tab) :
    Calls Tryd.prog 7 #[.int .i64 n] w fun e w' => e = .returned (.string ⟨(jnName n).toArray⟩) ∧ Below w.heap.size w w' := by
  have HT := hide ht
  clear ht
  by_cases hi : 0 ≤ n ∧ n ≤ 999
  · obtain ⟨i0, i1⟩ := hi
    obtain ⟨N, rfl⟩ := Int.eq_ofNat_of_zero_le i0
    have R := hide (show jnName (N : Int) = 106 :: Lib.decDigits N by unfold jnName; rw [if_pos (jnIn_iff.2 ⟨i0, i1⟩)]; rfl)
    have hr := dec_room N (by omega)
    have C := cat_name (Lib.decDigits N)
    go_enter Tryd.func7, Tryd.ntmps7
    go_wp2_with (first
      | (go_at_call 19; refine (within_yes _ _ _ (by omega) (by omega) _).mono ?_; rintro e w1 ⟨rfl, rfl⟩)
      | (go_at_call 20; refine (implDecimal_any (N : Int) (by omega) (by omega) _ HT.out).mono ?_; rw [Lib.itoa_nonneg]; rintro e w1 ⟨rfl, hb1⟩))
    go_ret
    exact ⟨by rw [R.out]; rfl, hb1⟩
  · have R := hide (show jnName n = [] by unfold jnName; rw [if_neg (fun h => hi (jnIn_iff.1 h))])
    go_enter Tryd.func7, Tryd.ntmps7
    go_wp2_with (go_at_call 19; refine (within_no _ _ _ (by omega) _).mono ?_; rintro e w1 ⟨rfl, rfl⟩)
    go_ret
    exact ⟨by rw [R.out]; rfl, Below.refl _ _⟩

end Go.Proofs.YthbgklmnmoclhaaDoor
