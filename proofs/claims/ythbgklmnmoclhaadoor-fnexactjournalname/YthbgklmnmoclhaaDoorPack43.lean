/-
  JournalName of the program.
  The law FnExactJournalName, walked out of the contracts; the table of powers of ten as the row lists it.
-/
import Derived.Test.YthbgklmnmoclhaaDoorWalk7a
import Derived.Test.YthbgklmnmoclhaaDoorWalk1i
import Derived.Test.YthbgklmnmoclhaaDoorWalk5a
import Derived.Lib.LaidTab
import Derived.LaidSub
import Derived.Stop.Joined
import Derived.LaidMore
namespace Go.Proofs.YthbgklmnmoclhaaDoor
open Go.RowKit P1 P3 P9 K
set_option linter.unusedVariables false
set_option linter.unusedSimpArgs false

set_option maxHeartbeats 1000000 in
theorem implJournalName_any (n : Int) (h0 : -9223372036854775808 ≤ n) (h1 : n ≤ 9223372036854775807) (w : World) (ht : Lib.TabIs Tryd.prog w "internal/strconv.uint64pow10" .u64 Lib.pow10Tab) :
    Calls Tryd.prog 7 #[.int .i64 n] w fun e w' => e = .returned (.string ⟨(jnName n).toArray⟩) ∧ Below w.heap.size w w' := by
  have HT := hide ht
  clear ht
  by_cases hi : 0 ≤ n ∧ n ≤ 999
  · obtain ⟨i0, i1⟩ := hi
    obtain ⟨N, rfl⟩ := Int.eq_ofNat_of_zero_le i0
    have R := hide (show jnName (N : Int) = 106 :: Lib.decDigits N by unfold jnName; rw [if_pos (jnIn_iff.2 ⟨i0, i1⟩)]; rfl)
    have hr := dec_room N (by omega)
    have C := cat_name (Lib.decDigits N)
    go_enter Tryd.func7, Tryd.ntmps7
    go_wp2_with (first
      | (go_at_call 19; refine (within_yes _ _ _ (by omega) (by omega) _).mono ?_; rintro e w1 ⟨rfl, rfl⟩)
      | (go_at_call 20; refine (implDecimal_any (N : Int) (by omega) (by omega) _ HT.out).mono ?_; rw [Lib.itoa_nonneg]; rintro e w1 ⟨rfl, hb1⟩))
    go_ret
    exact ⟨by rw [R.out]; rfl, hb1⟩
  · have R := hide (show jnName n = [] by unfold jnName; rw [if_neg (fun h => hi (jnIn_iff.1 h))])
    go_enter Tryd.func7, Tryd.ntmps7
    go_wp2_with (go_at_call 19; refine (within_no _ _ _ (by omega) _).mono ?_; rintro e w1 ⟨rfl, rfl⟩)
    go_ret
    exact ⟨by rw [R.out]; rfl, Below.refl _ _⟩

end Go.Proofs.YthbgklmnmoclhaaDoor

namespace Go.Proofs.YthbgklmnmoclhaaDoor
open Go.RowKit P1 K
set_option linter.unusedVariables false

theorem pow_of_laid {w : World} (h : laidMetH Tryd.prog Rows.fnExactJournalNameRow.laid w) : Lib.TabIs Tryd.prog w "internal/strconv.uint64pow10" .u64 Lib.pow10Tab := by
  have h1 := laidMetH.filter (fun x => x.1 == "internal/strconv.uint64pow10") h
  have e : Rows.fnExactJournalNameRow.laid.filter (fun x => x.1 == "internal/strconv.uint64pow10") = [("internal/strconv.uint64pow10", Lib.tabData .u64 Lib.pow10Tab)] := by kernel_rfl
  rw [e, MakeChecks.laidMetH_plain _ _ _ (by kernel_rfl)] at h1
  exact Lib.tabIs_of_head (rest := []) (g := 1) (by kernel_rfl) (t := 179) (by kernel_rfl) Tryd.underlying179 Tryd.underlying170 (by kernel_rfl) (by kernel_rfl) h1

theorem FnExactJournalName_walk (a0 : Int) (w0 : (Lit.int .i64 a0).wf = true) (w : World) (hL : laidMetH Tryd.prog Rows.fnExactJournalNameRow.laid w) :
    Calls Tryd.prog 3 #[.int .i64 a0] w fun e w' => e = .returned (.bool true) ∧ Below w.heap.size w w' := by
  have hx : -9223372036854775808 ≤ a0 ∧ a0 ≤ 9223372036854775807 := by simpa [Lit.wf, IntKind.min, IntKind.max, IntKind.signed, IntKind.bits] using w0
  obtain ⟨h0, h1⟩ := hx
  have HT := hide (pow_of_laid hL)
  clear w0 hL
  go_enter Tryd.func3, Tryd.ntmps3
  go_wp2_with (first
    | (go_at_call 6; refine (specJournalName_any a0 h0 h1 _).mono ?_; rintro e w1 ⟨rfl, hb1⟩)
    | (go_at_call 7; refine (implJournalName_any a0 h0 h1 _ (tab_below HT.out hb1)).mono ?_; rintro e w2 ⟨rfl, hb2⟩))
  go_ret
  exact ⟨rfl, hb1.trans (hb2.mono hb1.size)⟩

end Go.Proofs.YthbgklmnmoclhaaDoor
