/-
  Walks and mathematics of Log2.
-/
import Derived.Test.YtoalbeiinlcgpaaMLog1
namespace Go.Proofs.Ytoalbeiinlcgpaa
open Go.RowKit P1 P9 K
set_option linter.unusedVariables false
set_option linter.unusedSimpArgs false

abbrev lval (s u : Int) (v : Value) : Value := .agg #[.int .i64 s, .int .i64 u, v]

set_option maxHeartbeats 1000000 in
theorem eqLog_same (s u : Int) (oa : Option Addr) (n cap : Nat) (ob : Option Addr) (cap' : Nat) (es : List EntV) (hn20 : n ≤ 1048576) (w : World) (hat : EntsAt w oa n cap es) (hbt : EntsAt w ob n cap' es) :
    Calls Try.prog 38 #[lval s u (.slice oa n cap), lval s u (.slice ob n cap')] w fun e w' => e = .returned (.bool true) ∧ Below w.heap.size w w' := by
  have hb0 := ((Below.refl w.heap.size w).alloc (Nat.le_refl _) (.cells #[.int .i64 s, .int .i64 u, .slice oa n cap] 33)).alloc (by simp) (.cells #[.int .i64 s, .int .i64 u, .slice ob n cap'] 33)
  have HE := hide (eqEntryS_same oa n cap ob cap' es hn20 _ (hat.below hb0) (hbt.below hb0))
  have HB0 := hide hb0
  clear hat hbt hb0
  go_enter Try.func38, Try.ntmps38
  go_wp2_with fail
  refine HE.out.mono ?_
  rintro e w1 ⟨rfl, hb1⟩
  go_wp2_with fail
  go_ret
  exact ⟨rfl, HB0.out.trans (hb1.mono (by simp; omega))⟩

theorem own_oneCell6 {w : World} {base : Nat} {e : TypeId} {size : Nat} {v : Value} {n : Nat} {xs : List Value} (h : w.ownsRow base e size v n xs) : v.oneCell' = true := by
  rcases h.2 with ⟨rfl, rfl⟩ | ⟨g, cap, cur, rfl, _⟩ <;> simp [Value.oneCell']

set_option maxHeartbeats 1000000 in
theorem markLog_any (s u : Int) (v : Value) (n base k : Nat) (hn : n ≤ 1048576) (hk : k ≤ 1000000) (w : World) (es : List EntV) (hown : w.ownsRow base 75 3 v n (es.flatMap ecells)) :
    Calls Try.prog 41 #[lval s u v, .int .i64 (k : Int)] w fun e w' => e = .returned (.int .i64 ((k + 3 * n : Nat) : Int)) ∧ w'.ownsRow base 75 3 v n ((marksE k n).flatMap ecells) ∧ w.grownBy w' v.ownBlock := by
  have hv := own_oneCell6 hown
  have HM := hide (markEntryS_any v n base k hn hk _ es (hown.alloc (.cells #[.int .i64 s, .int .i64 u, v] 33)))
  clear hown
  go_enter Try.func41, Try.ntmps41
  go_wp2_with fail
  refine HM.out.mono ?_
  rintro e w2 ⟨rfl, ho2, hg2⟩
  have HO2 := hide ho2
  have HG2 := hide hg2
  clear ho2 hg2
  go_wp2_with fail
  go_ret
  exact ⟨by go_num, HO2.out, grown_trans (World.grownBy_alloc _ _ _) HG2.out⟩

set_option maxHeartbeats 1000000 in
theorem heldLog_any (s u : Int) (oa : Option Addr) (n cap k : Nat) (hn : n ≤ 1048576) (hk : k ≤ 1000000) (w : World) (hat : EntsAt w oa n cap (marksE k n)) :
    Calls Try.prog 44 #[lval s u (.slice oa n cap), .int .i64 (k : Int)] w fun e w' => e = .returned (.int .i64 ((k + 3 * n : Nat) : Int)) ∧ Below w.heap.size w w' := by
  have hb0 := (Below.refl w.heap.size w).alloc (Nat.le_refl _) (.cells #[.int .i64 s, .int .i64 u, .slice oa n cap] 33)
  have HH := hide (heldEntryS_any oa n cap k hn hk _ (hat.below hb0))
  have HB0 := hide hb0
  clear hat hb0
  have g : ¬ ((k + 3 * n : Nat) : Int) < 0 := by omega
  go_enter Try.func44, Try.ntmps44
  go_wp2_with fail
  refine HH.out.mono ?_
  rintro e w1 ⟨rfl, hb1⟩
  go_wp2_with fail
  go_ret
  exact ⟨by go_num, HB0.out.trans (hb1.mono (by simp))⟩

end Go.Proofs.Ytoalbeiinlcgpaa
