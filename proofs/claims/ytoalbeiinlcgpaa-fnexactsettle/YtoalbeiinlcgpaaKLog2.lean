/-
  Walks and mathematics of Log2.
-/
import Derived.Test.YtoalbeiinlcgpaaKLog1
namespace Go.Proofs.Ytoalbeiinlcgpaa
open Go.RowKit P1 P9 K
set_option linter.unusedVariables false
set_option linter.unusedSimpArgs false

abbrev lval (s u : Int) (v : Value) : Value := .agg #[.int .i64 s, .int .i64 u, v]

set_option maxHeartbeats 1000000 in
theorem szLog_any (s u : Int) (oa : Option Addr) (n cap : Nat) (es : List EntV) (w : World) (hat : EntsAt w oa n cap es) (hw : ∀ f ∈ es, EntWide f) (left : Int) (h0 : 0 ≤ left) (h1 : left ≤ 1048576) :
    Calls Try.prog 21 #[lval s u (.slice oa n cap), .int .i64 left] w fun e w' => e = .returned (.int .i64 (if szEs es left < 0 then -1 else szEs es left)) ∧ Below w.heap.size w w' := by
  have hb0 := (Below.refl w.heap.size w).alloc (Nat.le_refl _) (.cells #[.int .i64 s, .int .i64 u, .slice oa n cap] 25)
  have HS := hide (szEntryS_any oa n cap es left h0 h1 _ (hat.below hb0) hw)
  have HB0 := hide hb0
  clear hat hw hb0
  by_cases c : szEs es left < 0
  · have g : decide (szEs es left < 0) = true := by simpa using c
    rw [if_pos c]
    go_enter Try.func21, Try.ntmps21
    go_wp2_with fail
    refine HS.out.mono ?_
    rintro e w1 ⟨rfl, hb1⟩
    go_wp2_with fail
    go_ret
    exact ⟨rfl, HB0.out.trans (hb1.mono (by simp))⟩
  · have g : decide (szEs es left < 0) = false := by simpa using c
    rw [if_neg c]
    go_enter Try.func21, Try.ntmps21
    go_wp2_with fail
    refine HS.out.mono ?_
    rintro e w1 ⟨rfl, hb1⟩
    go_wp2_with fail
    go_ret
    exact ⟨rfl, HB0.out.trans (hb1.mono (by simp))⟩

def ToLog (w : World) (s u : Int) (n : Nat) (es : List EntV) (e : Ending) (w' : World) : Prop :=
  ∃ g, e = .returned (lval s u (.slice (some ⟨g, 0, none⟩) n n)) ∧ w'.ownsRow w.heap.size 75 3 (.slice (some ⟨g, 0, none⟩) n n) n (es.flatMap ecells) ∧ Below w.heap.size w w'

set_option maxHeartbeats 1000000 in
theorem toLog_any (s u : Int) (oa : Option Addr) (n cap : Nat) (es : List EntV) (hn20 : n ≤ 1048576) (w : World) (hat : EntsAt w oa n cap es) :
    Calls Try.prog 30 #[lval s u (.slice oa n cap)] w fun e w' => ToLog w s u n es e w' := by
  have hb1 := (((Below.refl w.heap.size w).alloc (Nat.le_refl _) (.cells #[.int .i64 s, .int .i64 u, .slice oa n cap] 25)).alloc (by simp) (.cells #[.int .i64 0, .int .i64 0, .slice none 0 0] 33)).alloc (by simp; omega) (.cells #[.int .i64 s, .int .i64 u, .slice none 0 0] 33)
  have HTO := hide (toEntryS_any oa n cap es hn20 _ (hat.below hb1))
  have HB1 := hide hb1
  clear hat hb1
  go_enter Try.func30, Try.ntmps30
  go_wp2_with fail
  refine HTO.out.mono ?_
  rintro e w2 ⟨g, rfl, hown, hb2⟩
  have k0 := hb2.cell (p := ⟨w.heap.size + 1 + 1, 0, none⟩) (by simp)
  have k1 := hb2.cell (p := ⟨w.heap.size + 1 + 1, 1, none⟩) (by simp)
  have k2 := hb2.cell (p := ⟨w.heap.size + 1 + 1, 2, none⟩) (by simp)
  have q2 := hb2.frozen (p := ⟨w.heap.size + 1 + 1, 2, none⟩) (by simp)
  have r0 := hb2.cell (p := ⟨w.heap.size + 1, 0, none⟩) (by simp)
  have r1 := hb2.cell (p := ⟨w.heap.size + 1, 1, none⟩) (by simp)
  have r2 := hb2.cell (p := ⟨w.heap.size + 1, 2, none⟩) (by simp)
  have t0 := hb2.frozen (p := ⟨w.heap.size + 1, 0, none⟩) (by simp)
  have t1 := hb2.frozen (p := ⟨w.heap.size + 1, 1, none⟩) (by simp)
  have t2 := hb2.frozen (p := ⟨w.heap.size + 1, 2, none⟩) (by simp)
  have HO := hide hown
  have HB2 := hide hb2
  clear hown hb2
  go_wp2_with fail
  refine bodyPost_ret (v := lval s u (.slice (some ⟨g, 0, none⟩) n n)) (by simp [results, Try.results30, go_sem, k0, k1, k2, q2, r0, r1, r2, t0, t1, t2]) rfl ⟨g, rfl, ?_, ?_⟩
  · refine own_base (base := w.heap.size + 1 + 1 + 1) ?_ (by omega)
    have := HO.out
    simp at this
    repeat (refine own_setCell ?_ (by simp <;> omega) _)
    exact this
  · repeat (refine Below.setCell ?_ (by simp <;> omega) _)
    exact HB1.out.trans (HB2.out.mono (by simp; omega))

set_option maxHeartbeats 1000000 in
theorem eqLog_same (s u : Int) (oa : Option Addr) (n cap : Nat) (ob : Option Addr) (cap' : Nat) (es : List EntV) (hn20 : n ≤ 1048576) (w : World) (hat : EntsAt w oa n cap es) (hbt : EntsAt w ob n cap' es) :
    Calls Try.prog 38 #[lval s u (.slice oa n cap), lval s u (.slice ob n cap')] w fun e w' => e = .returned (.bool true) ∧ Below w.heap.size w w' := by
  have hb0 := ((Below.refl w.heap.size w).alloc (Nat.le_refl _) (.cells #[.int .i64 s, .int .i64 u, .slice oa n cap] 33)).alloc (by simp) (.cells #[.int .i64 s, .int .i64 u, .slice ob n cap'] 33)
  have HE := hide (eqEntryS_same oa n cap ob cap' es hn20 _ (hat.below hb0) (hbt.below hb0))
  have HB0 := hide hb0
  clear hat hbt hb0
  go_enter Try.func38, Try.ntmps38
  go_wp2_with fail
  refine HE.out.mono ?_
  rintro e w1 ⟨rfl, hb1⟩
  go_wp2_with fail
  go_ret
  exact ⟨rfl, HB0.out.trans (hb1.mono (by simp; omega))⟩

theorem own_oneCell6 {w : World} {base : Nat} {e : TypeId} {size : Nat} {v : Value} {n : Nat} {xs : List Value} (h : w.ownsRow base e size v n xs) : v.oneCell' = true := by
  rcases h.2 with ⟨rfl, rfl⟩ | ⟨g, cap, cur, rfl, _⟩ <;> simp [Value.oneCell']

set_option maxHeartbeats 1000000 in
theorem heldLog_any (s u : Int) (oa : Option Addr) (n cap k : Nat) (hn : n ≤ 1048576) (hk : k ≤ 1000000) (w : World) (hat : EntsAt w oa n cap (marksE k n)) :
    Calls Try.prog 44 #[lval s u (.slice oa n cap), .int .i64 (k : Int)] w fun e w' => e = .returned (.int .i64 ((k + 3 * n : Nat) : Int)) ∧ Below w.heap.size w w' := by
  have hb0 := (Below.refl w.heap.size w).alloc (Nat.le_refl _) (.cells #[.int .i64 s, .int .i64 u, .slice oa n cap] 33)
  have HH := hide (heldEntryS_any oa n cap k hn hk _ (hat.below hb0))
  have HB0 := hide hb0
  clear hat hb0
  have g : ¬ ((k + 3 * n : Nat) : Int) < 0 := by omega
  go_enter Try.func44, Try.ntmps44
  go_wp2_with fail
  refine HH.out.mono ?_
  rintro e w1 ⟨rfl, hb1⟩
  go_wp2_with fail
  go_ret
  exact ⟨by go_num, HB0.out.trans (hb1.mono (by simp))⟩

end Go.Proofs.Ytoalbeiinlcgpaa
