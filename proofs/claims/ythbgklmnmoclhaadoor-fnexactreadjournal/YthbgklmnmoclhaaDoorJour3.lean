/-
  Journals: sized, copied, compared, marked by the laws.
-/
import Derived.Test.YthbgklmnmoclhaaDoorPack16
import Derived.Test.YthbgklmnmoclhaaDoorPack26
namespace Go.Proofs.YthbgklmnmoclhaaDoor
open Go.RowKit P1 P9 K
set_option linter.unusedVariables false
set_option linter.unusedSimpArgs false

set_option maxHeartbeats 1000000 in
theorem szJournal_any (jn jt jv s u : Int) (oa : Option Addr) (n cap : Nat) (es : List EntV) (w : World) (hat : EntsAt w oa n cap es) (hw : ∀ f ∈ es, EntWide f) (left : Int) (h0 : 0 ≤ left) (h1 : left ≤ 1048576) :
    Calls Tryd.prog 8 #[jval jn jt jv s u (.slice oa n cap), .int .i64 left] w fun e w' => e = .returned (.int .i64 (if szEs es left < 0 then -1 else szEs es left)) ∧ Below w.heap.size w w' := by
  have hb0 := (Below.refl w.heap.size w).alloc (Nat.le_refl _) (.cells #[.int .i64 jn, .int .i64 jt, .int .i64 jv, .int .i64 s, .int .i64 u, .slice oa n cap] 28)
  have HS := hide (szLog_any s u oa n cap es _ (hat.below hb0) hw left h0 h1)
  have HB0 := hide hb0
  clear hat hw hb0
  by_cases c : szEs es left < 0
  · rw [if_pos c] at HS ⊢
    go_enter Tryd.func8, Tryd.ntmps8
    go_wp2_with fail
    refine HS.out.mono ?_
    rintro e w1 ⟨rfl, hb1⟩
    go_wp2_with fail
    go_ret
    exact ⟨rfl, HB0.out.trans (hb1.mono (by simp))⟩
  · have g : decide (szEs es left < 0) = false := by simpa using c
    rw [if_neg c] at HS ⊢
    go_enter Tryd.func8, Tryd.ntmps8
    go_wp2_with fail
    refine HS.out.mono ?_
    rintro e w1 ⟨rfl, hb1⟩
    go_wp2_with fail
    go_ret
    exact ⟨rfl, HB0.out.trans (hb1.mono (by simp))⟩

/-- What is made of a journal's copy: the row is the call's own. -/
def ToJour (w : World) (jn jt jv s u : Int) (n : Nat) (es : List EntV) (e : Ending) (w' : World) : Prop :=
  ∃ g, e = .returned (jval jn jt jv s u (.slice (some ⟨g, 0, none⟩) n n)) ∧ w'.ownsRow w.heap.size 77 3 (.slice (some ⟨g, 0, none⟩) n n) n (es.flatMap ecells) ∧ Below w.heap.size w w'

set_option maxHeartbeats 1000000 in
theorem toJournal_any (jn jt jv s u : Int) (oa : Option Addr) (n cap : Nat) (es : List EntV) (hn20 : n ≤ 1048576) (w : World) (hat : EntsAt w oa n cap es) :
    Calls Tryd.prog 10 #[jval jn jt jv s u (.slice oa n cap)] w fun e w' => ToJour w jn jt jv s u n es e w' := by
  have hb1 := (((Below.refl w.heap.size w).alloc (Nat.le_refl _) (.cells #[.int .i64 jn, .int .i64 jt, .int .i64 jv, .int .i64 s, .int .i64 u, .slice oa n cap] 28)).alloc (by simp) (.cells #[.int .i64 0, .int .i64 0, .int .i64 0, .int .i64 0, .int .i64 0, .slice none 0 0] 36)).alloc (by simp; omega) (.cells #[.int .i64 jn, .int .i64 jt, .int .i64 jv, .int .i64 0, .int .i64 0, .slice none 0 0] 36)
  have HTO := hide (toLog_any s u oa n cap es hn20 _ (hat.below hb1))
  have HB1 := hide hb1
  clear hat hb1
  go_enter Tryd.func10, Tryd.ntmps10
  go_wp2_with fail
  refine HTO.out.mono ?_
  rintro e w2 ⟨g, rfl, hown, hb2⟩
  have k0 := hb2.cell (p := ⟨w.heap.size + 1 + 1, 0, none⟩) (by simp)
  have k1 := hb2.cell (p := ⟨w.heap.size + 1 + 1, 1, none⟩) (by simp)
  have k2 := hb2.cell (p := ⟨w.heap.size + 1 + 1, 2, none⟩) (by simp)
  have k3 := hb2.cell (p := ⟨w.heap.size + 1 + 1, 3, none⟩) (by simp)
  have k4 := hb2.cell (p := ⟨w.heap.size + 1 + 1, 4, none⟩) (by simp)
  have k5 := hb2.cell (p := ⟨w.heap.size + 1 + 1, 5, none⟩) (by simp)
  have q3 := hb2.frozen (p := ⟨w.heap.size + 1 + 1, 3, none⟩) (by simp)
  have q4 := hb2.frozen (p := ⟨w.heap.size + 1 + 1, 4, none⟩) (by simp)
  have q5 := hb2.frozen (p := ⟨w.heap.size + 1 + 1, 5, none⟩) (by simp)
  have r0 := hb2.cell (p := ⟨w.heap.size + 1, 0, none⟩) (by simp)
  have r1 := hb2.cell (p := ⟨w.heap.size + 1, 1, none⟩) (by simp)
  have r2 := hb2.cell (p := ⟨w.heap.size + 1, 2, none⟩) (by simp)
  have r3 := hb2.cell (p := ⟨w.heap.size + 1, 3, none⟩) (by simp)
  have r4 := hb2.cell (p := ⟨w.heap.size + 1, 4, none⟩) (by simp)
  have r5 := hb2.cell (p := ⟨w.heap.size + 1, 5, none⟩) (by simp)
  have t0 := hb2.frozen (p := ⟨w.heap.size + 1, 0, none⟩) (by simp)
  have t1 := hb2.frozen (p := ⟨w.heap.size + 1, 1, none⟩) (by simp)
  have t2 := hb2.frozen (p := ⟨w.heap.size + 1, 2, none⟩) (by simp)
  have t3 := hb2.frozen (p := ⟨w.heap.size + 1, 3, none⟩) (by simp)
  have t4 := hb2.frozen (p := ⟨w.heap.size + 1, 4, none⟩) (by simp)
  have t5 := hb2.frozen (p := ⟨w.heap.size + 1, 5, none⟩) (by simp)
  have HO := hide hown
  have HB2 := hide hb2
  clear hown hb2
  go_wp2_with fail
  refine bodyPost_ret (v := jval jn jt jv s u (.slice (some ⟨g, 0, none⟩) n n)) (by simp [results, Tryd.results10, go_sem, k0, k1, k2, k3, k4, k5, q3, q4, q5, r0, r1, r2, r3, r4, r5, t0, t1, t2, t3, t4, t5]) rfl ⟨g, rfl, ?_, ?_⟩
  · refine own_base (base := w.heap.size + 1 + 1 + 1) ?_ (by omega)
    have := HO.out
    simp at this
    repeat (refine own_setCell ?_ (by simp <;> omega) _)
    exact this
  · repeat (refine Below.setCell ?_ (by simp <;> omega) _)
    exact HB1.out.trans (HB2.out.mono (by simp; omega))

set_option maxHeartbeats 1000000 in
theorem eqJournal_same (jn jt jv s u : Int) (oa : Option Addr) (n cap : Nat) (ob : Option Addr) (cap' : Nat) (es : List EntV) (hn20 : n ≤ 1048576) (w : World) (hat : EntsAt w oa n cap es) (hbt : EntsAt w ob n cap' es) :
    Calls Tryd.prog 12 #[jval jn jt jv s u (.slice oa n cap), jval jn jt jv s u (.slice ob n cap')] w fun e w' => e = .returned (.bool true) ∧ Below w.heap.size w w' := by
  have hb0 := ((Below.refl w.heap.size w).alloc (Nat.le_refl _) (.cells #[.int .i64 jn, .int .i64 jt, .int .i64 jv, .int .i64 s, .int .i64 u, .slice oa n cap] 36)).alloc (by simp) (.cells #[.int .i64 jn, .int .i64 jt, .int .i64 jv, .int .i64 s, .int .i64 u, .slice ob n cap'] 36)
  have HE := hide (eqLog_same s u oa n cap ob cap' es hn20 _ (hat.below hb0) (hbt.below hb0))
  have HB0 := hide hb0
  clear hat hbt hb0
  go_enter Tryd.func12, Tryd.ntmps12
  go_wp2_with fail
  refine HE.out.mono ?_
  rintro e w1 ⟨rfl, hb1⟩
  go_wp2_with fail
  go_ret
  exact ⟨rfl, HB0.out.trans (hb1.mono (by simp; omega))⟩

set_option maxHeartbeats 1000000 in
theorem markJournal_any (jn jt jv s u : Int) (v : Value) (n base k : Nat) (hn : n ≤ 1048576) (hk : k ≤ 1000000) (w : World) (es : List EntV) (hown : w.ownsRow base 77 3 v n (es.flatMap ecells)) :
    Calls Tryd.prog 15 #[jval jn jt jv s u v, .int .i64 (k : Int)] w fun e w' => e = .returned (.int .i64 ((k + 3 * n : Nat) : Int)) ∧ w'.ownsRow base 77 3 v n ((marksE k n).flatMap ecells) ∧ w.grownBy w' v.ownBlock := by
  have hv := own_oneCell6 hown
  have HM := hide (markLog_any s u v n base k hn hk _ es (hown.alloc (.cells #[.int .i64 jn, .int .i64 jt, .int .i64 jv, .int .i64 s, .int .i64 u, v] 36)))
  clear hown
  go_enter Tryd.func15, Tryd.ntmps15
  go_wp2_with fail
  refine HM.out.mono ?_
  rintro e w2 ⟨rfl, ho2, hg2⟩
  have HO2 := hide ho2
  have HG2 := hide hg2
  clear ho2 hg2
  go_wp2_with fail
  go_ret
  exact ⟨by go_num, HO2.out, grown_trans (World.grownBy_alloc _ _ _) HG2.out⟩

set_option maxHeartbeats 1000000 in
theorem heldJournal_any (jn jt jv s u : Int) (oa : Option Addr) (n cap k : Nat) (hn : n ≤ 1048576) (hk : k ≤ 1000000) (w : World) (hat : EntsAt w oa n cap (marksE k n)) :
    Calls Tryd.prog 16 #[jval jn jt jv s u (.slice oa n cap), .int .i64 (k : Int)] w fun e w' => e = .returned (.int .i64 ((k + 3 * n : Nat) : Int)) ∧ Below w.heap.size w w' := by
  have hb0 := (Below.refl w.heap.size w).alloc (Nat.le_refl _) (.cells #[.int .i64 jn, .int .i64 jt, .int .i64 jv, .int .i64 s, .int .i64 u, .slice oa n cap] 36)
  have HH := hide (heldLog_any s u oa n cap k hn hk _ (hat.below hb0))
  have HB0 := hide hb0
  clear hat hb0
  have g : ¬ ((k + 3 * n : Nat) : Int) < 0 := by omega
  go_enter Tryd.func16, Tryd.ntmps16
  go_wp2_with fail
  refine HH.out.mono ?_
  rintro e w1 ⟨rfl, hb1⟩
  go_wp2_with fail
  go_ret
  exact ⟨by go_num, HB0.out.trans (hb1.mono (by simp))⟩

end Go.Proofs.YthbgklmnmoclhaaDoor
