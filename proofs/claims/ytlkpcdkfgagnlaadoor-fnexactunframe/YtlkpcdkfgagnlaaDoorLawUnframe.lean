/-
  The law FnExactUnframe, walked out of the contracts.
-/
import Derived.Test.YtlkpcdkfgagnlaaDoorWalk4d
import Derived.Test.YtlkpcdkfgagnlaaDoorSumTab
namespace Go.Proofs.YtlkpcdkfgagnlaaDoor
open Go.RowKit P1 K P3
set_option linter.unusedVariables false

theorem unframeF_len : ∀ (f : Nat) (l : List UInt8) (a : Nat), a ≤ l.length → a + (unframeF f l a).1.length ≤ l.length
  | 0, _, _, h => by simp [unframeF, h]
  | f + 1, l, a, h => by
    unfold unframeF
    cases e : frameAt l a with
    | none => simp [h]
    | some p =>
      obtain ⟨r, b⟩ := p
      have h1 := frameAt_some e
      have h2 := unframeF_len f l b h1.2.1
      simp
      omega

theorem unframe_len (l : List UInt8) : (unframeL l).1.length ≤ 20000 := by
  unfold unframeL
  split
  · rename_i h
    have := unframeF_len l.length l 0 (Nat.zero_le _)
    omega
  · simp

set_option maxHeartbeats 2000000 in
theorem FnExactUnframe_walk (a0 : ByteArray) (w0 : a0.size ≤ maxLen) (w : World) (hL : laidMetH Tryd.prog Rows.fnExactUnframeRow.laid w) :
    Calls Tryd.prog 5 #[.string a0] w fun e w' => e = .returned (.bool true) ∧ Below w.heap.size w w' := by
  unfold maxLen at w0
  have HT := hide (sums_of_laid (by kernel_rfl) hL)
  clear hL
  by_cases hbig : 1048576 < a0.size
  · go_enter Tryd.func5, Tryd.ntmps5
    go_wp2_with fail
    go_ret
    exact ⟨rfl, Below.refl _ _⟩
  · have hs : a0.size ≤ 1048576 := by omega
    clear w0
    have hlen := unframe_len (bl a0)
    obtain ⟨X, hX⟩ : ∃ X, (unframeL (bl a0)).1 = X := ⟨_, rfl⟩
    obtain ⟨b, hB⟩ : ∃ b, (unframeL (bl a0)).2 = b := ⟨_, rfl⟩
    rw [hX] at hlen
    have HX := hide hX
    have HB := hide hB
    clear hX hB
    go_enter Tryd.func5, Tryd.ntmps5
    go_wp2_with fail
    refine (specUnframe_any a0 hs _).mono ?_
    unfold UnfPost
    rw [HX.out, HB.out]
    rintro e w1 ⟨gw, cw, rfl, hw1, hb1⟩
    go_wp2_with fail
    refine (implUnframe_any a0 hs _ (tab_below HT.out hb1)).mono ?_
    unfold UnfPost
    rw [HX.out, HB.out]
    rintro e w2 ⟨g0, c0, rfl, hg2, hb2⟩
    have hw2 := own_below hw1 hb2
    have lw1 := (hw1.lt gw rfl).2
    have lg2 := (hg2.lt g0 rfl).1
    have hB2 : Below w.heap.size w w2 := hb1.trans (hb2.mono hb1.size)
    clear hw1
    go_wp2_with fail
    refine (eqStringS_same g0 X.length c0 w1.heap.size gw cw w.heap.size X (by omega) _ hg2 hw2).mono ?_
    rintro e w3 ⟨rfl, hb3⟩
    have hg3 := own_below hg2 hb3
    have hw3 := own_below hw2 hb3
    have hB3 : Below w.heap.size w w3 := hB2.trans (hb3.mono hB2.size)
    clear hg2 hw2
    go_wp2_with fail
    have e1 : ((1 : Nat) : Int) = 1 := rfl
    have hm := fun w => markStringS_any g0 X.length c0 w1.heap.size 1 X rfl (by omega) (by omega) w
    have hh := fun w => heldStringS_any g0 X.length c0 w1.heap.size 1 (by omega) (by omega) w
    rw [e1] at hm hh
    have HM := hide hm
    have HH := hide hh
    clear hm hh e1
    refine (HM.out _ hg3).mono ?_
    rintro e w4 ⟨rfl, hg4, hgr4⟩
    have hw4 := hw3.kept hgr4 (by right; simp [Value.ownBlock]; omega)
    have hB4 : Below w.heap.size w w4 := hB3.grown hgr4 hB3.size (by intro k hk; cases hk; have := hb1.size; omega)
    clear hg3 hw3 hgr4
    go_wp2_with fail
    refine (HH.out _ hg4).mono ?_
    rintro e w5 ⟨rfl, hb5⟩
    have hg5 := own_below hg4 hb5
    have hw5 := own_below hw4 hb5
    have hB5 : Below w.heap.size w w5 := hB4.trans (hb5.mono hB4.size)
    clear hg4 hw4
    have q1 : ¬ (((1 + X.length : Nat) : Int) < 0) := by omega
    go_wp2_with fail
    refine (implUnframe_any a0 hs _ (tab_below HT.out hB5)).mono ?_
    unfold UnfPost
    rw [HX.out, HB.out]
    rintro e w6 ⟨h0, ch, rfl, hh6, hb6⟩
    have hg6 := own_below hg5 hb6
    have hw6 := own_below hw5 hb6
    have hB6 : Below w.heap.size w w6 := hB5.trans (hb6.mono hB5.size)
    clear hg5 hw5
    go_wp2_with fail
    refine (eqStringS_same h0 X.length ch w5.heap.size gw cw w.heap.size X (by omega) _ hh6 hw6).mono ?_
    rintro e w7 ⟨rfl, hb7⟩
    have hg7 := own_below hg6 hb7
    have hB7 : Below w.heap.size w w7 := hB6.trans (hb7.mono hB6.size)
    clear hg6 hw6 hh6
    go_wp2_with fail
    refine (HH.out _ hg7).mono ?_
    rintro e w8 ⟨rfl, hb8⟩
    have hB8 : Below w.heap.size w w8 := hB7.trans (hb8.mono hB7.size)
    clear hg7
    go_wp2_with fail
    go_ret
    exact ⟨rfl, hB8⟩

end Go.Proofs.YtlkpcdkfgagnlaaDoor
