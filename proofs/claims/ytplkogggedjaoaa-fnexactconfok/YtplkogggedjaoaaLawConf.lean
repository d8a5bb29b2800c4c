/-
  The laws FnExactConfOk, FnExactConfText, FnExactReadConf: their walks.
-/
import Derived.Test.YtplkogggedjaoaaWalk5c
import Derived.Test.YtplkogggedjaoaaOpenInts
namespace Go.Proofs.Ytplkogggedjaoaa
open Go.RowKit P1 P9 K
set_option linter.unusedVariables false
set_option linter.unusedSimpArgs false

set_option maxHeartbeats 2000000 in
theorem FnExactConfOk_walk (oa : Option Addr) (n cap : Nat) (zs : List Int) (w : World) (hat : IntsAt w oa n cap zs) :
    Calls Try.prog 3 #[.slice oa n cap] w fun e w' => e = .returned (.bool true) ∧ Below w.heap.size w w' := by
  have hc := hat.room
  have hm := hat.most
  unfold maxLen at hm
  have HAT := hide hat
  clear hat
  by_cases hbig : n ≤ 1048576
  · have gb : ¬ (1048576 : Int) < (n : Int) := by omega
    go_enter Try.func3, Try.ntmps3
    go_wp2_with fail
    refine (toIntS_any oa n cap zs hbig _ HAT.out).mono ?_
    rintro e w1 ⟨g1, rfl, ho1, hb1⟩
    have B1 := hide hb1
    obtain ⟨_, _, he, hat1⟩ := intsAt_of_own ho1 HAT.out.fits
    cases he
    go_wp2_with fail
    refine (specConfOk_any _ n _ zs _ hat1).mono ?_
    rintro e w2 ⟨rfl, hdr⟩
    have B2 := hide (B1.out.trans (hdr.below.mono B1.out.size))
    clear ho1 hat1 hdr hb1
    go_wp2_with fail
    refine (toIntS_any oa n cap zs hbig _ (HAT.out.below B2.out)).mono ?_
    rintro e w3 ⟨g3, rfl, ho3, hb3⟩
    have B3 := hide (B2.out.trans (hb3.mono B2.out.size))
    obtain ⟨_, _, he, hat3⟩ := intsAt_of_own ho3 HAT.out.fits
    cases he
    have HAT3 := hide hat3
    clear ho3 hb3 hat3
    go_wp2_with fail
    refine (implConfOk_any _ n _ zs _ HAT3.out).mono ?_
    rintro e w4 ⟨rfl, rfl⟩
    go_wp2_with fail
    refine (toIntS_any oa n cap zs hbig _ (HAT.out.below B3.out)).mono ?_
    rintro e w5 ⟨g5, rfl, ho5, hb5⟩
    have B5 := hide (B3.out.trans (hb5.mono B3.out.size))
    obtain ⟨_, _, he, hat5⟩ := intsAt_of_own ho5 HAT.out.fits
    cases he
    have HAT5 := hide hat5
    have HAT35 := hide (HAT3.out.below hb5)
    clear ho5 hb5 hat5
    go_wp2_with fail
    refine (eqIntS_same _ n _ _ _ zs hbig _ HAT35.out HAT5.out).mono ?_
    rintro e w6 ⟨rfl, hb6⟩
    have B6 := hide (B5.out.trans (hb6.mono B5.out.size))
    clear hb6
    go_wp2_with fail
    go_ret
    exact ⟨rfl, B6.out⟩
  · have gb : (1048576 : Int) < (n : Int) := by omega
    go_enter Try.func3, Try.ntmps3
    go_wp2_with fail
    go_ret
    exact ⟨rfl, Below.refl _ _⟩

set_option maxHeartbeats 2000000 in
theorem FnExactConfText_walk (oa : Option Addr) (n cap : Nat) (zs : List Int) (w : World) (hat : IntsAt w oa n cap zs) :
    Calls Try.prog 4 #[.slice oa n cap] w fun e w' => e = .returned (.bool true) ∧ Below w.heap.size w w' := by
  have hc := hat.room
  have hm := hat.most
  unfold maxLen at hm
  have HAT := hide hat
  clear hat
  by_cases hbig : n ≤ 1048576
  · have gb : ¬ (1048576 : Int) < (n : Int) := by omega
    obtain ⟨ts, tb, hct⟩ : ∃ ts tb, ctVal zs = .tuple #[.string ts, .bool tb] := by
      unfold ctVal
      split
      · exact ⟨_, _, rfl⟩
      · exact ⟨_, _, rfl⟩
    have HCT := hide hct
    clear hct
    go_enter Try.func4, Try.ntmps4
    go_wp2_with fail
    refine (toIntS_any oa n cap zs hbig _ HAT.out).mono ?_
    rintro e w1 ⟨g1, rfl, ho1, hb1⟩
    have B1 := hide hb1
    obtain ⟨_, _, he, hat1⟩ := intsAt_of_own ho1 HAT.out.fits
    cases he
    go_wp2_with fail
    refine (specConfText_any _ n _ zs _ hat1).mono ?_
    rw [HCT.out]
    rintro e w2 ⟨rfl, hb2⟩
    have B2 := hide (B1.out.trans (hb2.mono B1.out.size))
    clear ho1 hat1 hb2 hb1
    go_wp2_with fail
    refine (toIntS_any oa n cap zs hbig _ (HAT.out.below B2.out)).mono ?_
    rintro e w3 ⟨g3, rfl, ho3, hb3⟩
    have B3 := hide (B2.out.trans (hb3.mono B2.out.size))
    obtain ⟨_, _, he, hat3⟩ := intsAt_of_own ho3 HAT.out.fits
    cases he
    have HAT3 := hide hat3
    clear ho3 hb3 hat3
    go_wp2_with fail
    refine (implConfText_any _ n _ zs _ HAT3.out).mono ?_
    rw [HCT.out]
    rintro e w4 ⟨rfl, hb4⟩
    have B4 := hide (B3.out.trans (hb4.mono B3.out.size))
    have HAT4 := hide (HAT3.out.below hb4)
    clear hb4
    go_wp2_with fail
    refine (toIntS_any oa n cap zs hbig _ (HAT.out.below B4.out)).mono ?_
    rintro e w5 ⟨g5, rfl, ho5, hb5⟩
    have B5 := hide (B4.out.trans (hb5.mono B4.out.size))
    obtain ⟨_, _, he, hat5⟩ := intsAt_of_own ho5 HAT.out.fits
    cases he
    have HAT5 := hide hat5
    have HAT35 := hide (HAT4.out.below hb5)
    clear ho5 hb5 hat5
    go_wp2_with fail
    refine (eqIntS_same _ n _ _ _ zs hbig _ HAT35.out HAT5.out).mono ?_
    rintro e w6 ⟨rfl, hb6⟩
    have B6 := hide (B5.out.trans (hb6.mono B5.out.size))
    clear hb6
    go_wp2_with fail
    go_ret
    exact ⟨rfl, B6.out⟩
  · have gb : (1048576 : Int) < (n : Int) := by omega
    go_enter Try.func4, Try.ntmps4
    go_wp2_with fail
    go_ret
    exact ⟨rfl, Below.refl _ _⟩

theorem rdConf_fits (l : List UInt8) : (rdConf l).1.length ≤ 4 ∧ ∀ z ∈ (rdConf l).1, (Lit.int .i64 z).wf = true := by
  unfold rdConf
  split
  · rename_i h
    exact ⟨(confOk_len h).2, confZ_wf l⟩
  · exact ⟨by simp, by simp⟩

set_option maxHeartbeats 2000000 in
theorem FnExactReadConf_walk (a0 : ByteArray) (w0 : a0.size ≤ maxLen) (w : World) :
    Calls Try.prog 5 #[.string a0] w fun e w' => e = .returned (.bool true) ∧ Below w.heap.size w w' := by
  unfold maxLen at w0
  by_cases hbig : a0.size ≤ 1048576
  · have gb : ¬ (1048576 : Int) < (a0.size : Int) := by omega
    obtain ⟨hl4, hfit⟩ := rdConf_fits (bl a0)
    obtain ⟨X, hX⟩ : ∃ X, (rdConf (bl a0)).1 = X := ⟨_, rfl⟩
    obtain ⟨b, hB⟩ : ∃ b, (rdConf (bl a0)).2 = b := ⟨_, rfl⟩
    rw [hX] at hl4 hfit
    obtain ⟨N, hN⟩ : ∃ N, X.length = N := ⟨_, rfl⟩
    rw [hN] at hl4
    have HX := hide hX
    have HB := hide hB
    have HN := hide hN
    have HF := hide hfit
    clear hX hB hN hfit
    go_enter Try.func5, Try.ntmps5
    go_wp2_with fail
    refine (specReadConf_any a0 hbig _).mono ?_
    unfold RcPost
    rw [HX.out, HB.out, HN.out]
    rintro e w1 ⟨gw, cw, rfl, hw1, hb1⟩
    have B1 := hide hb1
    go_wp2_with fail
    refine (implReadConf_any a0 hbig _).mono ?_
    unfold RcPost
    rw [HX.out, HB.out, HN.out]
    rintro e w2 ⟨g0, c0, rfl, hg2, hb2⟩
    have hw2 := own_below hw1 hb2
    have lw1 := (hw1.lt gw rfl).2
    have lg2 := (hg2.lt g0 rfl).1
    have B2 := hide (B1.out.trans (hb2.mono B1.out.size))
    obtain ⟨_, _, he, hatW⟩ := intsAt_of_own hw2 HF.out
    cases he
    obtain ⟨_, _, he, hatG⟩ := intsAt_of_own hg2 HF.out
    cases he
    have HATW := hide hatW
    have HATG := hide hatG
    have HW := hide hw2
    have HG := hide hg2
    clear hw1 hw2 hg2 hatW hatG hb1 hb2
    go_wp2_with fail
    refine (eqIntS_same _ N _ _ _ X (by omega) _ HATG.out HATW.out).mono ?_
    rintro e w3 ⟨rfl, hb3⟩
    have HW3 := hide (own_below HW.out hb3)
    have HG3 := hide (own_below HG.out hb3)
    have B3 := hide (B2.out.trans (hb3.mono B2.out.size))
    clear hb3 HATW HATG HW HG
    go_wp2_with fail
    have e1 : ((1 : Nat) : Int) = 1 := rfl
    have hm := fun w => markIntS_own g0 N c0 w1.heap.size 1 (by omega) (by omega) w
    have hh := fun ox cx w => heldIntS_own ox N cx 1 (by omega) (by omega) w
    rw [e1] at hm hh
    have HM := hide hm
    have HH := hide hh
    clear hm hh e1
    refine (HM.out _ _ HG3.out).mono ?_
    rintro e w4 ⟨rfl, hg4, hgr4⟩
    have HW4 := hide (HW3.out.kept hgr4 (by right; simp [Value.ownBlock]; omega))
    have B4 := hide (B3.out.grown hgr4 B3.out.size (by intro k hk; cases hk; have := B1.out.size; omega))
    have HG4 := hide hg4
    obtain ⟨_, _, he, hat4⟩ := intsAt_of_own hg4 (marksI_wf 1 N (by omega) (by omega))
    cases he
    have HAT4 := hide hat4
    clear hg4 hgr4 hat4 HW3 HG3
    go_wp2_with fail
    refine (HH.out _ _ _ HAT4.out).mono ?_
    rintro e w5 ⟨rfl, hb5⟩
    have HG5 := hide (own_below HG4.out hb5)
    have HW5 := hide (own_below HW4.out hb5)
    have B5 := hide (B4.out.trans (hb5.mono B4.out.size))
    clear hb5 HG4 HW4 HAT4
    have q1 : ¬ (((1 + N : Nat) : Int) < 0) := by omega
    go_wp2_with fail
    refine (implReadConf_any a0 hbig _).mono ?_
    unfold RcPost
    rw [HX.out, HB.out, HN.out]
    rintro e w6 ⟨h0, ch, rfl, hh6, hb6⟩
    have HG6 := hide (own_below HG5.out hb6)
    have hw6 := own_below HW5.out hb6
    have B6 := hide (B5.out.trans (hb6.mono B5.out.size))
    obtain ⟨_, _, he, hatW⟩ := intsAt_of_own hw6 HF.out
    cases he
    obtain ⟨_, _, he, hatH⟩ := intsAt_of_own hh6 HF.out
    cases he
    have HATW := hide hatW
    have HATH := hide hatH
    clear hh6 hb6 hw6 HG5 HW5 hatW hatH
    go_wp2_with fail
    refine (eqIntS_same _ N _ _ _ X (by omega) _ HATH.out HATW.out).mono ?_
    rintro e w7 ⟨rfl, hb7⟩
    have hg7 := own_below HG6.out hb7
    have B7 := hide (B6.out.trans (hb7.mono B6.out.size))
    obtain ⟨_, _, he, hat7⟩ := intsAt_of_own hg7 (marksI_wf 1 N (by omega) (by omega))
    cases he
    have HAT7 := hide hat7
    clear hb7 hg7 hat7 HG6 HATW HATH
    go_wp2_with fail
    refine (HH.out _ _ _ HAT7.out).mono ?_
    rintro e w8 ⟨rfl, hb8⟩
    have B8 := hide (B7.out.trans (hb8.mono B7.out.size))
    clear hb8
    go_wp2_with fail
    go_ret
    exact ⟨rfl, B8.out⟩
  · have gb : (1048576 : Int) < (a0.size : Int) := by omega
    go_enter Try.func5, Try.ntmps5
    go_wp2_with fail
    go_ret
    exact ⟨rfl, Below.refl _ _⟩

end Go.Proofs.Ytplkogggedjaoaa
