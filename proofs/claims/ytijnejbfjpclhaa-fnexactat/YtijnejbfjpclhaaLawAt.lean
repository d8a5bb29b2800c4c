/-
  The law FnExactAt: its walk.
-/
import Derived.Test.YtijnejbfjpclhaaWalk10c
namespace Go.Proofs.Ytijnejbfjpclhaa
open Go.RowKit P1 P5 P9 P11 P12 P14 K
set_option linter.unusedVariables false
set_option linter.unusedSimpArgs false

set_option maxHeartbeats 4000000 in
theorem FnExactAt_walk (oa : Option Addr) (n cap : Nat) (s : List (Int × Int)) (k : Int) (w : World) (hat : ItemsAt w oa n cap s) (hws : ∀ y ∈ s, WideI y) (hk : (Lit.int .i64 k).wf = true) :
    Calls Try.prog 4 #[.slice oa n cap, .int .i64 k] w fun e w' => e = .returned (.bool true) ∧ Below w.heap.size w w' := by
  have hmx := Nat.le_trans hat.room hat.most
  have HSZ := hide (fun w => szItemS_any oa n cap hmx w)
  have HAT := hide hat
  clear hat
  by_cases c : (1048576 : Int) - n < 0
  · rw [if_pos c] at HSZ
    clear hmx
    go_enter Try.func4, Try.ntmps4
    go_wp2_with fail
    refine (HSZ.out _).mono ?_
    rintro e w1 ⟨rfl, rfl⟩
    go_wp2_with fail
    go_ret
    exact ⟨rfl, Below.refl _ _⟩
  · rw [if_neg c] at HSZ
    have hn20 : n ≤ 1048576 := by omega
    have g0 : ¬ (1048576 : Int) - (n : Int) < 0 := c
    have HSP := hide (fun oa cap w hat => specAt_any oa n cap s k w hat)
    have HIM := hide (fun oa cap w hat => implAt_any oa n cap s k hn20 hk w hat hws)
    generalize stAt s k = r0 at HSP HIM
    have q0 : (r0 == r0) = true := by simp
    generalize (1048576 : Int) - (n : Int) = z at HSZ c g0
    clear hmx hws
    go_enter Try.func4, Try.ntmps4
    go_wp2_with fail
    refine (HSZ.out _).mono ?_
    rintro e w1 ⟨rfl, rfl⟩
    go_wp2_with fail
    refine (toItemS_any oa n cap s hn20 _ HAT.out).mono ?_
    rintro e w2 ⟨g2, rfl, ho2, hb2⟩
    have B2 := hide hb2
    obtain ⟨_, _, he, hat2⟩ := itemsAt_of_own ho2
    cases he
    clear hb2 ho2
    go_wp2_with fail
    refine (HSP.out _ _ _ hat2).mono ?_
    rintro e w3 ⟨rfl, rfl⟩
    clear hat2
    go_wp2_with fail
    refine (toItemS_any oa n cap s hn20 _ (HAT.out.below B2.out)).mono ?_
    rintro e w4 ⟨g4, rfl, ho4, hb4⟩
    have B4 := hide (B2.out.trans (hb4.mono B2.out.size))
    obtain ⟨_, _, he, hat4⟩ := itemsAt_of_own ho4
    cases he
    have H4 := hide hat4
    clear hb4 ho4 hat4
    go_wp2_with fail
    refine (HIM.out _ _ _ H4.out).mono ?_
    rintro e w5 ⟨rfl, hb5⟩
    have B5 := hide (B4.out.trans (hb5.mono B4.out.size))
    have H5 := hide (H4.out.below hb5)
    clear hb5
    go_wp2_with fail
    refine (toItemS_any oa n cap s hn20 _ (HAT.out.below B5.out)).mono ?_
    rintro e w6 ⟨g6, rfl, ho6, hb6⟩
    have B6 := hide (B5.out.trans (hb6.mono B5.out.size))
    obtain ⟨_, _, he, hat6⟩ := itemsAt_of_own ho6
    cases he
    have H6 := hide hat6
    have H56 := hide (H5.out.below hb6)
    clear hb6 ho6 hat6
    go_wp2_with fail
    refine (eqItemS_same _ n _ s _ _ hn20 _ H56.out H6.out).mono ?_
    rintro e w7 ⟨rfl, hb7⟩
    have B7 := hide (B6.out.trans (hb7.mono B6.out.size))
    clear hb7
    go_wp2_with fail
    go_ret
    exact ⟨rfl, B7.out⟩

end Go.Proofs.Ytijnejbfjpclhaa
