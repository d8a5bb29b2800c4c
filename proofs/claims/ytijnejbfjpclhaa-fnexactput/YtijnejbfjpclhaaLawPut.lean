/-
  The law FnExactPut: its walk.
-/
import Derived.Test.YtijnejbfjpclhaaWalk10e
namespace Go.Proofs.Ytijnejbfjpclhaa
open Go.RowKit P1 P5 P9 P11 P12 P14 K
set_option linter.unusedVariables false
set_option linter.unusedSimpArgs false

/-- A row of Items whose block lies from lo on, below hi. -/
structure RI (w : World) (lo hi : Nat) (v : Value) (n : Nat) (xs : List Value) : Prop where
  own : w.ownsRow lo 49 2 v n xs
  top : ∀ q, v.ownBlock = some q → q < hi

theorem RI.new {w : World} {lo : Nat} {v : Value} {n : Nat} {xs : List Value} (h : w.ownsRow lo 49 2 v n xs) : RI w lo w.heap.size v n xs := ⟨h, fun q hq => (h.lt q hq).2⟩
theorem RI.on {w w' : World} {lo hi : Nat} {v : Value} {n : Nat} {xs : List Value} (h : RI w lo hi v n xs) (hb : Below w.heap.size w w') : RI w' lo hi v n xs := ⟨own_below h.own hb, h.top⟩
theorem RI.marked {w w' : World} {lo hi : Nat} {v : Value} {n : Nat} {xs ys : List Value} (h : RI w lo hi v n xs) (ho : w'.ownsRow lo 49 2 v n ys) : RI w' lo hi v n ys := ⟨ho, h.top⟩
theorem RI.other {w w' : World} {lo hi lo2 hi2 : Nat} {v v2 : Value} {n n2 : Nat} {xs xs2 : List Value} (h : RI w lo hi v n xs) (h2 : RI w lo2 hi2 v2 n2 xs2) (hap : hi ≤ lo2 ∨ hi2 ≤ lo) (hg : w.grownBy w' v2.ownBlock) : RI w' lo hi v n xs := by
  refine ⟨h.own.kept hg ?_, h.top⟩
  cases hv : v.ownBlock with
  | none => exact Or.inl rfl
  | some g =>
    refine Or.inr (fun e => ?_)
    have a1 := h.top g hv
    have a2 := (h.own.lt g hv).1
    have a3 := h2.top g e.symm
    have a4 := (h2.own.lt g e.symm).1
    omega
theorem RI.below {B : Nat} {W w w' : World} {lo hi : Nat} {v : Value} {n : Nat} {xs : List Value} (h : RI w lo hi v n xs) (hb : Below B W w) (hB : B ≤ w.heap.size) (hlo : B ≤ lo) (hg : w.grownBy w' v.ownBlock) : Below B W w' :=
  hb.grown hg hB (fun q hq => Nat.le_trans hlo (h.own.lt q hq).1)

theorem stPut_small (s : List (Int × Int)) (k i : Int) : (stPut s k i).length ≤ s.length ∨ (stPut s k i).length ≤ 8 := by
  rw [stPut_eq]
  split
  · rename_i h
    simp only [Bool.and_eq_true] at h
    have h2 := stIns_ok (k := k) (i := i) h.1
    rw [h.2.1, h.2.2] at h2
    exact .inr (stFrom_eight (by rw [← stOk_eq]; exact h2 : stFrom none (stIns s k i) = true))
  · exact .inl (Nat.le_refl _)

set_option maxHeartbeats 8000000 in
theorem FnExactPut_walk (oa : Option Addr) (n cap : Nat) (s : List (Int × Int)) (k i : Int) (w : World) (hat : ItemsAt w oa n cap s) (hws : ∀ y ∈ s, WideI y) (hk : (Lit.int .i64 k).wf = true) (hi : (Lit.int .i64 i).wf = true) :
    Calls Try.prog 5 #[.slice oa n cap, .int .i64 k, .int .i64 i] w fun e w' => e = .returned (.bool true) ∧ Below w.heap.size w w' := by
  have hmx := Nat.le_trans hat.room hat.most
  have HSZ := hide (fun w => szItemS_any oa n cap hmx w)
  have HAT := hide hat
  have hn := hat.len
  clear hat
  by_cases c : (1048576 : Int) - n < 0
  · rw [if_pos c] at HSZ
    clear hmx
    go_enter Try.func5, Try.ntmps5
    go_wp2_with fail
    refine (HSZ.out _).mono ?_
    rintro e w1 ⟨rfl, rfl⟩
    go_wp2_with fail
    go_ret
    exact ⟨rfl, Below.refl _ _⟩
  · rw [if_neg c] at HSZ
    have hn20 : n ≤ 1048576 := by omega
    have g0 : ¬ (1048576 : Int) - (n : Int) < 0 := c
    have HSP := hide (fun oa cap w hat => specPut_any oa n cap s k i hn20 w hat)
    have HIM := hide (fun oa cap w hat => implPut_any oa n cap s k i hn20 hk hi w hat hws)
    have hsm := stPut_small s k i
    generalize stPut s k i = T at HSP HIM hsm
    obtain ⟨m, hm⟩ : ∃ m, T.length = m := ⟨_, rfl⟩
    unfold PutPost at HSP HIM
    rw [hm] at HSP HIM hsm
    rw [hn] at hsm
    have HM := hide hm
    have hm20 : m ≤ 1048576 := by omega
    generalize (1048576 : Int) - (n : Int) = z at HSZ c g0
    clear hmx hws hm hn hsm
    go_enter Try.func5, Try.ntmps5
    go_wp2_with fail
    refine (HSZ.out _).mono ?_
    rintro e w1 ⟨rfl, rfl⟩
    go_wp2_with fail
    refine (toItemS_any oa n cap s hn20 _ HAT.out).mono ?_
    rintro e w2 ⟨g2, rfl, ho2, hb2⟩
    have B2 := hide hb2
    obtain ⟨_, _, he, hat2⟩ := itemsAt_of_own ho2
    cases he
    clear hb2 ho2
    go_wp2_with fail
    refine (HSP.out _ _ _ hat2).mono ?_
    rintro e w3 ⟨v3, rfl, ho3, hb3⟩
    obtain ⟨o3, c3, rfl⟩ := row_form ho3
    have B3 := hide (B2.out.trans (hb3.mono B2.out.size))
    have R0 := hide (RI.new ho3)
    clear hb3 ho3 hat2
    go_wp2_with fail
    refine (toItemS_any oa n cap s hn20 _ (HAT.out.below B3.out)).mono ?_
    rintro e w4 ⟨g4, rfl, ho4, hb4⟩
    have B4 := hide (B3.out.trans (hb4.mono B3.out.size))
    have R04 := hide (R0.out.on hb4)
    have X4 := hide (RI.new ho4)
    have z4 := hb4.size
    clear hb4 ho4 R0
    go_wp2_with fail
    obtain ⟨_, _, he, hat4⟩ := itemsAt_of_own X4.out.own
    cases he
    refine (HIM.out _ _ _ hat4).mono ?_
    rintro e w5 ⟨v5, rfl, ho5, hb5⟩
    obtain ⟨o5, c5, rfl⟩ := row_form ho5
    have B5 := hide (B4.out.trans (hb5.mono B4.out.size))
    have R05 := hide (R04.out.on hb5)
    have X5 := hide (X4.out.on hb5)
    have G5 := hide (RI.new ho5)
    have z5 := hb5.size
    clear hb5 ho5 R04 X4 hat4
    go_wp2_with fail
    obtain ⟨_, _, he, hatA⟩ := itemsAt_of_own (s := T) (by exact G5.out.own)
    cases he
    obtain ⟨_, _, he, hatB⟩ := itemsAt_of_own (s := T) (by exact R05.out.own)
    cases he
    refine (eqItemS_same _ m _ T _ _ hm20 _ hatA hatB).mono ?_
    rintro e w6 ⟨rfl, hb6⟩
    have B6 := hide (B5.out.trans (hb6.mono B5.out.size))
    have R06 := hide (R05.out.on hb6)
    have X6 := hide (X5.out.on hb6)
    have G6 := hide (G5.out.on hb6)
    clear hb6 hatA hatB R05 X5 G5
    go_wp2_with fail
    refine (toItemS_any oa n cap s hn20 _ (HAT.out.below B6.out)).mono ?_
    rintro e w7 ⟨g7, rfl, ho7, hb7⟩
    have B7 := hide (B6.out.trans (hb7.mono B6.out.size))
    have R07 := hide (R06.out.on hb7)
    have X7 := hide (X6.out.on hb7)
    have G7 := hide (G6.out.on hb7)
    have Y7 := hide ho7
    clear hb7 R06 X6 G6 ho7
    go_wp2_with fail
    obtain ⟨_, _, he, hatA⟩ := itemsAt_of_own X7.out.own
    cases he
    obtain ⟨_, _, he, hatB⟩ := itemsAt_of_own Y7.out
    cases he
    refine (eqItemS_same _ n _ s _ _ hn20 _ hatA hatB).mono ?_
    rintro e w8 ⟨rfl, hb8⟩
    have B8 := hide (B7.out.trans (hb8.mono B7.out.size))
    have R08 := hide (R07.out.on hb8)
    have X8 := hide (X7.out.on hb8)
    have G8 := hide (G7.out.on hb8)
    clear hb8 hatA hatB R07 X7 G7 Y7
    go_wp2_with fail
    refine (markItemS_e _ n _ 1 hn20 (by omega) _ _ X8.out.own).mono ?_
    rintro e w9 ⟨rfl, ho9, hg9⟩
    have hz8 := B8.out.size
    have B9 := hide (X8.out.below B8.out B8.out.size B3.out.size hg9)
    have R09 := hide (R08.out.other X8.out (.inl (Nat.le_refl _)) hg9)
    have G9 := hide (G8.out.other X8.out (.inr (Nat.le_refl _)) hg9)
    clear ho9 hg9 R08 X8 G8
    have gk : ¬ ((1 + 2 * n : Nat) : Int) < 0 := by omega
    go_wp2_with fail
    obtain ⟨_, _, he, hatA⟩ := itemsAt_of_own (s := T) (by exact G9.out.own)
    cases he
    obtain ⟨_, _, he, hatB⟩ := itemsAt_of_own (s := T) (by exact R09.out.own)
    cases he
    refine (eqItemS_same _ m _ T _ _ hm20 _ hatA hatB).mono ?_
    rintro e w10 ⟨rfl, hb10⟩
    have B10 := hide (B9.out.trans (hb10.mono B9.out.size))
    have R10 := hide (R09.out.on hb10)
    have G10 := hide (G9.out.on hb10)
    clear hb10 hatA hatB R09 G9 gk
    go_wp2_with fail
    refine (markItemS_e _ m _ 1 hm20 (by omega) _ _ G10.out.own).mono ?_
    rintro e w11 ⟨rfl, ho11, hg11⟩
    have B11 := hide (G10.out.below B10.out B10.out.size B4.out.size hg11)
    have R11 := hide (R10.out.other G10.out (.inl z4) hg11)
    have G11 := hide (G10.out.marked ho11)
    clear ho11 hg11 R10 G10
    have gk : ¬ ((1 + 2 * m : Nat) : Int) < 0 := by omega
    go_wp2_with fail
    obtain ⟨_, _, he, hatA⟩ := itemsAt_of_own G11.out.own
    cases he
    refine (heldItemS_own _ m _ 1 hm20 (by omega) _ hatA).mono ?_
    rintro e w12 ⟨rfl, hb12⟩
    have B12 := hide (B11.out.trans (hb12.mono B11.out.size))
    have R12 := hide (R11.out.on hb12)
    have G12 := hide (G11.out.on hb12)
    clear hb12 hatA R11 G11
    go_wp2_with fail
    refine (toItemS_any oa n cap s hn20 _ (HAT.out.below B12.out)).mono ?_
    rintro e w13 ⟨g13, rfl, ho13, hb13⟩
    have B13 := hide (B12.out.trans (hb13.mono B12.out.size))
    have R13 := hide (R12.out.on hb13)
    have G13 := hide (G12.out.on hb13)
    have Y13 := hide ho13
    clear hb13 R12 G12 ho13
    go_wp2_with fail
    obtain ⟨_, _, he, hatA⟩ := itemsAt_of_own Y13.out
    cases he
    refine (HIM.out _ _ _ hatA).mono ?_
    rintro e w14 ⟨v14, rfl, ho14, hb14⟩
    obtain ⟨o14, c14, rfl⟩ := row_form ho14
    have B14 := hide (B13.out.trans (hb14.mono B13.out.size))
    have R14 := hide (R13.out.on hb14)
    have G14 := hide (G13.out.on hb14)
    have Y14 := hide ho14
    clear hb14 R13 G13 ho14 Y13 hatA
    go_wp2_with fail
    obtain ⟨_, _, he, hatA⟩ := itemsAt_of_own (s := T) (by exact Y14.out)
    cases he
    obtain ⟨_, _, he, hatB⟩ := itemsAt_of_own (s := T) (by exact R14.out.own)
    cases he
    refine (eqItemS_same _ m _ T _ _ hm20 _ hatA hatB).mono ?_
    rintro e w15 ⟨rfl, hb15⟩
    have B15 := hide (B14.out.trans (hb15.mono B14.out.size))
    have G15 := hide (G14.out.on hb15)
    clear hb15 hatA hatB R14 G14 Y14
    go_wp2_with fail
    obtain ⟨_, _, he, hatA⟩ := itemsAt_of_own G15.out.own
    cases he
    refine (heldItemS_own _ m _ 1 hm20 (by omega) _ hatA).mono ?_
    rintro e w16 ⟨rfl, hb16⟩
    have B16 := hide (B15.out.trans (hb16.mono B15.out.size))
    clear hb16 hatA G15
    go_wp2_with fail
    go_ret
    exact ⟨rfl, B16.out⟩

end Go.Proofs.Ytijnejbfjpclhaa
