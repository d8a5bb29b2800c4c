/-
  The law FnExactLogBehind: its walk (made by wip/tools/gen6h.py).
-/
import Derived.Test.YtboahofacjdppaaLog4
namespace Go.Proofs.Ytboahofacjdppaa
open Go.RowKit P1 P9 K
set_option linter.unusedVariables false
set_option linter.unusedSimpArgs false

theorem bhL_len (s u : Int) (es : List EntV) (b t : Int) : (bhL s u es b t).length ≤ es.length := by
  unfold bhL
  split
  · rw [List.length_drop]; omega
  · simp

set_option maxHeartbeats 8000000 in
theorem FnExactLogBehind_walk (s u : Int) (oa : Option Addr) (n cap : Nat) (es : List EntV) (b t : Int) (w : World) (hat : EntsAt w oa n cap es) (hw : ∀ f ∈ es, EntWide f) (hs : (Lit.int .i64 s).wf = true) (hu : (Lit.int .i64 u).wf = true) (hb' : (Lit.int .i64 b).wf = true) (ht' : (Lit.int .i64 t).wf = true) :
    Calls Try.prog 7 #[.agg #[.int .i64 s, .int .i64 u, .slice oa n cap], .int .i64 b, .int .i64 t] w fun e w' => e = .returned (.bool true) ∧ Below w.heap.size w w' := by
  have hb0 := (Below.refl w.heap.size w).alloc (Nat.le_refl _) (.cells #[.int .i64 s, .int .i64 u, .slice oa n cap] 24)
  have HSZ := hide (szLog_any s u oa n cap es _ (hat.below hb0) hw 1048576 (by omega) (by omega))
  have HAT := hide hat
  have HB0 := hide hb0
  clear hw hs hu hb' ht'
  by_cases c : szEs es 1048576 < 0
  · rw [if_pos c] at HSZ
    clear hat hb0
    go_enter Try.func7, Try.ntmps7
    go_wp2_with fail
    refine HSZ.out.mono ?_
    rintro e w1 ⟨rfl, hb1⟩
    go_wp2_with fail
    go_ret
    exact ⟨rfl, HB0.out.trans (hb1.mono (by simp))⟩
  · have g : decide (szEs es 1048576 < 0) = false := by simpa using c
    rw [if_neg c] at HSZ
    obtain ⟨-, hlen, hfine⟩ := szEs_fine (Int.le_refl _) (by omega) (szEs_ge c)
    have hn20 : n ≤ 1048576 := by have := hat.len; omega
    have HFI := hide hfine
    have HTO := hide (fun w hat => toLog_any s u oa n cap es hn20 w hat)
    obtain ⟨N, hN⟩ : ∃ N, (bhL s u es b t).length = N := ⟨_, rfl⟩
    have hN20 : N ≤ 1048576 := by have := bhL_len s u es b t; omega
    obtain ⟨RS, hRS⟩ : ∃ RS, bhL s u es b t = RS := ⟨_, rfl⟩
    rw [hRS] at hN
    have HRS := hide hRS
    have HN := hide hN
    have HSP := hide (fun oa cap w hat => specLogBehind_any s u oa n cap es b t w hat hfine)
    have HIM := hide (fun oa cap w hat => implLogBehind_any s u oa n cap es b t w hat hfine)
    unfold LogRes at HSP HIM
    rw [HRS.out, HN.out] at HSP HIM
    clear hfine c hlen hat hb0 hN hRS
    go_enter Try.func7, Try.ntmps7
    go_wp2_with fail
    refine HSZ.out.mono ?_
    rintro e w1 ⟨rfl, hb1⟩
    have B1 := hide (HB0.out.trans (hb1.mono (by simp)))
    have A1 := hide ((KA.new w s u (.slice oa n cap)).on hb1)
    obtain ⟨p0, p1, p2⟩ := A1.out.lv
    clear hb1
    go_wp2_with fail
    refine (HTO.out _ (HAT.out.below B1.out)).mono ?_
    rintro e w2 ⟨g2, rfl, ho2, hb2⟩
    have B2 := hide (B1.out.trans (hb2.mono B1.out.size))
    have A2 := hide (A1.out.on hb2)
    obtain ⟨_, _, he, hat2⟩ := entsAt_own ho2
    cases he
    have HA2 := hide hat2
    clear hb2 ho2 hat2 p0 p1 p2 A1
    go_wp2_with fail
    refine (HSP.out _ _ _ HA2.out).mono ?_
    rintro e w3 ⟨vW, rfl, hoW, hb3⟩
    obtain ⟨oW, cW, rfl⟩ := own_form3 hoW
    have B3 := hide (B2.out.trans (hb3.mono B2.out.size))
    have A3 := hide (A2.out.on hb3)
    have rW := fun g hg => (hoW.lt g hg).2
    have HOW := hide hoW
    obtain ⟨p0, p1, p2⟩ := A3.out.lv
    have l3 := A3.out.lt
    clear hb3 hoW A2 HA2
    go_wp2_with fail
    have hal := (Below.refl w3.heap.size w3).alloc (Nat.le_refl _) (.cells #[.int .i64 b, .int .i64 t, .slice oW N cW] 29)
    have B4 := hide (B3.out.trans (hal.mono B3.out.size))
    have A4 := hide (A3.out.on hal)
    have W4 := hide (KL.new (s := b) (u := t) HOW.out)
    clear p0 p1 p2 A3 hal HOW
    refine (HTO.out _ (HAT.out.below B4.out)).mono ?_
    rintro e w5 ⟨gX, rfl, hoX, hb5⟩
    have z4 : (w3.alloc (.cells #[.int .i64 b, .int .i64 t, .slice oW N cW] 29)).heap.size = w3.heap.size + 1 := by simp
    rw [z4] at hoX
    have B5 := hide (B4.out.trans (hb5.mono B4.out.size))
    have A5 := hide (A4.out.on hb5)
    have W5 := hide (W4.out.on hb5)
    have l35 : w3.heap.size ≤ w5.heap.size := by have := hb5.size; rw [z4] at this; omega
    have rX := fun g hg => (hoX.lt g hg).2
    have HOX := hide hoX
    have l5 := A5.out.lt
    clear hb5 hoX A4 W4 z4
    go_wp2_with fail
    have hal := (Below.refl w5.heap.size w5).alloc (Nat.le_refl _) (.cells #[.int .i64 s, .int .i64 u, .slice (some ⟨gX, 0, none⟩) n n] 29)
    have B6 := hide (B5.out.trans (hal.mono B5.out.size))
    have A6 := hide (A5.out.on hal)
    have W6 := hide (W5.out.on hal)
    have X6 := hide (KL.new (s := s) (u := u) HOX.out)
    obtain ⟨_, _, he, hatX⟩ := entsAt_own X6.out.own
    cases he
    have HAX := hide hatX
    clear A5 W5 HOX hal hatX
    refine (HIM.out _ _ _ HAX.out).mono ?_
    rintro e w7 ⟨vG, rfl, hoG, hb7⟩
    obtain ⟨oG, cG, rfl⟩ := own_form3 hoG
    have z6 : (w5.alloc (.cells #[.int .i64 s, .int .i64 u, .slice (some ⟨gX, 0, none⟩) n n] 29)).heap.size = w5.heap.size + 1 := by simp
    rw [z6] at hoG
    have B7 := hide (B6.out.trans (hb7.mono B6.out.size))
    have A7 := hide (A6.out.on hb7)
    have W7 := hide (W6.out.on hb7)
    have X7 := hide (X6.out.on hb7)
    have HOG := hide hoG
    clear hb7 hoG A6 W6 X6 HAX z6
    obtain ⟨v0, v1, v2⟩ := W7.out.lv
    have lv7 := W7.out.lt
    go_wp2_with fail
    have hal := (Below.refl w7.heap.size w7).alloc (Nat.le_refl _) (.cells #[.int .i64 b, .int .i64 t, .slice oG N cG] 29)
    have B8 := hide (B7.out.trans (hal.mono B7.out.size))
    have A8 := hide (A7.out.on hal)
    have W8 := hide (W7.out.on hal)
    have X8 := hide (X7.out.on hal)
    have G8 := hide (KL.new (s := b) (u := t) HOG.out)
    clear A7 W7 X7 HOG hal v0 v1 v2 lv7
    generalize hw8 : w7.alloc (Obj.cells #[Value.int IntKind.i64 b, Value.int IntKind.i64 t, Value.slice oG N cG] 29) = w8 at B8 A8 W8 X8 G8 ⊢
    clear hw8
    obtain ⟨_, _, he, hatG⟩ := entsAt_own G8.out.own
    cases he
    obtain ⟨_, _, he, hatW⟩ := entsAt_own W8.out.own
    cases he
    have HAG := hide hatG
    have HAW := hide hatW
    clear hatG hatW
    clear l3 l5
    refine (eqLog_same b t _ N _ _ _ RS hN20 _ HAG.out HAW.out).mono ?_
    rintro e w9 ⟨rfl, hb9⟩
    have B9 := hide (B8.out.trans (hb9.mono B8.out.size))
    have A9 := hide (A8.out.on hb9)
    have W9 := hide (W8.out.on hb9)
    have X9 := hide (X8.out.on hb9)
    have G9 := hide (G8.out.on hb9)
    clear hb9 A8 W8 X8 G8
    clear HAG HAW
    obtain ⟨_, _, he, hatX⟩ := entsAt_own X9.out.own
    cases he
    have HAX := hide hatX
    clear hatX
    go_wp2_with fail
    have k0 : ∀ w', LV w' w.heap.size s u (.slice oa n cap) ∧ LV w' w5.heap.size s u (.slice (some ⟨gX, 0, none⟩) n n) → w'.cell? ⟨w.heap.size, 0, none⟩ = some (.int .i64 s) := fun w' h => h.1.c0
    have k1 : ∀ w', LV w' w.heap.size s u (.slice oa n cap) ∧ LV w' w5.heap.size s u (.slice (some ⟨gX, 0, none⟩) n n) → w'.cell? ⟨w.heap.size, 1, none⟩ = some (.int .i64 u) := fun w' h => h.1.c1
    have k2 : ∀ w', LV w' w.heap.size s u (.slice oa n cap) ∧ LV w' w5.heap.size s u (.slice (some ⟨gX, 0, none⟩) n n) → w'.cell? ⟨w.heap.size, 2, none⟩ = some (.slice oa n cap) := fun w' h => h.1.c2
    have k3 : ∀ w', LV w' w.heap.size s u (.slice oa n cap) ∧ LV w' w5.heap.size s u (.slice (some ⟨gX, 0, none⟩) n n) → w'.cell? ⟨w5.heap.size, 0, none⟩ = some (.int .i64 s) := fun w' h => h.2.c0
    have k4 : ∀ w', LV w' w.heap.size s u (.slice oa n cap) ∧ LV w' w5.heap.size s u (.slice (some ⟨gX, 0, none⟩) n n) → w'.cell? ⟨w5.heap.size, 1, none⟩ = some (.int .i64 u) := fun w' h => h.2.c1
    have k5 : ∀ w', LV w' w.heap.size s u (.slice oa n cap) ∧ LV w' w5.heap.size s u (.slice (some ⟨gX, 0, none⟩) n n) → w'.cell? ⟨w5.heap.size, 2, none⟩ = some (.slice (some ⟨gX, 0, none⟩) n n) := fun w' h => h.2.c2
    go_region_held3 (fun w' => LV w' w.heap.size s u (.slice oa n cap) ∧ LV w' w5.heap.size s u (.slice (some ⟨gX, 0, none⟩) n n)) (first | exact ⟨A9.out.lv.drew, X9.out.lv.drew⟩ | exact ⟨A9.out.lv.drew.on hbP, X9.out.lv.drew.on hbP⟩ | exact ⟨(A9.out.lv.drew.on hbP).on hbQ, (X9.out.lv.drew.on hbP).on hbQ⟩)
      (first
        | (go_at_call 11; refine (HTO.out _ (HAT.out.below B9.out.drew)).mono ?_; rintro e wP ⟨gP, rfl, hoP, hbP⟩; obtain ⟨oP, cP, heP, hatP⟩ := entsAt_own hoP; cases heP; have HATP := hide hatP; clear hoP hatP)
        | (go_at_call 13; refine (eqLog_same s u _ n _ _ _ es hn20 _ ((HAX.out.below (Below.refl _ _).drew).below hbP) HATP.out).mono ?_; rintro e w10 ⟨rfl, hbQ⟩))
    have hb10 : Below w9.heap.size w9 w10 := ((Below.refl _ _).drew.trans (hbP.mono (by simp))).trans (hbQ.mono (by have := hbP.size; simpa using this))
    clear hbP hbQ k0 k1 k2 k3 k4 k5 HATP
    have B10 := hide (B9.out.trans (hb10.mono B9.out.size))
    have A10 := hide (A9.out.on hb10)
    have W10 := hide (W9.out.on hb10)
    have X10 := hide (X9.out.on hb10)
    have G10 := hide (G9.out.on hb10)
    clear hb10 A9 W9 X9 G9 HAX
    have e1 : ((1 : Nat) : Int) = 1 := rfl
    have HMX := hide (fun w ho => markLog_any s u (.slice (some ⟨gX, 0, none⟩) n n) n (w3.heap.size + 1) 1 hn20 (by omega) w es ho)
    have HMG := hide (fun w ho => markLog_any b t (.slice oG N cG) N (w5.heap.size + 1) 1 hN20 (by omega) w RS ho)
    have HHG := hide (fun oa cap w hat => heldLog_any b t oa N cap 1 hN20 (by omega) w hat)
    rw [e1] at HMX HMG HHG
    clear e1
    obtain ⟨x0, x1, x2⟩ := X10.out.lv
    go_wp2_with fail
    refine (HMX.out _ X10.out.own).mono ?_
    rintro e w11 ⟨rfl, ho11, hg11⟩
    have hXG : ∀ g, (Value.slice oG N cG).ownBlock = some g → (Value.slice (some ⟨gX, 0, none⟩) n n).ownBlock ≠ some g := fun g hg h => by
      have h1 := (G10.out.own.lt g hg).1
      have h2 := rX g h
      omega
    have hXW : ∀ g, (Value.slice oW N cW).ownBlock = some g → (Value.slice (some ⟨gX, 0, none⟩) n n).ownBlock ≠ some g := fun g hg h => by
      have h1 := rW g hg
      have h2 := (X10.out.own.lt g h).1
      omega
    have s3 := B3.out.size
    have s5 := B5.out.size
    have B11 := hide (below_row B10.out B10.out.size (by omega) X10.out.own hg11)
    have A11 := hide (A10.out.kept X10.out.own hg11)
    have W11 := hide (W10.out.kept X10.out.own hg11 hXW)
    have G11 := hide (G10.out.kept X10.out.own hg11 hXG)
    clear ho11 hg11 A10 W10 G10 X10 hXG hXW x0 x1 x2
    have q1 : ¬ (((1 + 3 * n : Nat) : Int) < 0) := by omega
    obtain ⟨_, _, he, hatG⟩ := entsAt_own G11.out.own
    cases he
    obtain ⟨_, _, he, hatW⟩ := entsAt_own W11.out.own
    cases he
    have HAG := hide hatG
    have HAW := hide hatW
    clear hatG hatW
    obtain ⟨g0, g1, g2⟩ := G11.out.lv
    obtain ⟨w0, w1, w2⟩ := W11.out.lv
    go_wp2_with fail
    refine (eqLog_same b t _ N _ _ _ RS hN20 _ HAG.out HAW.out).mono ?_
    rintro e w12 ⟨rfl, hb12⟩
    have B12 := hide (B11.out.trans (hb12.mono B11.out.size))
    have A12 := hide (A11.out.on hb12)
    have W12 := hide (W11.out.on hb12)
    have G12 := hide (G11.out.on hb12)
    clear hb12 A11 W11 G11
    clear g0 g1 g2 w0 w1 w2 HAG HAW q1
    obtain ⟨g0, g1, g2⟩ := G12.out.lv
    go_wp2_with fail
    refine (HMG.out _ G12.out.own).mono ?_
    rintro e w13 ⟨rfl, ho13, hg13⟩
    have hGW : ∀ g, (Value.slice oW N cW).ownBlock = some g → (Value.slice oG N cG).ownBlock ≠ some g := fun g hg h => by
      have h1 := rW g hg
      have h2 := (G12.out.own.lt g h).1
      have h3 := l35
      omega
    have B13 := hide (below_row B12.out B12.out.size (by omega) G12.out.own hg13)
    have A13 := hide (A12.out.kept G12.out.own hg13)
    have W13 := hide (W12.out.kept G12.out.own hg13 hGW)
    have G13 := hide (G12.out.marked ho13 hg13)
    clear ho13 hg13 A12 W12 G12 hGW g0 g1 g2
    obtain ⟨_, _, he, hatG⟩ := entsAt_own G13.out.own
    cases he
    have HAG := hide hatG
    clear hatG
    obtain ⟨g0, g1, g2⟩ := G13.out.lv
    go_wp2_with fail
    refine (HHG.out _ _ _ HAG.out).mono ?_
    rintro e w14 ⟨rfl, hb14⟩
    have B14 := hide (B13.out.trans (hb14.mono B13.out.size))
    have A14 := hide (A13.out.on hb14)
    have W14 := hide (W13.out.on hb14)
    have G14 := hide (G13.out.on hb14)
    clear hb14 A13 W13 G13
    clear g0 g1 g2 HAG
    have q2 : ¬ (((1 + 3 * N : Nat) : Int) < 0) := by omega
    obtain ⟨a0, a1, a2⟩ := A14.out.lv
    go_wp2_with fail
    refine (HTO.out _ (HAT.out.below B14.out)).mono ?_
    rintro e w15 ⟨g15, rfl, ho15, hb15⟩
    have B15 := hide (B14.out.trans (hb15.mono B14.out.size))
    have A15 := hide (A14.out.on hb15)
    have W15 := hide (W14.out.on hb15)
    have G15 := hide (G14.out.on hb15)
    obtain ⟨_, _, he, hat15⟩ := entsAt_own ho15
    cases he
    have HA15 := hide hat15
    clear ho15 hat15
    clear hb15 A14 W14 G14
    clear a0 a1 a2
    go_wp2_with fail
    refine (HIM.out _ _ _ HA15.out).mono ?_
    rintro e w16 ⟨vH, rfl, hoH, hb16⟩
    have B16 := hide (B15.out.trans (hb16.mono B15.out.size))
    have W16 := hide (W15.out.on hb16)
    have G16 := hide (G15.out.on hb16)
    obtain ⟨oH, cH, rfl⟩ := own_form3 hoH
    have HOH := hide hoH
    clear hoH
    clear hb16 W15 G15
    clear HA15
    obtain ⟨v0, v1, v2⟩ := W16.out.lv
    have lv7 := W16.out.lt
    go_wp2_with fail
    have hal := (Below.refl w16.heap.size w16).alloc (Nat.le_refl _) (.cells #[.int .i64 b, .int .i64 t, .slice oH N cH] 29)
    have B17 := hide (B16.out.trans (hal.mono B16.out.size))
    have W17 := hide (W16.out.on hal)
    have G17 := hide (G16.out.on hal)
    have H17 := hide (KL.new (s := b) (u := t) HOH.out)
    clear W16 G16 HOH hal v0 v1 v2 lv7
    generalize hw17 : w16.alloc (Obj.cells #[Value.int IntKind.i64 b, Value.int IntKind.i64 t, Value.slice oH N cH] 29) = w17 at B17 W17 G17 H17 ⊢
    clear hw17
    obtain ⟨_, _, he, hatH⟩ := entsAt_own H17.out.own
    cases he
    obtain ⟨_, _, he, hatW⟩ := entsAt_own W17.out.own
    cases he
    have HAH := hide hatH
    have HAW := hide hatW
    clear hatH hatW
    refine (eqLog_same b t _ N _ _ _ RS hN20 _ HAH.out HAW.out).mono ?_
    rintro e w18 ⟨rfl, hb18⟩
    have B18 := hide (B17.out.trans (hb18.mono B17.out.size))
    have G18 := hide (G17.out.on hb18)
    clear hb18 G17
    clear HAH HAW W17 H17
    obtain ⟨_, _, he, hatG⟩ := entsAt_own G18.out.own
    cases he
    have HAG := hide hatG
    clear hatG
    obtain ⟨g0, g1, g2⟩ := G18.out.lv
    go_wp2_with fail
    refine (HHG.out _ _ _ HAG.out).mono ?_
    rintro e w19 ⟨rfl, hb19⟩
    have B19 := hide (B18.out.trans (hb19.mono B18.out.size))
    clear hb19 
    go_wp2_with fail
    go_ret
    exact ⟨rfl, B19.out⟩

end Go.Proofs.Ytboahofacjdppaa
