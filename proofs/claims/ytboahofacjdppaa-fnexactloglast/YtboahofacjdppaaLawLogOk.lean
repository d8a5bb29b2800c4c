/-
  The laws FnExactLogOk, FnExactLogLast: their walks.
-/
import Derived.Test.YtboahofacjdppaaLog3
namespace Go.Proofs.Ytboahofacjdppaa
open Go.RowKit P1 P9 K
set_option linter.unusedVariables false
set_option linter.unusedSimpArgs false

set_option maxHeartbeats 2000000 in
theorem FnExactLogOk_walk (s u : Int) (oa : Option Addr) (n cap : Nat) (es : List EntV) (w : World) (hat : EntsAt w oa n cap es) (hw : ∀ f ∈ es, EntWide f) (hs : (Lit.int .i64 s).wf = true) (hu : (Lit.int .i64 u).wf = true) :
    Calls Try.prog 3 #[.agg #[.int .i64 s, .int .i64 u, .slice oa n cap]] w fun e w' => e = .returned (.bool true) ∧ Below w.heap.size w w' := by
  have hb0 := (Below.refl w.heap.size w).alloc (Nat.le_refl _) (.cells #[.int .i64 s, .int .i64 u, .slice oa n cap] 24)
  have HSZ := hide (szLog_any s u oa n cap es _ (hat.below hb0) hw 1048576 (by omega) (by omega))
  have HAT := hide hat
  have HB0 := hide hb0
  clear hw hs hu
  by_cases c : szEs es 1048576 < 0
  · rw [if_pos c] at HSZ
    clear hat hb0
    go_enter Try.func3, Try.ntmps3
    go_wp2_with fail
    refine HSZ.out.mono ?_
    rintro e w1 ⟨rfl, hb1⟩
    go_wp2_with fail
    go_ret
    exact ⟨rfl, HB0.out.trans (hb1.mono (by simp))⟩
  · have g : decide (szEs es 1048576 < 0) = false := by simpa using c
    rw [if_neg c] at HSZ
    obtain ⟨-, hlen, hfine⟩ := szEs_fine (Int.le_refl _) (by omega) (szEs_ge c)
    have hn20 : n ≤ 1048576 := by have := hat.len; omega
    have HFI := hide hfine
    have HTO := hide (fun w hat => toLog_any s u oa n cap es hn20 w hat)
    clear hfine c hlen hat hb0
    go_enter Try.func3, Try.ntmps3
    go_wp2_with fail
    refine HSZ.out.mono ?_
    rintro e w1 ⟨rfl, hb1⟩
    have B1 := hide (HB0.out.trans (hb1.mono (by simp)))
    have L1 := (LV.new w s u (.slice oa n cap) 24).on hb1
    obtain ⟨p0, p1, p2⟩ := L1
    have L1 := hide (LV.mk p0 p1 p2)
    clear hb1
    go_wp2_with fail
    refine (HTO.out _ (HAT.out.below B1.out)).mono ?_
    rintro e w2 ⟨g2, rfl, hown2, hb2⟩
    have B2 := hide (B1.out.trans (hb2.mono B1.out.size))
    have L2 := hide (L1.out.on hb2)
    obtain ⟨_, _, he, hat2⟩ := entsAt_own hown2
    cases he
    have HA2 := hide hat2
    clear hb2 hown2 hat2 p0 p1 p2 L1
    go_wp2_with fail
    refine (specLogOk_any s u _ n _ es _ HA2.out HFI.out).mono ?_
    rintro e w3 ⟨rfl, hb3⟩
    have B3 := hide (B2.out.trans (hb3.mono B2.out.size))
    have L3 := hide (L2.out.on hb3)
    obtain ⟨p0, p1, p2⟩ := L3.out
    clear hb3 L2 HA2
    go_wp2_with fail
    refine (HTO.out _ (HAT.out.below B3.out)).mono ?_
    rintro e w4 ⟨g4, rfl, hown4, hb4⟩
    have B4 := hide (B3.out.trans (hb4.mono B3.out.size))
    have L4 := hide (L3.out.on hb4)
    have HO4 := hide hown4
    clear hb4 hown4 p0 p1 p2 L3
    go_wp2_with fail
    have hb5 := (Below.refl w4.heap.size w4).alloc (Nat.le_refl _) (.cells #[.int .i64 s, .int .i64 u, .slice (some ⟨g4, 0, none⟩) n n] 29)
    obtain ⟨_, _, he, hat5⟩ := entsAt_own (own_below HO4.out hb5)
    cases he
    have HA5 := hide hat5
    have HB5 := hide hb5
    clear hat5 hb5
    refine (implLogOk_any s u _ n _ es _ HA5.out HFI.out).mono ?_
    rintro e w6 ⟨rfl, hb6⟩
    have hb46 := HB5.out.trans (hb6.mono (by simp))
    have B6 := hide (B4.out.trans (hb46.mono B4.out.size))
    have L6 := hide (L4.out.on hb46)
    have X6 := hide ((LV.new w4 s u (.slice (some ⟨g4, 0, none⟩) n n) 29).on hb6)
    have HA6 := hide (HA5.out.below hb6)
    have hb4 := L4.out.lt
    clear hb6 hb46 HA5 HB5 L4 HO4
    go_wp2_with fail
    have k0 : ∀ w', LV w' w.heap.size s u (.slice oa n cap) ∧ LV w' w4.heap.size s u (.slice (some ⟨g4, 0, none⟩) n n) → w'.cell? ⟨w.heap.size, 0, none⟩ = some (.int .i64 s) := fun w' h => h.1.c0
    have k1 : ∀ w', LV w' w.heap.size s u (.slice oa n cap) ∧ LV w' w4.heap.size s u (.slice (some ⟨g4, 0, none⟩) n n) → w'.cell? ⟨w.heap.size, 1, none⟩ = some (.int .i64 u) := fun w' h => h.1.c1
    have k2 : ∀ w', LV w' w.heap.size s u (.slice oa n cap) ∧ LV w' w4.heap.size s u (.slice (some ⟨g4, 0, none⟩) n n) → w'.cell? ⟨w.heap.size, 2, none⟩ = some (.slice oa n cap) := fun w' h => h.1.c2
    have k3 : ∀ w', LV w' w.heap.size s u (.slice oa n cap) ∧ LV w' w4.heap.size s u (.slice (some ⟨g4, 0, none⟩) n n) → w'.cell? ⟨w4.heap.size, 0, none⟩ = some (.int .i64 s) := fun w' h => h.2.c0
    have k4 : ∀ w', LV w' w.heap.size s u (.slice oa n cap) ∧ LV w' w4.heap.size s u (.slice (some ⟨g4, 0, none⟩) n n) → w'.cell? ⟨w4.heap.size, 1, none⟩ = some (.int .i64 u) := fun w' h => h.2.c1
    have k5 : ∀ w', LV w' w.heap.size s u (.slice oa n cap) ∧ LV w' w4.heap.size s u (.slice (some ⟨g4, 0, none⟩) n n) → w'.cell? ⟨w4.heap.size, 2, none⟩ = some (.slice (some ⟨g4, 0, none⟩) n n) := fun w' h => h.2.c2
    go_region_held3 (fun w' => LV w' w.heap.size s u (.slice oa n cap) ∧ LV w' w4.heap.size s u (.slice (some ⟨g4, 0, none⟩) n n)) (first | exact ⟨L6.out.drew, X6.out.drew⟩ | exact ⟨L6.out.drew.on hb7, X6.out.drew.on hb7⟩ | exact ⟨(L6.out.drew.on hb7).on hb8, (X6.out.drew.on hb7).on hb8⟩)
      (first
        | (go_at_call 11; refine (HTO.out _ (HAT.out.below B6.out.drew)).mono ?_; rintro e w7 ⟨g7, rfl, hown7, hb7⟩; obtain ⟨oa7, cap7, he7, hat7⟩ := entsAt_own hown7; cases he7; have HAT7 := hide hat7; clear hown7 hat7)
        | (go_at_call 13; refine (eqLog_same s u _ n _ _ _ es hn20 _ ((HA6.out.below (Below.refl _ _).drew).below hb7) HAT7.out).mono ?_; rintro e w8 ⟨rfl, hb8⟩))
    have B8 : Below w.heap.size w w8 := (B6.out.drew.trans (hb7.mono (by simpa using B6.out.size))).trans (hb8.mono (Nat.le_trans (by simpa using B6.out.size) hb7.size))
    clear hb7 hb8 k0 k1 k2 k3 k4 k5
    go_wp2_with fail
    go_ret
    exact ⟨rfl, B8⟩

set_option maxHeartbeats 2000000 in
theorem FnExactLogLast_walk (s u : Int) (oa : Option Addr) (n cap : Nat) (es : List EntV) (w : World) (hat : EntsAt w oa n cap es) (hw : ∀ f ∈ es, EntWide f) (hs : (Lit.int .i64 s).wf = true) (hu : (Lit.int .i64 u).wf = true) :
    Calls Try.prog 4 #[.agg #[.int .i64 s, .int .i64 u, .slice oa n cap]] w fun e w' => e = .returned (.bool true) ∧ Below w.heap.size w w' := by
  have hb0 := (Below.refl w.heap.size w).alloc (Nat.le_refl _) (.cells #[.int .i64 s, .int .i64 u, .slice oa n cap] 24)
  have HSZ := hide (szLog_any s u oa n cap es _ (hat.below hb0) hw 1048576 (by omega) (by omega))
  have HAT := hide hat
  have HB0 := hide hb0
  clear hw hs hu
  by_cases c : szEs es 1048576 < 0
  · rw [if_pos c] at HSZ
    clear hat hb0
    go_enter Try.func4, Try.ntmps4
    go_wp2_with fail
    refine HSZ.out.mono ?_
    rintro e w1 ⟨rfl, hb1⟩
    go_wp2_with fail
    go_ret
    exact ⟨rfl, HB0.out.trans (hb1.mono (by simp))⟩
  · have g : decide (szEs es 1048576 < 0) = false := by simpa using c
    rw [if_neg c] at HSZ
    obtain ⟨-, hlen, hfine⟩ := szEs_fine (Int.le_refl _) (by omega) (szEs_ge c)
    have hn20 : n ≤ 1048576 := by have := hat.len; omega
    have HFI := hide hfine
    have HTO := hide (fun w hat => toLog_any s u oa n cap es hn20 w hat)
    clear hfine c hlen hat hb0
    go_enter Try.func4, Try.ntmps4
    go_wp2_with fail
    refine HSZ.out.mono ?_
    rintro e w1 ⟨rfl, hb1⟩
    have B1 := hide (HB0.out.trans (hb1.mono (by simp)))
    have L1 := (LV.new w s u (.slice oa n cap) 24).on hb1
    obtain ⟨p0, p1, p2⟩ := L1
    have L1 := hide (LV.mk p0 p1 p2)
    clear hb1
    go_wp2_with fail
    refine (HTO.out _ (HAT.out.below B1.out)).mono ?_
    rintro e w2 ⟨g2, rfl, hown2, hb2⟩
    have B2 := hide (B1.out.trans (hb2.mono B1.out.size))
    have L2 := hide (L1.out.on hb2)
    obtain ⟨_, _, he, hat2⟩ := entsAt_own hown2
    cases he
    have HA2 := hide hat2
    clear hb2 hown2 hat2 p0 p1 p2 L1
    go_wp2_with fail
    refine (specLogLast_any s u _ n _ es _ HA2.out).mono ?_
    rintro e w3 ⟨rfl, hb3⟩
    have B3 := hide (B2.out.trans (hb3.mono B2.out.size))
    have L3 := hide (L2.out.on hb3)
    obtain ⟨p0, p1, p2⟩ := L3.out
    clear hb3 L2 HA2
    go_wp2_with fail
    refine (HTO.out _ (HAT.out.below B3.out)).mono ?_
    rintro e w4 ⟨g4, rfl, hown4, hb4⟩
    have B4 := hide (B3.out.trans (hb4.mono B3.out.size))
    have L4 := hide (L3.out.on hb4)
    have HO4 := hide hown4
    clear hb4 hown4 p0 p1 p2 L3
    go_wp2_with fail
    have hb5 := (Below.refl w4.heap.size w4).alloc (Nat.le_refl _) (.cells #[.int .i64 s, .int .i64 u, .slice (some ⟨g4, 0, none⟩) n n] 29)
    obtain ⟨_, _, he, hat5⟩ := entsAt_own (own_below HO4.out hb5)
    cases he
    have HA5 := hide hat5
    have HB5 := hide hb5
    clear hat5 hb5
    refine (implLogLast_any s u _ n _ es _ HA5.out).mono ?_
    rintro e w6 ⟨rfl, hb6⟩
    have hb46 := HB5.out.trans (hb6.mono (by simp))
    have B6 := hide (B4.out.trans (hb46.mono B4.out.size))
    have L6 := hide (L4.out.on hb46)
    have X6 := hide ((LV.new w4 s u (.slice (some ⟨g4, 0, none⟩) n n) 29).on hb6)
    have HA6 := hide (HA5.out.below hb6)
    have hb4 := L4.out.lt
    clear hb6 hb46 HA5 HB5 L4 HO4
    go_wp2_with fail
    have k0 : ∀ w', LV w' w.heap.size s u (.slice oa n cap) ∧ LV w' w4.heap.size s u (.slice (some ⟨g4, 0, none⟩) n n) → w'.cell? ⟨w.heap.size, 0, none⟩ = some (.int .i64 s) := fun w' h => h.1.c0
    have k1 : ∀ w', LV w' w.heap.size s u (.slice oa n cap) ∧ LV w' w4.heap.size s u (.slice (some ⟨g4, 0, none⟩) n n) → w'.cell? ⟨w.heap.size, 1, none⟩ = some (.int .i64 u) := fun w' h => h.1.c1
    have k2 : ∀ w', LV w' w.heap.size s u (.slice oa n cap) ∧ LV w' w4.heap.size s u (.slice (some ⟨g4, 0, none⟩) n n) → w'.cell? ⟨w.heap.size, 2, none⟩ = some (.slice oa n cap) := fun w' h => h.1.c2
    have k3 : ∀ w', LV w' w.heap.size s u (.slice oa n cap) ∧ LV w' w4.heap.size s u (.slice (some ⟨g4, 0, none⟩) n n) → w'.cell? ⟨w4.heap.size, 0, none⟩ = some (.int .i64 s) := fun w' h => h.2.c0
    have k4 : ∀ w', LV w' w.heap.size s u (.slice oa n cap) ∧ LV w' w4.heap.size s u (.slice (some ⟨g4, 0, none⟩) n n) → w'.cell? ⟨w4.heap.size, 1, none⟩ = some (.int .i64 u) := fun w' h => h.2.c1
    have k5 : ∀ w', LV w' w.heap.size s u (.slice oa n cap) ∧ LV w' w4.heap.size s u (.slice (some ⟨g4, 0, none⟩) n n) → w'.cell? ⟨w4.heap.size, 2, none⟩ = some (.slice (some ⟨g4, 0, none⟩) n n) := fun w' h => h.2.c2
    go_region_held3 (fun w' => LV w' w.heap.size s u (.slice oa n cap) ∧ LV w' w4.heap.size s u (.slice (some ⟨g4, 0, none⟩) n n)) (first | exact ⟨L6.out.drew, X6.out.drew⟩ | exact ⟨L6.out.drew.on hb7, X6.out.drew.on hb7⟩ | exact ⟨(L6.out.drew.on hb7).on hb8, (X6.out.drew.on hb7).on hb8⟩)
      (first
        | (go_at_call 11; refine (HTO.out _ (HAT.out.below B6.out.drew)).mono ?_; rintro e w7 ⟨g7, rfl, hown7, hb7⟩; obtain ⟨oa7, cap7, he7, hat7⟩ := entsAt_own hown7; cases he7; have HAT7 := hide hat7; clear hown7 hat7)
        | (go_at_call 13; refine (eqLog_same s u _ n _ _ _ es hn20 _ ((HA6.out.below (Below.refl _ _).drew).below hb7) HAT7.out).mono ?_; rintro e w8 ⟨rfl, hb8⟩))
    have B8 : Below w.heap.size w w8 := (B6.out.drew.trans (hb7.mono (by simpa using B6.out.size))).trans (hb8.mono (Nat.le_trans (by simpa using B6.out.size) hb7.size))
    clear hb7 hb8 k0 k1 k2 k3 k4 k5
    go_wp2_with fail
    go_ret
    exact ⟨rfl, B8⟩

end Go.Proofs.Ytboahofacjdppaa
