/-
  The law FnExactJournalOk: its walk.
-/
import Derived.Test.YthbgklmnmoclhaaJour3
import Derived.Test.YthbgklmnmoclhaaWalk7e
namespace Go.Proofs.Ythbgklmnmoclhaa
open Go.RowKit P1 P3 P9 K
set_option linter.unusedVariables false
set_option linter.unusedSimpArgs false

set_option maxHeartbeats 4000000 in
theorem FnExactJournalOk_walk (jn jt jv s u : Int) (oa : Option Addr) (n cap : Nat) (es : List EntV) (w : World) (hat : EntsAt w oa n cap es) (hw : ∀ f ∈ es, EntWide f) :
    Calls Try.prog 3 #[.agg #[.int .i64 jn, .int .i64 jt, .int .i64 jv, .int .i64 s, .int .i64 u, .slice oa n cap]] w fun e w' => e = .returned (.bool true) ∧ Below w.heap.size w w' := by
  have hb0 := (Below.refl w.heap.size w).alloc (Nat.le_refl _) (.cells #[.int .i64 jn, .int .i64 jt, .int .i64 jv, .int .i64 s, .int .i64 u, .slice oa n cap] 26)
  have HSZ := hide (szJournal_any jn jt jv s u oa n cap es _ (hat.below hb0) hw 1048576 (by omega) (by omega))
  have HAT := hide hat
  have HB0 := hide hb0
  clear hw
  by_cases c : szEs es 1048576 < 0
  · rw [if_pos c] at HSZ
    clear hat hb0
    go_enter Try.func3, Try.ntmps3
    go_wp2_with fail
    refine HSZ.out.mono ?_
    rintro e w1 ⟨rfl, hb1⟩
    go_wp2_with fail
    go_ret
    exact ⟨rfl, HB0.out.trans (hb1.mono (by simp))⟩
  · have g : decide (szEs es 1048576 < 0) = false := by simpa using c
    rw [if_neg c] at HSZ
    obtain ⟨-, hlen, hfine⟩ := szEs_fine (Int.le_refl _) (by omega) (szEs_ge c)
    have hn20 : n ≤ 1048576 := by have := hat.len; omega
    have HFI := hide hfine
    have HTO := hide (fun w hat => toJournal_any jn jt jv s u oa n cap es hn20 w hat)
    clear hfine c hlen hat hb0
    go_enter Try.func3, Try.ntmps3
    go_wp2_with fail
    refine HSZ.out.mono ?_
    rintro e w1 ⟨rfl, hb1⟩
    have B1 := hide (HB0.out.trans (hb1.mono (by simp)))
    have L1 := hide ((JV.new w jn jt jv s u (.slice oa n cap) 26).on hb1)
    obtain ⟨p0, p1, p2, p3, p4, p5⟩ := L1.out
    clear hb1
    go_wp2_with fail
    refine (HTO.out _ (HAT.out.below B1.out)).mono ?_
    rintro e w2 ⟨g2, rfl, hown2, hb2⟩
    have B2 := hide (B1.out.trans (hb2.mono B1.out.size))
    have L2 := hide (L1.out.on hb2)
    obtain ⟨_, _, he, hat2⟩ := entsAt_own hown2
    cases he
    have HA2 := hide hat2
    clear hb2 hown2 hat2 p0 p1 p2 p3 p4 p5 L1
    go_wp2_with fail
    refine (specJournalOk_any ⟨jn, jt, jv, s, u, es⟩ _ n _ _ HA2.out HFI.out).mono ?_
    rintro e w3 ⟨rfl, hb3⟩
    have B3 := hide (B2.out.trans (hb3.mono B2.out.size))
    have L3 := hide (L2.out.on hb3)
    obtain ⟨p0, p1, p2, p3, p4, p5⟩ := L3.out
    clear hb3 L2 HA2
    go_wp2_with fail
    refine (HTO.out _ (HAT.out.below B3.out)).mono ?_
    rintro e w4 ⟨g4, rfl, hown4, hb4⟩
    have B4 := hide (B3.out.trans (hb4.mono B3.out.size))
    have L4 := hide (L3.out.on hb4)
    have HO4 := hide hown4
    clear hb4 hown4 p0 p1 p2 p3 p4 p5 L3
    go_wp2_with fail
    have hb5 := (Below.refl w4.heap.size w4).alloc (Nat.le_refl _) (.cells #[.int .i64 jn, .int .i64 jt, .int .i64 jv, .int .i64 s, .int .i64 u, .slice (some ⟨g4, 0, none⟩) n n] 33)
    obtain ⟨_, _, he, hat5⟩ := entsAt_own (own_below HO4.out hb5)
    cases he
    have HA5 := hide hat5
    have HB5 := hide hb5
    clear hat5 hb5
    refine (implJournalOk_any ⟨jn, jt, jv, s, u, es⟩ _ n _ _ HA5.out HFI.out).mono ?_
    rintro e w6 ⟨rfl, hb6⟩
    have hb46 := HB5.out.trans (hb6.mono (by simp))
    have B6 := hide (B4.out.trans (hb46.mono B4.out.size))
    have L6 := hide (L4.out.on hb46)
    have X6 := hide ((JV.new w4 jn jt jv s u (.slice (some ⟨g4, 0, none⟩) n n) 33).on hb6)
    have HA6 := hide (HA5.out.below hb6)
    have hb4 := L4.out.lt
    clear hb6 hb46 HA5 HB5 L4 HO4
    go_wp2_with fail
    have k0 : ∀ w', JV w' w.heap.size jn jt jv s u (.slice oa n cap) ∧ JV w' w4.heap.size jn jt jv s u (.slice (some ⟨g4, 0, none⟩) n n) → w'.cell? ⟨w.heap.size, 0, none⟩ = some (.int .i64 jn) := fun w' h => h.1.c0
    have m0 : ∀ w', JV w' w.heap.size jn jt jv s u (.slice oa n cap) ∧ JV w' w4.heap.size jn jt jv s u (.slice (some ⟨g4, 0, none⟩) n n) → w'.cell? ⟨w4.heap.size, 0, none⟩ = some (.int .i64 jn) := fun w' h => h.2.c0
    have k1 : ∀ w', JV w' w.heap.size jn jt jv s u (.slice oa n cap) ∧ JV w' w4.heap.size jn jt jv s u (.slice (some ⟨g4, 0, none⟩) n n) → w'.cell? ⟨w.heap.size, 1, none⟩ = some (.int .i64 jt) := fun w' h => h.1.c1
    have m1 : ∀ w', JV w' w.heap.size jn jt jv s u (.slice oa n cap) ∧ JV w' w4.heap.size jn jt jv s u (.slice (some ⟨g4, 0, none⟩) n n) → w'.cell? ⟨w4.heap.size, 1, none⟩ = some (.int .i64 jt) := fun w' h => h.2.c1
    have k2 : ∀ w', JV w' w.heap.size jn jt jv s u (.slice oa n cap) ∧ JV w' w4.heap.size jn jt jv s u (.slice (some ⟨g4, 0, none⟩) n n) → w'.cell? ⟨w.heap.size, 2, none⟩ = some (.int .i64 jv) := fun w' h => h.1.c2
    have m2 : ∀ w', JV w' w.heap.size jn jt jv s u (.slice oa n cap) ∧ JV w' w4.heap.size jn jt jv s u (.slice (some ⟨g4, 0, none⟩) n n) → w'.cell? ⟨w4.heap.size, 2, none⟩ = some (.int .i64 jv) := fun w' h => h.2.c2
    have k3 : ∀ w', JV w' w.heap.size jn jt jv s u (.slice oa n cap) ∧ JV w' w4.heap.size jn jt jv s u (.slice (some ⟨g4, 0, none⟩) n n) → w'.cell? ⟨w.heap.size, 3, none⟩ = some (.int .i64 s) := fun w' h => h.1.c3
    have m3 : ∀ w', JV w' w.heap.size jn jt jv s u (.slice oa n cap) ∧ JV w' w4.heap.size jn jt jv s u (.slice (some ⟨g4, 0, none⟩) n n) → w'.cell? ⟨w4.heap.size, 3, none⟩ = some (.int .i64 s) := fun w' h => h.2.c3
    have k4 : ∀ w', JV w' w.heap.size jn jt jv s u (.slice oa n cap) ∧ JV w' w4.heap.size jn jt jv s u (.slice (some ⟨g4, 0, none⟩) n n) → w'.cell? ⟨w.heap.size, 4, none⟩ = some (.int .i64 u) := fun w' h => h.1.c4
    have m4 : ∀ w', JV w' w.heap.size jn jt jv s u (.slice oa n cap) ∧ JV w' w4.heap.size jn jt jv s u (.slice (some ⟨g4, 0, none⟩) n n) → w'.cell? ⟨w4.heap.size, 4, none⟩ = some (.int .i64 u) := fun w' h => h.2.c4
    have k5 : ∀ w', JV w' w.heap.size jn jt jv s u (.slice oa n cap) ∧ JV w' w4.heap.size jn jt jv s u (.slice (some ⟨g4, 0, none⟩) n n) → w'.cell? ⟨w.heap.size, 5, none⟩ = some (.slice oa n cap) := fun w' h => h.1.c5
    have m5 : ∀ w', JV w' w.heap.size jn jt jv s u (.slice oa n cap) ∧ JV w' w4.heap.size jn jt jv s u (.slice (some ⟨g4, 0, none⟩) n n) → w'.cell? ⟨w4.heap.size, 5, none⟩ = some (.slice (some ⟨g4, 0, none⟩) n n) := fun w' h => h.2.c5
    go_region_held3 (fun w' => JV w' w.heap.size jn jt jv s u (.slice oa n cap) ∧ JV w' w4.heap.size jn jt jv s u (.slice (some ⟨g4, 0, none⟩) n n)) (first | exact ⟨L6.out.drew, X6.out.drew⟩ | exact ⟨L6.out.drew.on hb7, X6.out.drew.on hb7⟩ | exact ⟨(L6.out.drew.on hb7).on hb8, (X6.out.drew.on hb7).on hb8⟩)
      (first
        | (go_at_call 6; refine (HTO.out _ (HAT.out.below B6.out.drew)).mono ?_; rintro e w7 ⟨g7, rfl, hown7, hb7⟩; obtain ⟨oa7, cap7, he7, hat7⟩ := entsAt_own hown7; cases he7; have HAT7 := hide hat7; clear hown7 hat7)
        | (go_at_call 8; refine (eqJournal_same jn jt jv s u _ n _ _ _ es hn20 _ ((HA6.out.below (Below.refl _ _).drew).below hb7) HAT7.out).mono ?_; rintro e w8 ⟨rfl, hb8⟩))
    have B8 : Below w.heap.size w w8 := (B6.out.drew.trans (hb7.mono (by simpa using B6.out.size))).trans (hb8.mono (Nat.le_trans (by simpa using B6.out.size) hb7.size))
    clear hb7 hb8 k0 m0 k1 m1 k2 m2 k3 m3 k4 m4 k5 m5
    go_wp2_with fail
    go_ret
    exact ⟨rfl, B8⟩

end Go.Proofs.Ythbgklmnmoclhaa
