/-
  The law FnExactAllKept: its walk.
-/
import Derived.Test.YtdbhcaieepgmiaaWalk3g
import Derived.Test.YtdbhcaieepgmiaaWalk3e
namespace Go.Proofs.Ytdbhcaieepgmiaa
open Go.RowKit P5 K
set_option linter.unusedVariables false
set_option linter.unusedSimpArgs false

set_option maxHeartbeats 2000000 in
theorem FnExactAllKept_walk (oa : Option Addr) (n cap : Nat) (fs : List FileV) (w : World) (hat : FilesAt w oa n cap fs) (hw : ∀ f ∈ fs, Wide f) :
    Calls Try.prog 5 #[.agg #[.slice oa n cap]] w fun e w' => e = .returned (.bool true) ∧ Below w.heap.size w w' := by
  have hb0 := (Below.refl w.heap.size w).alloc (Nat.le_refl _) (.cells #[.slice oa n cap] 51)
  have HAT := hide hat
  have HW := hide hw
  have HB0 := hide hb0
  clear hat hw hb0
  by_cases c : szFs fs 1048576 < 0
  · have g : decide (szFs fs 1048576 < 0) = true := by simpa using c
    go_enter Try.func5, Try.ntmps5
    go_wp2_with fail
    refine (szDisk_any oa n cap fs 1048576 (by omega) (by omega) _ (HAT.out.below HB0.out) HW.out).mono ?_
    rintro e w1 ⟨rfl, hb1⟩
    go_wp2_with fail
    go_ret
    exact ⟨rfl, HB0.out.trans (hb1.mono (by simp))⟩
  · have g : decide (szFs fs 1048576 < 0) = false := by simpa using c
    obtain ⟨hlen, hfine⟩ := fine_of_sz (Int.le_refl _) (by omega) HW.out
    have hn20 : n ≤ 1048576 := by have := HAT.out.len; omega
    have HFI := hide hfine
    clear hfine c hlen
    go_enter Try.func5, Try.ntmps5
    go_wp2_with fail
    refine (szDisk_any oa n cap fs 1048576 (by omega) (by omega) _ (HAT.out.below HB0.out) HW.out).mono ?_
    rintro e w1 ⟨rfl, hb1⟩
    have B1 := hide (HB0.out.trans (hb1.mono (by simp)))
    have s1 : w.heap.size < w1.heap.size := by have := hb1.size; simp at this; omega
    have c1 : w1.cell? ⟨w.heap.size, 0, none⟩ = some (.slice oa n cap) := (hb1.cell (by simp)).trans (by simp)
    clear hb1
    go_wp2_with fail
    refine (toDisk_any oa n cap fs hn20 _ (HAT.out.below B1.out)).mono ?_
    rintro e w2 ⟨g2, rfl, hown2, hb2⟩
    have B2 := hide (B1.out.trans (hb2.mono (by omega)))
    have s2 : w.heap.size < w2.heap.size := by have := hb2.size; omega
    have c2 := (hb2.cell (p := ⟨w.heap.size, 0, none⟩) s1).trans c1
    have HO2 := hide hown2
    clear hb2 hown2
    go_wp2_with fail
    obtain ⟨oa', cap', he, hat2⟩ := filesAt_of_own HO2.out
    cases he
    refine (specAllKept_any _ n _ fs _ hat2 HFI.out).mono ?_
    rintro e w3 ⟨rfl, hb3⟩
    have B3 := hide (B2.out.trans (hb3.mono (by omega)))
    have s3 : w.heap.size < w3.heap.size := by have := hb3.size; omega
    have c3 := (hb3.cell (p := ⟨w.heap.size, 0, none⟩) s2).trans c2
    clear hb3 hat2
    go_wp2_with fail
    refine (toDisk_any oa n cap fs hn20 _ (HAT.out.below B3.out)).mono ?_
    rintro e w4 ⟨g4, rfl, hown4, hb4⟩
    have B4 := hide (B3.out.trans (hb4.mono (by omega)))
    have s4 : w.heap.size < w4.heap.size := by have := hb4.size; omega
    have c4 := (hb4.cell (p := ⟨w.heap.size, 0, none⟩) s3).trans c3
    have HO4 := hide hown4
    clear hb4 hown4
    go_wp2_with fail
    have hb5 := (Below.refl w4.heap.size w4).alloc (Nat.le_refl _) (.cells #[.slice (some ⟨g4, 0, none⟩) n n] 26)
    obtain ⟨oa4, cap4, he, hat4⟩ := filesAt_of_own (own_below HO4.out hb5)
    cases he
    refine (implAllKept_any _ n _ fs _ hat4 HFI.out).mono ?_
    rintro e w6 ⟨rfl, hb6⟩
    have B6 := hide (B4.out.trans ((hb5.trans (hb6.mono (by simp))).mono (by omega)))
    have s6 : w4.heap.size < w6.heap.size := by have := hb6.size; simp at this; omega
    have c6 := ((hb5.trans (hb6.mono (by simp))).cell (p := ⟨w.heap.size, 0, none⟩) s4).trans c4
    have d6 : w6.cell? ⟨w4.heap.size, 0, none⟩ = some (.slice (some ⟨g4, 0, none⟩) n n) := (hb6.cell (by simp)).trans (by simp)
    have HAT4 := hide (hat4.below hb6)
    clear hat4 hb6 hb5
    go_wp2_with fail
    have hlt6 : w.heap.size < w6.heap.size := by omega
    go_region_held3 (fun w' => w'.cell? ⟨w.heap.size, 0, none⟩ = some (.slice oa n cap) ∧ w'.cell? ⟨w4.heap.size, 0, none⟩ = some (.slice (some ⟨g4, 0, none⟩) n n)) (first | go_keep | exact ⟨(hb7.cell (by simpa using hlt6)).trans c6, (hb7.cell (by simpa using s6)).trans d6⟩ | exact ⟨(hb8.cell (Nat.lt_of_lt_of_le hlt6 hb7.size)).trans ((hb7.cell (by simpa using hlt6)).trans c6), (hb8.cell (Nat.lt_of_lt_of_le s6 hb7.size)).trans ((hb7.cell (by simpa using s6)).trans d6)⟩)
      (first
        | (go_at_call 24; refine (toDisk_any oa n cap fs hn20 _ (HAT.out.below B6.out.drew)).mono ?_; rintro e w7 ⟨g7, rfl, hown7, hb7⟩; obtain ⟨oa7, cap7, he7, hat7⟩ := filesAt_of_own hown7; cases he7; have HAT7 := hide hat7; clear hown7 hat7)
        | (go_at_call 25; refine (eqDisk_any _ n _ fs _ n _ fs hn20 _ ((HAT4.out.below (Below.refl _ _).drew).below hb7) HAT7.out).mono ?_; rw [decide_eq_true (rfl : fs = fs)]; rintro e w8 ⟨rfl, hb8⟩))
    have B8 : Below w.heap.size w w8 := (B6.out.drew.trans (hb7.mono (by simp; omega))).trans (hb8.mono (Nat.le_trans (Nat.le_of_lt hlt6) hb7.size))
    clear hb7 hb8
    go_wp2_with fail
    go_ret
    exact ⟨rfl, B8⟩

end Go.Proofs.Ytdbhcaieepgmiaa
