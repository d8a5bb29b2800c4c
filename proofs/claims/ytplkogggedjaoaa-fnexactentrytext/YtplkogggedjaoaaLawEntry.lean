/-
  The laws FnExactEntryOk, FnExactEntryText: their walks.
-/
import Derived.Test.YtplkogggedjaoaaWalk5g
import Derived.Test.YtplkogggedjaoaaOpenEntry
namespace Go.Proofs.Ytplkogggedjaoaa
open Go.RowKit P1 P9 K
set_option linter.unusedVariables false
set_option linter.unusedSimpArgs false

theorem szE_ok {e : EntV} (h : ¬ szE e 1048576 < 0) : e.data.size ≤ 1048576 := by
  unfold szE at h
  split at h
  · exact absurd (by decide) h
  · omega

set_option maxHeartbeats 2000000 in
theorem FnExactEntryOk_walk (e : EntV) (w : World) (hw : EntWide e) :
    Calls Try.prog 6 #[eval e] w fun r w' => r = .returned (.bool true) ∧ Below w.heap.size w w' := by
  have HB0 := hide ((Below.refl w.heap.size w).alloc (Nat.le_refl _) (.cells #[.int .i64 e.term, .int .i64 e.kind, .string e.data] 33))
  have hu : eval e = .agg #[.int .i64 e.term, .int .i64 e.kind, .string e.data] := rfl
  obtain ⟨E, hE⟩ : ∃ E, eval e = E := ⟨_, rfl⟩
  have HSZ := hide (fun w => szEntry_any e 1048576 (by omega) (by omega) hw.1 w)
  have HTO := hide (fun w => toEntry_any e w)
  by_cases c : szE e 1048576 < 0
  · have g : decide (szE e 1048576 < 0) = true := by simpa using c
    rw [hu]
    go_enter Try.func6, Try.ntmps6
    go_wp2_with fail
    refine (HSZ.out _).mono ?_
    rintro r w1 ⟨rfl, hb1⟩
    go_wp2_with fail
    go_ret
    exact ⟨rfl, HB0.out.trans (hb1.mono (by simp))⟩
  · have g : decide (szE e 1048576 < 0) = false := by simpa using c
    have hs := szE_ok c
    rw [hu]
    go_enter Try.func6, Try.ntmps6
    go_wp2_with fail
    refine (HSZ.out _).mono ?_
    rintro r w1 ⟨rfl, hb1⟩
    have B1 := hide (HB0.out.trans (hb1.mono (by simp)))
    have c0 : w1.cell? ⟨w.heap.size, 0, none⟩ = some (.int .i64 e.term) := (hb1.cell (by simp)).trans (by simp)
    have c1 : w1.cell? ⟨w.heap.size, 1, none⟩ = some (.int .i64 e.kind) := (hb1.cell (by simp)).trans (by simp)
    have c2 : w1.cell? ⟨w.heap.size, 2, none⟩ = some (.string e.data) := (hb1.cell (by simp)).trans (by simp)
    have s1 : w.heap.size < w1.heap.size := by have := hb1.size; simp at this; omega
    clear hb1
    go_wp2_with fail
    refine (HTO.out _).mono ?_
    rintro r w2 ⟨rfl, hb2⟩
    have d0 := (hb2.cell (p := ⟨w.heap.size, 0, none⟩) s1).trans c0
    have d1 := (hb2.cell (p := ⟨w.heap.size, 1, none⟩) s1).trans c1
    have d2 := (hb2.cell (p := ⟨w.heap.size, 2, none⟩) s1).trans c2
    have B2 := hide (B1.out.trans (hb2.mono (by omega)))
    have s2 : w.heap.size < w2.heap.size := by have := hb2.size; omega
    clear hb2 c0 c1 c2
    go_wp2_with fail
    refine (specEntryOk_any e hs _).mono ?_
    rintro r w3 ⟨rfl, hb3⟩
    have c0 := (hb3.cell (p := ⟨w.heap.size, 0, none⟩) s2).trans d0
    have c1 := (hb3.cell (p := ⟨w.heap.size, 1, none⟩) s2).trans d1
    have c2 := (hb3.cell (p := ⟨w.heap.size, 2, none⟩) s2).trans d2
    have B3 := hide (B2.out.trans (hb3.mono (by omega)))
    have s3 : w.heap.size < w3.heap.size := by have := hb3.size; omega
    clear hb3 d0 d1 d2
    go_wp2_with fail
    refine (HTO.out _).mono ?_
    rintro r w4 ⟨rfl, hb4⟩
    have B4 := hide (B3.out.trans (hb4.mono (by omega)))
    have s4 : w.heap.size < w4.heap.size := by have := hb4.size; omega
    clear hb4 c0 c1 c2
    go_wp2_with fail
    refine (implEntryOk_any e hs _).mono ?_
    rintro r w5 ⟨rfl, hb5⟩
    have B5 := hide (B4.out.trans (hb5.mono (by omega)))
    clear hb5
    go_wp2_with fail
    go_ret
    exact ⟨rfl, B5.out⟩

set_option maxHeartbeats 2000000 in
theorem FnExactEntryText_walk (i : Int) (e : EntV) (w : World) (hi : (Lit.int .i64 i).wf = true) (hw : EntWide e) :
    Calls Try.prog 7 #[.int .i64 i, eval e] w fun r w' => r = .returned (.bool true) ∧ Below w.heap.size w w' := by
  have HB0 := hide ((Below.refl w.heap.size w).alloc (Nat.le_refl _) (.cells #[.int .i64 e.term, .int .i64 e.kind, .string e.data] 33))
  have hu : eval e = .agg #[.int .i64 e.term, .int .i64 e.kind, .string e.data] := rfl
  have HSZ := hide (fun w => szEntry_any e 1048576 (by omega) (by omega) hw.1 w)
  have HTO := hide (fun w => toEntry_any e w)
  obtain ⟨ts, tb, hct⟩ : ∃ ts tb, etVal i e = .tuple #[.string ts, .bool tb] := by
    unfold etVal
    split
    · exact ⟨_, _, rfl⟩
    · exact ⟨_, _, rfl⟩
  have HCT := hide hct
  clear hct hi
  by_cases c : szE e 1048576 < 0
  · have g : decide (szE e 1048576 < 0) = true := by simpa using c
    rw [hu]
    go_enter Try.func7, Try.ntmps7
    go_wp2_with fail
    refine (HSZ.out _).mono ?_
    rintro r w1 ⟨rfl, hb1⟩
    go_wp2_with fail
    go_ret
    exact ⟨rfl, HB0.out.trans (hb1.mono (by simp))⟩
  · have g : decide (szE e 1048576 < 0) = false := by simpa using c
    have hs := szE_ok c
    rw [hu]
    go_enter Try.func7, Try.ntmps7
    go_wp2_with fail
    refine (HSZ.out _).mono ?_
    rintro r w1 ⟨rfl, hb1⟩
    have B1 := hide (HB0.out.trans (hb1.mono (by simp)))
    have c0 : w1.cell? ⟨w.heap.size, 0, none⟩ = some (.int .i64 e.term) := (hb1.cell (by simp)).trans (by simp)
    have c1 : w1.cell? ⟨w.heap.size, 1, none⟩ = some (.int .i64 e.kind) := (hb1.cell (by simp)).trans (by simp)
    have c2 : w1.cell? ⟨w.heap.size, 2, none⟩ = some (.string e.data) := (hb1.cell (by simp)).trans (by simp)
    have s1 : w.heap.size < w1.heap.size := by have := hb1.size; simp at this; omega
    clear hb1
    go_wp2_with fail
    refine (HTO.out _).mono ?_
    rintro r w2 ⟨rfl, hb2⟩
    have d0 := (hb2.cell (p := ⟨w.heap.size, 0, none⟩) s1).trans c0
    have d1 := (hb2.cell (p := ⟨w.heap.size, 1, none⟩) s1).trans c1
    have d2 := (hb2.cell (p := ⟨w.heap.size, 2, none⟩) s1).trans c2
    have B2 := hide (B1.out.trans (hb2.mono (by omega)))
    have s2 : w.heap.size < w2.heap.size := by have := hb2.size; omega
    clear hb2 c0 c1 c2
    go_wp2_with fail
    refine (specEntryText_any i e hs _).mono ?_
    rw [HCT.out]
    rintro r w3 ⟨rfl, hb3⟩
    have c0 := (hb3.cell (p := ⟨w.heap.size, 0, none⟩) s2).trans d0
    have c1 := (hb3.cell (p := ⟨w.heap.size, 1, none⟩) s2).trans d1
    have c2 := (hb3.cell (p := ⟨w.heap.size, 2, none⟩) s2).trans d2
    have B3 := hide (B2.out.trans (hb3.mono (by omega)))
    have s3 : w.heap.size < w3.heap.size := by have := hb3.size; omega
    clear hb3 d0 d1 d2
    go_wp2_with fail
    refine (HTO.out _).mono ?_
    rintro r w4 ⟨rfl, hb4⟩
    have B4 := hide (B3.out.trans (hb4.mono (by omega)))
    have s4 : w.heap.size < w4.heap.size := by have := hb4.size; omega
    clear hb4 c0 c1 c2
    go_wp2_with fail
    refine (implEntryText_any i e hs _).mono ?_
    rw [HCT.out]
    rintro r w5 ⟨rfl, hb5⟩
    have B5 := hide (B4.out.trans (hb5.mono (by omega)))
    clear hb5
    go_wp2_with fail
    go_ret
    exact ⟨rfl, B5.out⟩

end Go.Proofs.Ytplkogggedjaoaa
