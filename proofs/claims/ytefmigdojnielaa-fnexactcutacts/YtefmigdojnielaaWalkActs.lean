/-
  The laws' own small functions over acts: sizes, copies, comparison, marks.
-/
import Derived.Test.YtefmigdojnielaaActs
import Derived.Test.YtefmigdojnielaaLawStr
namespace Go.Proofs.Ytefmigdojnielaa
open Go.RowKit P5 K
set_option linter.unusedVariables false
set_option linter.unusedSimpArgs false

def szA (a : ActV) (left : Int) : Int :=
  if left - a.name.length < 0 then -1 else if left - a.name.length - a.text.length < 0 then -1 else if left - a.name.length - a.text.length - a.to.length < 0 then -1 else left - a.name.length - a.text.length - a.to.length

theorem szA_pos {a : ActV} {left : Int} (h : 0 ≤ szA a left) : szA a left = left - a.name.length - a.text.length - a.to.length := by
  unfold szA at h ⊢
  split
  · rename_i c; rw [if_pos c] at h; omega
  · rename_i c
    rw [if_neg c] at h
    split
    · rename_i c2; rw [if_pos c2] at h; omega
    · rename_i c2
      rw [if_neg c2] at h
      split
      · rename_i c3; rw [if_pos c3] at h; omega
      · rfl

theorem szA_le (a : ActV) (left : Int) (h : 0 ≤ left) : szA a left ≤ left := by
  unfold szA
  split
  · omega
  · split
    · omega
    · split <;> omega

theorem szA_fine {a : ActV} {left : Int} (h : 0 ≤ szA a left) (hl : left ≤ 1048576) (hw : ActWide a) : ActFine a := by
  have := szA_pos h
  exact ⟨by omega, by omega, by omega, hw.2.2.2⟩

set_option maxHeartbeats 1000000 in
theorem szAct_any (a : ActV) (left : Int) (h0 : 0 ≤ left) (h1 : left ≤ 1048576) (hw : ActWide a) (w : World) :
    Calls Try.prog 25 #[aval a, .int .i64 left] w fun e w' => e = .returned (.int .i64 (szA a left)) ∧ Below w.heap.size w w' := by
  obtain ⟨b1, b2, b3, _⟩ := hw
  unfold maxLen at b1 b2 b3
  obtain ⟨kd, nm, tx, tt⟩ := a
  simp only [aval, szA] at *
  have hb := (Below.refl w.heap.size w).alloc (Nat.le_refl _) (.cells #[.int .i64 kd, .string ⟨nm.toArray⟩, .string ⟨tx.toArray⟩, .string ⟨tt.toArray⟩] 52)
  by_cases c1 : left - nm.length < 0
  · have g1 : decide (left - (nm.length : Int) < 0) = true := by simpa using c1
    rw [if_pos c1]
    go_enter Try.func25, Try.ntmps25
    go_wp2_with fail
    go_ret
    exact ⟨rfl, hb⟩
  · have g1 : decide (left - (nm.length : Int) < 0) = false := by simpa using c1
    rw [if_neg c1]
    by_cases c2 : left - nm.length - tx.length < 0
    · have g2 : decide (left - (nm.length : Int) - (tx.length : Int) < 0) = true := by simpa using c2
      rw [if_pos c2]
      go_enter Try.func25, Try.ntmps25
      go_wp2_with fail
      go_ret
      exact ⟨rfl, hb⟩
    · have g2 : decide (left - (nm.length : Int) - (tx.length : Int) < 0) = false := by simpa using c2
      rw [if_neg c2]
      by_cases c3 : left - nm.length - tx.length - tt.length < 0
      · have g3 : decide (left - (nm.length : Int) - (tx.length : Int) - (tt.length : Int) < 0) = true := by simpa using c3
        rw [if_pos c3]
        go_enter Try.func25, Try.ntmps25
        go_wp2_with fail
        go_ret
        exact ⟨rfl, hb⟩
      · have g3 : decide (left - (nm.length : Int) - (tx.length : Int) - (tt.length : Int) < 0) = false := by simpa using c3
        rw [if_neg c3]
        go_enter Try.func25, Try.ntmps25
        go_wp2_with fail
        go_ret
        exact ⟨rfl, hb⟩

set_option maxHeartbeats 1000000 in
theorem toAct_any (a : ActV) (w : World) :
    Calls Try.prog 28 #[aval a] w fun e w' => e = .returned (aval a) ∧ Below w.heap.size w w' := by
  obtain ⟨kd, nm, tx, tt⟩ := a
  simp only [aval] at *
  have hb := (Below.refl w.heap.size w).alloc (Nat.le_refl _) (.cells #[.int .i64 kd, .string ⟨nm.toArray⟩, .string ⟨tx.toArray⟩, .string ⟨tt.toArray⟩] 52)
  have HB := hide hb
  clear hb
  go_enter Try.func28, Try.ntmps28
  go_wp2_with fail
  refine bodyPost_ret (v := aval ⟨kd, nm, tx, tt⟩) (by simp [results, Try.results28, go_sem, aval]) rfl ⟨rfl, ?_⟩
  exact ((HB.out.alloc (by simp) _).alloc (by simp; omega) _)

end Go.Proofs.Ytefmigdojnielaa
