/-
  Walks of chapter 3: an act on the table, by its kind.
-/
import Derived.Test.YtgimbffogmhbgaaWalk3o
namespace Go.Proofs.Ytgimbffogmhbgaa
open Go.RowKit P5 K
set_option linter.unusedVariables false
set_option linter.unusedSimpArgs false

/-- An act as a value. -/
def aval (a : ActV) : Value := .agg #[.int .i64 a.kind, .string ⟨a.name.toArray⟩, .string ⟨a.text.toArray⟩, .string ⟨a.to.toArray⟩]

def ActFine (a : ActV) : Prop := a.name.length ≤ 1048576 ∧ a.text.length ≤ 1048576 ∧ a.to.length ≤ 1048576 ∧ (Lit.int .i64 a.kind).wf = true

theorem DoRes.of {w w1 w' : World} {H b : Nat} {fs : List FileV} {r r' : Option (List FileV)} {e : Ending} (h : DoRes w1 H b fs r' e w') (hr : r = r') (hb : Below H w w1) : DoRes w H b fs r e w' := by
  subst hr; exact ⟨h.1, h.2.1, hb.trans h.2.2⟩

set_option maxHeartbeats 4000000 in
theorem tabDo_any (fs : List FileV) (hok : diskOk fs = true) (a : ActV) (ha : ActFine a) (w : World) (H b : Nat) (hH : H ≤ w.heap.size) (hT : TabOk w H b fs) :
    Calls Try.prog 45 #[.map (some b), aval a] w fun e w' => DoRes w H b fs (doL fs a) e w' := by
  obtain ⟨kd, nm, tx, to⟩ := a
  obtain ⟨a1, a2, a3, a4⟩ := ha
  simp only at a1 a2 a3
  unfold aval
  simp only
  have hb0 := (Below.refl w.heap.size w).alloc (Nat.le_refl _) (.cells #[.int .i64 kd, .string ⟨nm.toArray⟩, .string ⟨tx.toArray⟩, .string ⟨to.toArray⟩] 46)
  have hB0 := (Below.refl H w).alloc hH (.cells #[.int .i64 kd, .string ⟨nm.toArray⟩, .string ⟨tx.toArray⟩, .string ⟨to.toArray⟩] 46)
  have hT1 := hT.below hb0
  have hH1 : H ≤ (w.alloc (.cells #[.int .i64 kd, .string ⟨nm.toArray⟩, .string ⟨tx.toArray⟩, .string ⟨to.toArray⟩] 46)).heap.size := by simp; omega
  have HOK := hide hok
  have HT1 := hide hT1
  have HT := hide hT
  clear hT1 hT hb0 a4
  by_cases k1 : kd = 1
  · subst k1
    cases to with
    | nil =>
      have R := hide (do_add HOK.out ⟨1, nm, tx, []⟩ rfl rfl)
      have hA := hide (tabAdd_any fs HOK.out nm tx a1 a2 _ H b hH1 HT1.out)
      clear hok
      go_enter Try.func45, Try.ntmps45
      go_wp2_with (go_at_call 61; refine hA.out.mono ?_; rintro e w1 hd; have hd1 := hd.1; subst hd1)
      go_ret
      exact hd.of R.out hB0
    | cons c r =>
      have R := hide (do_off (fs := fs) ⟨1, nm, tx, c :: r⟩ (.inr (.inl ⟨by simp, by simp⟩)))
      clear hok
      go_enter Try.func45, Try.ntmps45
      go_wp2_with fail
      go_ret
      exact DoRes.no R.out HT1.out hB0
  have g1 : (kd == 1) = false := by simp [k1]
  by_cases k2 : kd = 2
  · subst k2
    cases tx with
    | cons c r =>
      have R := hide (do_off (fs := fs) ⟨2, nm, c :: r, to⟩ (.inr (.inr ⟨by simp, by simp⟩)))
      clear hok
      go_enter Try.func45, Try.ntmps45
      go_wp2_with fail
      go_ret
      exact DoRes.no R.out HT1.out hB0
    | nil =>
      cases to with
      | cons c r =>
        have R := hide (do_off (fs := fs) ⟨2, nm, [], c :: r⟩ (.inr (.inl ⟨by simp, by simp⟩)))
        clear hok
        go_enter Try.func45, Try.ntmps45
        go_wp2_with fail
        go_ret
        exact DoRes.no R.out HT1.out hB0
      | nil =>
        have R := hide (do_keep HOK.out ⟨2, nm, [], []⟩ rfl rfl rfl)
        have hA := hide (tabKeep_any fs HOK.out nm a1 _ H b hH1 HT1.out)
        clear hok
        go_enter Try.func45, Try.ntmps45
        go_wp2_with (go_at_call 62; refine hA.out.mono ?_; rintro e w1 hd; have hd1 := hd.1; subst hd1)
        go_ret
        exact hd.of R.out hB0
  have g2 : (kd == 2) = false := by simp [k2]
  by_cases k3 : kd = 3
  · subst k3
    cases tx with
    | cons c r =>
      have R := hide (do_off (fs := fs) ⟨3, nm, c :: r, to⟩ (.inr (.inr ⟨by simp, by simp⟩)))
      clear hok
      go_enter Try.func45, Try.ntmps45
      go_wp2_with fail
      go_ret
      exact DoRes.no R.out HT1.out hB0
    | nil =>
      have R := hide (do_move HOK.out ⟨3, nm, [], to⟩ rfl rfl)
      have hA := hide (tabMove_any fs HOK.out nm to a1 a3 _ H b hH1 HT1.out)
      clear hok
      go_enter Try.func45, Try.ntmps45
      go_wp2_with (go_at_call 63; refine hA.out.mono ?_; rintro e w1 hd; have hd1 := hd.1; subst hd1)
      go_ret
      exact hd.of R.out hB0
  have g3 : (kd == 3) = false := by simp [k3]
  by_cases k4 : kd = 4
  · subst k4
    cases tx with
    | cons c r =>
      have R := hide (do_off (fs := fs) ⟨4, nm, c :: r, to⟩ (.inr (.inr ⟨by simp, by simp⟩)))
      clear hok
      go_enter Try.func45, Try.ntmps45
      go_wp2_with fail
      go_ret
      exact DoRes.no R.out HT1.out hB0
    | nil =>
      cases to with
      | cons c r =>
        have R := hide (do_off (fs := fs) ⟨4, nm, [], c :: r⟩ (.inr (.inl ⟨by simp, by simp⟩)))
        clear hok
        go_enter Try.func45, Try.ntmps45
        go_wp2_with fail
        go_ret
        exact DoRes.no R.out HT1.out hB0
      | nil =>
        have R := hide (do_drop HOK.out ⟨4, nm, [], []⟩ rfl rfl rfl)
        have hA := hide (tabDrop_any fs HOK.out nm a1 _ H b hH1 HT1.out)
        clear hok
        go_enter Try.func45, Try.ntmps45
        go_wp2_with (go_at_call 64; refine hA.out.mono ?_; rintro e w1 hd; have hd1 := hd.1; subst hd1)
        go_ret
        exact hd.of R.out hB0
  have g4 : (kd == 4) = false := by simp [k4]
  have R := hide (do_off (fs := fs) ⟨kd, nm, tx, to⟩ (.inl ⟨k1, k2, k3, k4⟩))
  clear hok k1 k2 k3 k4
  go_enter Try.func45, Try.ntmps45
  go_wp2_with fail
  go_ret
  exact DoRes.no R.out HT1.out hB0

end Go.Proofs.Ytgimbffogmhbgaa
