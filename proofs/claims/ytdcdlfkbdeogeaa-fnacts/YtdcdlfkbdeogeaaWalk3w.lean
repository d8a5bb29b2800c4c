/-
  Walks of chapter 3: DoAct of the specification.
-/
import Derived.Test.YtdcdlfkbdeogeaaWalk3v
namespace Go.Proofs.Ytdcdlfkbdeogeaa
open Go.RowKit P5 K
set_option linter.unusedVariables false
set_option linter.unusedSimpArgs false

/-- What is wanted of the arguments. -/
structure ActIn (w : World) (oa : Option Addr) (n cap : Nat) (fs : List FileV) (a : ActV) : Prop where
  at_ : FilesAt w oa n cap fs
  fine : ∀ f ∈ fs, Fine f
  act : ActFine a

/-- The three blocks that a call of DoAct begins with. -/
abbrev blk3 (w : World) (oa : Option Addr) (n cap : Nat) (kd : Int) (nm tx tt : List UInt8) : World :=
  ((w.alloc (.cells #[.slice oa n cap] 26)).alloc (.cells #[.int .i64 kd, .string ⟨nm.toArray⟩, .string ⟨tx.toArray⟩, .string ⟨tt.toArray⟩] 37)).alloc (.cells #[.slice none 0 0] 26)

theorem blk3_below (w : World) (oa : Option Addr) (n cap : Nat) (kd : Int) (nm tx tt : List UInt8) : Below w.heap.size w (blk3 w oa n cap kd nm tx tt) :=
  (((Below.refl w.heap.size w).alloc (Nat.le_refl _) _).alloc (by simp) _).alloc (by simp; omega) _

/-- What lies in them, further on. -/
structure At3 (w : World) (oa : Option Addr) (n cap : Nat) (kd : Int) (nm tx tt : List UInt8) (w2 : World) : Prop where
  bel : Below w.heap.size w w2
  big : w.heap.size + 3 ≤ w2.heap.size
  d0 : w2.cell? ⟨w.heap.size, 0, none⟩ = some (.slice oa n cap)
  a0 : w2.cell? ⟨w.heap.size + 1, 0, none⟩ = some (.int .i64 kd)
  a1 : w2.cell? ⟨w.heap.size + 1, 1, none⟩ = some (.string ⟨nm.toArray⟩)
  a2 : w2.cell? ⟨w.heap.size + 1, 2, none⟩ = some (.string ⟨tx.toArray⟩)
  a3 : w2.cell? ⟨w.heap.size + 1, 3, none⟩ = some (.string ⟨tt.toArray⟩)
  r0 : w2.cell? ⟨w.heap.size + 1 + 1, 0, none⟩ = some (.slice none 0 0)
  r1 : w2.frozen? ⟨w.heap.size + 1 + 1, 0, none⟩ = false

theorem at3_of {w : World} {oa : Option Addr} {n cap : Nat} {kd : Int} {nm tx tt : List UInt8} {w2 : World} (hb : Below (blk3 w oa n cap kd nm tx tt).heap.size (blk3 w oa n cap kd nm tx tt) w2) : At3 w oa n cap kd nm tx tt w2 where
  bel := (blk3_below w oa n cap kd nm tx tt).trans (hb.mono (by simp; omega))
  big := by have := hb.size; simp at this; omega
  d0 := row_cell hb (by simp; omega) (heap3_0 _ _ _ _) 0
  a0 := row_cell hb (by simp) (heap3_1 _ _ _ _) 0
  a1 := row_cell hb (by simp) (heap3_1 _ _ _ _) 1
  a2 := row_cell hb (by simp) (heap3_1 _ _ _ _) 2
  a3 := row_cell hb (by simp) (heap3_1 _ _ _ _) 3
  r0 := row_cell hb (by simp) (heap3_2 _ _ _ _) 0
  r1 := row_free hb (by simp) (heap3_2 _ _ _ _) 0

theorem At3.on {w : World} {oa : Option Addr} {n cap : Nat} {kd : Int} {nm tx tt : List UInt8} {w2 w3 : World} (h : At3 w oa n cap kd nm tx tt w2) {B : Nat} (hb : Below B w2 w3) (hB : w.heap.size + 3 ≤ B) : At3 w oa n cap kd nm tx tt w3 where
  bel := h.bel.trans (hb.mono (by omega))
  big := Nat.le_trans h.big hb.size
  d0 := (hb.cell (by simp; omega)).trans h.d0
  a0 := (hb.cell (by simp; omega)).trans h.a0
  a1 := (hb.cell (by simp; omega)).trans h.a1
  a2 := (hb.cell (by simp; omega)).trans h.a2
  a3 := (hb.cell (by simp; omega)).trans h.a3
  r0 := (hb.cell (by simp; omega)).trans h.r0
  r1 := (hb.frozen (by simp; omega)).trans h.r1

set_option maxHeartbeats 4000000 in
/-- The forms that are refused at once. -/
theorem specDoAct_off (oa : Option Addr) (n cap : Nat) (fs : List FileV) (kd : Int) (nm tx tt : List UInt8) (w : World) (h : ActIn w oa n cap fs ⟨kd, nm, tx, tt⟩) (hno : ¬ (diskOk fs = true ∧ actForm ⟨kd, nm, tx, tt⟩)) :
    Calls Try.prog 23 #[.agg #[.slice oa n cap], aval ⟨kd, nm, tx, tt⟩] w fun e w' => DiskRes w ((actL fs ⟨kd, nm, tx, tt⟩).getD []) (actL fs ⟨kd, nm, tx, tt⟩).isSome e w' := by
  have R := hide (show actL fs ⟨kd, nm, tx, tt⟩ = none by
    unfold actL
    split
    · rename_i hok
      exact doL_none (.inl (fun hf => hno ⟨hok, hf⟩))
    · rfl)
  obtain ⟨b1, b2, b3, b4⟩ := h.act
  simp only at b1 b2 b3
  have HH := hide h
  have HB0 := hide (blk3_below w oa n cap kd nm tx tt)
  clear h b4
  unfold aval
  simp only
  cases hok : diskOk fs with
  | false =>
    have HOK := hide hok
    clear hok hno
    go_enter Try.func23, Try.ntmps23
    go_wp2_with fail
    refine (specDiskOk_any oa n cap fs _ (HH.out.at_.below HB0.out) HH.out.fine).mono ?_
    rw [HOK.out]
    rintro e w2 ⟨rfl, hb2⟩
    have A2 := at3_of hb2
    have k1 := A2.r0
    have q1 := A2.r1
    go_wp2_with fail
    refine bodyPost_ret (v := .tuple #[.agg #[.slice none 0 0], .bool false]) (by simp [results, Try.results23, go_sem, k1, q1]) rfl (DiskRes.no R.out ?_)
    exact A2.bel.setCell (by simp; omega) _
  | true =>
    have HOK := hide hok
    have hnf : ¬ actForm ⟨kd, nm, tx, tt⟩ := fun hf => hno ⟨hok, hf⟩
    clear hok hno
    cases hnm : nameOk nm with
    | false =>
      have HNM := hide hnm
      clear hnm hnf
      go_enter Try.func23, Try.ntmps23
      go_wp2_with fail
      refine (specDiskOk_any oa n cap fs _ (HH.out.at_.below HB0.out) HH.out.fine).mono ?_
      rw [HOK.out]
      rintro e w2 ⟨rfl, hb2⟩
      have A2 := at3_of hb2
      have k1 := A2.r0
      have q1 := A2.r1
      have c1 := A2.a1
      go_wp2_with (go_at_call 46; refine (l03Name_any nm (by omega) _).mono ?_; rw [HNM.out]; rintro e wx ⟨rfl, hwx⟩; obtain rfl := hwx.symm)
      refine bodyPost_ret (v := .tuple #[.agg #[.slice none 0 0], .bool false]) (by simp [results, Try.results23, go_sem, k1, q1]) rfl (DiskRes.no R.out ?_)
      exact A2.bel.setCell (by simp; omega) _
    | true =>
      have HNM := hide hnm
      by_cases h1 : kd ≠ 3 ∧ tt ≠ []
      · obtain ⟨h3, h4⟩ := h1
        have g1 : (kd != 3) = true := by simp [h3]
        obtain ⟨c, r, rfl⟩ : ∃ c r, tt = c :: r := by
          cases tt with
          | nil => exact absurd rfl h4
          | cons c r => exact ⟨c, r, rfl⟩
        clear hnm hnf h3 h4
        go_enter Try.func23, Try.ntmps23
        go_wp2_with fail
        refine (specDiskOk_any oa n cap fs _ (HH.out.at_.below HB0.out) HH.out.fine).mono ?_
        rw [HOK.out]
        rintro e w2 ⟨rfl, hb2⟩
        have A2 := at3_of hb2
        have k1 := A2.r0
        have q1 := A2.r1
        have c1 := A2.a1
        have c0 := A2.a0
        have c3 := A2.a3
        go_wp2_with (go_at_call 46; refine (l03Name_any nm (by omega) _).mono ?_; rw [HNM.out]; rintro e wx ⟨rfl, hwx⟩; obtain rfl := hwx.symm)
        refine bodyPost_ret (v := .tuple #[.agg #[.slice none 0 0], .bool false]) (by simp [results, Try.results23, go_sem, k1, q1]) rfl (DiskRes.no R.out ?_)
        exact A2.bel.setCell (by simp; omega) _
      · have h2 : kd ≠ 1 ∧ tx ≠ [] := by
          constructor
          · intro e1
            exact hnf ⟨hnm, by by_cases e : kd = 3; exact .inl e; exact .inr (by by_cases e' : tt = []; exact e'; exact absurd ⟨e, e'⟩ h1), .inl e1⟩
          · intro e1
            exact hnf ⟨hnm, by by_cases e : kd = 3; exact .inl e; exact .inr (by by_cases e' : tt = []; exact e'; exact absurd ⟨e, e'⟩ h1), .inr e1⟩
        obtain ⟨h3, h4⟩ := h2
        have g2 : (kd != 1) = true := by simp [h3]
        obtain ⟨c, r, rfl⟩ : ∃ c r, tx = c :: r := by
          cases tx with
          | nil => exact absurd rfl h4
          | cons c r => exact ⟨c, r, rfl⟩
        clear hnm hnf h3 h4
        have h5 : kd = 3 ∨ tt = [] := by
          by_cases e : kd = 3
          · exact .inl e
          · exact .inr (by by_cases e' : tt = []; exact e'; exact absurd ⟨e, e'⟩ h1)
        clear h1
        rcases h5 with rfl | rfl
        all_goals
          go_enter Try.func23, Try.ntmps23
          go_wp2_with fail
          refine (specDiskOk_any oa n cap fs _ (HH.out.at_.below HB0.out) HH.out.fine).mono ?_
          rw [HOK.out]
          rintro e w2 ⟨rfl, hb2⟩
          have A2 := at3_of hb2
          have k1 := A2.r0
          have q1 := A2.r1
          have c1 := A2.a1
          have c0 := A2.a0
          have c2 := A2.a2
          have c3 := A2.a3
          try (by_cases e3 : kd = 3)
          all_goals
            try (have g1 : (kd != 3) = false := by simp [e3])
            try (have g1 : (kd != 3) = true := by simp [e3])
            try clear e3
            go_wp2_with (go_at_call 46; refine (l03Name_any nm (by omega) _).mono ?_; rw [HNM.out]; rintro e wx ⟨rfl, hwx⟩; obtain rfl := hwx.symm)
            refine bodyPost_ret (v := .tuple #[.agg #[.slice none 0 0], .bool false]) (by simp [results, Try.results23, go_sem, k1, q1]) rfl (DiskRes.no R.out ?_)
            exact A2.bel.setCell (by simp; omega) _

end Go.Proofs.Ytdcdlfkbdeogeaa
