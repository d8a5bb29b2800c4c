/-
  Walks of chapter 3: DoAct of the specification, on: no such file, no such kind, move; all of it.
-/
import Derived.Test.YtdcdlfkbdeogeaaWalk3x
namespace Go.Proofs.Ytdcdlfkbdeogeaa
open Go.RowKit P5 K
set_option linter.unusedVariables false
set_option linter.unusedSimpArgs false

set_option maxRecDepth 100000 in
set_option maxHeartbeats 1000000 in
theorem specDoAct_none3 (oa : Option Addr) (n cap : Nat) (fs : List FileV) (nm tt : List UInt8) (w : World) (h : ActIn w oa n cap fs ⟨3, nm, [], tt⟩) (hok : diskOk fs = true) (hform : actForm ⟨3, nm, [], tt⟩)  (hfa : fileAt fs nm = none) :
    Calls Try.prog 23 #[.agg #[.slice oa n cap], aval ⟨3, nm, [], tt⟩] w fun e w' => DiskRes w ((actL fs ⟨3, nm, [], tt⟩).getD []) (actL fs ⟨3, nm, [], tt⟩).isSome e w' := by
  obtain ⟨b1, b2, b3, b4⟩ := h.act
  simp only at b1 b2 b3
  obtain ⟨o1, o2, o3⟩ := (diskOk_iff fs).1 hok
  have HH := hide h
  have HOK := hide hok
  have HNM := hide hform.1
  have HO2 := hide o2
  have hn30 : n ≤ 30 := by have := h.at_.len; omega
  have HB0 := hide (blk3_below w oa n cap 3 nm [] tt)
  unfold aval
  simp only
  have hix := atFrom_spec nm fs 0
  rw [hfa] at hix
  simp only [reduceCtorEq, and_true, false_and, and_false, exists_false, or_false] at hix
  have HIX := hide hix
  have R := hide (actL_out (show outL fs ⟨3, nm, [], tt⟩ = none by unfold outL; rw [if_neg (by simp), hfa]))
  clear h hok hform o2 hfa hix
  go_enter Try.func23, Try.ntmps23
  go_wp2_with fail
  refine (specDiskOk_any oa n cap fs _ (HH.out.at_.below HB0.out) HH.out.fine).mono ?_
  rw [HOK.out]
  rintro e w2 ⟨rfl, hb2⟩
  have A2 := at3_of hb2
  have cu0 := A2.d0
  have cu1 := A2.a0
  have cu2 := A2.a1
  have cu3 := A2.a2
  have cu4 := A2.a3
  have cu5 := A2.r0
  have cu6 := A2.r1
  have HA2 := hide A2
  clear A2 hb2
  go_wp2_with (first
    | (go_at_call 46; refine (l03Name_any nm (by omega) _).mono ?_; rw [HNM.out]; rintro e wx ⟨rfl, hwx⟩; obtain rfl := hwx.symm)
    | (go_at_call 47; refine (l03At_any oa n cap fs nm _ (HH.out.at_.below HA2.out.bel)).mono ?_; rw [HIX.out]; rintro e w3 ⟨rfl, hb3⟩; have A3 := HA2.out.on hb3 HA2.out.big; have m0 := A3.d0; have m1 := A3.a0; have m2 := A3.a1; have m3 := A3.a2; have m4 := A3.a3; have m5 := A3.r0; have m6 := A3.r1; have m7 : w.heap.size + 3 ≤ w3.heap.size := A3.big; have m8 : w.heap.size < w3.heap.size := (by omega); have m9 : w.heap.size + 1 < w3.heap.size := (by omega); have m10 : w.heap.size + 1 + 1 < w3.heap.size := (by omega)))
  have hr : (w3.setCell ⟨w.heap.size + 1 + 1, 0, none⟩ (.slice none 0 0)).cell? ⟨w.heap.size + 1 + 1, 0, none⟩ = some (.slice none 0 0) := World.cell?_setCell_same _ _ _ m5
  have hS := A3.bel.setCell (p := ⟨w.heap.size + 1 + 1, 0, none⟩) (by simp; omega) (.slice none 0 0)
  have hsz : w.heap.size + 1 + 1 < (w3.setCell ⟨w.heap.size + 1 + 1, 0, none⟩ (.slice none 0 0)).heap.size := Nat.lt_of_lt_of_le m10 ((Below.refl 0 w3).setCell (Nat.zero_le _) _).size
  have hr2 : ∀ X Y : Obj, (((w3.setCell ⟨w.heap.size + 1 + 1, 0, none⟩ (.slice none 0 0)).alloc X).alloc Y).cell? ⟨w.heap.size + 1 + 1, 0, none⟩ = some (.slice none 0 0) := fun X Y => ((((Below.refl _ (w3.setCell ⟨w.heap.size + 1 + 1, 0, none⟩ (.slice none 0 0))).alloc (Nat.le_refl _) X).alloc (by simp) Y).cell hsz).trans hr
  refine bodyPost_ret (v := .tuple #[.agg #[.slice none 0 0], .bool false]) (by simp [results, Try.results23, go_sem, hr2]) rfl (DiskRes.no R.out ?_)
  exact (hS.alloc hS.size _).alloc (hS.alloc hS.size _).size _

set_option maxRecDepth 100000 in
set_option maxHeartbeats 1000000 in
theorem specDoAct_none (oa : Option Addr) (n cap : Nat) (fs : List FileV) (kd : Int) (nm : List UInt8) (w : World) (h : ActIn w oa n cap fs ⟨kd, nm, [], []⟩) (hok : diskOk fs = true) (hform : actForm ⟨kd, nm, [], []⟩) (hk1 : kd ≠ 1) (hk3 : kd ≠ 3) (hfa : fileAt fs nm = none) :
    Calls Try.prog 23 #[.agg #[.slice oa n cap], aval ⟨kd, nm, [], []⟩] w fun e w' => DiskRes w ((actL fs ⟨kd, nm, [], []⟩).getD []) (actL fs ⟨kd, nm, [], []⟩).isSome e w' := by
  obtain ⟨b1, b2, b3, b4⟩ := h.act
  simp only at b1 b2 b3
  obtain ⟨o1, o2, o3⟩ := (diskOk_iff fs).1 hok
  have HH := hide h
  have HOK := hide hok
  have HNM := hide hform.1
  have HO2 := hide o2
  have hn30 : n ≤ 30 := by have := h.at_.len; omega
  have HB0 := hide (blk3_below w oa n cap kd nm [] [])
  unfold aval
  simp only
  have hix := atFrom_spec nm fs 0
  rw [hfa] at hix
  simp only [reduceCtorEq, and_true, false_and, and_false, exists_false, or_false] at hix
  have HIX := hide hix
  have R := hide (actL_out (show outL fs ⟨kd, nm, [], []⟩ = none by unfold outL; rw [if_neg (by exact hk1), hfa]))
  have g1 : (kd != 3) = true := by simp [hk3]
  have g2 : (kd != 1) = true := by simp [hk1]
  have g3 : (kd == 1) = false := by simp [hk1]
  clear hk1 hk3
  clear h hok hform o2 hfa hix
  go_enter Try.func23, Try.ntmps23
  go_wp2_with fail
  refine (specDiskOk_any oa n cap fs _ (HH.out.at_.below HB0.out) HH.out.fine).mono ?_
  rw [HOK.out]
  rintro e w2 ⟨rfl, hb2⟩
  have A2 := at3_of hb2
  have cu0 := A2.d0
  have cu1 := A2.a0
  have cu2 := A2.a1
  have cu3 := A2.a2
  have cu4 := A2.a3
  have cu5 := A2.r0
  have cu6 := A2.r1
  have HA2 := hide A2
  clear A2 hb2
  go_wp2_with (first
    | (go_at_call 46; refine (l03Name_any nm (by omega) _).mono ?_; rw [HNM.out]; rintro e wx ⟨rfl, hwx⟩; obtain rfl := hwx.symm)
    | (go_at_call 47; refine (l03At_any oa n cap fs nm _ (HH.out.at_.below HA2.out.bel)).mono ?_; rw [HIX.out]; rintro e w3 ⟨rfl, hb3⟩; have A3 := HA2.out.on hb3 HA2.out.big; have m0 := A3.d0; have m1 := A3.a0; have m2 := A3.a1; have m3 := A3.a2; have m4 := A3.a3; have m5 := A3.r0; have m6 := A3.r1; have m7 : w.heap.size + 3 ≤ w3.heap.size := A3.big; have m8 : w.heap.size < w3.heap.size := (by omega); have m9 : w.heap.size + 1 < w3.heap.size := (by omega); have m10 : w.heap.size + 1 + 1 < w3.heap.size := (by omega)))
  have hr : (w3.setCell ⟨w.heap.size + 1 + 1, 0, none⟩ (.slice none 0 0)).cell? ⟨w.heap.size + 1 + 1, 0, none⟩ = some (.slice none 0 0) := World.cell?_setCell_same _ _ _ m5
  have hS := A3.bel.setCell (p := ⟨w.heap.size + 1 + 1, 0, none⟩) (by simp; omega) (.slice none 0 0)
  have hsz : w.heap.size + 1 + 1 < (w3.setCell ⟨w.heap.size + 1 + 1, 0, none⟩ (.slice none 0 0)).heap.size := Nat.lt_of_lt_of_le m10 ((Below.refl 0 w3).setCell (Nat.zero_le _) _).size
  have hr2 : ∀ X Y : Obj, (((w3.setCell ⟨w.heap.size + 1 + 1, 0, none⟩ (.slice none 0 0)).alloc X).alloc Y).cell? ⟨w.heap.size + 1 + 1, 0, none⟩ = some (.slice none 0 0) := fun X Y => ((((Below.refl _ (w3.setCell ⟨w.heap.size + 1 + 1, 0, none⟩ (.slice none 0 0))).alloc (Nat.le_refl _) X).alloc (by simp) Y).cell hsz).trans hr
  refine bodyPost_ret (v := .tuple #[.agg #[.slice none 0 0], .bool false]) (by simp [results, Try.results23, go_sem, hr2]) rfl (DiskRes.no R.out ?_)
  exact (hS.alloc hS.size _).alloc (hS.alloc hS.size _).size _

set_option maxRecDepth 100000 in
set_option maxHeartbeats 1000000 in
theorem specDoAct_kind (oa : Option Addr) (n cap : Nat) (fs : List FileV) (kd : Int) (nm : List UInt8) (w : World) (h : ActIn w oa n cap fs ⟨kd, nm, [], []⟩) (hok : diskOk fs = true) (hform : actForm ⟨kd, nm, [], []⟩) (hk1 : kd ≠ 1) (hk2 : kd ≠ 2) (hk3 : kd ≠ 3) (hk4 : kd ≠ 4) (f : FileV) (hfa : fileAt fs nm = some f) :
    Calls Try.prog 23 #[.agg #[.slice oa n cap], aval ⟨kd, nm, [], []⟩] w fun e w' => DiskRes w ((actL fs ⟨kd, nm, [], []⟩).getD []) (actL fs ⟨kd, nm, [], []⟩).isSome e w' := by
  obtain ⟨b1, b2, b3, b4⟩ := h.act
  simp only at b1 b2 b3
  obtain ⟨o1, o2, o3⟩ := (diskOk_iff fs).1 hok
  have HH := hide h
  have HOK := hide hok
  have HNM := hide hform.1
  have HO2 := hide o2
  have hn30 : n ≤ 30 := by have := h.at_.len; omega
  have HB0 := hide (blk3_below w oa n cap kd nm [] [])
  unfold aval
  simp only
  obtain ⟨hm, hn⟩ := fileAt_some hfa
  have hfo := (fileOk_iff f).1 (o2 f hm)
  have hl20 := hfo.2.1
  have hix := atFrom_spec nm fs 0
  rw [hfa] at hix
  simp only [Nat.zero_add, reduceCtorEq, and_false, false_or, Option.some.injEq] at hix
  obtain ⟨i, f', hix, hfi, rfl, hfn⟩ := hix
  clear hfn
  have hin : i < n := by have := (List.getElem?_eq_some_iff.1 hfi).1; have := h.at_.len; omega
  obtain ⟨f'', b, q, hf2, hidx, hb, e0, e1, e2⟩ := h.at_.get Try.underlying24 infoIF i hin
  rw [hfi] at hf2
  cases hf2
  have hi0 : (i : Int) < (n : Int) := by omega
  have HIX := hide hix
  have R := hide (actL_out (show outL fs ⟨kd, nm, [], []⟩ = none by unfold outL; rw [if_neg hk1, hfa]; simp only []; rw [if_neg hk2, if_neg hk3, if_neg hk4]))
  have g1 : (kd != 3) = true := by simp [hk3]
  have g2 : (kd != 1) = true := by simp [hk1]
  have g3 : (kd == 1) = false := by simp [hk1]
  have g4 : (kd == 2) = false := by simp [hk2]
  have g5 : (kd == 3) = false := by simp [hk3]
  have g6 : (kd == 4) = false := by simp [hk4]
  clear h hok hform o2 hfo hm hn hfa hfi hix hk1 hk2 hk3 hk4
  go_enter Try.func23, Try.ntmps23
  go_wp2_with fail
  refine (specDiskOk_any oa n cap fs _ (HH.out.at_.below HB0.out) HH.out.fine).mono ?_
  rw [HOK.out]
  rintro e w2 ⟨rfl, hb2⟩
  have A2 := at3_of hb2
  have cu0 := A2.d0
  have cu1 := A2.a0
  have cu2 := A2.a1
  have cu3 := A2.a2
  have cu4 := A2.a3
  have cu5 := A2.r0
  have cu6 := A2.r1
  have HA2 := hide A2
  clear A2 hb2
  go_wp2_with (first
    | (go_at_call 46; refine (l03Name_any nm (by omega) _).mono ?_; rw [HNM.out]; rintro e wx ⟨rfl, hwx⟩; obtain rfl := hwx.symm)
    | (go_at_call 47; refine (l03At_any oa n cap fs nm _ (HH.out.at_.below HA2.out.bel)).mono ?_; rw [HIX.out]; rintro e w3 ⟨rfl, hb3⟩; have A3 := HA2.out.on hb3 HA2.out.big; have m0 := A3.d0; have m1 := A3.a0; have m2 := A3.a1; have m3 := A3.a2; have m4 := A3.a3; have m5 := A3.r0; have m6 := A3.r1; have m7 : w.heap.size + 3 ≤ w3.heap.size := A3.big; have m8 : w.heap.size < w3.heap.size := (by omega); have m9 : w.heap.size + 1 < w3.heap.size := (by omega); have m10 : w.heap.size + 1 + 1 < w3.heap.size := (by omega); have x0 := (A3.bel.cell hb).trans e0; have x1 := (A3.bel.cell hb).trans e1; have x2 := (A3.bel.cell hb).trans e2; have hb3lt := Nat.lt_of_lt_of_le hb A3.bel.size))
  have hr : (w3.setCell ⟨w.heap.size + 1 + 1, 0, none⟩ (.slice none 0 0)).cell? ⟨w.heap.size + 1 + 1, 0, none⟩ = some (.slice none 0 0) := World.cell?_setCell_same _ _ _ m5
  have hS := A3.bel.setCell (p := ⟨w.heap.size + 1 + 1, 0, none⟩) (by simp; omega) (.slice none 0 0)
  have hsz : w.heap.size + 1 + 1 < (w3.setCell ⟨w.heap.size + 1 + 1, 0, none⟩ (.slice none 0 0)).heap.size := Nat.lt_of_lt_of_le m10 ((Below.refl 0 w3).setCell (Nat.zero_le _) _).size
  have hr2 : ∀ X Y : Obj, (((w3.setCell ⟨w.heap.size + 1 + 1, 0, none⟩ (.slice none 0 0)).alloc X).alloc Y).cell? ⟨w.heap.size + 1 + 1, 0, none⟩ = some (.slice none 0 0) := fun X Y => ((((Below.refl _ (w3.setCell ⟨w.heap.size + 1 + 1, 0, none⟩ (.slice none 0 0))).alloc (Nat.le_refl _) X).alloc (by simp) Y).cell hsz).trans hr
  refine bodyPost_ret (v := .tuple #[.agg #[.slice none 0 0], .bool false]) (by simp [results, Try.results23, go_sem, hr2]) rfl (DiskRes.no R.out ?_)
  exact (hS.alloc hS.size _).alloc (hS.alloc hS.size _).size _

set_option maxRecDepth 100000 in
set_option maxHeartbeats 1000000 in
theorem specDoAct_move1 (oa : Option Addr) (n cap : Nat) (fs : List FileV) (nm tt : List UInt8) (w : World) (h : ActIn w oa n cap fs ⟨3, nm, [], tt⟩) (hok : diskOk fs = true) (hform : actForm ⟨3, nm, [], tt⟩) (f : FileV) (hfa : fileAt fs nm = some f) (hk : f.kept < (f.text.length : Int)) :
    Calls Try.prog 23 #[.agg #[.slice oa n cap], aval ⟨3, nm, [], tt⟩] w fun e w' => DiskRes w ((actL fs ⟨3, nm, [], tt⟩).getD []) (actL fs ⟨3, nm, [], tt⟩).isSome e w' := by
  obtain ⟨b1, b2, b3, b4⟩ := h.act
  simp only at b1 b2 b3
  obtain ⟨o1, o2, o3⟩ := (diskOk_iff fs).1 hok
  have HH := hide h
  have HOK := hide hok
  have HNM := hide hform.1
  have HO2 := hide o2
  have hn30 : n ≤ 30 := by have := h.at_.len; omega
  have HB0 := hide (blk3_below w oa n cap 3 nm [] tt)
  unfold aval
  simp only
  obtain ⟨hm, hn⟩ := fileAt_some hfa
  have hfo := (fileOk_iff f).1 (o2 f hm)
  have hl20 := hfo.2.1
  have hix := atFrom_spec nm fs 0
  rw [hfa] at hix
  simp only [Nat.zero_add, reduceCtorEq, and_false, false_or, Option.some.injEq] at hix
  obtain ⟨i, f', hix, hfi, rfl, hfn⟩ := hix
  clear hfn
  have hin : i < n := by have := (List.getElem?_eq_some_iff.1 hfi).1; have := h.at_.len; omega
  obtain ⟨f'', b, q, hf2, hidx, hb, e0, e1, e2⟩ := h.at_.get Try.underlying24 infoIF i hin
  rw [hfi] at hf2
  cases hf2
  have hi0 : (i : Int) < (n : Int) := by omega
  have HIX := hide hix
  have R := hide (actL_out (show outL fs ⟨3, nm, [], tt⟩ = none by unfold outL; rw [if_neg (by simp), hfa]; simp only []; rw [if_neg (by simp), if_pos trivial, if_pos (by exact .inl hk)]))
  have g1 : decide (f.kept < (f.text.length : Int)) = true := by simpa using hk
  clear h hok hform o2 hfo hm hn hfa hfi hix hk
  go_enter Try.func23, Try.ntmps23
  go_wp2_with fail
  refine (specDiskOk_any oa n cap fs _ (HH.out.at_.below HB0.out) HH.out.fine).mono ?_
  rw [HOK.out]
  rintro e w2 ⟨rfl, hb2⟩
  have A2 := at3_of hb2
  have cu0 := A2.d0
  have cu1 := A2.a0
  have cu2 := A2.a1
  have cu3 := A2.a2
  have cu4 := A2.a3
  have cu5 := A2.r0
  have cu6 := A2.r1
  have HA2 := hide A2
  clear A2 hb2
  go_wp2_with (first
    | (go_at_call 46; refine (l03Name_any nm (by omega) _).mono ?_; rw [HNM.out]; rintro e wx ⟨rfl, hwx⟩; obtain rfl := hwx.symm)
    | (go_at_call 47; refine (l03At_any oa n cap fs nm _ (HH.out.at_.below HA2.out.bel)).mono ?_; rw [HIX.out]; rintro e w3 ⟨rfl, hb3⟩; have A3 := HA2.out.on hb3 HA2.out.big; have m0 := A3.d0; have m1 := A3.a0; have m2 := A3.a1; have m3 := A3.a2; have m4 := A3.a3; have m5 := A3.r0; have m6 := A3.r1; have m7 : w.heap.size + 3 ≤ w3.heap.size := A3.big; have m8 : w.heap.size < w3.heap.size := (by omega); have m9 : w.heap.size + 1 < w3.heap.size := (by omega); have m10 : w.heap.size + 1 + 1 < w3.heap.size := (by omega); have x0 := (A3.bel.cell hb).trans e0; have x1 := (A3.bel.cell hb).trans e1; have x2 := (A3.bel.cell hb).trans e2; have hb3lt := Nat.lt_of_lt_of_le hb A3.bel.size))
  have hr : (w3.setCell ⟨w.heap.size + 1 + 1, 0, none⟩ (.slice none 0 0)).cell? ⟨w.heap.size + 1 + 1, 0, none⟩ = some (.slice none 0 0) := World.cell?_setCell_same _ _ _ m5
  have hS := A3.bel.setCell (p := ⟨w.heap.size + 1 + 1, 0, none⟩) (by simp; omega) (.slice none 0 0)
  have hsz : w.heap.size + 1 + 1 < (w3.setCell ⟨w.heap.size + 1 + 1, 0, none⟩ (.slice none 0 0)).heap.size := Nat.lt_of_lt_of_le m10 ((Below.refl 0 w3).setCell (Nat.zero_le _) _).size
  have hr2 : ∀ X Y : Obj, (((w3.setCell ⟨w.heap.size + 1 + 1, 0, none⟩ (.slice none 0 0)).alloc X).alloc Y).cell? ⟨w.heap.size + 1 + 1, 0, none⟩ = some (.slice none 0 0) := fun X Y => ((((Below.refl _ (w3.setCell ⟨w.heap.size + 1 + 1, 0, none⟩ (.slice none 0 0))).alloc (Nat.le_refl _) X).alloc (by simp) Y).cell hsz).trans hr
  refine bodyPost_ret (v := .tuple #[.agg #[.slice none 0 0], .bool false]) (by simp [results, Try.results23, go_sem, hr2]) rfl (DiskRes.no R.out ?_)
  exact (hS.alloc hS.size _).alloc (hS.alloc hS.size _).size _

set_option maxRecDepth 100000 in
set_option maxHeartbeats 1000000 in
theorem specDoAct_move3 (oa : Option Addr) (n cap : Nat) (fs : List FileV) (nm tt : List UInt8) (w : World) (h : ActIn w oa n cap fs ⟨3, nm, [], tt⟩) (hok : diskOk fs = true) (hform : actForm ⟨3, nm, [], tt⟩) (f : FileV) (hfa : fileAt fs nm = some f) (hk : ¬ f.kept < (f.text.length : Int)) (hne : tt ≠ nm) (hno : nameOk tt = false) :
    Calls Try.prog 23 #[.agg #[.slice oa n cap], aval ⟨3, nm, [], tt⟩] w fun e w' => DiskRes w ((actL fs ⟨3, nm, [], tt⟩).getD []) (actL fs ⟨3, nm, [], tt⟩).isSome e w' := by
  obtain ⟨b1, b2, b3, b4⟩ := h.act
  simp only at b1 b2 b3
  obtain ⟨o1, o2, o3⟩ := (diskOk_iff fs).1 hok
  have HH := hide h
  have HOK := hide hok
  have HNM := hide hform.1
  have HO2 := hide o2
  have hn30 : n ≤ 30 := by have := h.at_.len; omega
  have HB0 := hide (blk3_below w oa n cap 3 nm [] tt)
  unfold aval
  simp only
  obtain ⟨hm, hn⟩ := fileAt_some hfa
  have hfo := (fileOk_iff f).1 (o2 f hm)
  have hl20 := hfo.2.1
  have hix := atFrom_spec nm fs 0
  rw [hfa] at hix
  simp only [Nat.zero_add, reduceCtorEq, and_false, false_or, Option.some.injEq] at hix
  obtain ⟨i, f', hix, hfi, rfl, hfn⟩ := hix
  clear hfn
  have hin : i < n := by have := (List.getElem?_eq_some_iff.1 hfi).1; have := h.at_.len; omega
  obtain ⟨f'', b, q, hf2, hidx, hb, e0, e1, e2⟩ := h.at_.get Try.underlying24 infoIF i hin
  rw [hfi] at hf2
  cases hf2
  have hi0 : (i : Int) < (n : Int) := by omega
  have HIX := hide hix
  have R := hide (actL_out (show outL fs ⟨3, nm, [], tt⟩ = none by unfold outL; rw [if_neg (by simp), hfa]; simp only []; rw [if_neg (by simp), if_pos trivial, if_pos (by exact .inr (.inr hno))]))
  have g1 : decide (f.kept < (f.text.length : Int)) = false := by simpa using hk
  have g2 : (tt == nm) = false := by simp [hne]
  have HNO := hide hno
  clear h hok hform o2 hfo hm hn hfa hfi hix hk hne hno
  go_enter Try.func23, Try.ntmps23
  go_wp2_with fail
  refine (specDiskOk_any oa n cap fs _ (HH.out.at_.below HB0.out) HH.out.fine).mono ?_
  rw [HOK.out]
  rintro e w2 ⟨rfl, hb2⟩
  have A2 := at3_of hb2
  have cu0 := A2.d0
  have cu1 := A2.a0
  have cu2 := A2.a1
  have cu3 := A2.a2
  have cu4 := A2.a3
  have cu5 := A2.r0
  have cu6 := A2.r1
  have HA2 := hide A2
  clear A2 hb2
  go_wp2_with (first
    | (go_at_call 46; first | (refine (l03Name_any nm (by omega) _).mono ?_; rw [HNM.out]; rintro e wx ⟨rfl, hwx⟩; obtain rfl := hwx.symm) | (refine (l03Name_any tt (by omega) _).mono ?_; rw [HNO.out]; rintro e wx ⟨rfl, hwx⟩; obtain rfl := hwx.symm))
    | (go_at_call 47; refine (l03At_any oa n cap fs nm _ (HH.out.at_.below HA2.out.bel)).mono ?_; rw [HIX.out]; rintro e w3 ⟨rfl, hb3⟩; have A3 := HA2.out.on hb3 HA2.out.big; have m0 := A3.d0; have m1 := A3.a0; have m2 := A3.a1; have m3 := A3.a2; have m4 := A3.a3; have m5 := A3.r0; have m6 := A3.r1; have m7 : w.heap.size + 3 ≤ w3.heap.size := A3.big; have m8 : w.heap.size < w3.heap.size := (by omega); have m9 : w.heap.size + 1 < w3.heap.size := (by omega); have m10 : w.heap.size + 1 + 1 < w3.heap.size := (by omega); have x0 := (A3.bel.cell hb).trans e0; have x1 := (A3.bel.cell hb).trans e1; have x2 := (A3.bel.cell hb).trans e2; have hb3lt := Nat.lt_of_lt_of_le hb A3.bel.size))
  have hr : (w3.setCell ⟨w.heap.size + 1 + 1, 0, none⟩ (.slice none 0 0)).cell? ⟨w.heap.size + 1 + 1, 0, none⟩ = some (.slice none 0 0) := World.cell?_setCell_same _ _ _ m5
  have hS := A3.bel.setCell (p := ⟨w.heap.size + 1 + 1, 0, none⟩) (by simp; omega) (.slice none 0 0)
  have hsz : w.heap.size + 1 + 1 < (w3.setCell ⟨w.heap.size + 1 + 1, 0, none⟩ (.slice none 0 0)).heap.size := Nat.lt_of_lt_of_le m10 ((Below.refl 0 w3).setCell (Nat.zero_le _) _).size
  have hr2 : ∀ X Y : Obj, (((w3.setCell ⟨w.heap.size + 1 + 1, 0, none⟩ (.slice none 0 0)).alloc X).alloc Y).cell? ⟨w.heap.size + 1 + 1, 0, none⟩ = some (.slice none 0 0) := fun X Y => ((((Below.refl _ (w3.setCell ⟨w.heap.size + 1 + 1, 0, none⟩ (.slice none 0 0))).alloc (Nat.le_refl _) X).alloc (by simp) Y).cell hsz).trans hr
  refine bodyPost_ret (v := .tuple #[.agg #[.slice none 0 0], .bool false]) (by simp [results, Try.results23, go_sem, hr2]) rfl (DiskRes.no R.out ?_)
  exact (hS.alloc hS.size _).alloc (hS.alloc hS.size _).size _

set_option maxRecDepth 100000 in
set_option maxHeartbeats 1000000 in
theorem specDoAct_move2 (oa : Option Addr) (n cap : Nat) (fs : List FileV) (nm : List UInt8) (w : World) (h : ActIn w oa n cap fs ⟨3, nm, [], nm⟩) (hok : diskOk fs = true) (hform : actForm ⟨3, nm, [], nm⟩) (f : FileV) (hfa : fileAt fs nm = some f) (hk : ¬ f.kept < (f.text.length : Int)) :
    Calls Try.prog 23 #[.agg #[.slice oa n cap], aval ⟨3, nm, [], nm⟩] w fun e w' => DiskRes w ((actL fs ⟨3, nm, [], nm⟩).getD []) (actL fs ⟨3, nm, [], nm⟩).isSome e w' := by
  obtain ⟨b1, b2, b3, b4⟩ := h.act
  simp only at b1 b2 b3
  obtain ⟨o1, o2, o3⟩ := (diskOk_iff fs).1 hok
  have HH := hide h
  have HOK := hide hok
  have HNM := hide hform.1
  have HO2 := hide o2
  have hn30 : n ≤ 30 := by have := h.at_.len; omega
  have HB0 := hide (blk3_below w oa n cap 3 nm [] nm)
  unfold aval
  simp only
  obtain ⟨hm, hn⟩ := fileAt_some hfa
  have hfo := (fileOk_iff f).1 (o2 f hm)
  have hl20 := hfo.2.1
  have hix := atFrom_spec nm fs 0
  rw [hfa] at hix
  simp only [Nat.zero_add, reduceCtorEq, and_false, false_or, Option.some.injEq] at hix
  obtain ⟨i, f', hix, hfi, rfl, hfn⟩ := hix
  clear hfn
  have hin : i < n := by have := (List.getElem?_eq_some_iff.1 hfi).1; have := h.at_.len; omega
  obtain ⟨f'', b, q, hf2, hidx, hb, e0, e1, e2⟩ := h.at_.get Try.underlying24 infoIF i hin
  rw [hfi] at hf2
  cases hf2
  have hi0 : (i : Int) < (n : Int) := by omega
  have HIX := hide hix
  have R := hide (actL_out (show outL fs ⟨3, nm, [], nm⟩ = none by unfold outL; rw [if_neg (by simp), hfa]; simp only []; rw [if_neg (by simp), if_pos trivial, if_pos (by simp)]))
  have g1 : decide (f.kept < (f.text.length : Int)) = false := by simpa using hk
  clear h hok hform o2 hfo hm hn hfa hfi hix hk
  go_enter Try.func23, Try.ntmps23
  go_wp2_with fail
  refine (specDiskOk_any oa n cap fs _ (HH.out.at_.below HB0.out) HH.out.fine).mono ?_
  rw [HOK.out]
  rintro e w2 ⟨rfl, hb2⟩
  have A2 := at3_of hb2
  have cu0 := A2.d0
  have cu1 := A2.a0
  have cu2 := A2.a1
  have cu3 := A2.a2
  have cu4 := A2.a3
  have cu5 := A2.r0
  have cu6 := A2.r1
  have HA2 := hide A2
  clear A2 hb2
  go_wp2_with (first
    | (go_at_call 46; refine (l03Name_any nm (by omega) _).mono ?_; rw [HNM.out]; rintro e wx ⟨rfl, hwx⟩; obtain rfl := hwx.symm)
    | (go_at_call 47; refine (l03At_any oa n cap fs nm _ (HH.out.at_.below HA2.out.bel)).mono ?_; rw [HIX.out]; rintro e w3 ⟨rfl, hb3⟩; have A3 := HA2.out.on hb3 HA2.out.big; have m0 := A3.d0; have m1 := A3.a0; have m2 := A3.a1; have m3 := A3.a2; have m4 := A3.a3; have m5 := A3.r0; have m6 := A3.r1; have m7 : w.heap.size + 3 ≤ w3.heap.size := A3.big; have m8 : w.heap.size < w3.heap.size := (by omega); have m9 : w.heap.size + 1 < w3.heap.size := (by omega); have m10 : w.heap.size + 1 + 1 < w3.heap.size := (by omega); have x0 := (A3.bel.cell hb).trans e0; have x1 := (A3.bel.cell hb).trans e1; have x2 := (A3.bel.cell hb).trans e2; have hb3lt := Nat.lt_of_lt_of_le hb A3.bel.size))
  have hr : (w3.setCell ⟨w.heap.size + 1 + 1, 0, none⟩ (.slice none 0 0)).cell? ⟨w.heap.size + 1 + 1, 0, none⟩ = some (.slice none 0 0) := World.cell?_setCell_same _ _ _ m5
  have hS := A3.bel.setCell (p := ⟨w.heap.size + 1 + 1, 0, none⟩) (by simp; omega) (.slice none 0 0)
  have hsz : w.heap.size + 1 + 1 < (w3.setCell ⟨w.heap.size + 1 + 1, 0, none⟩ (.slice none 0 0)).heap.size := Nat.lt_of_lt_of_le m10 ((Below.refl 0 w3).setCell (Nat.zero_le _) _).size
  have hr2 : ∀ X Y : Obj, (((w3.setCell ⟨w.heap.size + 1 + 1, 0, none⟩ (.slice none 0 0)).alloc X).alloc Y).cell? ⟨w.heap.size + 1 + 1, 0, none⟩ = some (.slice none 0 0) := fun X Y => ((((Below.refl _ (w3.setCell ⟨w.heap.size + 1 + 1, 0, none⟩ (.slice none 0 0))).alloc (Nat.le_refl _) X).alloc (by simp) Y).cell hsz).trans hr
  refine bodyPost_ret (v := .tuple #[.agg #[.slice none 0 0], .bool false]) (by simp [results, Try.results23, go_sem, hr2]) rfl (DiskRes.no R.out ?_)
  exact (hS.alloc hS.size _).alloc (hS.alloc hS.size _).size _

set_option maxRecDepth 100000 in
set_option maxHeartbeats 2000000 in
theorem specDoAct_move (oa : Option Addr) (n cap : Nat) (fs : List FileV) (nm tt : List UInt8) (w : World) (h : ActIn w oa n cap fs ⟨3, nm, [], tt⟩) (hok : diskOk fs = true) (hform : actForm ⟨3, nm, [], tt⟩) (f : FileV) (hfa : fileAt fs nm = some f) (hk : ¬ f.kept < (f.text.length : Int)) (hne : tt ≠ nm) (hno : nameOk tt = true) :
    Calls Try.prog 23 #[.agg #[.slice oa n cap], aval ⟨3, nm, [], tt⟩] w fun e w' => DiskRes w ((actL fs ⟨3, nm, [], tt⟩).getD []) (actL fs ⟨3, nm, [], tt⟩).isSome e w' := by
  obtain ⟨b1, b2, b3, b4⟩ := h.act
  simp only at b1 b2 b3
  obtain ⟨o1, o2, o3⟩ := (diskOk_iff fs).1 hok
  have HH := hide h
  have HOK := hide hok
  have HNM := hide hform.1
  have HO2 := hide o2
  have hn30 : n ≤ 30 := by have := h.at_.len; omega
  have HB0 := hide (blk3_below w oa n cap 3 nm [] tt)
  unfold aval
  simp only
  obtain ⟨hm, hn⟩ := fileAt_some hfa
  have hfo := (fileOk_iff f).1 (o2 f hm)
  have hl20 := hfo.2.1
  have hix := atFrom_spec nm fs 0
  rw [hfa] at hix
  simp only [Nat.zero_add, reduceCtorEq, and_false, false_or, Option.some.injEq] at hix
  obtain ⟨i, f', hix, hfi, rfl, hfn⟩ := hix
  clear hfn
  have hin : i < n := by have := (List.getElem?_eq_some_iff.1 hfi).1; have := h.at_.len; omega
  obtain ⟨f'', b, q, hf2, hidx, hb, e0, e1, e2⟩ := h.at_.get Try.underlying24 infoIF i hin
  rw [hfi] at hf2
  cases hf2
  have hi0 : (i : Int) < (n : Int) := by omega
  have HIX := hide hix
  have R := hide (actL_eq hok hform (gs := put (without fs nm) (named f tt)) (by unfold outL; rw [if_neg (by simp), hfa]; simp only []; rw [if_neg (by simp), if_pos trivial, if_neg (by rintro (k | k | k); exact hk k; exact hne k; rw [hno] at k; cases k)]))
  have HGF := hide (show ∀ g ∈ put (without fs nm) (named f tt), Fine g by
    intro g hg
    rcases mem_put hg with rfl | hg
    · have hff := fine_ok (o2 f hm)
      exact ⟨by simp [named]; omega, hff.2.1, hff.2.2⟩
    · exact fine_ok (o2 g (mem_without hg)))
  have g1 : decide (f.kept < (f.text.length : Int)) = false := by simpa using hk
  have g2 : (tt == nm) = false := by simp [hne]
  have HNO := hide hno
  have hlw : (without fs nm).length ≤ 30 := Nat.le_trans (List.length_filter_le _ _) o1
  clear h hok hform o2 hfo hm hn hfa hfi hix hk hne hno
  go_enter Try.func23, Try.ntmps23
  go_wp2_with fail
  refine (specDiskOk_any oa n cap fs _ (HH.out.at_.below HB0.out) HH.out.fine).mono ?_
  rw [HOK.out]
  rintro e w2 ⟨rfl, hb2⟩
  have A2 := at3_of hb2
  have cu0 := A2.d0
  have cu1 := A2.a0
  have cu2 := A2.a1
  have cu3 := A2.a2
  have cu4 := A2.a3
  have cu5 := A2.r0
  have cu6 := A2.r1
  have HA2 := hide A2
  clear A2 hb2
  go_upto_region 21 with (first
    | (go_at_call 46; first | (refine (l03Name_any nm (by omega) _).mono ?_; rw [HNM.out]; rintro e wx ⟨rfl, hwx⟩; obtain rfl := hwx.symm) | (refine (l03Name_any tt (by omega) _).mono ?_; rw [HNO.out]; rintro e wx ⟨rfl, hwx⟩; obtain rfl := hwx.symm))
    | (go_at_call 47; refine (l03At_any oa n cap fs nm _ (HH.out.at_.below HA2.out.bel)).mono ?_; rw [HIX.out]; rintro e w3 ⟨rfl, hb3⟩; have A3 := HA2.out.on hb3 HA2.out.big; have m0 := A3.d0; have m1 := A3.a0; have m2 := A3.a1; have m3 := A3.a2; have m4 := A3.a3; have m5 := A3.r0; have m6 := A3.r1; have m7 : w.heap.size + 3 ≤ w3.heap.size := A3.big; have m8 : w.heap.size < w3.heap.size := (by omega); have m9 : w.heap.size + 1 < w3.heap.size := (by omega); have m10 : w.heap.size + 1 + 1 < w3.heap.size := (by omega); have x0 := (A3.bel.cell hb).trans e0; have x1 := (A3.bel.cell hb).trans e1; have x2 := (A3.bel.cell hb).trans e2; have hb3lt := Nat.lt_of_lt_of_le hb A3.bel.size))
  have hb4 : Below w3.heap.size w3 ((w3.alloc (.cells #[.string ⟨tt.toArray⟩, .string ⟨f.text.toArray⟩, .int .i64 f.kept] 49)).alloc (.cells #[.slice none 0 0] 26)) := ((Below.refl _ w3).alloc (Nat.le_refl _) _).alloc (by simp) _
  have A4 := A3.on hb4 A3.big
  have hY : ((w3.alloc (.cells #[.string ⟨tt.toArray⟩, .string ⟨f.text.toArray⟩, .int .i64 f.kept] 49)).alloc (.cells #[.slice none 0 0] 26)).heap[w3.heap.size + 1]? = some (.cells #[.slice none 0 0] 26 (0, 0)) := by
    have := heap_alloc_new (w3.alloc (.cells #[.string ⟨tt.toArray⟩, .string ⟨f.text.toArray⟩, .int .i64 f.kept] 49)) (.cells #[.slice none 0 0] 26)
    rwa [World.size_alloc] at this
  have hX : ((w3.alloc (.cells #[.string ⟨tt.toArray⟩, .string ⟨f.text.toArray⟩, .int .i64 f.kept] 49)).alloc (.cells #[.slice none 0 0] 26)).heap[w3.heap.size]? = some (.cells #[.string ⟨tt.toArray⟩, .string ⟨f.text.toArray⟩, .int .i64 f.kept] 49 (0, 0)) := (Below.heap_alloc _ _ _ (by simp)).trans (heap_alloc_new w3 _)
  have hs4 : ((w3.alloc (.cells #[.string ⟨tt.toArray⟩, .string ⟨f.text.toArray⟩, .int .i64 f.kept] 49)).alloc (.cells #[.slice none 0 0] 26)).heap.size = w3.heap.size + 2 := by simp
  obtain ⟨W4, hW4⟩ : ∃ W4, W4 = ((w3.alloc (.cells #[.string ⟨tt.toArray⟩, .string ⟨f.text.toArray⟩, .int .i64 f.kept] 49)).alloc (.cells #[.slice none 0 0] 26)) := ⟨_, rfl⟩
  rw [← hW4] at A4 hY hX hs4 ⊢
  clear hW4 hb4 x0 x1 x2 m0 m1 m2 m3 m4 m5 m6
  have p0 := A4.d0
  have p1 := A4.a1
  have q0 := cell_of_row W4 _ 0 _ _ _ hX
  have q1 := cell_of_row W4 _ 1 _ _ _ hX
  have q2 := cell_of_row W4 _ 2 _ _ _ hX
  have HAT4 := hide (HH.out.at_.below A4.bel)
  have hlt4 : w3.heap.size < W4.heap.size := by omega
  have hlt5 : w3.heap.size + 1 < W4.heap.size := by omega
  have HY := hide hY
  have HX := hide hX
  clear hY hX
  go_region_law (first
    | (rw [if_pos (by rfl)]; go_simp; go_at_call 48; refine (l03Without_any oa n cap fs nm _ (HAT4.out.below ((Below.refl _ _).drew)) (by omega)).mono ?_; rintro e w5 ⟨v1, rfl, ho5, hb5'⟩; have hb5 : Below W4.heap.size W4 w5 := below_undrew hb5'; obtain ⟨ov1, cv1, rfl, hat5⟩ := filesAt_of_own ho5; have r0 := row_cell hb5 hlt4 HX.out 0; have r1 := row_cell hb5 hlt4 HX.out 1; have r2 := row_cell hb5 hlt4 HX.out 2; have HAT5 := hide hat5; clear hat5 ho5 hb5')
    | (rw [if_pos (by rfl)]; go_simp; go_at_call 30; refine (l03Put_any ov1 (without fs nm).length cv1 (without fs nm) (named f tt) _ (by exact HAT5.out) (by omega)).mono ?_; rintro e w6 ⟨v2, rfl, ho6, hb6⟩; have hb46 : Below W4.heap.size W4 w6 := hb5.trans (hb6.mono hb5.size); obtain ⟨ov, cv, rfl⟩ := own_form ho6; have y0 := row_cell hb46 hlt5 HY.out 0; have y1 := row_free hb46 hlt5 HY.out 0))
  all_goals
    have ho5 := own_base ho6 hb5.size
    have A5 := A4.on hb46 (by omega)
    obtain ⟨oa6, cap6, heq6, hat6⟩ := filesAt_of_own (own_setCell ho5 (p := ⟨w3.heap.size + 1, 0, none⟩) (by simp; omega) (.slice ov (put (without fs nm) (named f tt)).length cv))
    cases heq6
    have b6 : Below (w3.heap.size + 1) w6 (w6.setCell ⟨w3.heap.size + 1, 0, none⟩ (.slice ov (put (without fs nm) (named f tt)).length cv)) := (Below.refl _ _).setCell (p := ⟨w3.heap.size + 1, 0, none⟩) (Nat.le_refl _) _
    have A6 := A5.on b6 (by omega)
    have HAT6 := hide hat6
    have HA6 := hide A6
    have HO5 := hide ho5
    have s4 : w3.heap.size + 2 ≤ w6.heap.size := by have := hb46.size; omega
    clear hat6 ho5 ho6 hb5 hb6 hb46 A4 A5 A6 b6 r0 r1 r2 q0 q1 q2 p0 p1
    go_wp2_with fail
    refine (specDiskOk_any ov (put (without fs nm) (named f tt)).length cv (put (without fs nm) (named f tt)) _ HAT6.out HGF.out).mono ?_
    cases hd : diskOk (put (without fs nm) (named f tt)) with
    | false =>
      have RD := hide (show actL fs ⟨3, nm, [], tt⟩ = none by rw [R.out, if_neg (by rw [hd]; simp)])
      rintro e w7 ⟨rfl, hb7⟩
      have A7 := HA6.out.on hb7 HA6.out.big
      have k1 := A7.r0
      have q1 := A7.r1
      clear hd
      go_wp2_with fail
      refine bodyPost_ret (v := .tuple #[.agg #[.slice none 0 0], .bool false]) (by simp [results, Try.results23, go_sem, k1, q1]) rfl (DiskRes.no RD.out ?_)
      exact A7.bel.setCell (by simp; omega) _
    | true =>
      have RD := hide (show actL fs ⟨3, nm, [], tt⟩ = some (put (without fs nm) (named f tt)) by rw [R.out, if_pos hd])
      rintro e w7 ⟨rfl, hb7⟩
      have A7 := HA6.out.on hb7 HA6.out.big
      have k1 := A7.r0
      have q1 := A7.r1
      have z0 : w7.cell? ⟨w3.heap.size + 1, 0, none⟩ = some (.slice ov (put (without fs nm) (named f tt)).length cv) := (hb7.cell (by simp; omega)).trans (World.cell?_setCell_same _ _ _ y0)
      clear hd
      go_wp2_with fail
      refine bodyPost_ret (v := .tuple #[.agg #[.slice ov (put (without fs nm) (named f tt)).length cv], .bool true]) (by simp [results, Try.results23, go_sem, k1, q1]) rfl (DiskRes.yes RD.out ?_ ?_)
      · have h1 := own_below (own_setCell HO5.out (p := ⟨w3.heap.size + 1, 0, none⟩) (by simp; omega) (.slice ov (put (without fs nm) (named f tt)).length cv)) hb7
        exact own_base (own_setCell h1 (by simp; omega) _) (by omega)
      · exact A7.bel.setCell (by simp; omega) _

theorem specDoAct_any (oa : Option Addr) (n cap : Nat) (fs : List FileV) (a : ActV) (w : World) (hat : FilesAt w oa n cap fs) (hw : ∀ f ∈ fs, Fine f) (ha : ActFine a) :
    Calls Try.prog 23 #[.agg #[.slice oa n cap], aval a] w fun e w' => DiskRes w ((actL fs a).getD []) (actL fs a).isSome e w' := by
  obtain ⟨kd, nm, tx, tt⟩ := a
  have h : ActIn w oa n cap fs ⟨kd, nm, tx, tt⟩ := ⟨hat, hw, ha⟩
  by_cases hno : diskOk fs = true ∧ actForm ⟨kd, nm, tx, tt⟩
  · obtain ⟨hok, hf⟩ := hno
    obtain ⟨f1, f2, f3⟩ := hf
    simp only at f1 f2 f3
    have hf : actForm ⟨kd, nm, tx, tt⟩ := ⟨f1, f2, f3⟩
    by_cases k1 : kd = 1
    · subst k1
      obtain rfl : tt = [] := f2.resolve_left (by decide)
      cases hfa : fileAt fs nm with
      | none => exact specDoAct_new oa n cap fs nm tx w h hok hf hfa
      | some f => exact specDoAct_add oa n cap fs nm tx w h hok hf f hfa
    · obtain rfl : tx = [] := f3.resolve_left k1
      by_cases k3 : kd = 3
      · subst k3
        cases hfa : fileAt fs nm with
        | none => exact specDoAct_none3 oa n cap fs nm tt w h hok hf hfa
        | some f =>
          by_cases g1 : f.kept < (f.text.length : Int)
          · exact specDoAct_move1 oa n cap fs nm tt w h hok hf f hfa g1
          · by_cases g2 : tt = nm
            · subst g2
              exact specDoAct_move2 oa n cap fs tt w h hok hf f hfa g1
            · cases g3 : nameOk tt with
              | false => exact specDoAct_move3 oa n cap fs nm tt w h hok hf f hfa g1 g2 g3
              | true => exact specDoAct_move oa n cap fs nm tt w h hok hf f hfa g1 g2 g3
      · obtain rfl : tt = [] := f2.resolve_left k3
        cases hfa : fileAt fs nm with
        | none => exact specDoAct_none oa n cap fs kd nm w h hok hf k1 k3 hfa
        | some f =>
          by_cases k2 : kd = 2
          · subst k2
            exact specDoAct_keep oa n cap fs nm w h hok hf f hfa
          · by_cases k4 : kd = 4
            · subst k4
              exact specDoAct_drop oa n cap fs nm w h hok hf f hfa
            · exact specDoAct_kind oa n cap fs kd nm w h hok hf k1 k2 k3 k4 f hfa
  · exact specDoAct_off oa n cap fs kd nm tx tt w h hno

end Go.Proofs.Ytdcdlfkbdeogeaa
