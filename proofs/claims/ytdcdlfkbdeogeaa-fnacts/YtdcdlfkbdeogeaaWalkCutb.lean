/-
  Walks of chapter 3: CutActs, on a disk that may be nil.
-/
import Derived.Test.YtdcdlfkbdeogeaaWalkCut
import Derived.Test.YtdcdlfkbdeogeaaPack42
namespace Go.Proofs.Ytdcdlfkbdeogeaa
open Go.RowKit P5 K Kp
set_option linter.unusedVariables false
set_option linter.unusedSimpArgs false

set_option maxRecDepth 100000 in
set_option maxHeartbeats 2000000 in
theorem implCutActs_opt (oa : Option Addr) (n cap : Nat) (fs : List FileV) (gB m cap' : Nat) (acs : List ActV) (whole : Int) (oc : Option Addr) (l cl : Nat) (left : List Int) (w : World) (hat : FilesAt w oa n cap fs) (hw : ∀ f ∈ fs, Fine f) (hbt : ActsAt w (some ⟨gB, 0, none⟩) m cap' acs) (ha : ∀ a ∈ acs, ActFine a) (hct : IntsAt w oc l cl left) (hn20 : n ≤ 1048576) (hm20 : m ≤ 1048576) (hl20 : l ≤ 1048576) :
    Calls Try.prog 11 #[.agg #[.slice oa n cap], .slice (some ⟨gB, 0, none⟩) m cap', .int .i64 whole, .slice oc l cl] w fun e w' => DiskRes w (cutD fs acs whole left).1 (cutD fs acs whole left).2 e w' := by
  have hX : Cut0 w (.slice oa n cap) ((w.alloc (.cells #[.slice oa n cap] 26)).alloc (.cells #[.slice none 0 0] 26)) := cut0_new w _
  have hm0 := hbt.room
  have hm1 := hbt.most
  unfold maxLen at hm1
  have HX := hide hX
  have HAT := hide hat
  have HBT := hide hbt
  have HCT := hide hct
  have HW := hide hw
  have HA := hide ha
  clear hX hat hbt hct hw ha
  by_cases hoff : whole < 0 ∨ (m : Int) < whole
  · have R := hide (cutD_off (fs := fs) (left := left) (show whole < 0 ∨ (acs.length : Int) < whole by rw [HBT.out.len]; exact hoff))
    have r0 := HX.out.res.cell
    have r1 := HX.out.res.frozen
    by_cases c : whole < 0
    · have g1 : decide (whole < 0) = true := by simpa using c
      clear hoff
      go_enter Try.func11, Try.ntmps11
      go_wp2_with fail
      refine bodyPost_ret (v := .tuple #[.agg #[.slice none 0 0], .bool false]) (by simp [results, Try.results11, go_sem, r0, r1]) rfl ?_
      show DiskRes w (cutD fs acs whole left).1 (cutD fs acs whole left).2 _ _
      rw [R.out]
      exact ⟨_, rfl, World.ownsRow_nil _ _ _ _, HX.out.bel⟩
    · have g1 : decide (whole < 0) = false := by simpa using c
      have c2 : (m : Int) < whole := by omega
      have g2 : decide ((m : Int) < whole) = true := by simpa using c2
      clear hoff
      go_enter Try.func11, Try.ntmps11
      go_wp2_with fail
      refine bodyPost_ret (v := .tuple #[.agg #[.slice none 0 0], .bool false]) (by simp [results, Try.results11, go_sem, r0, r1]) rfl ?_
      show DiskRes w (cutD fs acs whole left).1 (cutD fs acs whole left).2 _ _
      rw [R.out]
      exact ⟨_, rfl, World.ownsRow_nil _ _ _ _, HX.out.bel⟩
  obtain ⟨k, rfl⟩ : ∃ k : Nat, whole = (k : Int) := ⟨whole.toNat, by omega⟩
  have hkm : k ≤ m := by omega
  clear hoff
  have R := hide (cutD_in (fs := fs) (acs := acs) (k := k) (left := left) (by rw [HBT.out.len]; exact hkm))
  have HTA := hide (HBT.out.take hkm)
  have HAF := hide (show ∀ a ∈ acs.take k, ActFine a from fun a h => HA.out a (List.mem_of_mem_take h))
  obtain ⟨D, hD⟩ : ∃ D, (doActsL fs (acs.take k)).1 = D := ⟨_, rfl⟩
  obtain ⟨q, hq⟩ : ∃ q, (doActsL fs (acs.take k)).2 = q := ⟨_, rfl⟩
  have HDF := hide (doActsL_fine (acs.take k) fs HW.out)
  have hDO := hide (fun (w : World) hat hbt => implDoActs_any oa n cap fs (some ⟨gB, 0, none⟩) k cap' (acs.take k) w hat HW.out hbt HAF.out hn20 (by omega))
  rw [hD, hq] at hDO R
  rw [hD] at HDF
  obtain ⟨N, hN⟩ : ∃ N, D.length = N := ⟨_, rfl⟩
  have HN := hide hN
  clear hN hD hq
  have k0 : (0 : Int) ≤ (k : Int) := by omega
  have k1 : (k : Int) ≤ (cap' : Int) := by omega
  have g1 : decide ((k : Int) < 0) = false := by simp
  have g2 : decide ((m : Int) < (k : Int)) = false := by simp; omega
  go_enter Try.func11, Try.ntmps11
  go_upto_region 3 with fail
  obtain ⟨W0, hW0⟩ : ∃ W0, W0 = (w.alloc (.cells #[.slice oa n cap] 26)).alloc (.cells #[.slice none 0 0] 26) := ⟨_, rfl⟩
  rw [← hW0] at HX ⊢
  clear hW0
  have c0 := HX.out.d0
  have l0 : w.heap.size < W0.heap.size := by have := HX.out.big; omega
  have HAT0 := hide (HAT.out.below HX.out.bel)
  have HTA0 := hide (HTA.out.below HX.out.bel)
  go_cut [10, 11] (fun p b wx => ∃ K ov cv, p = .pointer (some ⟨K, 0, none⟩) ∧ b = .int .i64 (q : Int) ∧ Kept1 W0 wx N D K ov cv)
  case first =>
    go_region_law (first
      | (rw [if_pos (by rfl)]; go_simp; go_at_call 6; refine (hDO.out W0.drew (HAT0.out.below (Below.refl _ _).drew) (HTA0.out.below (Below.refl _ _).drew)).mono ?_; rintro e u1 ⟨v1, rfl, ho1, hq1⟩; rw [HN.out] at ho1; obtain ⟨ov1, cv1, rfl⟩ := own_form ho1; have hb1 : Below W0.heap.size W0 u1 := below_undrew hq1)
      | (rw [if_pos (by rfl)]; go_simp; go_at_call 6; have hz1 : Below W0.heap.size W0 (W0.drew.alloc (.cells #[.slice none 0 0] 26)) := (Below.refl _ _).drew.alloc (Nat.le_refl _) _; refine (hDO.out (W0.drew.alloc (.cells #[.slice none 0 0] 26)) (HAT0.out.below hz1) (HTA0.out.below hz1)).mono ?_; rintro e u1 ⟨v1, rfl, ho1, hq1⟩; rw [HN.out] at ho1; obtain ⟨ov1, cv1, rfl⟩ := own_form ho1; have hb1 := hz1.trans (hq1.mono hz1.size); have PN : Pend W0 u1 W0.heap.size := (pend_new (w1 := W0) (wq := W0.drew) ((Below.refl _ _).drew)).on hq1; have hk1 : W0.heap.size < (W0.drew.alloc (.cells #[.slice none 0 0] 26)).heap.size := (by simp); have y0 := PN.cell; have y1 := PN.free))
    all_goals
      clear c0
      go_wp2_with fail
      go_meet
      first
        | exact ⟨_, _, _, rfl, rfl, kept1_set PN hk1 ho1 hb1⟩
        | exact ⟨_, _, _, rfl, rfl, kept1_mk ho1 hb1⟩
  case rest =>
    obtain ⟨K, ov1, cv1, rfl, rfl, hK⟩ := hcut
    rename World => wx
    clear c0
    have hX2 := HX.out.on hK.bel
    have HX2 := hide hX2
    have y0 := hK.cell
    have yl := hK.lt
    have HK := hide hK
    clear hK
    by_cases hqk : q < k
    · have gq : decide (q < k) = true := by simpa using hqk
      have r0 := hX2.res.cell
      have r1 := hX2.res.frozen
      have R2 := R.out
      rw [if_pos hqk] at R2
      have R2 := hide R2
      clear hX2 hqk
      go_wp2_with fail
      refine bodyPost_ret (v := .tuple #[.agg #[.slice none 0 0], .bool false]) (by simp [results, Try.results11, go_sem, r0, r1]) rfl ?_
      show DiskRes w (cutD fs acs (k : Int) left).1 (cutD fs acs (k : Int) left).2 _ _
      rw [R2.out]
      exact ⟨_, rfl, World.ownsRow_nil _ _ _ _, HX2.out.bel.setCell (by simp) _⟩
    · have gq : decide (q < k) = false := by simpa using hqk
      have R2 := R.out
      rw [if_neg hqk] at R2
      have R2 := hide R2
      clear hX2 hqk
      go_wp2_with fail
      refine (implLoseDisk_any ov1 N cv1 D oc l cl left _ HK.out.two.at_ HDF.out (HCT.out.below HX2.out.bel) hl20).mono ?_
      rintro e w5 ⟨v, rfl, ho5, hb5⟩
      have hX5 := HX2.out.on hb5
      have r0 := hX5.res.cell
      have r1 := hX5.res.frozen
      have sx := HX2.out.big
      obtain ⟨ov, cv, rfl⟩ := own_form ho5
      go_wp2_with fail
      refine bodyPost_ret (v := .tuple #[.agg #[.slice ov (lost D left).length cv], .bool (diskOk D)]) (by simp [results, Try.results11, go_sem, r0, r1]) rfl ?_
      show DiskRes w (cutD fs acs (k : Int) left).1 (cutD fs acs (k : Int) left).2 _ _
      rw [R2.out]
      exact ⟨_, rfl, own_base (own_setCell ho5 (by simp; omega) _) (by omega), hX5.bel.setCell (by simp) _⟩

set_option maxRecDepth 100000 in
set_option maxHeartbeats 2000000 in
theorem specCutActs_opt (oa : Option Addr) (n cap : Nat) (fs : List FileV) (gB m cap' : Nat) (acs : List ActV) (whole : Int) (oc : Option Addr) (l cl : Nat) (left : List Int) (w : World) (hat : FilesAt w oa n cap fs) (hw : ∀ f ∈ fs, Fine f) (hbt : ActsAt w (some ⟨gB, 0, none⟩) m cap' acs) (ha : ∀ a ∈ acs, ActFine a) (hct : IntsAt w oc l cl left) (hn20 : n ≤ 1048576) (hm20 : m ≤ 1048576) (hl20 : l ≤ 1048576) :
    Calls Try.prog 12 #[.agg #[.slice oa n cap], .slice (some ⟨gB, 0, none⟩) m cap', .int .i64 whole, .slice oc l cl] w fun e w' => DiskRes w (cutD fs acs whole left).1 (cutD fs acs whole left).2 e w' := by
  have hX : Cut0 w (.slice oa n cap) ((w.alloc (.cells #[.slice oa n cap] 26)).alloc (.cells #[.slice none 0 0] 26)) := cut0_new w _
  have hm0 := hbt.room
  have hm1 := hbt.most
  unfold maxLen at hm1
  have HX := hide hX
  have HAT := hide hat
  have HBT := hide hbt
  have HCT := hide hct
  have HW := hide hw
  have HA := hide ha
  clear hX hat hbt hct hw ha
  by_cases hoff : whole < 0 ∨ (m : Int) < whole
  · have R := hide (cutD_off (fs := fs) (left := left) (show whole < 0 ∨ (acs.length : Int) < whole by rw [HBT.out.len]; exact hoff))
    have r0 := HX.out.res.cell
    have r1 := HX.out.res.frozen
    have HOFF := hide hoff
    clear hoff
    go_enter Try.func12, Try.ntmps12
    go_wp2_with (go_at_call 26; refine (l03In_no whole 0 (m : Int) HOFF.out _).mono ?_; rintro e wq ⟨rfl, rfl⟩)
    refine bodyPost_ret (v := .tuple #[.agg #[.slice none 0 0], .bool false]) (by simp [results, Try.results12, go_sem, r0, r1]) rfl ?_
    show DiskRes w (cutD fs acs whole left).1 (cutD fs acs whole left).2 _ _
    rw [R.out]
    exact ⟨_, rfl, World.ownsRow_nil _ _ _ _, HX.out.bel⟩
  obtain ⟨k, rfl⟩ : ∃ k : Nat, whole = (k : Int) := ⟨whole.toNat, by omega⟩
  have hkm : k ≤ m := by omega
  clear hoff
  have R := hide (cutD_in (fs := fs) (acs := acs) (k := k) (left := left) (by rw [HBT.out.len]; exact hkm))
  have HTA := hide (HBT.out.take hkm)
  have HAF := hide (show ∀ a ∈ acs.take k, ActFine a from fun a h => HA.out a (List.mem_of_mem_take h))
  obtain ⟨D, hD⟩ : ∃ D, (doActsL fs (acs.take k)).1 = D := ⟨_, rfl⟩
  obtain ⟨q, hq⟩ : ∃ q, (doActsL fs (acs.take k)).2 = q := ⟨_, rfl⟩
  have HDF := hide (doActsL_fine (acs.take k) fs HW.out)
  have hDO := hide (fun (w : World) hat hbt => specDoActs_opt oa n cap fs (some ⟨gB, 0, none⟩) k cap' (acs.take k) w hat HW.out hbt HAF.out hn20 (by omega))
  rw [hD, hq] at hDO R
  rw [hD] at HDF
  obtain ⟨N, hN⟩ : ∃ N, D.length = N := ⟨_, rfl⟩
  have HN := hide hN
  clear hN hD hq
  have k0 : (0 : Int) ≤ (k : Int) := by omega
  have k1 : (k : Int) ≤ (cap' : Int) := by omega
  go_enter Try.func12, Try.ntmps12
  go_upto_region 3 with (go_at_call 26; refine (l03In_yes (k : Int) 0 (m : Int) (by omega) (by omega) _).mono ?_; rintro e wq ⟨rfl, rfl⟩)
  obtain ⟨W0, hW0⟩ : ∃ W0, W0 = (w.alloc (.cells #[.slice oa n cap] 26)).alloc (.cells #[.slice none 0 0] 26) := ⟨_, rfl⟩
  rw [← hW0] at HX ⊢
  clear hW0
  have c0 := HX.out.d0
  have l0 : w.heap.size < W0.heap.size := by have := HX.out.big; omega
  have HAT0 := hide (HAT.out.below HX.out.bel)
  have HTA0 := hide (HTA.out.below HX.out.bel)
  go_cut [10, 11] (fun p b wx => ∃ K ov cv, p = .pointer (some ⟨K, 0, none⟩) ∧ b = .int .i64 (q : Int) ∧ Kept1 W0 wx N D K ov cv)
  case first =>
    go_region_law (first
      | (rw [if_pos (by rfl)]; go_simp; go_at_call 7; refine (hDO.out W0.drew (HAT0.out.below (Below.refl _ _).drew) (HTA0.out.below (Below.refl _ _).drew)).mono ?_; rintro e u1 ⟨v1, rfl, ho1, hq1⟩; rw [HN.out] at ho1; obtain ⟨ov1, cv1, rfl⟩ := own_form ho1; have hb1 : Below W0.heap.size W0 u1 := below_undrew hq1)
      | (rw [if_pos (by rfl)]; go_simp; go_at_call 7; have hz1 : Below W0.heap.size W0 (W0.drew.alloc (.cells #[.slice none 0 0] 26)) := (Below.refl _ _).drew.alloc (Nat.le_refl _) _; refine (hDO.out (W0.drew.alloc (.cells #[.slice none 0 0] 26)) (HAT0.out.below hz1) (HTA0.out.below hz1)).mono ?_; rintro e u1 ⟨v1, rfl, ho1, hq1⟩; rw [HN.out] at ho1; obtain ⟨ov1, cv1, rfl⟩ := own_form ho1; have hb1 := hz1.trans (hq1.mono hz1.size); have PN : Pend W0 u1 W0.heap.size := (pend_new (w1 := W0) (wq := W0.drew) ((Below.refl _ _).drew)).on hq1; have hk1 : W0.heap.size < (W0.drew.alloc (.cells #[.slice none 0 0] 26)).heap.size := (by simp); have y0 := PN.cell; have y1 := PN.free))
    all_goals
      clear c0
      go_wp2_with fail
      go_meet
      first
        | exact ⟨_, _, _, rfl, rfl, kept1_set PN hk1 ho1 hb1⟩
        | exact ⟨_, _, _, rfl, rfl, kept1_mk ho1 hb1⟩
  case rest =>
    obtain ⟨K, ov1, cv1, rfl, rfl, hK⟩ := hcut
    rename World => wx
    clear c0
    have hX2 := HX.out.on hK.bel
    have HX2 := hide hX2
    have y0 := hK.cell
    have yl := hK.lt
    have HK := hide hK
    clear hK
    by_cases hqk : q < k
    · have gq : decide (q < k) = true := by simpa using hqk
      have r0 := hX2.res.cell
      have r1 := hX2.res.frozen
      have R2 := R.out
      rw [if_pos hqk] at R2
      have R2 := hide R2
      clear hX2 hqk
      go_wp2_with fail
      refine bodyPost_ret (v := .tuple #[.agg #[.slice none 0 0], .bool false]) (by simp [results, Try.results12, go_sem, r0, r1]) rfl ?_
      show DiskRes w (cutD fs acs (k : Int) left).1 (cutD fs acs (k : Int) left).2 _ _
      rw [R2.out]
      exact ⟨_, rfl, World.ownsRow_nil _ _ _ _, HX2.out.bel.setCell (by simp) _⟩
    · have gq : decide (q < k) = false := by simpa using hqk
      have R2 := R.out
      rw [if_neg hqk] at R2
      have R2 := hide R2
      clear hX2 hqk
      go_wp2_with fail
      refine (specLoseDisk_any ov1 N cv1 D oc l cl left _ HK.out.two.at_ HDF.out (HCT.out.below HX2.out.bel) hl20).mono ?_
      rintro e w5 ⟨v, rfl, ho5, hb5⟩
      have hX5 := HX2.out.on hb5
      have r0 := hX5.res.cell
      have r1 := hX5.res.frozen
      have sx := HX2.out.big
      obtain ⟨ov, cv, rfl⟩ := own_form ho5
      go_wp2_with fail
      refine bodyPost_ret (v := .tuple #[.agg #[.slice ov (lost D left).length cv], .bool (diskOk D)]) (by simp [results, Try.results12, go_sem, r0, r1]) rfl ?_
      show DiskRes w (cutD fs acs (k : Int) left).1 (cutD fs acs (k : Int) left).2 _ _
      rw [R2.out]
      exact ⟨_, rfl, own_base (own_setCell ho5 (by simp; omega) _) (by omega), hX5.bel.setCell (by simp) _⟩

end Go.Proofs.Ytdcdlfkbdeogeaa
