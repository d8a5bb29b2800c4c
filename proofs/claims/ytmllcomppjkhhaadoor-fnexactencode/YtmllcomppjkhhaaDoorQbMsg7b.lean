/-
  Walks and mathematics of Msg7b.
-/
import Derived.Test.YtmllcomppjkhhaaDoorQbMsg7
namespace Go.Proofs.YtmllcomppjkhhaaDoor.P18
end Go.Proofs.YtmllcomppjkhhaaDoor.P18
namespace Go.Proofs.YtmllcomppjkhhaaDoor.P3
end Go.Proofs.YtmllcomppjkhhaaDoor.P3
namespace Go.Proofs.YtmllcomppjkhhaaDoor
open Go.RowKit P1 P3 P9 P11 P12 P18 K
set_option linter.unusedVariables false
set_option linter.unusedSimpArgs false

set_option maxRecDepth 100000 in
set_option maxHeartbeats 8000000 in
theorem message_any15 (W0 : World) (g : Nat) (kd fr to tm ix lt cm : Int) (ok : Bool) (oa : Option Addr) (n cl : Nat) (ob : Option Addr) (m cp : Nat) (da : List UInt8) (la : Bool) (es : List EntV) (zs : List Int) (hm : msgOk (⟨kd, fr, to, tm, ix, lt, cm, ok, es, zs, da, la⟩ : MsgV) = true) (hw : ∀ f ∈ es, f.data.size ≤ 1048576) (w : World) (hT : Tw W0.heap.size g [] w) (hb : Below W0.heap.size W0 w) (hat : EntsAt W0 oa n cl es) (hbt : IntsAt W0 ob m cp zs) :
    Calls Tryd.prog 37 #[.pointer (some ⟨g, 0, none⟩), (mgval kd fr to tm ix lt cm ok (.slice oa n cl) (.slice ob m cp) da la)] w fun e w' => e = .returned (.tuple #[]) ∧ Tw W0.heap.size g (msgB (⟨kd, fr, to, tm, ix, lt, cm, ok, es, zs, da, la⟩ : MsgV)) w' ∧ Below W0.heap.size W0 w' := by
  have hin := msg_in hm
  have hcf := hin.conf
  obtain ⟨i1, i2, i3, i4, i5, i6, i7, i8, -, i10⟩ := hin
  simp only at i1 i2 i3 i4 i5 i6 i7 i8 i10 hcf
  have hn := hat.len
  have hm2 := hbt.len
  have HES := hide i8.2
  have hn4 := i8.1
  rw [hn] at hn4
  have HZ3 := hide (show ∀ z ∈ [kd, fr, to], 0 ≤ z ∧ z ≤ 255 by intro z hz; simp at hz; rcases hz with rfl | rfl | rfl <;> omega)
  have HZ4 := hide (show ∀ z ∈ [tm, ix, lt, cm], 0 ≤ z ∧ z ≤ 1000000000 by intro z hz; simp at hz; rcases hz with rfl | rfl | rfl | rfl <;> omega)
  have HZC := hide (show ∀ z ∈ zs, 0 ≤ z ∧ z ≤ 255 from fun z hz => by have := hcf.2 z hz; omega)
  have hzl := hcf.1
  rw [hm2] at hzl
  have HWF := hide (show ∀ z ∈ [kd, fr, to, tm, ix, lt, cm], (Lit.int .i64 z).wf = true by intro z hz; simp at hz; rcases hz with rfl | rfl | rfl | rfl | rfl | rfl | rfl <;> exact wf_small (by omega) (by omega))
  have v1 := var_len15 tm.toNat
  have v2 := var_len15 ix.toNat
  have v3 := var_len15 lt.toNat
  have v4 := var_len15 cm.toNat
  have v5 := var_len15 n
  have HCAT := hide (msg_cat kd fr to tm ix lt cm ok oa n cl ob m cp da la es zs)
  rw [hn] at HCAT
  rw [← HCAT.out]
  have hel := entsT_len es i8.2
  rw [hn] at hel
  have hsl := (shortB_length (zs.map byB)).1
  rw [List.length_map, hm2] at hsl
  have HL2 := hide (show (([] ++ [kd, fr, to].map byB : List UInt8) ++ [tm, ix, lt, cm].flatMap varZ).length ≤ 100 by simp [varZ]; omega)
  obtain ⟨M1, hM1⟩ : ∃ M, ([] ++ [kd, fr, to].map byB : List UInt8) = M := ⟨_, rfl⟩
  obtain ⟨M2, hM2⟩ : ∃ M, M1 ++ [tm, ix, lt, cm].flatMap varZ = M := ⟨_, rfl⟩
  obtain ⟨M3, hM3⟩ : ∃ M, M2 ++ [flB ok] = M := ⟨_, rfl⟩
  obtain ⟨M4, hM4⟩ : ∃ M, M3 ++ [flB la] = M := ⟨_, rfl⟩
  obtain ⟨M5, hM5⟩ : ∃ M, M4 ++ (varB n ++ entsT es) = M := ⟨_, rfl⟩
  obtain ⟨M6, hM6⟩ : ∃ M, M5 ++ shortB (zs.map byB) = M := ⟨_, rfl⟩
  have l1 : M1.length ≤ 10 := by rw [← hM1]; simp
  have l2 : M2.length ≤ 100 := by rw [← hM2, ← hM1]; exact HL2.out
  have l3 : M3.length ≤ 110 := by rw [← hM3]; simp; omega
  have l4 : M4.length ≤ 120 := by rw [← hM4]; simp; omega
  have l5 : M5.length ≤ 2000 := by rw [← hM5]; simp only [List.length_append]; omega
  have l6 : M6.length ≤ 3000 := by rw [← hM6]; simp only [List.length_append]; omega
  rw [hM1, hM2, hM3, hM4, hM5, hM6]
  have HM1 := hide hM1
  have HM2 := hide hM2
  have HM3 := hide hM3
  have HM4 := hide hM4
  have HM5 := hide hM5
  have HM6 := hide hM6
  clear hM1 hM2 hM3 hM4 hM5 hM6 v1 v2 v3 v4 v5 hel hsl HL2 HCAT
  have HNU := hide (fun w => numbers_any15 kd fr to tm ix lt cm ok oa n cl ob m cp da la w)
  have HNE := hide (show w.heap.size ≠ g by have := hT.glt; omega)
  have HX0 := hide (XS.new w #[.int .i64 kd, .int .i64 fr, .int .i64 to, .int .i64 tm, .int .i64 ix, .int .i64 lt, .int .i64 cm, .bool ok, .slice oa n cl, .slice ob m cp, .string ⟨da.toArray⟩, .bool la] 30)
  have HT0 := hide (hT.alloc (.cells #[.int .i64 kd, .int .i64 fr, .int .i64 to, .int .i64 tm, .int .i64 ix, .int .i64 lt, .int .i64 cm, .bool ok, .slice oa n cl, .slice ob m cp, .string ⟨da.toArray⟩, .bool la] 30))
  have HB0 := hide (hb.alloc hb.size (.cells #[.int .i64 kd, .int .i64 fr, .int .i64 to, .int .i64 tm, .int .i64 ix, .int .i64 lt, .int .i64 cm, .bool ok, .slice oa n cl, .slice ob m cp, .string ⟨da.toArray⟩, .bool la] 30))
  have HAT := hide hat
  have HBT := hide hbt
  have HW := hide hw
  have hgl := hT.glt
  clear hat hbt hT hb hw hm hn hm2 hcf i8
  go_enter Tryd.func37, Tryd.ntmps37
  go_wp2_with fail
  generalize w.alloc (.cells #[.int .i64 kd, .int .i64 fr, .int .i64 to, .int .i64 tm, .int .i64 ix, .int .i64 lt, .int .i64 cm, .bool ok, .slice oa n cl, .slice ob m cp, .string ⟨da.toArray⟩, .bool la] 30) = x0 at HX0 HT0 HB0 ⊢
  refine (HNU.out _).mono ?_
  rintro e y1 ⟨rfl, hy1⟩
  have HTA := hide (HT0.out.on hy1)
  have HBA := hide (HB0.out.trans (hy1.mono HB0.out.size))
  have HXA := hide (HX0.out.on hy1)
  have hsy := hy1.size
  clear hy1 HT0 HB0 HX0 HNU
  have HNT := hide (show y1.heap.size ≠ g by have := HTA.out.glt; omega)
  have HS1 := hide (show XS w.heap.size #[.int .i64 kd, .int .i64 fr, .int .i64 to, .int .i64 tm, .int .i64 ix, .int .i64 lt, .int .i64 cm, .bool ok, .slice oa n cl, .slice ob m cp, .string ⟨da.toArray⟩, .bool la] 30 (y1.alloc (.cells #[.int .i64 kd, .int .i64 fr, .int .i64 to, .int .i64 tm, .int .i64 ix, .int .i64 lt, .int .i64 cm] 50)) ∧ XS y1.heap.size #[.int .i64 kd, .int .i64 fr, .int .i64 to, .int .i64 tm, .int .i64 ix, .int .i64 lt, .int .i64 cm] 50 (y1.alloc (.cells #[.int .i64 kd, .int .i64 fr, .int .i64 to, .int .i64 tm, .int .i64 ix, .int .i64 lt, .int .i64 cm] 50)) from ⟨HXA.out.alloc _, XS.new _ _ _⟩)
  have HT1 := hide (HTA.out.alloc (.cells #[.int .i64 kd, .int .i64 fr, .int .i64 to, .int .i64 tm, .int .i64 ix, .int .i64 lt, .int .i64 cm] 50))
  have HB1 := hide (HBA.out.alloc HBA.out.size (.cells #[.int .i64 kd, .int .i64 fr, .int .i64 to, .int .i64 tm, .int .i64 ix, .int .i64 lt, .int .i64 cm] 50))
  clear HTA HBA HXA
  go_upto_region 2 with fail
  generalize y1.alloc (.cells #[.int .i64 kd, .int .i64 fr, .int .i64 to, .int .i64 tm, .int .i64 ix, .int .i64 lt, .int .i64 cm] 50) = x1 at HS1 HT1 HB1 ⊢
  generalize y1.heap.size = t at HS1 HNT ⊢
  refine wp_region_held_drew (S := fun w' => XS w.heap.size #[.int .i64 kd, .int .i64 fr, .int .i64 to, .int .i64 tm, .int .i64 ix, .int .i64 lt, .int .i64 cm, .bool ok, .slice oa n cl, .slice ob m cp, .string ⟨da.toArray⟩, .bool la] 30 w' ∧ XS t #[.int .i64 kd, .int .i64 fr, .int .i64 to, .int .i64 tm, .int .i64 ix, .int .i64 lt, .int .i64 cm] 50 w') (by kernel_rfl) (show _ ∧ _ from ⟨HS1.out.1.drew, HS1.out.2.drew⟩) (fun hHeld => ?_)
  refine wpAnyH_take (i := 0) (v := ?_) rfl (by kernel_rfl) (by kernel_rfl) (by kernel_rfl) (fun _ _ _ h => h) (Or.inl ⟨by rfl, ?_⟩) (by assumption) ?_; rotate_left
  · (intro wz hSw; (try dsimp only at hSw); clear hSw; go_simp; first | done | with_reducible rfl)
  try simp only [Act.put, List.getElem_toArray, List.getElem_cons_zero, List.getElem_cons_succ, List.setIfInBounds_toArray, List.set_cons_zero, List.set_cons_succ]
  refine wpAnyH_take (i := 1) (v := ?_) rfl (by kernel_rfl) (by kernel_rfl) (by kernel_rfl) (fun _ _ _ h => h) (Or.inl ⟨by rfl, ?_⟩) (by assumption) ?_; rotate_left
  · (intro wz hSw; (try dsimp only at hSw); clear hSw; go_simp; first | done | with_reducible rfl)
  try simp only [Act.put, List.getElem_toArray, List.getElem_cons_zero, List.getElem_cons_succ, List.setIfInBounds_toArray, List.set_cons_zero, List.set_cons_succ]
  refine wpAnyH_take (i := 2) (v := ?_) rfl (by kernel_rfl) (by kernel_rfl) (by kernel_rfl) (fun _ _ _ h => h) (Or.inl ⟨by rfl, ?_⟩) (by assumption) ?_; rotate_left
  · (intro wz hSw; (try dsimp only at hSw); clear hSw; go_simp; first | done | with_reducible rfl)
  try simp only [Act.put, List.getElem_toArray, List.getElem_cons_zero, List.getElem_cons_succ, List.setIfInBounds_toArray, List.set_cons_zero, List.set_cons_succ]
  refine wpAnyH_take (i := 3) (v := ?_) rfl (by kernel_rfl) (by kernel_rfl) (by kernel_rfl) (fun _ _ _ h => h) (Or.inl ⟨by rfl, ?_⟩) (by assumption) ?_; rotate_left
  · (intro wz hSw; (try dsimp only at hSw); clear hSw; go_simp; first | done | with_reducible rfl)
  try simp only [Act.put, List.getElem_toArray, List.getElem_cons_zero, List.getElem_cons_succ, List.setIfInBounds_toArray, List.set_cons_zero, List.set_cons_succ]
  have HT1b := hide HT1.out.drew
  have HB1b := hide HB1.out.drew
  refine wpAnyH_ready (rs := [4]) (by kernel_rfl) (by simp) ?_
  refine AllReadyH.cons rfl (fun K hK => ?_) AllReadyH.nil
  rw [if_pos (by rfl)]
  go_simp
  go_at_call 58
  with_reducible refine (oneBytes_any14 W0.heap.size g [] (some ⟨t, 0, none⟩) 3 7 [kd, fr, to] (by omega) HZ3.out (by simp) _ HT1b.out (ints_arr hHeld.2 HWF.out).1).mono ?_
  rintro r x2 ⟨rfl, hT, hF⟩
  try go_simp
  refine hK.out _ _ ?_ (fun hHeld => ?_)
  · exact ⟨XS.tw hHeld.1 hF HNE.out (by decide), XS.tw hHeld.2 hF HNT.out (by decide)⟩
  clear hK K
  try simp only [Act.put, List.getElem_toArray, List.getElem_cons_zero, List.getElem_cons_succ, List.setIfInBounds_toArray, List.set_cons_zero, List.set_cons_succ]
  refine wpAnyH_done (by kernel_rfl) ?_ _
  have HT2 := hide hT
  have HB2 := hide (HB1b.out.trans hF.bel)
  have HS2 := hide hHeld
  clear hT hF hHeld HT1 HB1 HS1 HT1b HB1b
  go_wp2_with fail
  rw [HM1.out] at HT2
  refine wp_region_held_drew (S := fun w' => XS w.heap.size #[.int .i64 kd, .int .i64 fr, .int .i64 to, .int .i64 tm, .int .i64 ix, .int .i64 lt, .int .i64 cm, .bool ok, .slice oa n cl, .slice ob m cp, .string ⟨da.toArray⟩, .bool la] 30 w' ∧ XS t #[.int .i64 kd, .int .i64 fr, .int .i64 to, .int .i64 tm, .int .i64 ix, .int .i64 lt, .int .i64 cm] 50 w') (by kernel_rfl) (show _ ∧ _ from ⟨HS2.out.1.drew, HS2.out.2.drew⟩) (fun hHeld => ?_)
  refine wpAnyH_take (i := 0) (v := ?_) rfl (by kernel_rfl) (by kernel_rfl) (by kernel_rfl) (fun _ _ _ h => h) (Or.inl ⟨by rfl, ?_⟩) (by assumption) ?_; rotate_left
  · (intro wz hSw; (try dsimp only at hSw); clear hSw; go_simp; first | done | with_reducible rfl)
  try simp only [Act.put, List.getElem_toArray, List.getElem_cons_zero, List.getElem_cons_succ, List.setIfInBounds_toArray, List.set_cons_zero, List.set_cons_succ]
  refine wpAnyH_take (i := 1) (v := ?_) rfl (by kernel_rfl) (by kernel_rfl) (by kernel_rfl) (fun _ _ _ h => h) (Or.inl ⟨by rfl, ?_⟩) (by assumption) ?_; rotate_left
  · (intro wz hSw; (try dsimp only at hSw); clear hSw; go_simp; first | done | with_reducible rfl)
  try simp only [Act.put, List.getElem_toArray, List.getElem_cons_zero, List.getElem_cons_succ, List.setIfInBounds_toArray, List.set_cons_zero, List.set_cons_succ]
  refine wpAnyH_take (i := 2) (v := ?_) rfl (by kernel_rfl) (by kernel_rfl) (by kernel_rfl) (fun _ _ _ h => h) (Or.inl ⟨by rfl, ?_⟩) (by assumption) ?_; rotate_left
  · (intro wz hSw; (try dsimp only at hSw); clear hSw; go_simp; first | done | with_reducible rfl)
  try simp only [Act.put, List.getElem_toArray, List.getElem_cons_zero, List.getElem_cons_succ, List.setIfInBounds_toArray, List.set_cons_zero, List.set_cons_succ]
  refine wpAnyH_take (i := 3) (v := ?_) rfl (by kernel_rfl) (by kernel_rfl) (by kernel_rfl) (fun _ _ _ h => h) (Or.inl ⟨by rfl, ?_⟩) (by assumption) ?_; rotate_left
  · (intro wz hSw; (try dsimp only at hSw); clear hSw; go_simp; first | done | with_reducible rfl)
  try simp only [Act.put, List.getElem_toArray, List.getElem_cons_zero, List.getElem_cons_succ, List.setIfInBounds_toArray, List.set_cons_zero, List.set_cons_succ]
  have HT2b := hide HT2.out.drew
  have HB2b := hide HB2.out.drew
  refine wpAnyH_ready (rs := [4]) (by kernel_rfl) (by simp) ?_
  refine AllReadyH.cons rfl (fun K hK => ?_) AllReadyH.nil
  rw [if_pos (by rfl)]
  go_simp
  go_at_call 59
  with_reducible refine (numbers_any14 W0.heap.size g M1 (some ⟨t, 3, none⟩) 4 4 [tm, ix, lt, cm] (by omega) HZ4.out (by omega) _ HT2b.out (ints_arr hHeld.2 HWF.out).2).mono ?_
  rintro r x3 ⟨rfl, hT, hF⟩
  try go_simp
  refine hK.out _ _ ?_ (fun hHeld => ?_)
  · exact ⟨XS.tw hHeld.1 hF HNE.out (by decide), XS.tw hHeld.2 hF HNT.out (by decide)⟩
  clear hK K
  try simp only [Act.put, List.getElem_toArray, List.getElem_cons_zero, List.getElem_cons_succ, List.setIfInBounds_toArray, List.set_cons_zero, List.set_cons_succ]
  refine wpAnyH_done (by kernel_rfl) ?_ _
  have HT3 := hide hT
  have HB3 := hide (HB2b.out.trans hF.bel)
  have HS3 := hide hHeld
  clear hT hF hHeld HT2 HB2 HS2 HT2b HB2b
  rw [HM2.out] at HT3
  obtain ⟨k0, k1, k2, k3, k4, k5, k6, k7, k8, k9, k10, k11⟩ := xs12 HS3.out.1
  go_wp2_with fail
  with_reducible refine (flag_any15 W0.heap.size g M2 ok (by omega) _ HT3.out).mono ?_
  rintro e x4 ⟨rfl, hT, hF⟩
  have HT4 := hide hT
  have HB4 := hide (HB3.out.trans hF.bel)
  have HS4 := hide (show _ ∧ _ from ⟨XS.tw HS3.out.1 hF HNE.out (by decide), XS.tw HS3.out.2 hF HNT.out (by decide)⟩)
  rw [HM3.out] at HT4
  clear hT hF HT3 HB3 HS3 k0 k1 k2 k3 k4 k5 k6 k7 k8 k9 k10 k11
  obtain ⟨k0, k1, k2, k3, k4, k5, k6, k7, k8, k9, k10, k11⟩ := xs12 HS4.out.1
  go_wp2_with fail
  with_reducible refine (flag_any15 W0.heap.size g M3 la (by omega) _ HT4.out).mono ?_
  rintro e x5 ⟨rfl, hT, hF⟩
  have HT5 := hide hT
  have HB5 := hide (HB4.out.trans hF.bel)
  have HS5 := hide (show _ ∧ _ from ⟨XS.tw HS4.out.1 hF HNE.out (by decide), XS.tw HS4.out.2 hF HNT.out (by decide)⟩)
  rw [HM4.out] at HT5
  clear hT hF HT4 HB4 HS4 k0 k1 k2 k3 k4 k5 k6 k7 k8 k9 k10 k11
  obtain ⟨k0, k1, k2, k3, k4, k5, k6, k7, k8, k9, k10, k11⟩ := xs12 HS5.out.1
  go_wp2_with fail
  with_reducible refine (entries_any15 W0 g M4 oa n cl es HES.out HW.out hn4 (by omega) _ HT5.out HB5.out HAT.out).mono ?_
  rintro e x6 ⟨rfl, hT, hF⟩
  have HT6 := hide hT
  have HB6 := hide (HB5.out.trans hF.bel)
  have HS6 := hide (show _ ∧ _ from ⟨XS.tw HS5.out.1 hF HNE.out (by decide), XS.tw HS5.out.2 hF HNT.out (by decide)⟩)
  rw [HM5.out] at HT6
  clear hT hF HT5 HB5 HS5 k0 k1 k2 k3 k4 k5 k6 k7 k8 k9 k10 k11
  go_wp2_with fail
  refine wp_region_held_drew (S := fun w' => XS w.heap.size #[.int .i64 kd, .int .i64 fr, .int .i64 to, .int .i64 tm, .int .i64 ix, .int .i64 lt, .int .i64 cm, .bool ok, .slice oa n cl, .slice ob m cp, .string ⟨da.toArray⟩, .bool la] 30 w' ∧ XS t #[.int .i64 kd, .int .i64 fr, .int .i64 to, .int .i64 tm, .int .i64 ix, .int .i64 lt, .int .i64 cm] 50 w') (by kernel_rfl) (show _ ∧ _ from ⟨HS6.out.1.drew, HS6.out.2.drew⟩) (fun hHeld => ?_)
  refine wpAnyH_take (i := 0) (v := ?_) rfl (by kernel_rfl) (by kernel_rfl) (by kernel_rfl) (fun _ _ _ h => h) (Or.inl ⟨by rfl, ?_⟩) (by assumption) ?_; rotate_left
  · (intro wz hSw; (try dsimp only at hSw); have z9 := XS.cell hSw.1 (u := .slice ob m cp) 9 rfl; clear hSw; go_simp; first | done | with_reducible rfl)
  try simp only [Act.put, List.getElem_toArray, List.getElem_cons_zero, List.getElem_cons_succ, List.setIfInBounds_toArray, List.set_cons_zero, List.set_cons_succ]
  refine wpAnyH_take (i := 1) (v := ?_) rfl (by kernel_rfl) (by kernel_rfl) (by kernel_rfl) (fun _ _ _ h => h) (Or.inl ⟨by rfl, ?_⟩) (by assumption) ?_; rotate_left
  · (intro wz hSw; (try dsimp only at hSw); have z9 := XS.cell hSw.1 (u := .slice ob m cp) 9 rfl; clear hSw; go_simp; first | done | with_reducible rfl)
  try simp only [Act.put, List.getElem_toArray, List.getElem_cons_zero, List.getElem_cons_succ, List.setIfInBounds_toArray, List.set_cons_zero, List.set_cons_succ]
  refine wpAnyH_take (i := 2) (v := ?_) rfl (by kernel_rfl) (by kernel_rfl) (by kernel_rfl) (fun _ _ _ h => h) (Or.inl ⟨by rfl, ?_⟩) (by assumption) ?_; rotate_left
  · (intro wz hSw; (try dsimp only at hSw); have z9 := XS.cell hSw.1 (u := .slice ob m cp) 9 rfl; clear hSw; go_simp; first | done | with_reducible rfl)
  try simp only [Act.put, List.getElem_toArray, List.getElem_cons_zero, List.getElem_cons_succ, List.setIfInBounds_toArray, List.set_cons_zero, List.set_cons_succ]
  refine wpAnyH_take (i := 3) (v := ?_) rfl (by kernel_rfl) (by kernel_rfl) (by kernel_rfl) (fun _ _ _ h => h) (Or.inl ⟨by rfl, ?_⟩) (by assumption) ?_; rotate_left
  · (intro wz hSw; (try dsimp only at hSw); have z9 := XS.cell hSw.1 (u := .slice ob m cp) 9 rfl; clear hSw; go_simp; first | done | with_reducible rfl)
  try simp only [Act.put, List.getElem_toArray, List.getElem_cons_zero, List.getElem_cons_succ, List.setIfInBounds_toArray, List.set_cons_zero, List.set_cons_succ]
  refine wpAnyH_take (i := 4) (v := ?_) rfl (by kernel_rfl) (by kernel_rfl) (by kernel_rfl) (fun _ _ _ h => h) (Or.inl ⟨by rfl, ?_⟩) (by assumption) ?_; rotate_left
  · (intro wz hSw; (try dsimp only at hSw); have z9 := XS.cell hSw.1 (u := .slice ob m cp) 9 rfl; clear hSw; go_simp; first | done | with_reducible rfl)
  try simp only [Act.put, List.getElem_toArray, List.getElem_cons_zero, List.getElem_cons_succ, List.setIfInBounds_toArray, List.set_cons_zero, List.set_cons_succ]
  have HT6b := hide HT6.out.drew
  have HB6b := hide HB6.out.drew
  refine wpAnyH_ready (rs := [5]) (by kernel_rfl) (by simp) ?_
  refine AllReadyH.cons rfl (fun K hK => ?_) AllReadyH.nil
  rw [if_pos (by rfl)]
  go_simp
  go_at_call 63
  with_reducible refine (bytesText_any ob m cp zs (by omega) HZC.out _ (HBT.out.below HB6b.out)).mono ?_
  rintro r y6 ⟨rfl, hy⟩
  try go_simp
  refine hK.out _ _ ?_ (fun hHeld => ?_)
  · exact ⟨hHeld.1.on hy, hHeld.2.on hy⟩
  clear hK K
  try simp only [Act.put, List.getElem_toArray, List.getElem_cons_zero, List.getElem_cons_succ, List.setIfInBounds_toArray, List.set_cons_zero, List.set_cons_succ]
  replace HT6b := hide (HT6b.out.on hy)
  replace HB6b := hide (HB6b.out.trans (hy.mono HB6b.out.size))
  clear hy
  refine wpAnyH_ready (rs := [6]) (by kernel_rfl) (by simp) ?_
  refine AllReadyH.cons rfl (fun K hK => ?_) AllReadyH.nil
  rw [if_pos (by rfl)]
  go_simp
  go_at_call 62
  with_reducible refine (short_any14 W0.heap.size g M5 (zs.map byB) (by rw [List.length_map]; have := HBT.out.len; omega) (by omega) _ HT6b.out).mono ?_
  rintro r x7 ⟨rfl, hT, hF⟩
  try go_simp
  refine hK.out _ _ ?_ (fun hHeld => ?_)
  · exact ⟨XS.tw hHeld.1 hF HNE.out (by decide), XS.tw hHeld.2 hF HNT.out (by decide)⟩
  clear hK K
  try simp only [Act.put, List.getElem_toArray, List.getElem_cons_zero, List.getElem_cons_succ, List.setIfInBounds_toArray, List.set_cons_zero, List.set_cons_succ]
  refine wpAnyH_done (by kernel_rfl) ?_ _
  have HT7 := hide hT
  have HB7 := hide (HB6b.out.trans hF.bel)
  have HS7 := hide hHeld
  clear hT hF hHeld HT6 HB6 HS6 HT6b HB6b
  go_wp2_with fail
  rw [HM6.out] at HT7
  refine wp_region_held_drew (S := fun w' => XS w.heap.size #[.int .i64 kd, .int .i64 fr, .int .i64 to, .int .i64 tm, .int .i64 ix, .int .i64 lt, .int .i64 cm, .bool ok, .slice oa n cl, .slice ob m cp, .string ⟨da.toArray⟩, .bool la] 30 w' ∧ XS t #[.int .i64 kd, .int .i64 fr, .int .i64 to, .int .i64 tm, .int .i64 ix, .int .i64 lt, .int .i64 cm] 50 w') (by kernel_rfl) (show _ ∧ _ from ⟨HS7.out.1.drew, HS7.out.2.drew⟩) (fun hHeld => ?_)
  refine wpAnyH_take (i := 0) (v := ?_) rfl (by kernel_rfl) (by kernel_rfl) (by kernel_rfl) (fun _ _ _ h => h) (Or.inl ⟨by rfl, ?_⟩) (by assumption) ?_; rotate_left
  · (intro wz hSw; (try dsimp only at hSw); have z10 := XS.cell hSw.1 (u := .string ⟨da.toArray⟩) 10 rfl; clear hSw; go_simp; first | done | with_reducible rfl)
  try simp only [Act.put, List.getElem_toArray, List.getElem_cons_zero, List.getElem_cons_succ, List.setIfInBounds_toArray, List.set_cons_zero, List.set_cons_succ]
  refine wpAnyH_take (i := 1) (v := ?_) rfl (by kernel_rfl) (by kernel_rfl) (by kernel_rfl) (fun _ _ _ h => h) (Or.inl ⟨by rfl, ?_⟩) (by assumption) ?_; rotate_left
  · (intro wz hSw; (try dsimp only at hSw); have z10 := XS.cell hSw.1 (u := .string ⟨da.toArray⟩) 10 rfl; clear hSw; go_simp; first | done | with_reducible rfl)
  try simp only [Act.put, List.getElem_toArray, List.getElem_cons_zero, List.getElem_cons_succ, List.setIfInBounds_toArray, List.set_cons_zero, List.set_cons_succ]
  refine wpAnyH_take (i := 2) (v := ?_) rfl (by kernel_rfl) (by kernel_rfl) (by kernel_rfl) (fun _ _ _ h => h) (Or.inl ⟨by rfl, ?_⟩) (by assumption) ?_; rotate_left
  · (intro wz hSw; (try dsimp only at hSw); have z10 := XS.cell hSw.1 (u := .string ⟨da.toArray⟩) 10 rfl; clear hSw; go_simp; first | done | with_reducible rfl)
  try simp only [Act.put, List.getElem_toArray, List.getElem_cons_zero, List.getElem_cons_succ, List.setIfInBounds_toArray, List.set_cons_zero, List.set_cons_succ]
  refine wpAnyH_take (i := 3) (v := ?_) rfl (by kernel_rfl) (by kernel_rfl) (by kernel_rfl) (fun _ _ _ h => h) (Or.inl ⟨by rfl, ?_⟩) (by assumption) ?_; rotate_left
  · (intro wz hSw; (try dsimp only at hSw); have z10 := XS.cell hSw.1 (u := .string ⟨da.toArray⟩) 10 rfl; clear hSw; go_simp; first | done | with_reducible rfl)
  try simp only [Act.put, List.getElem_toArray, List.getElem_cons_zero, List.getElem_cons_succ, List.setIfInBounds_toArray, List.set_cons_zero, List.set_cons_succ]
  refine wpAnyH_take (i := 4) (v := ?_) rfl (by kernel_rfl) (by kernel_rfl) (by kernel_rfl) (fun _ _ _ h => h) (Or.inl ⟨by rfl, ?_⟩) (by assumption) ?_; rotate_left
  · (intro wz hSw; (try dsimp only at hSw); have z10 := XS.cell hSw.1 (u := .string ⟨da.toArray⟩) 10 rfl; clear hSw; go_simp; first | done | with_reducible rfl)
  try simp only [Act.put, List.getElem_toArray, List.getElem_cons_zero, List.getElem_cons_succ, List.setIfInBounds_toArray, List.set_cons_zero, List.set_cons_succ]
  have HT7b := hide HT7.out.drew
  have HB7b := hide HB7.out.drew
  refine wpAnyH_ready (rs := [5]) (by kernel_rfl) (by simp) ?_
  refine AllReadyH.cons rfl (fun K hK => ?_) AllReadyH.nil
  rw [if_pos (by rfl)]
  go_simp
  go_at_call 62
  with_reducible refine (short_any14 W0.heap.size g M6 da (by omega) (by omega) _ HT7b.out).mono ?_
  rintro r x8 ⟨rfl, hT, hF⟩
  try go_simp
  refine hK.out _ _ ?_ (fun hHeld => ?_)
  · exact ⟨XS.tw hHeld.1 hF HNE.out (by decide), XS.tw hHeld.2 hF HNT.out (by decide)⟩
  clear hK K
  try simp only [Act.put, List.getElem_toArray, List.getElem_cons_zero, List.getElem_cons_succ, List.setIfInBounds_toArray, List.set_cons_zero, List.set_cons_succ]
  refine wpAnyH_done (by kernel_rfl) ?_ _
  have HT8 := hide hT
  have HB8 := hide (HB7b.out.trans hF.bel)
  have HS8 := hide hHeld
  clear hT hF hHeld HT7 HB7 HS7 HT7b HB7b
  go_wp2_with fail
  refine bodyPost_end (results_none rfl _ _ _) rfl ?_
  exact ⟨rfl, HT8.out, HB8.out⟩

end Go.Proofs.YtmllcomppjkhhaaDoor
