/-
  The law FnExactShedActs: its walk (made by wip/tools/gen8p.py).
-/
import Derived.Test.YtpenpbopehbncaaDoorWalk8o
import Derived.Test.YtpenpbopehbncaaDoorPack33
import Derived.Test.YtpenpbopehbncaaDoorPack34
import Derived.Test.YtpenpbopehbncaaDoorPack37
namespace Go.Proofs.YtpenpbopehbncaaDoor
open Go.RowKit P1 P3 P5 P9 P11 K
set_option linter.unusedVariables false
set_option linter.unusedSimpArgs false

theorem pow_of_laidS {w : World} (h : laidMetH Tryd.prog Rows.fnExactShedActsRow.laid w) : Lib.TabIs Tryd.prog w "internal/strconv.uint64pow10" .u64 Lib.pow10Tab := by
  have h1 := laidMetH.filter (fun x => x.1 == "internal/strconv.uint64pow10") h
  have e : Rows.fnExactShedActsRow.laid.filter (fun x => x.1 == "internal/strconv.uint64pow10") = [("internal/strconv.uint64pow10", Lib.tabData .u64 Lib.pow10Tab)] := by kernel_rfl
  rw [e, MakeChecks.laidMetH_plain _ _ _ (by kernel_rfl)] at h1
  exact Lib.tabIs_of_head (rest := []) (g := 1) (by kernel_rfl) (t := 137) (by kernel_rfl) Tryd.underlying137 Tryd.underlying130 (by kernel_rfl) (by kernel_rfl) h1

theorem sh_small (fs : List FileV) : (shR fs).length ≤ 1000 := by
  unfold shR
  split
  · rename_i h
    have hl := (disk_names8 (nw_true h).1).1
    have k1 := newDrop_room fs
    have k3 := othersS_room (nwR fs).1 fs
    rw [List.length_append]
    omega
  · simp

set_option maxHeartbeats 8000000 in
theorem FnExactShedActs_walk (oa : Option Addr) (n cap : Nat) (fs : List FileV) (w : World) (hat : FilesAt w oa n cap fs) (hw : ∀ f ∈ fs, Wide f) (hL : laidMetH Tryd.prog Rows.fnExactShedActsRow.laid w) :
    Calls Tryd.prog 8 #[.agg #[.slice oa n cap]] w fun e w' => e = .returned (.bool true) ∧ Below w.heap.size w w' := by
  have HT := hide (sums_of_laid (by kernel_rfl) hL)
  have HP := hide (pow_of_laidS hL)
  have hb0 := (Below.refl w.heap.size w).alloc (Nat.le_refl _) (.cells #[.slice oa n cap] 40)
  have HL0 := hide (show LD8 (w.alloc (.cells #[.slice oa n cap] 40)) w.heap.size (.slice oa n cap) from heap_alloc_new _ _)
  have HB0 := hide hb0
  have HAT := hide hat
  have HSZ := hide (fun w hat => szDisk_any oa n cap fs 1048576 (by omega) (by omega) w hat hw)
  clear hL hb0 hat
  by_cases c : szFs fs 1048576 < 0
  · have g : decide (szFs fs 1048576 < 0) = true := by simpa using c
    go_enter Tryd.func8, Tryd.ntmps8
    go_wp2_with fail
    refine (HSZ.out _ (HAT.out.below HB0.out)).mono ?_
    rintro e w1 ⟨rfl, hb1⟩
    go_wp2_with fail
    go_ret
    exact ⟨rfl, HB0.out.trans (hb1.mono (by simp))⟩
  · have g : decide (szFs fs 1048576 < 0) = false := by simpa using c
    obtain ⟨hlen, hfine⟩ := fine_of_sz (Int.le_refl _) (by omega) hw
    have hn20 : n ≤ 1048576 := by have := HAT.out.len; omega
    have HSP := hide (fun oa cap w hat => specShedActs_any oa n cap fs w hat hfine)
    have HIM := hide (fun oa cap w hat a b => implShedActs_any oa n cap fs w hat hfine a b)
    have hsm := sh_small fs
    unfold ActR at HSP HIM
    obtain ⟨A, hA⟩ : ∃ A, shR fs = A := ⟨_, rfl⟩
    rw [hA] at hsm HSP HIM
    obtain ⟨M, hM⟩ : ∃ M, A.length = M := ⟨_, rfl⟩
    rw [hM] at hsm HSP HIM
    clear hfine c hlen hA hw hM
    go_enter Tryd.func8, Tryd.ntmps8
    go_wp2_with fail
    refine (HSZ.out _ (HAT.out.below HB0.out)).mono ?_
    rintro e w1 ⟨rfl, hb1⟩
    have LD1 := hide (HL0.out.on hb1)
    have BB1 := hide (HB0.out.trans (hb1.mono (by simp)))
    clear hb1 HL0 HB0
    have dl := LD1.out.cell
    go_wp2_with fail
    clear dl
    refine (toDisk_any oa n cap fs hn20 _ (HAT.out.below BB1.out)).mono ?_
    rintro e w2 ⟨g2, rfl, ho2, hb2⟩
    obtain ⟨oa2, cap2, he2, hat2⟩ := filesAt_of_own ho2
    cases he2
    have LDx11 := hide (LD1.out.on hb2)
    have BBx12 := hide (BB1.out.trans (hb2.mono BB1.out.size))
    clear hb2 LD1 BB1
    go_wp2_with fail
    refine (HSP.out _ _ _ hat2).mono ?_
    rintro e w3 ⟨v0, rfl, ho3, hb3⟩
    clear ho2 hat2
    obtain ⟨oa3, cap3, hv3⟩ := own_slice ho3
    subst hv3
    have A0k := hide (AR.new ho3)
    have TSk := hide (Nat.le_refl w3.heap.size)
    clear ho3
    have LDx13 := hide (LDx11.out.on hb3)
    have BBx14 := hide (BBx12.out.trans (hb3.mono BBx12.out.size))
    clear hb3 LDx11 BBx12
    have dl := LDx13.out.cell
    go_wp2_with fail
    clear dl
    have hz4 := BBx14.out.size
    refine (toDisk_any oa n cap fs hn20 _ (HAT.out.below BBx14.out)).mono ?_
    rintro e w5 ⟨g5, rfl, ho5, hb5⟩
    have hd5 := hide (DV8.new w5 (.slice (some ⟨g5, 0, none⟩) n n))
    have hx5 := hide (ho5.alloc (.cells #[.slice (some ⟨g5, 0, none⟩) n n] 47))
    have hb56 := hb5.trans (((Below.refl w5.heap.size w5).alloc (Nat.le_refl _) (.cells #[.slice (some ⟨g5, 0, none⟩) n n] 47)).mono hb5.size)
    clear ho5 hb5
    have LDx15 := hide (LDx13.out.on hb56)
    have BBx16 := hide (BBx14.out.trans (hb56.mono BBx14.out.size))
    have A0x17 := hide (A0k.out.on hb56)
    have TSx18 := hide (Nat.le_trans TSk.out hb56.size)
    clear hb56 LDx13 BBx14 A0k TSk
    go_wp2_with fail
    generalize w5.alloc (.cells #[.slice (some ⟨g5, 0, none⟩) n n] 47) = w6 at LDx15 BBx16 A0x17 TSx18 hd5 hx5 ⊢
    have hz6 := BBx16.out.size
    have hts6 := TSx18.out
    obtain ⟨oa6, cap6, he6, hat6⟩ := filesAt_of_own hx5.out
    cases he6
    refine (HIM.out _ _ _ hat6 (tab_below HT.out BBx16.out) (tab_below HP.out BBx16.out)).mono ?_
    rintro e w7 ⟨v1, rfl, ho7, hb7⟩
    clear hat6
    obtain ⟨oa7, cap7, hv7⟩ := own_slice ho7
    subst hv7
    have A1k := hide (AR.new ho7)
    clear ho7
    have LDx19 := hide (LDx15.out.on hb7)
    have BBx20 := hide (BBx16.out.trans (hb7.mono BBx16.out.size))
    have A0x21 := hide (A0x17.out.on hb7)
    have TSx22 := hide (Nat.le_trans TSx18.out hb7.size)
    have DVx23 := hide (hd5.out.on' hb7)
    have XRx24 := hide (own_below hx5.out hb7)
    clear hb7 LDx15 BBx16 A0x17 TSx18 hd5 hx5
    go_wp2_with fail
    obtain ⟨_, _, heA, hatA⟩ := aksAt_own A1k.out.own
    cases heA
    obtain ⟨_, _, heB, hatB⟩ := aksAt_own A0x21.out.own
    cases heB
    refine (eqActK_S _ M _ _ _ A (by omega) _ hatA hatB).mono ?_
    rintro e w10 ⟨rfl, hbq⟩
    clear hatA hatB
    have LDx25 := hide (LDx19.out.on hbq)
    have BBx26 := hide (BBx20.out.trans (hbq.mono BBx20.out.size))
    have A0x27 := hide (A0x21.out.on hbq)
    have TSx28 := hide (Nat.le_trans TSx22.out hbq.size)
    have DVx29 := hide (DVx23.out.on' hbq)
    have XRx30 := hide (own_below XRx24.out hbq)
    have A1x31 := hide (A1k.out.on hbq)
    clear hbq LDx19 BBx20 A0x21 TSx22 DVx23 XRx24 A1k
    go_wp2_with fail
    have c6 := LDx25.out.cell
    have d6 := DVx29.out.cell
    have hlt6 := LDx25.out.lt
    have s6 := DVx29.out.lt
    obtain ⟨oa6, cap6, he6, hat6⟩ := filesAt_of_own XRx30.out
    cases he6
    have HAT4 := hide hat6
    clear hat6
    go_region_held3 (fun w' => w'.cell? ⟨w.heap.size, 0, none⟩ = some (.slice oa n cap) ∧ w'.cell? ⟨w5.heap.size, 0, none⟩ = some (.slice (some ⟨g5, 0, none⟩) n n)) (first | go_keep | exact ⟨(hb71.cell (by simpa using hlt6)).trans c6, (hb71.cell (by simpa using s6)).trans d6⟩ | exact ⟨(hb72.cell (Nat.lt_of_lt_of_le hlt6 hb71.size)).trans ((hb71.cell (by simpa using hlt6)).trans c6), (hb72.cell (Nat.lt_of_lt_of_le s6 hb71.size)).trans ((hb71.cell (by simpa using s6)).trans d6)⟩)
      (first
        | (go_at_call 22; refine (toDisk_any oa n cap fs hn20 _ (HAT.out.below BBx26.out.drew)).mono ?_; rintro e w71 ⟨g71, rfl, hown71, hb71⟩; obtain ⟨oa71, cap71, he71, hat71⟩ := filesAt_of_own hown71; cases he71; have HAT7 := hide hat71; clear hown71 hat71)
        | (go_at_call 25; refine (eqDisk_any _ n _ fs _ n _ fs hn20 _ ((HAT4.out.below (Below.refl _ _).drew).below hb71) HAT7.out).mono ?_; rw [decide_eq_true (rfl : fs = fs)]; rintro e w72 ⟨rfl, hb72⟩))
    have hb73 : Below w10.heap.size w10 w72 := ((Below.refl w10.heap.size w10).drew.trans hb71).trans (hb72.mono hb71.size)
    clear hb71 hb72 HAT4 HAT7 c6 d6 hlt6 s6
    have LDx32 := hide (LDx25.out.on hb73)
    have BBx33 := hide (BBx26.out.trans (hb73.mono BBx26.out.size))
    have A0x34 := hide (A0x27.out.on hb73)
    have TSx35 := hide (Nat.le_trans TSx28.out hb73.size)
    have DVx36 := hide (DVx29.out.on' hb73)
    have XRx37 := hide (own_below XRx30.out hb73)
    have A1x38 := hide (A1x31.out.on hb73)
    clear hb73 LDx25 BBx26 A0x27 TSx28 DVx29 XRx30 A1x31
    have dv := DVx36.out.cell
    go_wp2_with fail
    clear dv
    refine (markDisk_any _ n _ 1 hn20 (by omega) _ _ XRx37.out).mono ?_
    rintro e w11 ⟨rfl, ho11, hg11⟩
    have LDx39 := hide (LDx32.out.row XRx37.out (by decide) hg11)
    have BBx40 := hide (below_own8 BBx33.out BBx33.out.size hz4 XRx37.out hg11)
    have A0x41 := hide (A0x34.out.row XRx37.out (by decide) hg11)
    have TSx42 := hide (Nat.le_trans TSx35.out hg11.size)
    have DVx43 := hide (DVx36.out.row XRx37.out (by decide) hg11)
    have XRx44 := hide (ho11)
    have A1x45 := hide (A1x38.out.row XRx37.out (by decide) hg11)
    clear ho11 hg11 LDx32 BBx33 A0x34 TSx35 DVx36 XRx37 A1x38
    go_wp2_with fail
    obtain ⟨_, _, heA, hatA⟩ := aksAt_own A1x45.out.own
    cases heA
    obtain ⟨_, _, heB, hatB⟩ := aksAt_own A0x41.out.own
    cases heB
    refine (eqActK_S _ M _ _ _ A (by omega) _ hatA hatB).mono ?_
    rintro e w13 ⟨rfl, hbq⟩
    clear hatA hatB
    have LDx46 := hide (LDx39.out.on hbq)
    have BBx47 := hide (BBx40.out.trans (hbq.mono BBx40.out.size))
    have A0x48 := hide (A0x41.out.on hbq)
    have TSx49 := hide (Nat.le_trans TSx42.out hbq.size)
    have DVx50 := hide (DVx43.out.on' hbq)
    have XRx51 := hide (own_below XRx44.out hbq)
    have A1x52 := hide (A1x45.out.on hbq)
    clear hbq LDx39 BBx40 A0x41 TSx42 DVx43 XRx44 A1x45
    go_wp2_with fail
    refine (markActK_any _ M _ 1 (by omega) (by omega) w13 A A1x52.out.own).mono ?_
    rintro e w14 ⟨rfl, ho14, hg14⟩
    have LDx53 := hide (LDx46.out.row A1x52.out.own (by decide) hg14)
    have BBx54 := hide (below_own8 BBx47.out BBx47.out.size hz6 A1x52.out.own hg14)
    have A0x55 := hide (A0x48.out.other A1x52.out hts6 hg14)
    have TSx56 := hide (Nat.le_trans TSx49.out hg14.size)
    have DVx57 := hide (DVx50.out.row A1x52.out.own (by decide) hg14)
    have XRx58 := hide (own_stays8 XRx51.out A1x52.out.own (by decide) hg14)
    have A1x59 := hide (A1x52.out.marked ho14)
    clear ho14 hg14 LDx46 BBx47 A0x48 TSx49 DVx50 XRx51 A1x52
    go_wp2_with fail
    obtain ⟨_, _, heA, hatA⟩ := aksAt_own A1x59.out.own
    cases heA
    refine (heldActK_any _ M _ 1 (by omega) (by omega) _ hatA).mono ?_
    rintro e w16 ⟨rfl, hbq⟩
    clear hatA
    have LDx60 := hide (LDx53.out.on hbq)
    have BBx61 := hide (BBx54.out.trans (hbq.mono BBx54.out.size))
    have A0x62 := hide (A0x55.out.on hbq)
    have TSx63 := hide (Nat.le_trans TSx56.out hbq.size)
    have DVx64 := hide (DVx57.out.on' hbq)
    have XRx65 := hide (own_below XRx58.out hbq)
    have A1x66 := hide (A1x59.out.on hbq)
    clear hbq LDx53 BBx54 A0x55 TSx56 DVx57 XRx58 A1x59
    have dl := LDx60.out.cell
    go_wp2_with fail
    clear dl
    refine (toDisk_any oa n cap fs hn20 _ (HAT.out.below BBx61.out)).mono ?_
    rintro e w18 ⟨g18, rfl, ho18, hb18⟩
    obtain ⟨oa18, cap18, he18, hat18⟩ := filesAt_of_own ho18
    cases he18
    have LDx67 := hide (LDx60.out.on hb18)
    have BBx68 := hide (BBx61.out.trans (hb18.mono BBx61.out.size))
    have A0x69 := hide (A0x62.out.on hb18)
    have TSx70 := hide (Nat.le_trans TSx63.out hb18.size)
    have DVx71 := hide (DVx64.out.on' hb18)
    have XRx72 := hide (own_below XRx65.out hb18)
    have A1x73 := hide (A1x66.out.on hb18)
    clear hb18 LDx60 BBx61 A0x62 TSx63 DVx64 XRx65 A1x66
    go_wp2_with fail
    refine (HIM.out _ _ _ hat18 (tab_below HT.out BBx68.out) (tab_below HP.out BBx68.out)).mono ?_
    rintro e w19 ⟨v9, rfl, ho19, hb19⟩
    clear hat18 ho18
    obtain ⟨oa19, cap19, hv19⟩ := own_slice ho19
    subst hv19
    have A2k := hide (AR.new ho19)
    clear ho19
    have LDx74 := hide (LDx67.out.on hb19)
    have BBx75 := hide (BBx68.out.trans (hb19.mono BBx68.out.size))
    have A0x76 := hide (A0x69.out.on hb19)
    have TSx77 := hide (Nat.le_trans TSx70.out hb19.size)
    have DVx78 := hide (DVx71.out.on' hb19)
    have XRx79 := hide (own_below XRx72.out hb19)
    have A1x80 := hide (A1x73.out.on hb19)
    clear hb19 LDx67 BBx68 A0x69 TSx70 DVx71 XRx72 A1x73
    go_wp2_with fail
    obtain ⟨_, _, heA, hatA⟩ := aksAt_own A2k.out.own
    cases heA
    obtain ⟨_, _, heB, hatB⟩ := aksAt_own A0x76.out.own
    cases heB
    refine (eqActK_S _ M _ _ _ A (by omega) _ hatA hatB).mono ?_
    rintro e w21 ⟨rfl, hbq⟩
    clear hatA hatB
    have LDx81 := hide (LDx74.out.on hbq)
    have BBx82 := hide (BBx75.out.trans (hbq.mono BBx75.out.size))
    have A0x83 := hide (A0x76.out.on hbq)
    have TSx84 := hide (Nat.le_trans TSx77.out hbq.size)
    have DVx85 := hide (DVx78.out.on' hbq)
    have XRx86 := hide (own_below XRx79.out hbq)
    have A1x87 := hide (A1x80.out.on hbq)
    have A2x88 := hide (A2k.out.on hbq)
    clear hbq LDx74 BBx75 A0x76 TSx77 DVx78 XRx79 A1x80 A2k
    go_wp2_with fail
    obtain ⟨_, _, heA, hatA⟩ := aksAt_own A1x87.out.own
    cases heA
    refine (heldActK_any _ M _ 1 (by omega) (by omega) _ hatA).mono ?_
    rintro e w23 ⟨rfl, hbq⟩
    clear hatA
    have LDx89 := hide (LDx81.out.on hbq)
    have BBx90 := hide (BBx82.out.trans (hbq.mono BBx82.out.size))
    have A0x91 := hide (A0x83.out.on hbq)
    have TSx92 := hide (Nat.le_trans TSx84.out hbq.size)
    have DVx93 := hide (DVx85.out.on' hbq)
    have XRx94 := hide (own_below XRx86.out hbq)
    have A1x95 := hide (A1x87.out.on hbq)
    have A2x96 := hide (A2x88.out.on hbq)
    clear hbq LDx81 BBx82 A0x83 TSx84 DVx85 XRx86 A1x87 A2x88
    go_wp2_with fail
    go_ret
    exact ⟨rfl, BBx90.out⟩

end Go.Proofs.YtpenpbopehbncaaDoor
