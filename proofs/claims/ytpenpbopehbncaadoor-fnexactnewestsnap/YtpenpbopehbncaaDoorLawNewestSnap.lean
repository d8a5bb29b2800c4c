/-
  The law FnExactNewestSnap: its walk (made by wip/tools/gen8n.py).
-/
import Derived.Test.YtpenpbopehbncaaDoorWalk8j
import Derived.Test.YtpenpbopehbncaaDoorPack33
import Derived.Test.YtpenpbopehbncaaDoorPack34
import Derived.Test.YtpenpbopehbncaaDoorPack37
namespace Go.Proofs.YtpenpbopehbncaaDoor
open Go.RowKit P1 P3 P5 P9 P11 K
set_option linter.unusedVariables false
set_option linter.unusedSimpArgs false

theorem pow_of_laidW {w : World} (h : laidMetH Tryd.prog Rows.fnExactNewestSnapRow.laid w) : Lib.TabIs Tryd.prog w "internal/strconv.uint64pow10" .u64 Lib.pow10Tab := by
  have h1 := laidMetH.filter (fun x => x.1 == "internal/strconv.uint64pow10") h
  have e : Rows.fnExactNewestSnapRow.laid.filter (fun x => x.1 == "internal/strconv.uint64pow10") = [("internal/strconv.uint64pow10", Lib.tabData .u64 Lib.pow10Tab)] := by kernel_rfl
  rw [e, MakeChecks.laidMetH_plain _ _ _ (by kernel_rfl)] at h1
  exact Lib.tabIs_of_head (rest := []) (g := 1) (by kernel_rfl) (t := 137) (by kernel_rfl) Tryd.underlying137 Tryd.underlying130 (by kernel_rfl) (by kernel_rfl) h1

set_option maxHeartbeats 8000000 in
theorem FnExactNewestSnap_walk (oa : Option Addr) (n cap : Nat) (fs : List FileV) (w : World) (hat : FilesAt w oa n cap fs) (hw : ∀ f ∈ fs, Wide f) (hL : laidMetH Tryd.prog Rows.fnExactNewestSnapRow.laid w) :
    Calls Tryd.prog 7 #[.agg #[.slice oa n cap]] w fun e w' => e = .returned (.bool true) ∧ Below w.heap.size w w' := by
  have HT := hide (sums_of_laid (by kernel_rfl) hL)
  have HP := hide (pow_of_laidW hL)
  have hb0 := (Below.refl w.heap.size w).alloc (Nat.le_refl _) (.cells #[.slice oa n cap] 40)
  have HL0 := hide (show LD8 (w.alloc (.cells #[.slice oa n cap] 40)) w.heap.size (.slice oa n cap) from heap_alloc_new _ _)
  have HB0 := hide hb0
  have HAT := hide hat
  have HSZ := hide (fun w hat => szDisk_any oa n cap fs 1048576 (by omega) (by omega) w hat hw)
  clear hL hb0 hat
  by_cases c : szFs fs 1048576 < 0
  · have g : decide (szFs fs 1048576 < 0) = true := by simpa using c
    go_enter Tryd.func7, Tryd.ntmps7
    go_wp2_with fail
    refine (HSZ.out _ (HAT.out.below HB0.out)).mono ?_
    rintro e w1 ⟨rfl, hb1⟩
    go_wp2_with fail
    go_ret
    exact ⟨rfl, HB0.out.trans (hb1.mono (by simp))⟩
  · have g : decide (szFs fs 1048576 < 0) = false := by simpa using c
    obtain ⟨hlen, hfine⟩ := fine_of_sz (Int.le_refl _) (by omega) hw
    have hn20 : n ≤ 1048576 := by have := HAT.out.len; omega
    have HSP := hide (fun oa cap w hat => specNewestSnap_any oa n cap fs w hat hfine)
    have HIM := hide (fun oa cap w hat a b => implNewestSnap_any oa n cap fs w hat hfine a b)
    obtain ⟨hlen4, hfit⟩ := nw_small fs
    unfold RsPost at HSP HIM
    obtain ⟨i, t, zs, b, ok, hjr⟩ : ∃ i t zs b ok, nwR fs = (i, t, zs, b, ok) := ⟨_, _, _, _, _, rfl⟩
    rw [hjr] at hlen4 HSP HIM hfit
    simp only at hlen4 HSP HIM hfit
    clear hfine c hlen hjr hw
    obtain ⟨N, hN⟩ : ∃ N, zs.length = N := ⟨_, rfl⟩
    rw [hN] at hlen4 HSP HIM
    have HFIT := hide hfit
    have HM := hide (marksI_wf 1 N (by omega) (by omega))
    clear hN hfit
    go_enter Tryd.func7, Tryd.ntmps7
    go_wp2_with fail
    refine (HSZ.out _ (HAT.out.below HB0.out)).mono ?_
    rintro e w1 ⟨rfl, hb1⟩
    have LD1 := hide (HL0.out.on hb1)
    have BB1 := hide (HB0.out.trans (hb1.mono (by simp)))
    clear hb1 HL0 HB0
    have dl := LD1.out.cell
    go_wp2_with fail
    clear dl
    refine (toDisk_any oa n cap fs hn20 _ (HAT.out.below BB1.out)).mono ?_
    rintro e w2 ⟨g2, rfl, ho2, hb2⟩
    obtain ⟨oa2, cap2, he2, hat2⟩ := filesAt_of_own ho2
    cases he2
    have LDx11 := hide (LD1.out.on hb2)
    have BBx12 := hide (BB1.out.trans (hb2.mono BB1.out.size))
    clear hb2 LD1 BB1
    go_wp2_with fail
    refine (HSP.out _ _ _ hat2).mono ?_
    rintro e w3 ⟨v0, rfl, ho3, hb3⟩
    clear ho2 hat2
    obtain ⟨oa3, cap3, hv3⟩ := own_slice ho3
    subst hv3
    have hk3 := hide (KS.new (i := i) (t := t) (s := b) ho3)
    have hb34 := hb3.trans (((Below.refl w3.heap.size w3).alloc (Nat.le_refl _) (.cells (sncells i t (.slice oa3 N cap3) b) 30)).mono hb3.size)
    clear ho3 hb3
    have LDx13 := hide (LDx11.out.on hb34)
    have BBx14 := hide (BBx12.out.trans (hb34.mono BBx12.out.size))
    clear hb34 LDx11 BBx12
    have dl := LDx13.out.cell
    go_wp2_with fail
    clear dl
    generalize w3.alloc (.cells #[.int .i64 i, .int .i64 t, .slice oa3 N cap3, .string ⟨b.toArray⟩] 30) = w4 at LDx13 BBx14 hk3 ⊢
    have hz4 := BBx14.out.size
    refine (toDisk_any oa n cap fs hn20 _ (HAT.out.below BBx14.out)).mono ?_
    rintro e w5 ⟨g5, rfl, ho5, hb5⟩
    have hd5 := hide (DV8.new w5 (.slice (some ⟨g5, 0, none⟩) n n))
    have hx5 := hide (ho5.alloc (.cells #[.slice (some ⟨g5, 0, none⟩) n n] 47))
    have hb56 := hb5.trans (((Below.refl w5.heap.size w5).alloc (Nat.le_refl _) (.cells #[.slice (some ⟨g5, 0, none⟩) n n] 47)).mono hb5.size)
    have hz5 := hb5.size
    clear ho5 hb5
    have LDx15 := hide (LDx13.out.on hb56)
    have BBx16 := hide (BBx14.out.trans (hb56.mono BBx14.out.size))
    have K0x17 := hide (hk3.out.on hb56)
    clear hb56 LDx13 BBx14 hk3
    go_wp2_with fail
    generalize w5.alloc (.cells #[.slice (some ⟨g5, 0, none⟩) n n] 47) = w6 at LDx15 BBx16 K0x17 hd5 hx5 ⊢
    have hz6 := BBx16.out.size
    have hle6 := K0x17.out.lt
    obtain ⟨oa6, cap6, he6, hat6⟩ := filesAt_of_own hx5.out
    cases he6
    refine (HIM.out _ _ _ hat6 (tab_below HT.out BBx16.out) (tab_below HP.out BBx16.out)).mono ?_
    rintro e w7 ⟨v1, rfl, ho7, hb7⟩
    clear hat6
    obtain ⟨oa7, cap7, hv7⟩ := own_slice ho7
    subst hv7
    have hk7 := hide (KS.new (i := i) (t := t) (s := b) ho7)
    have hb78 := hb7.trans (((Below.refl w7.heap.size w7).alloc (Nat.le_refl _) (.cells (sncells i t (.slice oa7 N cap7) b) 30)).mono hb7.size)
    clear ho7 hb7
    have LDx18 := hide (LDx15.out.on hb78)
    have BBx19 := hide (BBx16.out.trans (hb78.mono BBx16.out.size))
    have K0x20 := hide (K0x17.out.on hb78)
    have DVx21 := hide (hd5.out.on' hb78)
    have XRx22 := hide (own_below hx5.out hb78)
    clear hb78 LDx15 BBx16 K0x17 hd5 hx5
    obtain ⟨x0, x1, x2, x3⟩ := hk7.out.blk.sv
    obtain ⟨y0, y1, y2, y3⟩ := K0x20.out.blk.sv
    go_wp2_with fail
    generalize w7.alloc (.cells #[.int .i64 i, .int .i64 t, .slice oa7 N cap7, .string ⟨b.toArray⟩] 30) = w8 at LDx18 BBx19 K0x20 DVx21 XRx22 hk7 x0 x1 x2 x3 y0 y1 y2 y3 ⊢
    clear x0 x1 x2 x3 y0 y1 y2 y3
    obtain ⟨_, _, heA, hatA⟩ := intsAt_of_own hk7.out.own HFIT.out
    cases heA
    obtain ⟨_, _, heB, hatB⟩ := intsAt_of_own K0x20.out.own HFIT.out
    cases heB
    refine (eqSnap_same i t _ N _ _ _ zs b (by omega) _ hatA hatB).mono ?_
    rintro e w10 ⟨rfl, hbq⟩
    clear hatA hatB
    have LDx23 := hide (LDx18.out.on hbq)
    have BBx24 := hide (BBx19.out.trans (hbq.mono BBx19.out.size))
    have K0x25 := hide (K0x20.out.on hbq)
    have DVx26 := hide (DVx21.out.on' hbq)
    have XRx27 := hide (own_below XRx22.out hbq)
    have K1x28 := hide (hk7.out.on hbq)
    clear hbq LDx18 BBx19 K0x20 DVx21 XRx22 hk7
    go_wp2_with fail
    have c6 := LDx23.out.cell
    have d6 := DVx26.out.cell
    have hlt6 := LDx23.out.lt
    have s6 := DVx26.out.lt
    obtain ⟨oa6, cap6, he6, hat6⟩ := filesAt_of_own XRx27.out
    cases he6
    have HAT4 := hide hat6
    clear hat6
    go_region_held3 (fun w' => w'.cell? ⟨w.heap.size, 0, none⟩ = some (.slice oa n cap) ∧ w'.cell? ⟨w5.heap.size, 0, none⟩ = some (.slice (some ⟨g5, 0, none⟩) n n)) (first | go_keep | exact ⟨(hb71.cell (by simpa using hlt6)).trans c6, (hb71.cell (by simpa using s6)).trans d6⟩ | exact ⟨(hb72.cell (Nat.lt_of_lt_of_le hlt6 hb71.size)).trans ((hb71.cell (by simpa using hlt6)).trans c6), (hb72.cell (Nat.lt_of_lt_of_le s6 hb71.size)).trans ((hb71.cell (by simpa using s6)).trans d6)⟩)
      (first
        | (go_at_call 22; refine (toDisk_any oa n cap fs hn20 _ (HAT.out.below BBx24.out.drew)).mono ?_; rintro e w71 ⟨g71, rfl, hown71, hb71⟩; obtain ⟨oa71, cap71, he71, hat71⟩ := filesAt_of_own hown71; cases he71; have HAT7 := hide hat71; clear hown71 hat71)
        | (go_at_call 25; refine (eqDisk_any _ n _ fs _ n _ fs hn20 _ ((HAT4.out.below (Below.refl _ _).drew).below hb71) HAT7.out).mono ?_; rw [decide_eq_true (rfl : fs = fs)]; rintro e w72 ⟨rfl, hb72⟩))
    have hb73 : Below w10.heap.size w10 w72 := ((Below.refl w10.heap.size w10).drew.trans hb71).trans (hb72.mono hb71.size)
    clear hb71 hb72 HAT4 HAT7 c6 d6 hlt6 s6
    have LDx29 := hide (LDx23.out.on hb73)
    have BBx30 := hide (BBx24.out.trans (hb73.mono BBx24.out.size))
    have K0x31 := hide (K0x25.out.on hb73)
    have DVx32 := hide (DVx26.out.on' hb73)
    have XRx33 := hide (own_below XRx27.out hb73)
    have K1x34 := hide (K1x28.out.on hb73)
    clear hb73 LDx23 BBx24 K0x25 DVx26 XRx27 K1x28
    have dv := DVx32.out.cell
    go_wp2_with fail
    clear dv
    refine (markDisk_any _ n _ 1 hn20 (by omega) _ _ XRx33.out).mono ?_
    rintro e w11 ⟨rfl, ho11, hg11⟩
    have LDx35 := hide (LDx29.out.row XRx33.out (by decide) hg11)
    have BBx36 := hide (below_own8 BBx30.out BBx30.out.size hz4 XRx33.out hg11)
    have K0x37 := hide (K0x31.out.row XRx33.out (by decide) (by decide) hg11)
    have DVx38 := hide (DVx32.out.row XRx33.out (by decide) hg11)
    have XRx39 := hide (ho11)
    have K1x40 := hide (K1x34.out.row XRx33.out (by decide) (by decide) hg11)
    clear ho11 hg11 LDx29 BBx30 K0x31 DVx32 XRx33 K1x34
    obtain ⟨x0, x1, x2, x3⟩ := K1x40.out.blk.sv
    obtain ⟨y0, y1, y2, y3⟩ := K0x37.out.blk.sv
    go_wp2_with fail
    clear x0 x1 x2 x3 y0 y1 y2 y3
    obtain ⟨_, _, heA, hatA⟩ := intsAt_of_own K1x40.out.own HFIT.out
    cases heA
    obtain ⟨_, _, heB, hatB⟩ := intsAt_of_own K0x37.out.own HFIT.out
    cases heB
    refine (eqSnap_same i t _ N _ _ _ zs b (by omega) _ hatA hatB).mono ?_
    rintro e w13 ⟨rfl, hbq⟩
    clear hatA hatB
    have LDx41 := hide (LDx35.out.on hbq)
    have BBx42 := hide (BBx36.out.trans (hbq.mono BBx36.out.size))
    have K0x43 := hide (K0x37.out.on hbq)
    have DVx44 := hide (DVx38.out.on' hbq)
    have XRx45 := hide (own_below XRx39.out hbq)
    have K1x46 := hide (K1x40.out.on hbq)
    clear hbq LDx35 BBx36 K0x37 DVx38 XRx39 K1x40
    obtain ⟨x0, x1, x2, x3⟩ := K1x46.out.blk.sv
    go_wp2_with fail
    clear x0 x1 x2 x3
    refine (markSnap_any i t _ b N _ 1 (by omega) (by omega) w13 _ K1x46.out.own).mono ?_
    rintro e w14 ⟨rfl, ho14, hg14⟩
    have LDx47 := hide (LDx41.out.row K1x46.out.own (by decide) hg14)
    have BBx48 := hide (below_own8 BBx42.out BBx42.out.size hz6 K1x46.out.own hg14)
    have K0x49 := hide (K0x43.out.kept K1x46.out.own (by decide) hg14 (K0x43.out.part K1x46.out (Nat.le_of_lt hle6)))
    have DVx50 := hide (DVx44.out.row K1x46.out.own (by decide) hg14)
    have XRx51 := hide (own_stays8 XRx45.out K1x46.out.own (by decide) hg14)
    have K1x52 := hide (K1x46.out.marked ho14 hg14)
    clear ho14 hg14 LDx41 BBx42 K0x43 DVx44 XRx45 K1x46
    obtain ⟨x0, x1, x2, x3⟩ := K1x52.out.blk.sv
    go_wp2_with fail
    clear x0 x1 x2 x3
    obtain ⟨_, _, heA, hatA⟩ := intsAt_of_own K1x52.out.own HM.out
    cases heA
    refine (heldSnap_any i t _ b N _ 1 (by omega) (by omega) _ hatA).mono ?_
    rintro e w16 ⟨rfl, hbq⟩
    clear hatA
    have LDx53 := hide (LDx47.out.on hbq)
    have BBx54 := hide (BBx48.out.trans (hbq.mono BBx48.out.size))
    have K0x55 := hide (K0x49.out.on hbq)
    have DVx56 := hide (DVx50.out.on' hbq)
    have XRx57 := hide (own_below XRx51.out hbq)
    have K1x58 := hide (K1x52.out.on hbq)
    clear hbq LDx47 BBx48 K0x49 DVx50 XRx51 K1x52
    have dl := LDx53.out.cell
    go_wp2_with fail
    clear dl
    refine (toDisk_any oa n cap fs hn20 _ (HAT.out.below BBx54.out)).mono ?_
    rintro e w18 ⟨g18, rfl, ho18, hb18⟩
    obtain ⟨oa18, cap18, he18, hat18⟩ := filesAt_of_own ho18
    cases he18
    have LDx59 := hide (LDx53.out.on hb18)
    have BBx60 := hide (BBx54.out.trans (hb18.mono BBx54.out.size))
    have K0x61 := hide (K0x55.out.on hb18)
    have DVx62 := hide (DVx56.out.on' hb18)
    have XRx63 := hide (own_below XRx57.out hb18)
    have K1x64 := hide (K1x58.out.on hb18)
    clear hb18 LDx53 BBx54 K0x55 DVx56 XRx57 K1x58
    go_wp2_with fail
    refine (HIM.out _ _ _ hat18 (tab_below HT.out BBx60.out) (tab_below HP.out BBx60.out)).mono ?_
    rintro e w19 ⟨v9, rfl, ho19, hb19⟩
    clear hat18 ho18
    obtain ⟨oa19, cap19, hv19⟩ := own_slice ho19
    subst hv19
    have hk19 := hide (KS.new (i := i) (t := t) (s := b) ho19)
    have hb20 := hb19.trans (((Below.refl w19.heap.size w19).alloc (Nat.le_refl _) (.cells (sncells i t (.slice oa19 N cap19) b) 30)).mono hb19.size)
    clear ho19 hb19
    have LDx65 := hide (LDx59.out.on hb20)
    have BBx66 := hide (BBx60.out.trans (hb20.mono BBx60.out.size))
    have K0x67 := hide (K0x61.out.on hb20)
    have DVx68 := hide (DVx62.out.on' hb20)
    have XRx69 := hide (own_below XRx63.out hb20)
    have K1x70 := hide (K1x64.out.on hb20)
    clear hb20 LDx59 BBx60 K0x61 DVx62 XRx63 K1x64
    obtain ⟨x0, x1, x2, x3⟩ := hk19.out.blk.sv
    obtain ⟨y0, y1, y2, y3⟩ := K0x67.out.blk.sv
    go_wp2_with fail
    generalize w19.alloc (.cells #[.int .i64 i, .int .i64 t, .slice oa19 N cap19, .string ⟨b.toArray⟩] 30) = w20 at LDx65 BBx66 K0x67 DVx68 XRx69 K1x70 hk19 x0 x1 x2 x3 y0 y1 y2 y3 ⊢
    clear x0 x1 x2 x3 y0 y1 y2 y3
    obtain ⟨_, _, heA, hatA⟩ := intsAt_of_own hk19.out.own HFIT.out
    cases heA
    obtain ⟨_, _, heB, hatB⟩ := intsAt_of_own K0x67.out.own HFIT.out
    cases heB
    refine (eqSnap_same i t _ N _ _ _ zs b (by omega) _ hatA hatB).mono ?_
    rintro e w21 ⟨rfl, hbq⟩
    clear hatA hatB
    have LDx71 := hide (LDx65.out.on hbq)
    have BBx72 := hide (BBx66.out.trans (hbq.mono BBx66.out.size))
    have K0x73 := hide (K0x67.out.on hbq)
    have DVx74 := hide (DVx68.out.on' hbq)
    have XRx75 := hide (own_below XRx69.out hbq)
    have K1x76 := hide (K1x70.out.on hbq)
    have K2x77 := hide (hk19.out.on hbq)
    clear hbq LDx65 BBx66 K0x67 DVx68 XRx69 K1x70 hk19
    obtain ⟨x0, x1, x2, x3⟩ := K1x76.out.blk.sv
    go_wp2_with fail
    clear x0 x1 x2 x3
    obtain ⟨_, _, heA, hatA⟩ := intsAt_of_own K1x76.out.own HM.out
    cases heA
    refine (heldSnap_any i t _ b N _ 1 (by omega) (by omega) _ hatA).mono ?_
    rintro e w23 ⟨rfl, hbq⟩
    clear hatA
    have LDx78 := hide (LDx71.out.on hbq)
    have BBx79 := hide (BBx72.out.trans (hbq.mono BBx72.out.size))
    have K0x80 := hide (K0x73.out.on hbq)
    have DVx81 := hide (DVx74.out.on' hbq)
    have XRx82 := hide (own_below XRx75.out hbq)
    have K1x83 := hide (K1x76.out.on hbq)
    have K2x84 := hide (K2x77.out.on hbq)
    clear hbq LDx71 BBx72 K0x73 DVx74 XRx75 K1x76 K2x77
    go_wp2_with fail
    go_ret
    exact ⟨rfl, BBx79.out⟩

end Go.Proofs.YtpenpbopehbncaaDoor
