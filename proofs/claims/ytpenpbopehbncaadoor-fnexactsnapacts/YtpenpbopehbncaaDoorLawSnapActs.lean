/-
  The law FnExactSnapActs: its walk (made by wip/tools/gen8a.py).
-/
import Derived.Test.YtpenpbopehbncaaDoorWalk8n
import Derived.Test.YtpenpbopehbncaaDoorPack33
import Derived.Test.YtpenpbopehbncaaDoorPack34
import Derived.Test.YtpenpbopehbncaaDoorPack37
namespace Go.Proofs.YtpenpbopehbncaaDoor
open Go.RowKit P1 P3 P5 P9 P11 K
set_option linter.unusedVariables false
set_option linter.unusedSimpArgs false

theorem pow_of_laidA {w : World} (h : laidMetH Tryd.prog Rows.fnExactSnapActsRow.laid w) : Lib.TabIs Tryd.prog w "internal/strconv.uint64pow10" .u64 Lib.pow10Tab := by
  have h1 := laidMetH.filter (fun x => x.1 == "internal/strconv.uint64pow10") h
  have e : Rows.fnExactSnapActsRow.laid.filter (fun x => x.1 == "internal/strconv.uint64pow10") = [("internal/strconv.uint64pow10", Lib.tabData .u64 Lib.pow10Tab)] := by kernel_rfl
  rw [e, MakeChecks.laidMetH_plain _ _ _ (by kernel_rfl)] at h1
  exact Lib.tabIs_of_head (rest := []) (g := 1) (by kernel_rfl) (t := 137) (by kernel_rfl) Tryd.underlying137 Tryd.underlying130 (by kernel_rfl) (by kernel_rfl) h1

set_option maxHeartbeats 1000000 in
theorem markSnap_big (i t : Int) (v : Value) (b : List UInt8) (n base k : Nat) (hn : n ≤ 1048576) (hk : k ≤ 100000000) (w : World) (xs : List Value) (hown : w.ownsRow base 3 1 v n xs) :
    Calls Tryd.prog 18 #[snval i t v b, .int .i64 (k : Int)] w fun e w' => e = .returned (.int .i64 ((k + n : Nat) : Int)) ∧ w'.ownsRow base 3 1 v n ((marksI k n).map icell) ∧ w.grownBy w' v.ownBlock := by
  obtain ⟨oa, cap, hv⟩ := own_slice hown
  subst hv
  have HM := hide (markIntS_v _ n base k hn (by omega) _ xs (hown.alloc (.cells #[.int .i64 i, .int .i64 t, .slice oa n cap, .string ⟨b.toArray⟩] 30)))
  clear hown
  go_enter Tryd.func18, Tryd.ntmps18
  go_wp2_with fail
  refine HM.out.mono ?_
  rintro e w2 ⟨rfl, ho2, hg2⟩
  have HO2 := hide ho2
  have HG2 := hide hg2
  clear ho2 hg2
  go_wp2_with fail
  go_ret
  exact ⟨by go_num, HO2.out, grown_trans (World.grownBy_alloc _ _ _) HG2.out⟩

theorem szS_fine2 {n m : Nat} {left : Int} (h1 : left ≤ 1048576) (h : ¬ szS n m left < 0) : n ≤ 1048576 ∧ m ≤ 1048576 := by
  unfold szS at h
  split at h <;> omega

theorem sa_small (fs : List FileV) (i t : Int) (zs : List Int) (b : List UInt8) : (saR fs i t zs b).1.length ≤ 20100 := by
  unfold saR
  cases h : snText i t zs b with
  | none => simp
  | some text =>
    obtain ⟨h1, -⟩ := snText_length h
    simp only
    split
    · rename_i hd
      have hl := (disk_names8 hd).1
      rw [snActs_parts]
      have k1 := newDrop_room fs
      have k2 := addsA_room text
      have k3 := othersS_room i fs
      simp only [List.length_append, show (keepMove i).length = 2 from rfl]
      omega
    · simp

set_option maxHeartbeats 16000000 in
theorem FnExactSnapActs_walk (oa : Option Addr) (n cap : Nat) (fs : List FileV) (i t : Int) (ob : Option Addr) (m cb : Nat) (zs : List Int) (b : List UInt8) (w : World) (hat : FilesAt w oa n cap fs) (hw : ∀ f ∈ fs, Wide f) (hbt : IntsAt w ob m cb zs) (hbw : b.length ≤ maxLen) (wi : (Lit.int .i64 i).wf = true) (wt : (Lit.int .i64 t).wf = true) (hL : laidMetH Tryd.prog Rows.fnExactSnapActsRow.laid w) :
    Calls Tryd.prog 6 #[.agg #[.slice oa n cap], .agg #[.int .i64 i, .int .i64 t, .slice ob m cb, .string ⟨b.toArray⟩]] w fun e w' => e = .returned (.bool true) ∧ Below w.heap.size w w' := by
  have HT := hide (sums_of_laid (by kernel_rfl) hL)
  have HP := hide (pow_of_laidA hL)
  have hb1 := (Below.refl w.heap.size w).alloc (Nat.le_refl _) (.cells #[.slice oa n cap] 40)
  have hb0 := hb1.alloc (by simp) (.cells (sncells i t (.slice ob m cb) b) 26)
  have HL0 := hide (show LD8 ((w.alloc (.cells #[.slice oa n cap] 40)).alloc (.cells (sncells i t (.slice ob m cb) b) 26)) w.heap.size (.slice oa n cap) from ((Below.refl (w.heap.size + 1) (w.alloc (.cells #[.slice oa n cap] 40))).alloc (by simp) _).block _ (by omega) |>.trans (heap_alloc_new _ _))
  have HS0 := hide (show LS8 ((w.alloc (.cells #[.slice oa n cap] 40)).alloc (.cells (sncells i t (.slice ob m cb) b) 26)) (w.heap.size + 1) i t (.slice ob m cb) b by
    have := heap_alloc_new (w.alloc (.cells #[.slice oa n cap] 40)) (.cells (sncells i t (.slice ob m cb) b) 26)
    rw [World.size_alloc] at this
    exact this)
  have HB0 := hide hb0
  have HAT := hide hat
  have HBT := hide hbt
  have HFIT := hide hbt.fits
  have HSZ := hide (fun w hat => szDisk_any oa n cap fs 1048576 (by omega) (by omega) w hat hw)
  have hmm := Nat.le_trans hbt.room hbt.most
  clear hL hb0 hb1 hat hbt wi wt
  by_cases c : szFs fs 1048576 < 0
  · have g : decide (szFs fs 1048576 < 0) = true := by simpa using c
    go_enter Tryd.func6, Tryd.ntmps6
    go_wp2_with fail
    refine (HSZ.out _ (HAT.out.below HB0.out)).mono ?_
    rintro e w1 ⟨rfl, hb1⟩
    go_wp2_with fail
    go_ret
    exact ⟨rfl, HB0.out.trans (hb1.mono HB0.out.size)⟩
  · have g : decide (szFs fs 1048576 < 0) = false := by simpa using c
    obtain ⟨hlen, hfine⟩ := fine_of_sz (Int.le_refl _) (by omega) hw
    have hn20 : n ≤ 1048576 := by have := HAT.out.len; omega
    have hleft : szFs fs 1048576 ≤ 1048576 := by have := szFs_pos fs 1048576 (by omega); omega
    have HSS := hide (fun w => szSnap_any i t ob m cb b hmm hbw (szFs fs 1048576) (by omega) hleft w)
    generalize szFs fs 1048576 = left at c g HSZ HSS hleft
    by_cases c2 : szS m b.length left < 0
    · generalize szS m b.length left = z at c2 HSS
      clear hbw hmm
      go_enter Tryd.func6, Tryd.ntmps6
      go_wp2_with fail
      refine (HSZ.out _ (HAT.out.below HB0.out)).mono ?_
      rintro e w1 ⟨rfl, hb1⟩
      have LS1 := hide (HS0.out.on hb1)
      have BB1 := hide (HB0.out.trans (hb1.mono HB0.out.size))
      clear hb1
      obtain ⟨q0, q1, q2, q3⟩ := LS1.out.sv
      go_wp2_with fail
      refine (HSS.out _).mono ?_
      rintro e w2 ⟨rfl, hb2⟩
      go_wp2_with fail
      go_ret
      exact ⟨rfl, BB1.out.trans (hb2.mono BB1.out.size)⟩
    · obtain ⟨hm20, hb20⟩ := szS_fine2 hleft c2
      generalize szS m b.length left = z at c2 HSS
      have HSP := hide (fun oa cap ob cb w hat hbt => specSnapActs_any oa n cap fs i t ob m cb zs b hb20 w hat hfine hbt)
      have HIM := hide (fun oa cap ob cb w hat hbt x y => implSnapActs_any oa n cap fs i t ob m cb zs b hb20 w hat hfine hbt x y)
      have hsm := sa_small fs i t zs b
      unfold SaPost at HSP HIM
      obtain ⟨A, ok, hjr⟩ : ∃ A ok, saR fs i t zs b = (A, ok) := ⟨_, _, rfl⟩
      rw [hjr] at hsm HSP HIM
      simp only at hsm HSP HIM
      obtain ⟨M, hM⟩ : ∃ M, A.length = M := ⟨_, rfl⟩
      rw [hM] at hsm HSP HIM
      clear hfine hlen hjr hw hM hbw hmm hb20
      go_enter Tryd.func6, Tryd.ntmps6
      go_wp2_with fail
      refine (HSZ.out _ (HAT.out.below HB0.out)).mono ?_
      rintro e w1 ⟨rfl, hb1⟩
      have LD1 := hide (HL0.out.on hb1)
      have LS1 := hide (HS0.out.on hb1)
      have BB1 := hide (HB0.out.trans (hb1.mono HB0.out.size))
      clear hb1 HL0 HB0 HS0
      obtain ⟨q0, q1, q2, q3⟩ := LS1.out.sv
      go_wp2_with fail
      clear q0 q1 q2 q3
      refine (HSS.out _).mono ?_
      rintro e w2 ⟨rfl, hb2⟩
      have LDx11 := hide (LD1.out.on hb2)
      have LSx12 := hide (LS1.out.on hb2)
      have BBx13 := hide (BB1.out.trans (hb2.mono BB1.out.size))
      clear hb2 LD1 LS1 BB1
      have dl := LDx11.out.cell
      obtain ⟨q0, q1, q2, q3⟩ := LSx12.out.sv
      go_wp2_with fail
      clear dl q0 q1 q2 q3
      have kd : ∀ w', LD8 w' w.heap.size (.slice oa n cap) ∧ LS8 w' (w.heap.size + 1) i t (.slice ob m cb) b → w'.cell? ⟨w.heap.size, 0, none⟩ = some (.slice oa n cap) := fun w' h => h.1.cell
      have ks0 : ∀ w', LD8 w' w.heap.size (.slice oa n cap) ∧ LS8 w' (w.heap.size + 1) i t (.slice ob m cb) b → w'.cell? ⟨w.heap.size + 1, 0, none⟩ = some (.int .i64 i) := fun w' h => h.2.sv.c0
      have ks1 : ∀ w', LD8 w' w.heap.size (.slice oa n cap) ∧ LS8 w' (w.heap.size + 1) i t (.slice ob m cb) b → w'.cell? ⟨w.heap.size + 1, 1, none⟩ = some (.int .i64 t) := fun w' h => h.2.sv.c1
      have ks2 : ∀ w', LD8 w' w.heap.size (.slice oa n cap) ∧ LS8 w' (w.heap.size + 1) i t (.slice ob m cb) b → w'.cell? ⟨w.heap.size + 1, 2, none⟩ = some (.slice ob m cb) := fun w' h => h.2.sv.c2
      have ks3 : ∀ w', LD8 w' w.heap.size (.slice oa n cap) ∧ LS8 w' (w.heap.size + 1) i t (.slice ob m cb) b → w'.cell? ⟨w.heap.size + 1, 3, none⟩ = some (.string ⟨b.toArray⟩) := fun w' h => h.2.sv.c3
      go_region_held3 (fun w' => LD8 w' w.heap.size (.slice oa n cap) ∧ LS8 w' (w.heap.size + 1) i t (.slice ob m cb) b) (first | exact ⟨LDx11.out.on (Below.refl w2.heap.size w2).drew, LSx12.out.on (Below.refl w2.heap.size w2).drew⟩ | exact ⟨(LDx11.out.on (Below.refl w2.heap.size w2).drew).on hb71, (LSx12.out.on (Below.refl w2.heap.size w2).drew).on hb71⟩ | exact ⟨((LDx11.out.on (Below.refl w2.heap.size w2).drew).on hb71).on hb72, ((LSx12.out.on (Below.refl w2.heap.size w2).drew).on hb71).on hb72⟩ | exact ⟨(((LDx11.out.on (Below.refl w2.heap.size w2).drew).on hb71).on hb72).on hb73, (((LSx12.out.on (Below.refl w2.heap.size w2).drew).on hb71).on hb72).on hb73⟩)
      (first
        | (go_at_call 22; refine (toDisk_any oa n cap fs hn20 _ (HAT.out.below BBx13.out.drew)).mono ?_; rintro e w71 ⟨g71, rfl, hown71, hb71⟩; have B71 := BBx13.out.drew.trans (hb71.mono BBx13.out.drew.size); have HX71 := hide hown71; clear hown71)
        | (go_at_call 13; refine (toSnap_any i t ob m cb zs b hm20 _ (HBT.out.below B71)).mono ?_; rintro e w72 ⟨g72, rfl, hown72, hb72⟩; have B72 := B71.trans (hb72.mono B71.size); have HX72 := hide (own_below HX71.out hb72); obtain ⟨oa72, cap72, he72, hat72⟩ := filesAt_of_own HX72.out; cases he72; obtain ⟨ob72, cb72, hf72, hbt72⟩ := intsAt_of_own hown72 HFIT.out; cases hf72; have HA72 := hide hat72; have HI72 := hide hbt72; clear hown72 hat72 hbt72)
        | (go_at_call 21; refine (HSP.out _ _ _ _ _ HA72.out HI72.out).mono ?_; rintro e w73 ⟨v73, rfl, ho73, hb73⟩; obtain ⟨ov73, cv73, hv73⟩ := own_slice ho73; subst hv73; have HO73 := hide ho73; clear ho73))
      have hbr : Below w2.heap.size w2 w73 := (((Below.refl w2.heap.size w2).drew.trans hb71).trans (hb72.mono hb71.size)).trans (hb73.mono (Nat.le_trans hb71.size hb72.size))
      clear B71 B72 HX71 HX72 HA72 HI72 kd ks0 ks1 ks2 ks3 hb71 hb72 hb73
      have LDx14 := hide (LDx11.out.on hbr)
      have LSx15 := hide (LSx12.out.on hbr)
      have BBx16 := hide (BBx13.out.trans (hbr.mono BBx13.out.size))
      clear hbr LDx11 LSx12 BBx13
      have A0k := hide (AR.new HO73.out)
      have TSk := hide (Nat.le_refl w73.heap.size)
      clear HO73
      have dl := LDx14.out.cell
      go_wp2_with fail
      clear dl
      have hz4 := BBx16.out.size
      refine (toDisk_any oa n cap fs hn20 _ (HAT.out.below BBx16.out)).mono ?_
      rintro e w5 ⟨g5, rfl, ho5, hb5⟩
      have hd5 := hide (DV8.new w5 (.slice (some ⟨g5, 0, none⟩) n n))
      have hx5 := hide (ho5.alloc (.cells #[.slice (some ⟨g5, 0, none⟩) n n] 47))
      have hb56 := hb5.trans (((Below.refl w5.heap.size w5).alloc (Nat.le_refl _) (.cells #[.slice (some ⟨g5, 0, none⟩) n n] 47)).mono hb5.size)
      clear ho5 hb5
      have LDx17 := hide (LDx14.out.on hb56)
      have LSx18 := hide (LSx15.out.on hb56)
      have BBx19 := hide (BBx16.out.trans (hb56.mono BBx16.out.size))
      have A0x20 := hide (A0k.out.on hb56)
      have TSx21 := hide (Nat.le_trans TSk.out hb56.size)
      clear hb56 LDx14 LSx15 BBx16 A0k TSk
      obtain ⟨q0, q1, q2, q3⟩ := LSx18.out.sv
      go_wp2_with fail
      clear q0 q1 q2 q3
      generalize w5.alloc (.cells #[.slice (some ⟨g5, 0, none⟩) n n] 47) = w6 at LDx17 LSx18 BBx19 A0x20 TSx21 hd5 hx5 ⊢
      have hz6 := BBx19.out.size
      refine (toSnap_any i t ob m cb zs b hm20 _ (HBT.out.below BBx19.out)).mono ?_
      rintro e w7 ⟨g7, rfl, ho7, hb7⟩
      have hk7 := hide (KS.new (i := i) (t := t) (s := b) ho7)
      have hb78 := hb7.trans (((Below.refl w7.heap.size w7).alloc (Nat.le_refl _) (.cells (sncells i t (.slice (some ⟨g7, 0, none⟩) m m) b) 30)).mono hb7.size)
      clear ho7 hb7
      have LDx22 := hide (LDx17.out.on hb78)
      have LSx23 := hide (LSx18.out.on hb78)
      have BBx24 := hide (BBx19.out.trans (hb78.mono BBx19.out.size))
      have A0x25 := hide (A0x20.out.on hb78)
      have TSx26 := hide (Nat.le_trans TSx21.out hb78.size)
      have DVx27 := hide (hd5.out.on' hb78)
      have XRx28 := hide (own_below hx5.out hb78)
      clear hb78 LDx17 LSx18 BBx19 A0x20 TSx21 hd5 hx5
      have dv := DVx27.out.cell
      obtain ⟨x0, x1, x2, x3⟩ := hk7.out.blk.sv
      go_wp2_with fail
      generalize w7.alloc (.cells #[.int .i64 i, .int .i64 t, .slice (some ⟨g7, 0, none⟩) m m, .string ⟨b.toArray⟩] 30) = w8 at LDx22 LSx23 BBx24 A0x25 TSx26 DVx27 XRx28 hk7 dv x0 x1 x2 x3 ⊢
      clear dv x0 x1 x2 x3
      have hz8 := BBx24.out.size
      have hts8 := TSx26.out
      obtain ⟨oa8, cap8, he8, hat8⟩ := filesAt_of_own XRx28.out
      cases he8
      obtain ⟨ob8, cb8, hf8, hbt8⟩ := intsAt_of_own hk7.out.own HFIT.out
      cases hf8
      refine (HIM.out _ _ _ _ _ hat8 hbt8 (tab_below HT.out BBx24.out) (tab_below HP.out BBx24.out)).mono ?_
      rintro e w9 ⟨v9, rfl, ho9, hb9⟩
      clear hat8 hbt8
      obtain ⟨ov9, cv9, hv9⟩ := own_slice ho9
      subst hv9
      have A1k := hide (AR.new ho9)
      clear ho9
      have LDx29 := hide (LDx22.out.on hb9)
      have LSx30 := hide (LSx23.out.on hb9)
      have BBx31 := hide (BBx24.out.trans (hb9.mono BBx24.out.size))
      have A0x32 := hide (A0x25.out.on hb9)
      have TSx33 := hide (Nat.le_trans TSx26.out hb9.size)
      have DVx34 := hide (DVx27.out.on' hb9)
      have XRx35 := hide (own_below XRx28.out hb9)
      have KXx36 := hide (hk7.out.on hb9)
      clear hb9 LDx22 LSx23 BBx24 A0x25 TSx26 DVx27 XRx28 hk7
      go_wp2_with fail
      obtain ⟨_, _, heA, hatA⟩ := aksAt_own A1k.out.own
      cases heA
      obtain ⟨_, _, heB, hatB⟩ := aksAt_own A0x32.out.own
      cases heB
      refine (eqActK_S _ M _ _ _ A (by omega) _ hatA hatB).mono ?_
      rintro e w10 ⟨rfl, hbq⟩
      clear hatA hatB
      have LDx37 := hide (LDx29.out.on hbq)
      have LSx38 := hide (LSx30.out.on hbq)
      have BBx39 := hide (BBx31.out.trans (hbq.mono BBx31.out.size))
      have A0x40 := hide (A0x32.out.on hbq)
      have TSx41 := hide (Nat.le_trans TSx33.out hbq.size)
      have DVx42 := hide (DVx34.out.on' hbq)
      have XRx43 := hide (own_below XRx35.out hbq)
      have KXx44 := hide (KXx36.out.on hbq)
      have A1x45 := hide (A1k.out.on hbq)
      clear hbq LDx29 LSx30 BBx31 A0x32 TSx33 DVx34 XRx35 KXx36 A1k
      go_wp2_with fail
      have c6 := LDx37.out.cell
      have d6 := DVx42.out.cell
      have hlt6 := LDx37.out.lt
      have s6 := DVx42.out.lt
      obtain ⟨oa6, cap6, he6, hat6⟩ := filesAt_of_own XRx43.out
      cases he6
      have HAT4 := hide hat6
      clear hat6
      go_region_held3 (fun w' => w'.cell? ⟨w.heap.size, 0, none⟩ = some (.slice oa n cap) ∧ w'.cell? ⟨w5.heap.size, 0, none⟩ = some (.slice (some ⟨g5, 0, none⟩) n n)) (first | go_keep | exact ⟨(hb81.cell (by simpa using hlt6)).trans c6, (hb81.cell (by simpa using s6)).trans d6⟩ | exact ⟨(hb82.cell (Nat.lt_of_lt_of_le hlt6 hb81.size)).trans ((hb81.cell (by simpa using hlt6)).trans c6), (hb82.cell (Nat.lt_of_lt_of_le s6 hb81.size)).trans ((hb81.cell (by simpa using s6)).trans d6)⟩)
      (first
        | (go_at_call 22; refine (toDisk_any oa n cap fs hn20 _ (HAT.out.below BBx39.out.drew)).mono ?_; rintro e w81 ⟨g81, rfl, hown81, hb81⟩; obtain ⟨oa81, cap81, he81, hat81⟩ := filesAt_of_own hown81; cases he81; have HAT7 := hide hat81; clear hown81 hat81)
        | (go_at_call 25; refine (eqDisk_any _ n _ fs _ n _ fs hn20 _ ((HAT4.out.below (Below.refl _ _).drew).below hb81) HAT7.out).mono ?_; rw [decide_eq_true (rfl : fs = fs)]; rintro e w82 ⟨rfl, hb82⟩))
      have hb83 : Below w10.heap.size w10 w82 := ((Below.refl w10.heap.size w10).drew.trans hb81).trans (hb82.mono hb81.size)
      clear hb81 hb82 HAT4 HAT7 c6 d6 hlt6 s6
      have LDx46 := hide (LDx37.out.on hb83)
      have LSx47 := hide (LSx38.out.on hb83)
      have BBx48 := hide (BBx39.out.trans (hb83.mono BBx39.out.size))
      have A0x49 := hide (A0x40.out.on hb83)
      have TSx50 := hide (Nat.le_trans TSx41.out hb83.size)
      have DVx51 := hide (DVx42.out.on' hb83)
      have XRx52 := hide (own_below XRx43.out hb83)
      have KXx53 := hide (KXx44.out.on hb83)
      have A1x54 := hide (A1x45.out.on hb83)
      clear hb83 LDx37 LSx38 BBx39 A0x40 TSx41 DVx42 XRx43 KXx44 A1x45
      go_wp2_with fail
      have hls9 := LSx47.out
      have hkx9 := KXx53.out.blk
      have k0 : ∀ w', LS8 w' (w.heap.size + 1) i t (.slice ob m cb) b ∧ SB w' w7.heap.size i t (.slice (some ⟨g7, 0, none⟩) m m) b → w'.cell? ⟨w.heap.size + 1, 0, none⟩ = some (.int .i64 i) := fun w' h => h.1.sv.c0
      have m0 : ∀ w', LS8 w' (w.heap.size + 1) i t (.slice ob m cb) b ∧ SB w' w7.heap.size i t (.slice (some ⟨g7, 0, none⟩) m m) b → w'.cell? ⟨w7.heap.size, 0, none⟩ = some (.int .i64 i) := fun w' h => h.2.sv.c0
      have k1 : ∀ w', LS8 w' (w.heap.size + 1) i t (.slice ob m cb) b ∧ SB w' w7.heap.size i t (.slice (some ⟨g7, 0, none⟩) m m) b → w'.cell? ⟨w.heap.size + 1, 1, none⟩ = some (.int .i64 t) := fun w' h => h.1.sv.c1
      have m1 : ∀ w', LS8 w' (w.heap.size + 1) i t (.slice ob m cb) b ∧ SB w' w7.heap.size i t (.slice (some ⟨g7, 0, none⟩) m m) b → w'.cell? ⟨w7.heap.size, 1, none⟩ = some (.int .i64 t) := fun w' h => h.2.sv.c1
      have k2 : ∀ w', LS8 w' (w.heap.size + 1) i t (.slice ob m cb) b ∧ SB w' w7.heap.size i t (.slice (some ⟨g7, 0, none⟩) m m) b → w'.cell? ⟨w.heap.size + 1, 2, none⟩ = some (.slice ob m cb) := fun w' h => h.1.sv.c2
      have m2 : ∀ w', LS8 w' (w.heap.size + 1) i t (.slice ob m cb) b ∧ SB w' w7.heap.size i t (.slice (some ⟨g7, 0, none⟩) m m) b → w'.cell? ⟨w7.heap.size, 2, none⟩ = some (.slice (some ⟨g7, 0, none⟩) m m) := fun w' h => h.2.sv.c2
      have k3 : ∀ w', LS8 w' (w.heap.size + 1) i t (.slice ob m cb) b ∧ SB w' w7.heap.size i t (.slice (some ⟨g7, 0, none⟩) m m) b → w'.cell? ⟨w.heap.size + 1, 3, none⟩ = some (.string ⟨b.toArray⟩) := fun w' h => h.1.sv.c3
      have m3 : ∀ w', LS8 w' (w.heap.size + 1) i t (.slice ob m cb) b ∧ SB w' w7.heap.size i t (.slice (some ⟨g7, 0, none⟩) m m) b → w'.cell? ⟨w7.heap.size, 3, none⟩ = some (.string ⟨b.toArray⟩) := fun w' h => h.2.sv.c3
      obtain ⟨ob9, cb9, hf9, hbt9⟩ := intsAt_of_own KXx53.out.own HFIT.out
      cases hf9
      have HI9 := hide hbt9
      clear hbt9
      go_region_held3 (fun w' => LS8 w' (w.heap.size + 1) i t (.slice ob m cb) b ∧ SB w' w7.heap.size i t (.slice (some ⟨g7, 0, none⟩) m m) b) (first | exact ⟨hls9.on (Below.refl w82.heap.size w82).drew, hkx9.on (Below.refl w82.heap.size w82).drew hkx9.lt⟩ | exact ⟨(hls9.on (Below.refl w82.heap.size w82).drew).on hb91, (hkx9.on (Below.refl w82.heap.size w82).drew hkx9.lt).on hb91 (Nat.lt_of_lt_of_le hkx9.lt (Below.refl w82.heap.size w82).drew.size)⟩ | exact ⟨((hls9.on (Below.refl w82.heap.size w82).drew).on hb91).on hb92, ((hkx9.on (Below.refl w82.heap.size w82).drew hkx9.lt).on hb91 (Nat.lt_of_lt_of_le hkx9.lt (Below.refl w82.heap.size w82).drew.size)).on hb92 (Nat.lt_of_lt_of_le hkx9.lt (Nat.le_trans (Below.refl w82.heap.size w82).drew.size hb91.size))⟩)
      (first
        | (go_at_call 13; refine (toSnap_any i t ob m cb zs b hm20 _ (HBT.out.below BBx48.out.drew)).mono ?_; rintro e w91 ⟨g91, rfl, hown91, hb91⟩; obtain ⟨ob91, cb91, he91, hat91⟩ := intsAt_of_own hown91 HFIT.out; cases he91; have HAT7 := hide hat91; clear hown91 hat91)
        | (go_at_call 15; refine (eqSnap_same i t _ m _ _ _ zs b hm20 _ ((HI9.out.below (Below.refl w82.heap.size w82).drew).below hb91) HAT7.out).mono ?_; rintro e w92 ⟨rfl, hb92⟩))
      have hb93 : Below w82.heap.size w82 w92 := ((Below.refl w82.heap.size w82).drew.trans hb91).trans (hb92.mono hb91.size)
      clear hb91 hb92 HI9 HAT7 hls9 hkx9 k0 k1 k2 k3 m0 m1 m2 m3
      have LDx55 := hide (LDx46.out.on hb93)
      have LSx56 := hide (LSx47.out.on hb93)
      have BBx57 := hide (BBx48.out.trans (hb93.mono BBx48.out.size))
      have A0x58 := hide (A0x49.out.on hb93)
      have TSx59 := hide (Nat.le_trans TSx50.out hb93.size)
      have DVx60 := hide (DVx51.out.on' hb93)
      have XRx61 := hide (own_below XRx52.out hb93)
      have KXx62 := hide (KXx53.out.on hb93)
      have A1x63 := hide (A1x54.out.on hb93)
      clear hb93 LDx46 LSx47 BBx48 A0x49 TSx50 DVx51 XRx52 KXx53 A1x54
      have dv := DVx60.out.cell
      go_wp2_with fail
      clear dv
      refine (markDisk_any _ n _ 1 hn20 (by omega) _ _ XRx61.out).mono ?_
      rintro e w11 ⟨rfl, ho11, hg11⟩
      have LDx64 := hide (LDx55.out.row XRx61.out (by decide) hg11)
      have LSx65 := hide (LSx56.out.row XRx61.out (by decide) hg11)
      have BBx66 := hide (below_own8 BBx57.out BBx57.out.size hz4 XRx61.out hg11)
      have A0x67 := hide (A0x58.out.row XRx61.out (by decide) hg11)
      have TSx68 := hide (Nat.le_trans TSx59.out hg11.size)
      have DVx69 := hide (DVx60.out.row XRx61.out (by decide) hg11)
      have XRx70 := hide (ho11)
      have KXx71 := hide (KXx62.out.row XRx61.out (by decide) (by decide) hg11)
      have A1x72 := hide (A1x63.out.row XRx61.out (by decide) hg11)
      clear ho11 hg11 LDx55 LSx56 BBx57 A0x58 TSx59 DVx60 XRx61 KXx62 A1x63
      obtain ⟨x0, x1, x2, x3⟩ := KXx71.out.blk.sv
      go_wp2_with fail
      clear x0 x1 x2 x3
      refine (markSnap_big i t _ b m _ (1 + 3 * n) hm20 (by omega) w11 _ KXx71.out.own).mono ?_
      rintro e w12 ⟨rfl, ho12, hg12⟩
      have LDx73 := hide (LDx64.out.row KXx71.out.own (by decide) hg12)
      have LSx74 := hide (LSx65.out.row KXx71.out.own (by decide) hg12)
      have BBx75 := hide (below_own8 BBx66.out BBx66.out.size hz6 KXx71.out.own hg12)
      have A0x76 := hide (A0x67.out.row KXx71.out.own (by decide) hg12)
      have TSx77 := hide (Nat.le_trans TSx68.out hg12.size)
      have DVx78 := hide (DVx69.out.row KXx71.out.own (by decide) hg12)
      have XRx79 := hide (own_stays8 XRx70.out KXx71.out.own (by decide) hg12)
      have KXx80 := hide (KXx71.out.marked ho12 hg12)
      have A1x81 := hide (A1x72.out.row KXx71.out.own (by decide) hg12)
      clear ho12 hg12 LDx64 LSx65 BBx66 A0x67 TSx68 DVx69 XRx70 KXx71 A1x72
      go_wp2_with fail
      obtain ⟨_, _, heA, hatA⟩ := aksAt_own A1x81.out.own
      cases heA
      obtain ⟨_, _, heB, hatB⟩ := aksAt_own A0x76.out.own
      cases heB
      refine (eqActK_S _ M _ _ _ A (by omega) _ hatA hatB).mono ?_
      rintro e w13 ⟨rfl, hbq⟩
      clear hatA hatB
      have LDx82 := hide (LDx73.out.on hbq)
      have LSx83 := hide (LSx74.out.on hbq)
      have BBx84 := hide (BBx75.out.trans (hbq.mono BBx75.out.size))
      have A0x85 := hide (A0x76.out.on hbq)
      have TSx86 := hide (Nat.le_trans TSx77.out hbq.size)
      have DVx87 := hide (DVx78.out.on' hbq)
      have XRx88 := hide (own_below XRx79.out hbq)
      have KXx89 := hide (KXx80.out.on hbq)
      have A1x90 := hide (A1x81.out.on hbq)
      clear hbq LDx73 LSx74 BBx75 A0x76 TSx77 DVx78 XRx79 KXx80 A1x81
      go_wp2_with fail
      refine (markActK_any _ M _ 1 (by omega) (by omega) w13 A A1x90.out.own).mono ?_
      rintro e w14 ⟨rfl, ho14, hg14⟩
      have LDx91 := hide (LDx82.out.row A1x90.out.own (by decide) hg14)
      have LSx92 := hide (LSx83.out.row A1x90.out.own (by decide) hg14)
      have BBx93 := hide (below_own8 BBx84.out BBx84.out.size hz8 A1x90.out.own hg14)
      have A0x94 := hide (A0x85.out.other A1x90.out hts8 hg14)
      have TSx95 := hide (Nat.le_trans TSx86.out hg14.size)
      have DVx96 := hide (DVx87.out.row A1x90.out.own (by decide) hg14)
      have XRx97 := hide (own_stays8 XRx88.out A1x90.out.own (by decide) hg14)
      have KXx98 := hide (KXx89.out.row A1x90.out.own (by decide) (by decide) hg14)
      have A1x99 := hide (A1x90.out.marked ho14)
      clear ho14 hg14 LDx82 LSx83 BBx84 A0x85 TSx86 DVx87 XRx88 KXx89 A1x90
      go_wp2_with fail
      obtain ⟨_, _, heA, hatA⟩ := aksAt_own A1x99.out.own
      cases heA
      refine (heldActK_any _ M _ 1 (by omega) (by omega) _ hatA).mono ?_
      rintro e w16 ⟨rfl, hbq⟩
      clear hatA
      have LDx100 := hide (LDx91.out.on hbq)
      have LSx101 := hide (LSx92.out.on hbq)
      have BBx102 := hide (BBx93.out.trans (hbq.mono BBx93.out.size))
      have A0x103 := hide (A0x94.out.on hbq)
      have TSx104 := hide (Nat.le_trans TSx95.out hbq.size)
      have DVx105 := hide (DVx96.out.on' hbq)
      have XRx106 := hide (own_below XRx97.out hbq)
      have KXx107 := hide (KXx98.out.on hbq)
      have A1x108 := hide (A1x99.out.on hbq)
      clear hbq LDx91 LSx92 BBx93 A0x94 TSx95 DVx96 XRx97 KXx98 A1x99
      have dl := LDx100.out.cell
      obtain ⟨q0, q1, q2, q3⟩ := LSx101.out.sv
      go_wp2_with fail
      clear dl q0 q1 q2 q3
      have kd : ∀ w', LD8 w' w.heap.size (.slice oa n cap) ∧ LS8 w' (w.heap.size + 1) i t (.slice ob m cb) b → w'.cell? ⟨w.heap.size, 0, none⟩ = some (.slice oa n cap) := fun w' h => h.1.cell
      have ks0 : ∀ w', LD8 w' w.heap.size (.slice oa n cap) ∧ LS8 w' (w.heap.size + 1) i t (.slice ob m cb) b → w'.cell? ⟨w.heap.size + 1, 0, none⟩ = some (.int .i64 i) := fun w' h => h.2.sv.c0
      have ks1 : ∀ w', LD8 w' w.heap.size (.slice oa n cap) ∧ LS8 w' (w.heap.size + 1) i t (.slice ob m cb) b → w'.cell? ⟨w.heap.size + 1, 1, none⟩ = some (.int .i64 t) := fun w' h => h.2.sv.c1
      have ks2 : ∀ w', LD8 w' w.heap.size (.slice oa n cap) ∧ LS8 w' (w.heap.size + 1) i t (.slice ob m cb) b → w'.cell? ⟨w.heap.size + 1, 2, none⟩ = some (.slice ob m cb) := fun w' h => h.2.sv.c2
      have ks3 : ∀ w', LD8 w' w.heap.size (.slice oa n cap) ∧ LS8 w' (w.heap.size + 1) i t (.slice ob m cb) b → w'.cell? ⟨w.heap.size + 1, 3, none⟩ = some (.string ⟨b.toArray⟩) := fun w' h => h.2.sv.c3
      go_region_held3 (fun w' => LD8 w' w.heap.size (.slice oa n cap) ∧ LS8 w' (w.heap.size + 1) i t (.slice ob m cb) b) (first | exact ⟨LDx100.out.on (Below.refl w16.heap.size w16).drew, LSx101.out.on (Below.refl w16.heap.size w16).drew⟩ | exact ⟨(LDx100.out.on (Below.refl w16.heap.size w16).drew).on hb171, (LSx101.out.on (Below.refl w16.heap.size w16).drew).on hb171⟩ | exact ⟨((LDx100.out.on (Below.refl w16.heap.size w16).drew).on hb171).on hb172, ((LSx101.out.on (Below.refl w16.heap.size w16).drew).on hb171).on hb172⟩ | exact ⟨(((LDx100.out.on (Below.refl w16.heap.size w16).drew).on hb171).on hb172).on hb173, (((LSx101.out.on (Below.refl w16.heap.size w16).drew).on hb171).on hb172).on hb173⟩)
      (first
        | (go_at_call 22; refine (toDisk_any oa n cap fs hn20 _ (HAT.out.below BBx102.out.drew)).mono ?_; rintro e w171 ⟨g171, rfl, hown171, hb171⟩; have B171 := BBx102.out.drew.trans (hb171.mono BBx102.out.drew.size); have HX171 := hide hown171; clear hown171)
        | (go_at_call 13; refine (toSnap_any i t ob m cb zs b hm20 _ (HBT.out.below B171)).mono ?_; rintro e w172 ⟨g172, rfl, hown172, hb172⟩; have B172 := B171.trans (hb172.mono B171.size); have HX172 := hide (own_below HX171.out hb172); obtain ⟨oa172, cap172, he172, hat172⟩ := filesAt_of_own HX172.out; cases he172; obtain ⟨ob172, cb172, hf172, hbt172⟩ := intsAt_of_own hown172 HFIT.out; cases hf172; have HA172 := hide hat172; have HI172 := hide hbt172; clear hown172 hat172 hbt172)
        | (go_at_call 23; refine (HIM.out _ _ _ _ _ HA172.out HI172.out (tab_below HT.out B172) (tab_below HP.out B172)).mono ?_; rintro e w173 ⟨v173, rfl, ho173, hb173⟩; obtain ⟨ov173, cv173, hv173⟩ := own_slice ho173; subst hv173; have HO173 := hide ho173; clear ho173))
      have hbr : Below w16.heap.size w16 w173 := (((Below.refl w16.heap.size w16).drew.trans hb171).trans (hb172.mono hb171.size)).trans (hb173.mono (Nat.le_trans hb171.size hb172.size))
      clear B171 B172 HX171 HX172 HA172 HI172 kd ks0 ks1 ks2 ks3 hb171 hb172 hb173
      have LDx109 := hide (LDx100.out.on hbr)
      have LSx110 := hide (LSx101.out.on hbr)
      have BBx111 := hide (BBx102.out.trans (hbr.mono BBx102.out.size))
      have A0x112 := hide (A0x103.out.on hbr)
      have TSx113 := hide (Nat.le_trans TSx104.out hbr.size)
      have DVx114 := hide (DVx105.out.on' hbr)
      have XRx115 := hide (own_below XRx106.out hbr)
      have KXx116 := hide (KXx107.out.on hbr)
      have A1x117 := hide (A1x108.out.on hbr)
      clear hbr LDx100 LSx101 BBx102 A0x103 TSx104 DVx105 XRx106 KXx107 A1x108
      have A2k := hide (AR.new HO173.out)
      clear HO173
      go_wp2_with fail
      obtain ⟨_, _, heA, hatA⟩ := aksAt_own A2k.out.own
      cases heA
      obtain ⟨_, _, heB, hatB⟩ := aksAt_own A0x112.out.own
      cases heB
      refine (eqActK_S _ M _ _ _ A (by omega) _ hatA hatB).mono ?_
      rintro e w18 ⟨rfl, hbq⟩
      clear hatA hatB
      have LDx118 := hide (LDx109.out.on hbq)
      have LSx119 := hide (LSx110.out.on hbq)
      have BBx120 := hide (BBx111.out.trans (hbq.mono BBx111.out.size))
      have A0x121 := hide (A0x112.out.on hbq)
      have TSx122 := hide (Nat.le_trans TSx113.out hbq.size)
      have DVx123 := hide (DVx114.out.on' hbq)
      have XRx124 := hide (own_below XRx115.out hbq)
      have KXx125 := hide (KXx116.out.on hbq)
      have A1x126 := hide (A1x117.out.on hbq)
      have A2x127 := hide (A2k.out.on hbq)
      clear hbq LDx109 LSx110 BBx111 A0x112 TSx113 DVx114 XRx115 KXx116 A1x117 A2k
      go_wp2_with fail
      obtain ⟨_, _, heA, hatA⟩ := aksAt_own A1x126.out.own
      cases heA
      refine (heldActK_any _ M _ 1 (by omega) (by omega) _ hatA).mono ?_
      rintro e w19 ⟨rfl, hbq⟩
      clear hatA
      have LDx128 := hide (LDx118.out.on hbq)
      have LSx129 := hide (LSx119.out.on hbq)
      have BBx130 := hide (BBx120.out.trans (hbq.mono BBx120.out.size))
      have A0x131 := hide (A0x121.out.on hbq)
      have TSx132 := hide (Nat.le_trans TSx122.out hbq.size)
      have DVx133 := hide (DVx123.out.on' hbq)
      have XRx134 := hide (own_below XRx124.out hbq)
      have KXx135 := hide (KXx125.out.on hbq)
      have A1x136 := hide (A1x126.out.on hbq)
      have A2x137 := hide (A2x127.out.on hbq)
      clear hbq LDx118 LSx119 BBx120 A0x121 TSx122 DVx123 XRx124 KXx125 A1x126 A2x127
      go_wp2_with fail
      go_ret
      exact ⟨rfl, BBx130.out⟩

end Go.Proofs.YtpenpbopehbncaaDoor
