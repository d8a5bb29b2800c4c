/-
  The law FnExactCutActs: its walk.
-/
import Derived.Test.YtefmigdojnielaaWalkCut
import Derived.Test.YtefmigdojnielaaLawDoActs
import Derived.Test.YtefmigdojnielaaInts
import Derived.Test.YtefmigdojnielaaWalkActs3
import Derived.Test.YtefmigdojnielaaWalk3e
import Derived.Test.YtefmigdojnielaaMarks
namespace Go.Proofs.Ytefmigdojnielaa
open Go.RowKit P5 K Kp
set_option linter.unusedVariables false
set_option linter.unusedSimpArgs false

theorem cutD_len (fs : List FileV) (acs : List ActV) (whole : Int) (left : List Int) : (cutD fs acs whole left).1.length ≤ fs.length ∨ (cutD fs acs whole left).1.length ≤ 30 := by
  have hl : ∀ gs : List FileV, (lost gs left).length ≤ gs.length := by
    intro gs
    unfold lost
    split
    · rw [lose_length]; exact Nat.le_refl _
    · simp
  unfold cutD
  split
  · split
    · exact .inr (by simp)
    · rcases doActsL_len (acs.take whole.toNat) fs with h | h
      · exact .inl (Nat.le_trans (hl _) h)
      · exact .inr (Nat.le_trans (hl _) h)
  · exact .inr (by simp)

set_option maxRecDepth 100000 in
set_option maxHeartbeats 2000000 in
theorem FnExactCutActs_walk (oa : Option Addr) (n cap : Nat) (fs : List FileV) (ob : Option Addr) (m cap' : Nat) (acs : List ActV) (whole : Int) (oc : Option Addr) (l cl : Nat) (left : List Int) (w : World) (hat : FilesAt w oa n cap fs) (hw : ∀ f ∈ fs, Wide f) (hbt : ActsAt w ob m cap' acs) (ha : ∀ a ∈ acs, ActWide a) {Pw : Prop} (hwf : Pw) (hct : IntsAt w oc l cl left) :
    Calls Try.prog 7 #[.agg #[.slice oa n cap], .slice ob m cap', .int .i64 whole, .slice oc l cl] w fun e w' => e = .returned (.bool true) ∧ Below w.heap.size w w' := by
  have hb0 := (Below.refl w.heap.size w).alloc (Nat.le_refl _) (.cells #[.slice oa n cap] 51)
  have hlD := cutD_len fs acs whole left
  rw [hat.len] at hlD
  have hSD := hide (fun (g n' cap : Nat) (w : World) hat hw gB m cap' hbt ha oc l cl hct hn hm hl => specCutActs_any g n' cap fs gB m cap' acs whole oc l cl left w hat hw hbt ha hct hn hm hl)
  have hID := hide (fun (g n' cap : Nat) (w : World) hat hw gB m cap' hbt ha oc l cl hct hn hm hl => implCutActs_any g n' cap fs gB m cap' acs whole oc l cl left w hat hw hbt ha hct hn hm hl)
  obtain ⟨D, hD⟩ : ∃ D, (cutD fs acs whole left).1 = D := ⟨_, rfl⟩
  obtain ⟨ok, hk⟩ : ∃ ok, (cutD fs acs whole left).2 = ok := ⟨_, rfl⟩
  rw [hD] at hlD
  rw [hD, hk] at hSD hID
  have hoo : (ok != ok) = false := by cases ok <;> rfl
  have hc0 := hct.room
  have hc1 := hct.most
  unfold maxLen at hc1
  have HCT := hide hct
  clear hwf hct
  obtain ⟨N, hN⟩ : ∃ N, D.length = N := ⟨_, rfl⟩
  rw [hN] at hlD
  have HN := hide hN
  have HAT := hide hat
  have HBT := hide hbt
  have HW := hide hw
  have HA := hide ha
  have HB0 := hide hb0
  clear hat hw hb0 hbt ha hN hD hk
  by_cases cl0 : l ≤ 1048576
  rotate_left
  · have gl : decide ((1048576 : Int) < (l : Int)) = true := by simp; omega
    go_enter Try.func7, Try.ntmps7
    go_wp2_with fail
    go_ret
    exact ⟨rfl, HB0.out⟩
  have gl : decide ((1048576 : Int) < (l : Int)) = false := by simp; omega
  by_cases c : szFs fs 1048576 < 0
  · have g : decide (szFs fs 1048576 < 0) = true := by simpa using c
    go_enter Try.func7, Try.ntmps7
    go_wp2_with fail
    refine (szDisk_any oa n cap fs 1048576 (by omega) (by omega) _ (HAT.out.below HB0.out) HW.out).mono ?_
    rintro e w1 ⟨rfl, hb1⟩
    go_wp2_with fail
    go_ret
    exact ⟨rfl, HB0.out.trans (hb1.mono (by simp))⟩
  · have g : decide (szFs fs 1048576 < 0) = false := by simpa using c
    have hle : szFs fs 1048576 ≤ 1048576 := by have := szFs_pos fs 1048576 (by omega); omega
    obtain ⟨hlen, hfine⟩ := fine_of_sz (Int.le_refl _) (by omega) HW.out
    have hn20 : n ≤ 1048576 := by have := HAT.out.len; omega
    have hN20 : N ≤ 1048576 := by omega
    have HFI := hide hfine
    clear hfine hlen hlD
    obtain ⟨Z, hZ⟩ : ∃ Z, szAs acs (szFs fs 1048576) = Z := ⟨_, rfl⟩
    have HZ := hide hZ
    clear hZ
    go_enter Try.func7, Try.ntmps7
    go_wp2_with fail
    refine (szDisk_any oa n cap fs 1048576 (by omega) (by omega) _ (HAT.out.below HB0.out) HW.out).mono ?_
    rintro e w1 ⟨rfl, hb1⟩
    have B1 := hide (HB0.out.trans (hb1.mono (by simp)))
    have s1 : w.heap.size < w1.heap.size := by have := hb1.size; simp at this; omega
    have c1 : w1.cell? ⟨w.heap.size, 0, none⟩ = some (.slice oa n cap) := (hb1.cell (by simp)).trans (by simp)
    clear hb1
    go_wp2_with fail
    refine (szActS_any ob m cap' acs _ (by omega) (by omega) _ (HBT.out.below B1.out) HA.out).mono ?_
    rw [HZ.out]
    rintro e w2 ⟨rfl, hb2⟩
    have B2 := hide (B1.out.trans (hb2.mono (by omega)))
    have s2 : w.heap.size < w2.heap.size := by have := hb2.size; omega
    have c2 := (hb2.cell (p := ⟨w.heap.size, 0, none⟩) s1).trans c1
    clear hb2 c1
    by_cases cz : Z < 0
    · have gz : decide (Z < 0) = true := by simpa using cz
      go_wp2_with fail
      go_ret
      exact ⟨rfl, B2.out⟩
    have gz : decide (Z < 0) = false := by simpa using cz
    obtain ⟨hml, haf⟩ := szAs_fine hle (by omega) (by rw [HZ.out]; omega) HA.out
    have hm20 : m ≤ 1048576 := by have := HBT.out.len; omega
    have HAF := hide haf
    clear haf hml
    go_wp2_with fail
    refine (toDisk_any oa n cap fs hn20 _ (HAT.out.below B2.out)).mono ?_
    rintro e w3 ⟨gA, rfl, hoA, hb3⟩
    have B3 := hide (B2.out.trans (hb3.mono (by omega)))
    have s3 : w.heap.size < w3.heap.size := by have := hb3.size; omega
    have c3 := (hb3.cell (p := ⟨w.heap.size, 0, none⟩) s2).trans c2
    have HOA := hide hoA
    clear hb3 hoA c2
    go_wp2_with fail
    refine (toActS_any ob m cap' acs hm20 _ (HBT.out.below B3.out)).mono ?_
    rintro e w4a ⟨gB, rfl, hoB, hb4a⟩
    have B4a := hide (B3.out.trans (hb4a.mono (by omega)))
    have s4a : w.heap.size < w4a.heap.size := by have := hb4a.size; omega
    have c4a := (hb4a.cell (p := ⟨w.heap.size, 0, none⟩) s3).trans c3
    obtain ⟨_, _, he, hatA⟩ := filesAt_of_own (own_below HOA.out hb4a)
    cases he
    obtain ⟨_, _, he, hatB⟩ := actsAt_of_own hoB
    cases he
    have HATA := hide hatA
    have HATB := hide hatB
    clear hb4a hoB hatA hatB c3 HOA
    go_wp2_with fail
    refine (toIntS_any oc l cl left cl0 _ (HCT.out.below B4a.out)).mono ?_
    rintro e w4 ⟨gI, rfl, hoI, hb4⟩
    have B4 := hide (B4a.out.trans (hb4.mono (by omega)))
    have s4 : w.heap.size < w4.heap.size := by have := hb4.size; omega
    have c4 := (hb4.cell (p := ⟨w.heap.size, 0, none⟩) s4a).trans c4a
    obtain ⟨_, _, he, hatI⟩ := intsAt_of_own hoI HCT.out.fits
    cases he
    have HATA4 := hide (HATA.out.below hb4)
    have HATB4 := hide (HATB.out.below hb4)
    have HATI4 := hide hatI
    clear hb4 hoI hatI c4a HATA HATB
    go_wp2_with fail
    refine (hSD.out gA n n _ HATA4.out HFI.out gB m m HATB4.out HAF.out _ l l HATI4.out hn20 hm20 cl0).mono ?_
    rintro e w5 ⟨vW, rfl, hoW, hb5⟩
    rw [HN.out] at hoW
    obtain ⟨oW, cW, rfl⟩ := own_form hoW
    have hKW := kept1_mk (w1 := w4) hoW hb5
    have b5 : Below w4.heap.size w4 w5 := hb5
    clear HATA4 HATB4 HATI4 hoW hb5
    have cA : (w5.alloc (.cells #[.slice oW N cW] 26)).cell? ⟨w.heap.size, 0, none⟩ = some (.slice oa n cap) := (hKW.bel.cell (p := ⟨w.heap.size, 0, none⟩) s4).trans c4
    have c5 := (b5.cell (p := ⟨w.heap.size, 0, none⟩) s4).trans c4
    have s5 : w.heap.size < w5.heap.size := Nat.lt_of_lt_of_le s4 b5.size
    clear b5 c4
    go_wp2_with fail
    clear c5 s5
    obtain ⟨kW, hkW⟩ : ∃ k, w5.heap.size = k := ⟨_, rfl⟩
    rw [hkW] at hKW ⊢
    obtain ⟨wA, hwA⟩ : ∃ wA, wA = w5.alloc (.cells #[.slice oW N cW] 26) := ⟨_, rfl⟩
    rw [← hwA] at hKW cA ⊢
    clear hwA hkW
    have BA := hide (B4.out.trans (hKW.bel.mono B4.out.size))
    have sA := hKW.bel.size
    have HKW := hide hKW.two
    have HRW := hide (show ∀ r, (Value.slice oW N cW).ownBlock = some r → r < wA.heap.size from fun r hr => (hKW.row r hr).2.1)
    have lkW : kW < wA.heap.size := hKW.lt
    clear hKW
    refine (toDisk_any oa n cap fs hn20 _ (HAT.out.below BA.out)).mono ?_
    rintro e w6 ⟨gX, rfl, hoX, hb6⟩
    have hKX := kept1_mk (w1 := wA) hoX hb6
    have s6 : wA.heap.size ≤ w6.heap.size := hb6.size
    clear hoX hb6
    go_wp2_with fail
    obtain ⟨kX, hkX⟩ : ∃ k, w6.heap.size = k := ⟨_, rfl⟩
    rw [hkX] at hKX ⊢
    obtain ⟨w7, hw7⟩ : ∃ w7, w7 = w6.alloc (.cells #[.slice (some ⟨gX, 0, none⟩) n n] 26) := ⟨_, rfl⟩
    rw [← hw7] at hKX ⊢
    clear hw7 hkX s6
    have B7 := hide (BA.out.trans (hKX.bel.mono BA.out.size))
    have c7 := (hKX.bel.cell (p := ⟨w.heap.size, 0, none⟩) (by simp; omega)).trans cA
    have s7 := hKX.bel.size
    have HKW7 := hide (HKW.out.on hKX.bel)
    have HKX := hide hKX.two
    have HRX := hide (show ∀ r, (Value.slice (some ⟨gX, 0, none⟩) n n).ownBlock = some r → wA.heap.size ≤ r ∧ r < w7.heap.size from fun r hr => ⟨(hKX.row r hr).1, (hKX.row r hr).2.1⟩)
    have lkX : kX < w7.heap.size := hKX.lt
    clear hKX HKW cA
    refine (toActS_any ob m cap' acs hm20 _ (HBT.out.below B7.out)).mono ?_
    rintro e w8a ⟨gY, rfl, hoY, hb8a⟩
    have B8a := hide (B7.out.trans (hb8a.mono B7.out.size))
    have C8a := hide ((hb8a.cell (p := ⟨w.heap.size, 0, none⟩) (by simp; omega)).trans c7)
    have s8a := hb8a.size
    have HKW8a := hide (HKW7.out.on hb8a)
    have HKX8a := hide (HKX.out.on hb8a)
    have HOY8a := hide hoY
    have hrY := own_lt hoY
    clear hb8a hoY c7 HKW7 HKX
    go_wp2_with fail
    refine (toIntS_any oc l cl left cl0 _ (HCT.out.below B8a.out)).mono ?_
    rintro e w8 ⟨gV, rfl, hoV, hb8⟩
    have B8 := hide (B8a.out.trans (hb8.mono B8a.out.size))
    have C8 := hide ((hb8.cell (p := ⟨w.heap.size, 0, none⟩) (by simp; omega)).trans C8a.out)
    have s8 := hb8.size
    have HKW8 := hide (HKW8a.out.on hb8)
    have HKX8 := hide (HKX8a.out.on hb8)
    have HOY8 := hide (own_below HOY8a.out hb8)
    have HOV8 := hide hoV
    have hrV := own_lt hoV
    have x8 := HKX8.out.cell
    clear hb8 hoV C8a HKW8a HKX8a HOY8a
    go_wp2_with fail
    obtain ⟨_, _, he, hatY⟩ := actsAt_of_own HOY8.out
    cases he
    obtain ⟨_, _, he, hatV⟩ := intsAt_of_own HOV8.out HCT.out.fits
    cases he
    refine (hID.out _ n _ _ HKX8.out.at_ HFI.out _ m _ hatY HAF.out _ l _ hatV hn20 hm20 cl0).mono ?_
    rintro e w9 ⟨vG, rfl, hoG, hb9⟩
    rw [HN.out] at hoG
    obtain ⟨oG, cG, rfl⟩ := own_form hoG
    have hKG := kept1_mk (w1 := w8) hoG hb9
    have w9W := (HKW8.out.on hb9).cell
    have lW9 : kW < w9.heap.size := (HKW8.out.on hb9).lt
    clear hoG hb9 hatY hatV x8
    go_wp2_with fail
    obtain ⟨kG, hkG⟩ : ∃ k, w9.heap.size = k := ⟨_, rfl⟩
    rw [hkG] at hKG ⊢
    obtain ⟨wB, hwB⟩ : ∃ wB, wB = w9.alloc (.cells #[.slice oG N cG] 26) := ⟨_, rfl⟩
    rw [← hwB] at hKG ⊢
    clear hwB hkG w9W lW9
    have BB := hide (B8.out.trans (hKG.bel.mono B8.out.size))
    have CB := hide ((hKG.bel.cell (p := ⟨w.heap.size, 0, none⟩) (by simp; omega)).trans C8.out)
    have sB := hKG.bel.size
    have HKWB := hide (HKW8.out.on hKG.bel)
    have HKXB := hide (HKX8.out.on hKG.bel)
    have HOYB := hide (own_below HOY8.out hKG.bel)
    have HOVB := hide (own_below HOV8.out hKG.bel)
    have HKGB := hide hKG.two
    clear hKG HKW8 HKX8 HOY8 HOV8 C8
    refine (eqDisk_any _ N _ D _ N _ D hN20 _ HKGB.out.at_ HKWB.out.at_).mono ?_
    rw [decide_eq_true (rfl : D = D)]
    rintro e w11 ⟨rfl, hb11⟩
    have HKW11 := hide (HKWB.out.on hb11)
    have HKX11 := hide (HKXB.out.on hb11)
    have HKG11 := hide (HKGB.out.on hb11)
    have HOY11 := hide (own_below HOYB.out hb11)
    have HOV11 := hide (own_below HOVB.out hb11)
    have B11 := hide (BB.out.trans (hb11.mono BB.out.size))
    have s11 := hb11.size
    have c11 := (hb11.cell (p := ⟨w.heap.size, 0, none⟩) (by simp; omega)).trans CB.out
    have e11 := HKX11.out.cell
    have lt11 : w.heap.size < w11.heap.size := by omega
    have lt11' : kX < w11.heap.size := by omega
    clear hb11 HKWB HKXB HKGB HOYB HOVB CB
    go_wp2_with fail
    go_region_held3 (fun w' => w'.cell? ⟨w.heap.size, 0, none⟩ = some (.slice oa n cap) ∧ w'.cell? ⟨kX, 0, none⟩ = some (.slice (some ⟨gX, 0, none⟩) n n)) (first | go_keep | exact ⟨(hb12.cell (by simpa using lt11)).trans c11, (hb12.cell (by simpa using lt11')).trans e11⟩ | exact ⟨(hb13.cell (Nat.lt_of_lt_of_le lt11 hb12.size)).trans ((hb12.cell (by simpa using lt11)).trans c11), (hb13.cell (Nat.lt_of_lt_of_le lt11' hb12.size)).trans ((hb12.cell (by simpa using lt11')).trans e11)⟩)
      (first
        | (go_at_call 27; refine (toDisk_any oa n cap fs hn20 _ (HAT.out.below B11.out.drew)).mono ?_; rintro e w12 ⟨g12, rfl, hown12, hb12⟩; obtain ⟨oa12, cap12, he12, hat12⟩ := filesAt_of_own hown12; cases he12; have HAT12 := hide hat12; clear hown12 hat12)
        | (go_at_call 29; obtain ⟨oaX, capX, heX, hatX⟩ := filesAt_of_own (own_below HKX11.out.own ((Below.refl _ _).drew.trans hb12)); cases heX; refine (eqDisk_any _ n _ fs _ n _ fs hn20 _ hatX HAT12.out).mono ?_; rw [decide_eq_true (rfl : fs = fs)]; rintro e w13 ⟨rfl, hb13⟩))
    have K13 : Below w11.heap.size w11 w13 := ((Below.refl _ w11).drew.trans (hb12.mono (by simp))).trans (hb13.mono (by have := hb12.size; simpa using this))
    have s13 := K13.size
    have B13 := hide (B11.out.trans (K13.mono (by omega)))
    have C13 := hide ((K13.cell (p := ⟨w.heap.size, 0, none⟩) lt11).trans c11)
    have HKW13 := hide (HKW11.out.on K13)
    have HKX13 := hide (HKX11.out.on K13)
    have HKG13 := hide (HKG11.out.on K13)
    have HOY13 := hide (own_below HOY11.out K13)
    have HOV13 := hide (own_below HOV11.out K13)
    clear hb12 hb13 c11 e11 lt11 lt11' K13 HKW11 HKX11 HKG11 HOY11 HOV11 HAT12
    go_wp2_with fail
    refine (toActS_any ob m cap' acs hm20 _ (HBT.out.below B13.out)).mono ?_
    rintro e w14 ⟨gD, rfl, hoD, hb14⟩
    have s14 := hb14.size
    go_wp2_with fail
    obtain ⟨_, _, he, hatY⟩ := actsAt_of_own (own_below HOY13.out hb14)
    cases he
    obtain ⟨_, _, he, hatD⟩ := actsAt_of_own hoD
    cases he
    refine (eqActS_same _ m _ _ _ acs hm20 _ hatY hatD).mono ?_
    rintro e w15a ⟨rfl, hb15a⟩
    have K15a := hb14.trans (hb15a.mono s14)
    have s15a := K15a.size
    have B15a := hide (B13.out.trans (K15a.mono B13.out.size))
    clear hb14 hb15a hoD hatY hatD
    go_wp2_with fail
    refine (toIntS_any oc l cl left cl0 _ (HCT.out.below B15a.out)).mono ?_
    rintro e w15b ⟨gD2, rfl, hoD, hb14⟩
    have K15b := K15a.trans (hb14.mono s15a)
    have s15b := K15b.size
    go_wp2_with fail
    obtain ⟨_, _, he, hatY⟩ := intsAt_of_own (own_below HOV13.out K15b) HCT.out.fits
    cases he
    obtain ⟨_, _, he, hatD⟩ := intsAt_of_own hoD HCT.out.fits
    cases he
    refine (eqIntS_same _ l _ _ _ left cl0 _ hatY hatD).mono ?_
    rintro e w15 ⟨rfl, hb15⟩
    have K15 := K15b.trans (hb15.mono s15b)
    have s15 := K15.size
    have B15 := hide (B13.out.trans (K15.mono B13.out.size))
    have C15 := hide ((K15.cell (p := ⟨w.heap.size, 0, none⟩) (by simp; omega)).trans C13.out)
    have HKW15 := hide (HKW13.out.on K15)
    have HKX15 := hide (HKX13.out.on K15)
    have HKG15 := hide (HKG13.out.on K15)
    have HOY15 := hide (own_below HOY13.out K15)
    have HOV15 := hide (own_below HOV13.out K15)
    have e15 := HKX15.out.cell
    clear hb14 hb15 hoD hatY hatD K15 K15a K15b C13 HKW13 HKX13 HKG13 HOY13 HOV13
    go_wp2_with fail
    refine (markDisk_any _ n _ 1 hn20 (by omega) _ _ HKX15.out.own).mono ?_
    rintro e w16 ⟨rfl, hoX16, hg16⟩
    have C16 := hide (hg16.cell C15.out (fun e => by have := (HRX.out _ e.symm).1; simp at this; omega))
    have HKW16 := hide (HKW15.out.grown hg16 (fun r hr => ⟨fun e => by have := HRW.out r e; have := (HRX.out r hr).1; omega, by have := (HRX.out r hr).1; omega⟩))
    have HKG16 := hide (HKG15.out.grown hg16 (fun r hr => ⟨fun e => by have := (HKG15.out.row r e).1; have := (HRX.out r hr).2; omega, by have := HKG15.out.low; have := (HRX.out r hr).2; omega⟩))
    have HOY16 := hide (own_kept HOY15.out hg16 (fun r hr e => by have h1 : gY = r := Option.some.inj hr; have := (HRX.out r e).2; omega))
    have HOV16 := hide (own_kept HOV15.out hg16 (fun r hr e => by have h1 : gV = r := Option.some.inj hr; have := (HRX.out r e).2; omega))
    have B16 := hide (B15.out.grown hg16 (by omega) (fun r hr => by have := (HRX.out r hr).1; omega))
    have s16 := hg16.size
    clear hg16 hoX16 e15 C15 HKW15 HKX15 HKG15 HOY15 HOV15
    go_wp2_with fail
    refine (markActS_any gY m _ _ (1 + 3 * n) hm20 (by omega) _ _ HOY16.out).mono ?_
    rintro e w17a ⟨rfl, hg17a⟩
    have C17a := hide (hg17a.cell C16.out (by simp; omega))
    have HKW17a := hide (HKW16.out.grown hg17a (fun r hr => by cases hr; exact ⟨fun e => by have := HRW.out _ e; omega, by omega⟩))
    have HKG17a := hide (HKG16.out.grown hg17a (fun r hr => by cases hr; exact ⟨fun e => by have := (HKG16.out.row _ e).1; omega, by have := HKG16.out.low; omega⟩))
    have HOV17a := hide (own_kept HOV16.out hg17a (fun r hr e => by have h1 : gV = r := Option.some.inj hr; have h2 : gY = r := Option.some.inj e; omega))
    have B17a := hide (B16.out.grown hg17a (by omega) (fun r hr => by cases hr; omega))
    have s17a := hg17a.size
    clear hg17a C16 HKW16 HKG16 HOY16 HOV16
    go_wp2_with fail
    refine (markIntS_any gV l _ (1 + 3 * n + 4 * m) cl0 (by omega) _ _ HOV17a.out).mono ?_
    rintro e w17 ⟨rfl, hg17⟩
    have C17 := hide (hg17.cell C17a.out (by simp; omega))
    have HKW17 := hide (HKW17a.out.grown hg17 (fun r hr => by cases hr; exact ⟨fun e => by have := HRW.out _ e; omega, by omega⟩))
    have HKG17 := hide (HKG17a.out.grown hg17 (fun r hr => by cases hr; exact ⟨fun e => by have := (HKG17a.out.row _ e).1; omega, by have := HKG17a.out.low; omega⟩))
    have B17 := hide (B17a.out.grown hg17 (by omega) (fun r hr => by cases hr; omega))
    have s17 := hg17.size
    have cW := HKW17.out.cell
    have cG := HKG17.out.cell
    have g17 : decide (((1 + 3 * n + 4 * m + l : Nat) : Int) < 0) = false := by simp; omega
    clear hg17 C17a HKW17a HKG17a HOV17a
    go_wp2_with fail
    refine (eqDisk_any _ N _ D _ N _ D hN20 _ HKG17.out.at_ HKW17.out.at_).mono ?_
    rw [decide_eq_true (rfl : D = D)]
    rintro e w18 ⟨rfl, hb18⟩
    have s18 := hb18.size
    have HKW18 := hide (HKW17.out.on hb18)
    have HKG18 := hide (HKG17.out.on hb18)
    have C18 := hide ((hb18.cell (p := ⟨w.heap.size, 0, none⟩) (by simp; omega)).trans C17.out)
    have B18 := hide (B17.out.trans (hb18.mono B17.out.size))
    have f18 := HKG18.out.cell
    clear hb18 cW cG C17 HKW17 HKG17
    go_wp2_with fail
    refine (markDisk_any _ N _ 1 hN20 (by omega) _ _ HKG18.out.own).mono ?_
    rintro e w19 ⟨rfl, hoG19, hg19⟩
    have HKW19 := hide (HKW18.out.grown hg19 (fun r hr => ⟨fun e => by have := HRW.out r e; have := (HKG18.out.row r hr).1; omega, by have := (HKG18.out.row r hr).1; omega⟩))
    have f19 := hg19.cell f18 (fun e => (HKG18.out.row _ e.symm).2.2 rfl)
    have C19 := hide (hg19.cell C18.out (fun e => by have := (HKG18.out.row _ e.symm).1; simp at this; omega))
    have B19 := hide (B18.out.grown hg19 (by omega) (fun r hr => by have := (HKG18.out.row r hr).1; omega))
    have HOG19 := hide hoG19
    have s19 := hg19.size
    have lkG : kG < w18.heap.size := HKG18.out.lt
    have g19 : decide (((1 + 3 * N : Nat) : Int) < 0) = false := by simp; omega
    clear hg19 hoG19 f18 C18 HKW18 HKG18
    go_wp2_with fail
    refine (heldDisk_any _ N _ 1 hN20 (by omega) _ HOG19.out).mono ?_
    rintro e w20 ⟨rfl, hb20⟩
    have s20 := hb20.size
    have HKW20 := hide (HKW19.out.on hb20)
    have HOG20 := hide (own_below HOG19.out hb20)
    have B20 := hide (B19.out.trans (hb20.mono B19.out.size))
    have F20 := hide ((hb20.cell (p := ⟨kG, 0, none⟩) (by simp; omega)).trans f19)
    have c20 := (hb20.cell (p := ⟨w.heap.size, 0, none⟩) (by simp; omega)).trans C19.out
    clear hb20 f19 C19 HKW19 HOG19
    go_wp2_with fail
    refine (toDisk_any oa n cap fs hn20 _ (HAT.out.below B20.out)).mono ?_
    rintro e w21 ⟨gE, rfl, hoE, hb21⟩
    have s21 := hb21.size
    have B21 := hide (B20.out.trans (hb21.mono (by omega)))
    have HOE := hide hoE
    clear hoE
    go_wp2_with fail
    refine (toActS_any ob m cap' acs hm20 _ (HBT.out.below B21.out)).mono ?_
    rintro e w22a ⟨gF, rfl, hoF, hb22a⟩
    have s22a := hb22a.size
    have B22a := hide (B21.out.trans (hb22a.mono (by omega)))
    have K22a := hb21.trans (hb22a.mono s21)
    obtain ⟨_, _, he, hatE⟩ := filesAt_of_own (own_below HOE.out hb22a)
    cases he
    obtain ⟨_, _, he, hatF⟩ := actsAt_of_own hoF
    cases he
    have HATE := hide hatE
    have HATF := hide hatF
    clear hoF HOE hatE hatF
    go_wp2_with fail
    refine (toIntS_any oc l cl left cl0 _ (HCT.out.below B22a.out)).mono ?_
    rintro e w22 ⟨gI2, rfl, hoI, hb22⟩
    have s22 := hb22.size
    have K22 := K22a.trans (hb22.mono (by omega))
    have hatE := HATE.out.below hb22
    have hatF := HATF.out.below hb22
    obtain ⟨_, _, he, hatI⟩ := intsAt_of_own hoI HCT.out.fits
    cases he
    have HATE2 := hide hatE
    have HATF2 := hide hatF
    have HATI2 := hide hatI
    clear hoI hatE hatF hatI HATE HATF
    go_wp2_with fail
    refine (hID.out _ n _ _ HATE2.out HFI.out _ m _ HATF2.out HAF.out _ l _ HATI2.out hn20 hm20 cl0).mono ?_
    rintro e w23 ⟨vH, rfl, hoH, hb23⟩
    rw [HN.out] at hoH
    obtain ⟨oH, cH, rfl⟩ := own_form hoH
    have K23 := K22.trans (hb23.mono (by omega))
    have hKH := kept1_mk (w1 := w20) (own_base hoH (by omega)) K23
    have w9W := (HKW20.out.on K23).cell
    have lW9 : kW < w23.heap.size := (HKW20.out.on K23).lt
    clear hb21 hb22 hb22a hb23 K22 K22a K23 HATE2 HATF2 HATI2 hoH c20
    go_wp2_with fail
    obtain ⟨kH, hkH⟩ : ∃ k, w23.heap.size = k := ⟨_, rfl⟩
    rw [hkH] at hKH ⊢
    obtain ⟨wC, hwC⟩ : ∃ wC, wC = w23.alloc (.cells #[.slice oH N cH] 26) := ⟨_, rfl⟩
    rw [← hwC] at hKH ⊢
    clear hwC hkH w9W lW9
    have HKWC := hide (HKW20.out.on hKH.bel)
    have HOGC := hide (own_below HOG20.out hKH.bel)
    have FC := hide ((hKH.bel.cell (p := ⟨kG, 0, none⟩) (by simp; omega)).trans F20.out)
    have BC := hide (B20.out.trans (hKH.bel.mono B20.out.size))
    have sC := hKH.bel.size
    have HKH := hide hKH.two
    clear hKH HKW20 HOG20 F20
    refine (eqDisk_any _ N _ D _ N _ D hN20 _ HKH.out.at_ HKWC.out.at_).mono ?_
    rw [decide_eq_true (rfl : D = D)]
    rintro e w25 ⟨rfl, hb25⟩
    have f25 := (hb25.cell (p := ⟨kG, 0, none⟩) (by simp; omega)).trans FC.out
    have HOG25 := hide (own_below HOGC.out hb25)
    have B25 := hide (BC.out.trans (hb25.mono BC.out.size))
    clear hb25 HKWC HOGC FC
    go_wp2_with fail
    refine (heldDisk_any _ N _ 1 hN20 (by omega) _ HOG25.out).mono ?_
    rintro e w26 ⟨rfl, hb26⟩
    have B26 := B25.out.trans (hb26.mono B25.out.size)
    clear hb26
    go_wp2_with fail
    go_ret
    exact ⟨rfl, B26⟩

end Go.Proofs.Ytefmigdojnielaa
