/-
  The law FnExactLoseDisk: its walk.
-/
import Derived.Test.YtibhbclnfmjmbaaWalk3l
import Derived.Test.YtibhbclnfmjmbaaWalk3e
import Derived.Test.YtibhbclnfmjmbaaMarks
namespace Go.Proofs.Ytibhbclnfmjmbaa
open Go.RowKit P5 K
set_option linter.unusedVariables false
set_option linter.unusedSimpArgs false

theorem lost_length (fs : List FileV) (left : List Int) : (lost fs left).length ≤ fs.length := by
  unfold lost
  split
  · rw [lose_length]; exact Nat.le_refl _
  · simp

theorem own_lt {w : World} {base : Nat} {e : TypeId} {g n cap size : Nat} {xs : List Value} (h : w.ownsRow base e size (.slice (some ⟨g, 0, none⟩) n cap) n xs) : base ≤ g ∧ g < w.heap.size := h.lt g rfl

theorem own_kept {w w' : World} {base : Nat} {e : TypeId} {size : Nat} {v : Value} {n : Nat} {xs : List Value} {row : Option Nat} (h : w.ownsRow base e size v n xs) (hg : w.grownBy w' row) (hne : ∀ k, v.ownBlock = some k → row ≠ some k) : w'.ownsRow base e size v n xs := by
  refine h.kept hg ?_
  cases hv : v.ownBlock with
  | none => exact Or.inl rfl
  | some k => exact Or.inr (fun e => hne k hv e.symm)

set_option maxHeartbeats 8000000 in
theorem FnExactLoseDisk_walk (oa : Option Addr) (n cap : Nat) (fs : List FileV) (ob : Option Addr) (m cap' : Nat) (left : List Int) (w : World) (hat : FilesAt w oa n cap fs) (hw : ∀ f ∈ fs, Wide f) (hbt : IntsAt w ob m cap' left) :
    Calls Try.prog 7 #[.agg #[.slice oa n cap], .slice ob m cap'] w fun e w' => e = .returned (.bool true) ∧ Below w.heap.size w w' := by
  have hb0 := (Below.refl w.heap.size w).alloc (Nat.le_refl _) (.cells #[.slice oa n cap] 24)
  have hm0 := hbt.room
  have hm1 := hbt.most
  unfold maxLen at hm1
  have HAT := hide hat
  have HBT := hide hbt
  have HW := hide hw
  have HB0 := hide hb0
  clear hat hw hb0 hbt
  by_cases cl : m ≤ 1048576
  rotate_left
  · have gl : decide ((1048576 : Int) < (m : Int)) = true := by simp; omega
    go_enter Try.func7, Try.ntmps7
    go_wp2_with fail
    go_ret
    exact ⟨rfl, HB0.out⟩
  have gl : decide ((1048576 : Int) < (m : Int)) = false := by simp; omega
  by_cases c : szFs fs 1048576 < 0
  · have g : decide (szFs fs 1048576 < 0) = true := by simpa using c
    go_enter Try.func7, Try.ntmps7
    go_wp2_with fail
    refine (szDisk_any oa n cap fs 1048576 (by omega) (by omega) _ (HAT.out.below HB0.out) HW.out).mono ?_
    rintro e w1 ⟨rfl, hb1⟩
    go_wp2_with fail
    go_ret
    exact ⟨rfl, HB0.out.trans (hb1.mono (by simp))⟩
  · have g : decide (szFs fs 1048576 < 0) = false := by simpa using c
    obtain ⟨hlen, hfine⟩ := fine_of_sz (Int.le_refl _) (by omega) HW.out
    have hn20 : n ≤ 1048576 := by have := HAT.out.len; omega
    have hN20 : (lost fs left).length ≤ 1048576 := Nat.le_trans (lost_length fs left) hlen
    have HFI := hide hfine
    clear hfine c hlen
    obtain ⟨N, hN⟩ : ∃ N, (lost fs left).length = N := ⟨_, rfl⟩
    rw [hN] at hN20
    go_enter Try.func7, Try.ntmps7
    go_wp2_with fail
    refine (szDisk_any oa n cap fs 1048576 (by omega) (by omega) _ (HAT.out.below HB0.out) HW.out).mono ?_
    rintro e w1 ⟨rfl, hb1⟩
    have B1 := hide (HB0.out.trans (hb1.mono (by simp)))
    have s1 : w.heap.size < w1.heap.size := by have := hb1.size; simp at this; omega
    have c1 : w1.cell? ⟨w.heap.size, 0, none⟩ = some (.slice oa n cap) := (hb1.cell (by simp)).trans (by simp)
    clear hb1
    go_wp2_with fail
    refine (toDisk_any oa n cap fs hn20 _ (HAT.out.below B1.out)).mono ?_
    rintro e w2 ⟨gA, rfl, hoA, hb2⟩
    have B2 := hide (B1.out.trans (hb2.mono (by omega)))
    have s2 : w.heap.size < w2.heap.size := by have := hb2.size; omega
    have c2 := (hb2.cell (p := ⟨w.heap.size, 0, none⟩) s1).trans c1
    have HOA := hide hoA
    clear hb2 hoA c1
    go_wp2_with fail
    refine (toIntS_any ob m cap' left cl _ (HBT.out.below B2.out)).mono ?_
    rintro e w3 ⟨gB, rfl, hoB, hb3⟩
    have B3 := hide (B2.out.trans (hb3.mono (by omega)))
    have s3 : w.heap.size < w3.heap.size := by have := hb3.size; omega
    have c3 := (hb3.cell (p := ⟨w.heap.size, 0, none⟩) s2).trans c2
    obtain ⟨_, _, he, hatA⟩ := filesAt_of_own (own_below HOA.out hb3)
    cases he
    obtain ⟨_, _, he, hatB⟩ := intsAt_of_own hoB HBT.out.fits
    cases he
    have HATA := hide hatA
    have HATB := hide hatB
    clear hb3 hoB hatA hatB c2 HOA
    go_wp2_with fail
    refine (specLoseDisk_any _ n _ fs _ m _ left _ HATA.out HFI.out HATB.out cl).mono ?_
    rintro e w4 ⟨vW, rfl, hoW, hb4⟩
    rw [hN] at hoW
    obtain ⟨oW, cW, rfl⟩ := own_form hoW
    have B4 := hide (B3.out.trans (hb4.mono (by omega)))
    have s4 : w.heap.size < w4.heap.size := by have := hb4.size; omega
    have c4 := (hb4.cell (p := ⟨w.heap.size, 0, none⟩) s3).trans c3
    have HOW := hide hoW
    have hrW : ∀ k, (Value.slice oW N cW).ownBlock = some k → k < w4.heap.size := fun k hk => (hoW.lt k hk).2
    have hs34 := hb4.size
    clear hb4 hoW c3 HATA HATB
    go_wp2_with fail
    have B5 := hide (B4.out.alloc (by omega) (.cells #[.slice oW N cW] 29))
    refine (toDisk_any oa n cap fs hn20 _ (HAT.out.below B5.out)).mono ?_
    rintro e w6 ⟨gX, rfl, hoX, hb6⟩
    have s6 : w4.heap.size + 1 ≤ w6.heap.size := by have := hb6.size; simp at this; omega
    have c6 : w6.cell? ⟨w.heap.size, 0, none⟩ = some (.slice oa n cap) := (hb6.cell (by simp; omega)).trans ((((Below.refl w4.heap.size w4).alloc (Nat.le_refl _) _).cell (p := ⟨w.heap.size, 0, none⟩) s4).trans c4)
    have d6 : w6.cell? ⟨w4.heap.size, 0, none⟩ = some (.slice oW N cW) := (hb6.cell (by simp)).trans (by simp)
    have HOW6 := hide (own_below (HOW.out.alloc (.cells #[.slice oW N cW] 29)) hb6)
    have B6 := hide (B5.out.trans (hb6.mono (by simp; omega)))
    have HOX := hide hoX
    clear hb6 hoX c4 HOW
    go_wp2_with fail
    have B7 := hide (B6.out.alloc (by omega) (.cells #[.slice (some ⟨gX, 0, none⟩) n n] 29))
    refine (toIntS_any ob m cap' left cl _ (HBT.out.below B7.out)).mono ?_
    rintro e w8 ⟨gY, rfl, hoY, hb8⟩
    have s8 : w6.heap.size + 1 ≤ w8.heap.size := by have := hb8.size; simp at this; omega
    have K68 : Below w6.heap.size w6 w8 := ((Below.refl w6.heap.size w6).alloc (Nat.le_refl _) _).trans (hb8.mono (by simp))
    have c8 := (K68.cell (p := ⟨w.heap.size, 0, none⟩) (by simp; omega)).trans c6
    have d8 := (K68.cell (p := ⟨w4.heap.size, 0, none⟩) (by simp; omega)).trans d6
    have e8 : w8.cell? ⟨w6.heap.size, 0, none⟩ = some (.slice (some ⟨gX, 0, none⟩) n n) := (hb8.cell (by simp)).trans (by simp)
    have HOW8 := hide (own_below HOW6.out K68)
    have HOX8 := hide (own_below HOX.out K68)
    have hrX := own_lt HOX.out
    have HOY8 := hide hoY
    have B8 := hide (B6.out.trans (K68.mono (by omega)))
    simp at hrX
    clear hb8 hoY c6 d6 K68 HOW6 HOX
    go_wp2_with fail
    obtain ⟨_, _, he, hatX⟩ := filesAt_of_own HOX8.out
    cases he
    obtain ⟨_, _, he, hatY⟩ := intsAt_of_own HOY8.out HBT.out.fits
    cases he
    refine (implLoseDisk_any _ n _ fs _ m _ left _ hatX HFI.out hatY cl).mono ?_
    rintro e w9 ⟨vG, rfl, hoG, hb9⟩
    rw [hN] at hoG
    obtain ⟨oG, cG, rfl⟩ := own_form hoG
    have s9 := hb9.size
    have c9 := (hb9.cell (p := ⟨w.heap.size, 0, none⟩) (by simp; omega)).trans c8
    have d9 := (hb9.cell (p := ⟨w4.heap.size, 0, none⟩) (by simp; omega)).trans d8
    have e9 := (hb9.cell (p := ⟨w6.heap.size, 0, none⟩) (by simp; omega)).trans e8
    have hrY := own_lt HOY8.out
    have HOW9 := hide (own_below HOW8.out hb9)
    have HOX9 := hide (own_below HOX8.out hb9)
    have HOY9 := hide (own_below HOY8.out hb9)
    have HOG9 := hide hoG
    have B9 := hide (B8.out.trans (hb9.mono (by omega)))
    have hrG : ∀ k, (Value.slice oG N cG).ownBlock = some k → w8.heap.size ≤ k ∧ k < w9.heap.size := hoG.lt
    simp at hrY
    clear hb9 hoG c8 d8 e8 hatX hatY HOW8 HOX8 HOY8
    have lt4 : w4.heap.size < w9.heap.size := by omega
    have lt6 : w6.heap.size < w9.heap.size := by omega
    have lt0 : w.heap.size < w9.heap.size := by omega
    go_wp2_with fail
    have K10 := (Below.refl w9.heap.size w9).alloc (Nat.le_refl _) (.cells #[.slice oG N cG] 29)
    obtain ⟨_, _, he, hatG⟩ := filesAt_of_own (own_below HOG9.out K10)
    cases he
    obtain ⟨_, _, he, hatW⟩ := filesAt_of_own (own_below HOW9.out K10)
    cases he
    refine (eqDisk_any _ N _ (lost fs left) _ N _ (lost fs left) hN20 _ hatG hatW).mono ?_
    rw [decide_eq_true (rfl : lost fs left = lost fs left)]
    rintro e w11 ⟨rfl, hb11⟩
    have s11 : w9.heap.size < w11.heap.size := by have := hb11.size; simp at this; omega
    have K911 : Below w9.heap.size w9 w11 := K10.trans (hb11.mono (by simp))
    have c11 := (K911.cell (p := ⟨w.heap.size, 0, none⟩) lt0).trans c9
    have e11 := (K911.cell (p := ⟨w6.heap.size, 0, none⟩) lt6).trans e9
    have d11 := (K911.cell (p := ⟨w4.heap.size, 0, none⟩) lt4).trans d9
    have f11 : w11.cell? ⟨w9.heap.size, 0, none⟩ = some (.slice oG N cG) := (hb11.cell (by simp)).trans (by simp)
    have HOW11 := hide (own_below HOW9.out K911)
    have HOX11 := hide (own_below HOX9.out K911)
    have HOY11 := hide (own_below HOY9.out K911)
    have HOG11 := hide (own_below HOG9.out K911)
    have B11 := hide (B9.out.trans (K911.mono (by omega)))
    have C11 := hide c11
    have E11 := hide e11
    have D11 := hide d11
    have F11 := hide f11
    clear K10 hb11 K911 hatG hatW c9 d9 e9 HOW9 HOX9 HOY9 HOG9 d11 f11
    have lt11 : w.heap.size < w11.heap.size := by omega
    have lt11' : w6.heap.size < w11.heap.size := by omega
    go_wp2_with fail
    go_region_held3 (fun w' => w'.cell? ⟨w.heap.size, 0, none⟩ = some (.slice oa n cap) ∧ w'.cell? ⟨w6.heap.size, 0, none⟩ = some (.slice (some ⟨gX, 0, none⟩) n n)) (first | go_keep | exact ⟨(hb12.cell (by simpa using lt11)).trans c11, (hb12.cell (by simpa using lt11')).trans e11⟩ | exact ⟨(hb13.cell (Nat.lt_of_lt_of_le lt11 hb12.size)).trans ((hb12.cell (by simpa using lt11)).trans c11), (hb13.cell (Nat.lt_of_lt_of_le lt11' hb12.size)).trans ((hb12.cell (by simpa using lt11')).trans e11)⟩)
      (first
        | (go_at_call 11; refine (toDisk_any oa n cap fs hn20 _ (HAT.out.below B11.out.drew)).mono ?_; rintro e w12 ⟨g12, rfl, hown12, hb12⟩; obtain ⟨oa12, cap12, he12, hat12⟩ := filesAt_of_own hown12; cases he12; have HAT12 := hide hat12; clear hown12 hat12)
        | (go_at_call 13; obtain ⟨oaX, capX, heX, hatX⟩ := filesAt_of_own (own_below HOX11.out ((Below.refl _ _).drew.trans hb12)); cases heX; refine (eqDisk_any _ n _ fs _ n _ fs hn20 _ hatX HAT12.out).mono ?_; rw [decide_eq_true (rfl : fs = fs)]; rintro e w13 ⟨rfl, hb13⟩))
    have K13 : Below w11.heap.size w11 w13 := ((Below.refl _ w11).drew.trans (hb12.mono (by simp))).trans (hb13.mono (by have := hb12.size; simpa using this))
    have s13 := K13.size
    have B13 := hide (B11.out.trans (K13.mono (by omega)))
    clear hb12 hb13 c11 e11 lt11 lt11'
    go_wp2_with fail
    refine (toIntS_any ob m cap' left cl _ (HBT.out.below B13.out)).mono ?_
    rintro e w14 ⟨gD, rfl, hoD, hb14⟩
    have K14 := K13.trans (hb14.mono s13)
    have s14 := K14.size
    go_wp2_with fail
    obtain ⟨_, _, he, hatY⟩ := intsAt_of_own (own_below HOY11.out K14) HBT.out.fits
    cases he
    obtain ⟨_, _, he, hatD⟩ := intsAt_of_own hoD HBT.out.fits
    cases he
    refine (eqIntS_same _ m _ _ _ left cl _ hatY hatD).mono ?_
    rintro e w15 ⟨rfl, hb15⟩
    have K15 := K14.trans (hb15.mono s14)
    have s15 := K15.size
    have C15 := hide ((K15.cell (p := ⟨w.heap.size, 0, none⟩) (by simp; omega)).trans C11.out)
    have e15 := (K15.cell (p := ⟨w6.heap.size, 0, none⟩) (by simp; omega)).trans E11.out
    have D15 := hide ((K15.cell (p := ⟨w4.heap.size, 0, none⟩) (by simp; omega)).trans D11.out)
    have F15 := hide ((K15.cell (p := ⟨w9.heap.size, 0, none⟩) (by simp; omega)).trans F11.out)
    have HOW15 := hide (own_below HOW11.out K15)
    have HOX15 := hide (own_below HOX11.out K15)
    have HOY15 := hide (own_below HOY11.out K15)
    have HOG15 := hide (own_below HOG11.out K15)
    have B15 := hide (B11.out.trans (K15.mono (by omega)))
    clear hb14 hb15 hoD hatY hatD K13 K14 K15 HOW11 HOX11 HOY11 HOG11 C11 E11 D11 F11
    go_wp2_with fail
    refine (markDisk_any _ n _ 1 hn20 (by omega) _ _ HOX15.out).mono ?_
    rintro e w16 ⟨rfl, hoX16, hg16⟩
    have hg16' : w15.grownBy w16 (some gX) := hg16
    have C16 := hide (hg16'.cell C15.out (by simp; omega))
    have D16 := hide (hg16'.cell D15.out (by simp; omega))
    have F16 := hide (hg16'.cell F15.out (by simp; omega))
    have HOW16 := hide (own_kept HOW15.out hg16' (fun k hk e => by cases e; have := hrW _ hk; omega))
    have HOY16 := hide (own_kept HOY15.out hg16' (fun k hk e => by have h1 : gY = k := Option.some.inj hk; have h2 : gX = k := Option.some.inj e; omega))
    have HOG16 := hide (own_kept HOG15.out hg16' (fun k hk e => by cases e; have := (hrG _ hk).1; omega))
    have B16 := hide (B15.out.grown hg16' (by omega) (fun k hk => by cases hk; omega))
    have s16 := hg16'.size
    clear hg16 hg16' hoX16 C15 D15 F15 HOW15 HOX15 HOY15 HOG15 e15
    go_wp2_with fail
    have hcast : (1 + 3 * (n : Int)) = ((1 + 3 * n : Nat) : Int) := by omega
    rw [hcast]
    refine (markIntS_any gY m _ (1 + 3 * n) cl (by omega) _ _ HOY16.out).mono ?_
    rintro e w17 ⟨rfl, hg17⟩
    have C17 := hide (hg17.cell C16.out (by simp; omega))
    have d17 := hg17.cell D16.out (by simp; omega)
    have f17 := hg17.cell F16.out (by simp; omega)
    have HOW17 := hide (own_kept HOW16.out hg17 (fun k hk e => by cases e; have := hrW _ hk; omega))
    have HOG17 := hide (own_kept HOG16.out hg17 (fun k hk e => by cases e; have := (hrG _ hk).1; omega))
    have B17 := hide (B16.out.grown hg17 (by omega) (fun k hk => by cases hk; omega))
    have s17 := hg17.size
    have g17 : decide (((1 + 3 * n + m : Nat) : Int) < 0) = false := by simp; omega
    clear hg17 C16 D16 F16 HOW16 HOY16 HOG16 hcast
    go_wp2_with fail
    obtain ⟨_, _, he, hatG⟩ := filesAt_of_own HOG17.out
    cases he
    obtain ⟨_, _, he, hatW⟩ := filesAt_of_own HOW17.out
    cases he
    refine (eqDisk_any _ N _ (lost fs left) _ N _ (lost fs left) hN20 _ hatG hatW).mono ?_
    rw [decide_eq_true (rfl : lost fs left = lost fs left)]
    rintro e w18 ⟨rfl, hb18⟩
    have s18 := hb18.size
    have C18 := hide ((hb18.cell (p := ⟨w.heap.size, 0, none⟩) (by simp; omega)).trans C17.out)
    have D18 := hide ((hb18.cell (p := ⟨w4.heap.size, 0, none⟩) (by simp; omega)).trans d17)
    have f18 := (hb18.cell (p := ⟨w9.heap.size, 0, none⟩) (by simp; omega)).trans f17
    have HOW18 := hide (own_below HOW17.out hb18)
    have HOG18 := hide (own_below HOG17.out hb18)
    have B18 := hide (B17.out.trans (hb18.mono (by omega)))
    clear hb18 hatG hatW C17 d17 f17 HOW17 HOG17
    go_wp2_with fail
    refine (markDisk_any _ N _ 1 hN20 (by omega) _ _ HOG18.out).mono ?_
    rintro e w19 ⟨rfl, hoG19, hg19⟩
    have C19 := hide (hg19.cell C18.out (fun e => by have := (hrG _ e.symm).1; simp at this; omega))
    have D19 := hide (hg19.cell D18.out (fun e => by have := (hrG _ e.symm).1; simp at this; omega))
    have f19 := hg19.cell f18 (fun e => by have := (hrG _ e.symm).2; simp at this)
    have HOW19 := hide (own_kept HOW18.out hg19 (fun k hk e => by have h1 := hrW _ hk; have h2 := (hrG _ e).1; omega))
    have HOG19 := hide hoG19
    have B19 := hide (B18.out.grown hg19 (by omega) (fun k hk => by have := (hrG _ hk).1; omega))
    have s19 := hg19.size
    clear hg19 hoG19 C18 D18 f18 HOW18 HOG18
    have g19 : decide (((1 + 3 * N : Nat) : Int) < 0) = false := by simp; omega
    go_wp2_with fail
    refine (heldDisk_any _ N _ 1 hN20 (by omega) _ HOG19.out).mono ?_
    rintro e w20 ⟨rfl, hb20⟩
    have s20 := hb20.size
    have c20 := (hb20.cell (p := ⟨w.heap.size, 0, none⟩) (by simp; omega)).trans C19.out
    have D20 := hide ((hb20.cell (p := ⟨w4.heap.size, 0, none⟩) (by simp; omega)).trans D19.out)
    have F20 := hide ((hb20.cell (p := ⟨w9.heap.size, 0, none⟩) (by simp; omega)).trans f19)
    have HOW20 := hide (own_below HOW19.out hb20)
    have HOG20 := hide (own_below HOG19.out hb20)
    have B20 := hide (B19.out.trans (hb20.mono (by omega)))
    clear hb20 C19 D19 f19 HOW19 HOG19
    go_wp2_with fail
    refine (toDisk_any oa n cap fs hn20 _ (HAT.out.below B20.out)).mono ?_
    rintro e w21 ⟨gE, rfl, hoE, hb21⟩
    have s21 := hb21.size
    have B21 := hide (B20.out.trans (hb21.mono (by omega)))
    have HOE := hide hoE
    clear hoE
    go_wp2_with fail
    refine (toIntS_any ob m cap' left cl _ (HBT.out.below B21.out)).mono ?_
    rintro e w22 ⟨gF, rfl, hoF, hb22⟩
    have s22 := hb22.size
    have K22 := hb21.trans (hb22.mono s21)
    obtain ⟨_, _, he, hatE⟩ := filesAt_of_own (own_below HOE.out hb22)
    cases he
    obtain ⟨_, _, he, hatF⟩ := intsAt_of_own hoF HBT.out.fits
    cases he
    clear hoF HOE
    go_wp2_with fail
    refine (implLoseDisk_any _ n _ fs _ m _ left _ hatE HFI.out hatF cl).mono ?_
    rintro e w23 ⟨vH, rfl, hoH, hb23⟩
    rw [hN] at hoH
    obtain ⟨oH, cH, rfl⟩ := own_form hoH
    have K23 := K22.trans (hb23.mono (by omega))
    have s23 := K23.size
    have d23 := (K23.cell (p := ⟨w4.heap.size, 0, none⟩) (by simp; omega)).trans D20.out
    have F23 := hide ((K23.cell (p := ⟨w9.heap.size, 0, none⟩) (by simp; omega)).trans F20.out)
    have HOW23 := hide (own_below HOW20.out K23)
    have HOG23 := hide (own_below HOG20.out K23)
    have HOH := hide hoH
    have B23 := hide (B20.out.trans (K23.mono (by omega)))
    have lt23 : w4.heap.size < w23.heap.size := by omega
    clear hb21 hb22 hb23 K22 K23 hatE hatF hoH D20 F20 HOW20 HOG20 c20
    go_wp2_with fail
    have K24 := (Below.refl w23.heap.size w23).alloc (Nat.le_refl _) (.cells #[.slice oH N cH] 29)
    obtain ⟨_, _, he, hatH⟩ := filesAt_of_own (own_below HOH.out K24)
    cases he
    obtain ⟨_, _, he, hatW⟩ := filesAt_of_own (own_below HOW23.out K24)
    cases he
    refine (eqDisk_any _ N _ (lost fs left) _ N _ (lost fs left) hN20 _ hatH hatW).mono ?_
    rw [decide_eq_true (rfl : lost fs left = lost fs left)]
    rintro e w25 ⟨rfl, hb25⟩
    have K25 : Below w23.heap.size w23 w25 := K24.trans (hb25.mono (by simp))
    have f25 := (K25.cell (p := ⟨w9.heap.size, 0, none⟩) (by simp; omega)).trans F23.out
    have HOG25 := hide (own_below HOG23.out K25)
    have B25 := hide (B23.out.trans (K25.mono (by omega)))
    have s25 := K25.size
    clear hb25 K24 K25 hatH hatW F23 HOG23 HOW23 HOH
    go_wp2_with fail
    refine (heldDisk_any _ N _ 1 hN20 (by omega) _ HOG25.out).mono ?_
    rintro e w26 ⟨rfl, hb26⟩
    have B26 := B25.out.trans (hb26.mono (by omega))
    clear hb26
    go_wp2_with fail
    go_ret
    exact ⟨rfl, B26⟩

end Go.Proofs.Ytibhbclnfmjmbaa
