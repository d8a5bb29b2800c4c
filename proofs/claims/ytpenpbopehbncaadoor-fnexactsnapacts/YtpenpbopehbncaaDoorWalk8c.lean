/-
  Walks of chapter 8: SnapText of the program.
-/
import Derived.Test.YtpenpbopehbncaaDoorWalk8b
import Derived.Test.YtpenpbopehbncaaDoorPack9
namespace Go.Proofs.YtpenpbopehbncaaDoor
open Go.RowKit P1 P3 P9 P11 K
attribute [local go_sem ↓] Go.wp_at_zero Go.wp_at_succ
set_option linter.unusedVariables false
set_option linter.unusedSimpArgs false

theorem implVarText_int (x : Int) (h0 : 0 ≤ x) (h1 : x ≤ 1000000000) (w : World) :
    Calls Tryd.prog 44 #[.int .i64 x] w fun e w' => e = .returned (.tuple #[.string ⟨(varB x.toNat).toArray⟩, .bool true]) ∧ Below w.heap.size w w' := by
  obtain ⟨n, rfl⟩ := Int.eq_ofNat_of_zero_le h0
  exact implVarText_yes n (by omega) w

theorem implShort_list (l : List UInt8) (hl : l.length ≤ 20000) (w : World) :
    Calls Tryd.prog 46 #[.string ⟨l.toArray⟩] w fun e w' => e = .returned (.tuple #[.string ⟨(shortB l).toArray⟩, .bool true]) ∧ Below w.heap.size w w' := by
  refine (implShortText_yes ⟨l.toArray⟩ hl w).mono ?_
  rintro e w' ⟨rfl, hb⟩
  refine ⟨?_, hb⟩
  rw [size_mk8, cat_two8]
  rfl

set_option maxHeartbeats 4000000 in
theorem implSnapText_any (i t : Int) (oa : Option Addr) (n cap : Nat) (zs : List Int) (b : List UInt8) (hb : b.length ≤ 1048576) (w : World) (hat : IntsAt w oa n cap zs) (htab : SumTabIs w) :
    Calls Tryd.prog 14 #[snval i t (.slice oa n cap) b] w fun e w' => e = .returned (stVal (snText i t zs b)) ∧ Below w.heap.size w w' := by
  have hb0 := (Below.refl w.heap.size w).alloc (Nat.le_refl _) (.cells #[.int .i64 i, .int .i64 t, .slice oa n cap, .string ⟨b.toArray⟩] 30)
  have HCO := hide (implConfOk_any oa n cap zs _ (hat.below hb0))
  have HSV := hide (SV.new w i t (.slice oa n cap) b 30)
  have HB0 := hide hb0
  have HAT := hide hat
  have HTB := hide htab
  have hlen := hat.len
  clear hat hb0 htab
  by_cases hi : 0 ≤ i ∧ i ≤ 1000000
  · obtain ⟨i0, i1⟩ := hi
    by_cases ht : 0 ≤ t ∧ t ≤ 100000
    · obtain ⟨t0, t1⟩ := ht
      cases hok : confOk zs with
      | false =>
        have R := hide (show stVal (snText i t zs b) = .tuple #[.string ⟨#[]⟩, .bool false] by rw [snText_no (Or.inl (snOk_no (by simp [hok])))]; rfl)
        rw [hok] at HCO
        clear hok
        obtain ⟨c0, c1, c2, c3⟩ := HSV.out
        go_enter Tryd.func14, Tryd.ntmps14
        go_wp2_with (first
          | (go_at_call 35; refine (within_yes _ _ _ (by omega) (by omega) _).mono ?_; rintro e w' ⟨rfl, rfl⟩)
          | (go_at_call 43; refine HCO.out.mono ?_; rintro e w' ⟨rfl, rfl⟩))
        go_ret2
        exact ⟨by rw [R.out]; rfl, HB0.out⟩
      | true =>
        have hcl := (confOk_len hok).2
        have hsn := snOk_iff.2 ⟨⟨i0, i1⟩, ⟨t0, t1⟩, hok⟩
        have hsl := snapB_length i.toNat t.toNat (confB zs) b
        rw [confB_length] at hsl
        have HCT := hide (fun w hat => implConfText_any oa n cap zs w hat)
        rw [ctVal_yes hok] at HCT
        rw [hok] at HCO
        have HVI := hide (implVarText_int i i0 (by omega))
        have HVT := hide (implVarText_int t t0 (by omega))
        have HSC := hide (implShort_list (confB zs) (by rw [confB_length]; omega))
        by_cases hbb : b.length ≤ 20000
        · have HSB := hide (implShort_list b hbb)
          have HSE := hide (fun w h => implSealed_any ⟨(snapB i.toNat t.toNat (confB zs) b).toArray⟩ (by rw [size_mk8]; omega) w h)
          rw [bl_mk8] at HSE
          have hv1 := varB_length i.toNat
          have hv2 := varB_length t.toNat
          have hv3 := shortB_length (confB zs)
          rw [confB_length] at hv3
          have hv4 := shortB_length b
          obtain ⟨A1, A2, f1, f2, f3⟩ := cat4_facts Tryd.prog ⟨(varB i.toNat).toArray⟩ ⟨(varB t.toNat).toArray⟩ ⟨(shortB (confB zs)).toArray⟩ ⟨(shortB b).toArray⟩ _ (by rw [size_mk8, size_mk8, size_mk8, size_mk8]; omega) (snap_parts i.toNat t.toNat (confB zs) b)
          obtain ⟨L, hL⟩ : ∃ L, (snapB i.toNat t.toNat (confB zs) b).length = L := ⟨_, rfl⟩
          rw [hL] at hsl
          have RS : sealVal (snapB i.toNat t.toNat (confB zs) b) = if L ≤ 20000 then .tuple #[.string ⟨(sealL (snapB i.toNat t.toNat (confB zs) b)).toArray⟩, .bool true] else .tuple #[.string ⟨#[]⟩, .bool false] := by
            unfold sealVal; rw [hL]
          have hTX : (⟨(sealL (snapB i.toNat t.toNat (confB zs) b)).toArray⟩ : ByteArray).size = L + 4 := by rw [size_mk8, sealL_length, hL]
          have RR := hide (show stVal (snText i t zs b) = if L + 4 ≤ 20000 then .tuple #[.string ⟨(sealL (snapB i.toNat t.toNat (confB zs) b)).toArray⟩, .bool true] else .tuple #[.string ⟨#[]⟩, .bool false] by
            by_cases hh : L + 4 ≤ 20000
            · rw [if_pos hh, snText_yes hsn (by rw [hL]; exact hh)]; rfl
            · rw [if_neg hh, snText_no (Or.inr (by rw [hL]; exact hh))]; rfl)
          rw [RS] at HSE
          obtain ⟨M, hM⟩ : ∃ M, L + 4 = M := ⟨_, rfl⟩
          have HM := hide hM
          rw [hM] at hTX
          clear hL hsn hok RS hM
          generalize (⟨(sealL (snapB i.toNat t.toNat (confB zs) b)).toArray⟩ : ByteArray) = SX at HSE RR hTX
          generalize (⟨(snapB i.toNat t.toNat (confB zs) b).toArray⟩ : ByteArray) = TX at HSE f3
          generalize (⟨(varB i.toNat).toArray⟩ : ByteArray) = VI at HVI f1
          generalize (⟨(varB t.toNat).toArray⟩ : ByteArray) = VT at HVT f1
          generalize (⟨(shortB (confB zs)).toArray⟩ : ByteArray) = VC at HSC f2
          generalize (⟨(shortB b).toArray⟩ : ByteArray) = VB at HSB f3
          generalize (⟨(confB zs).toArray⟩ : ByteArray) = CB at HSC HCT
          clear hv1 hv2 hv3 hv4
          obtain ⟨c0, c1, c2, c3⟩ := HSV.out
          go_enter Tryd.func14, Tryd.ntmps14
          go_wp2_with (first
            | (go_at_call 35; refine (within_yes _ _ _ (by omega) (by omega) _).mono ?_; rintro e w' ⟨rfl, rfl⟩)
            | (go_at_call 43; refine HCO.out.mono ?_; rintro e w' ⟨rfl, rfl⟩))
          refine (HVI.out _).mono ?_
          rintro r w1 ⟨rfl, hb1⟩
          have HS1 := hide (HSV.out.on hb1)
          have B1 := hide (HB0.out.trans (hb1.mono (by simp)))
          clear hb1 c0 c1 c2 c3
          obtain ⟨c0, c1, c2, c3⟩ := HS1.out
          go_wp2_with fail
          refine (HVT.out _).mono ?_
          rintro r w2 ⟨rfl, hb2⟩
          have HS2 := hide (HS1.out.on hb2)
          have B2 := hide (B1.out.trans (hb2.mono B1.out.size))
          clear hb2 c0 c1 c2 c3
          obtain ⟨c0, c1, c2, c3⟩ := HS2.out
          go_wp2_with fail
          refine (HCT.out _ (HAT.out.below B2.out)).mono ?_
          rintro r w3 ⟨rfl, hb3⟩
          have HS3 := hide (HS2.out.on hb3)
          have B3 := hide (B2.out.trans (hb3.mono B2.out.size))
          clear hb3 c0 c1 c2 c3
          go_wp2_with fail
          refine (HSC.out _).mono ?_
          rintro r w4 ⟨rfl, hb4⟩
          have HS4 := hide (HS3.out.on hb4)
          have B4 := hide (B3.out.trans (hb4.mono B3.out.size))
          clear hb4
          obtain ⟨c0, c1, c2, c3⟩ := HS4.out
          go_wp2_with fail
          refine (HSB.out _).mono ?_
          rintro r w5 ⟨rfl, hb5⟩
          have B5 := hide (B4.out.trans (hb5.mono B4.out.size))
          clear hb5 c0 c1 c2 c3
          go_wp2_with fail
          refine (HSE.out _ (tab_below HTB.out B5.out)).mono ?_
          by_cases h1 : L ≤ 20000
          · rw [if_pos h1]
            rintro r w6 ⟨rfl, hb6⟩
            have B6 := hide (B5.out.trans (hb6.mono B5.out.size))
            by_cases hh : L + 4 ≤ 20000
            · have gl : ¬ (20000 : Int) < (M : Int) := by have := HM.out; omega
              rw [if_pos hh] at RR
              clear hh h1
              go_wp2_with fail
              go_ret2
              exact ⟨by rw [RR.out]; rfl, B6.out⟩
            · have gl : (20000 : Int) < (M : Int) := by have := HM.out; omega
              rw [if_neg hh] at RR
              clear hh h1
              go_wp2_with fail
              go_ret2
              exact ⟨by rw [RR.out]; rfl, B6.out⟩
          · rw [if_neg h1]
            rintro r w6 ⟨rfl, hb6⟩
            have B6 := hide (B5.out.trans (hb6.mono B5.out.size))
            rw [if_neg (by omega)] at RR
            go_wp2_with fail
            go_ret2
            exact ⟨by rw [RR.out]; rfl, B6.out⟩
        · have R := hide (show stVal (snText i t zs b) = .tuple #[.string ⟨#[]⟩, .bool false] by rw [snText_no (Or.inr (by omega))]; rfl)
          have HSB := hide (implShortText_no ⟨b.toArray⟩ hb (by rw [size_mk8]; omega))
          generalize (⟨(varB i.toNat).toArray⟩ : ByteArray) = VI at HVI
          generalize (⟨(varB t.toNat).toArray⟩ : ByteArray) = VT at HVT
          generalize (⟨(shortB (confB zs)).toArray⟩ : ByteArray) = VC at HSC
          generalize (⟨(confB zs).toArray⟩ : ByteArray) = CB at HSC HCT
          clear hok hsn hsl
          obtain ⟨c0, c1, c2, c3⟩ := HSV.out
          go_enter Tryd.func14, Tryd.ntmps14
          go_wp2_with (first
            | (go_at_call 35; refine (within_yes _ _ _ (by omega) (by omega) _).mono ?_; rintro e w' ⟨rfl, rfl⟩)
            | (go_at_call 43; refine HCO.out.mono ?_; rintro e w' ⟨rfl, rfl⟩))
          refine (HVI.out _).mono ?_
          rintro r w1 ⟨rfl, hb1⟩
          have HS1 := hide (HSV.out.on hb1)
          have B1 := hide (HB0.out.trans (hb1.mono (by simp)))
          clear hb1 c0 c1 c2 c3
          obtain ⟨c0, c1, c2, c3⟩ := HS1.out
          go_wp2_with fail
          refine (HVT.out _).mono ?_
          rintro r w2 ⟨rfl, hb2⟩
          have HS2 := hide (HS1.out.on hb2)
          have B2 := hide (B1.out.trans (hb2.mono B1.out.size))
          clear hb2 c0 c1 c2 c3
          obtain ⟨c0, c1, c2, c3⟩ := HS2.out
          go_wp2_with fail
          refine (HCT.out _ (HAT.out.below B2.out)).mono ?_
          rintro r w3 ⟨rfl, hb3⟩
          have HS3 := hide (HS2.out.on hb3)
          have B3 := hide (B2.out.trans (hb3.mono B2.out.size))
          clear hb3 c0 c1 c2 c3
          go_wp2_with fail
          refine (HSC.out _).mono ?_
          rintro r w4 ⟨rfl, hb4⟩
          have HS4 := hide (HS3.out.on hb4)
          have B4 := hide (B3.out.trans (hb4.mono B3.out.size))
          clear hb4
          obtain ⟨c0, c1, c2, c3⟩ := HS4.out
          go_wp2_with fail
          refine (HSB.out _).mono ?_
          rintro r w5 ⟨rfl, rfl⟩
          go_wp2_with fail
          go_ret2
          exact ⟨by rw [R.out]; rfl, B4.out⟩
    · have R := hide (show stVal (snText i t zs b) = .tuple #[.string ⟨#[]⟩, .bool false] by rw [snText_no (Or.inl (snOk_no (by omega)))]; rfl)
      obtain ⟨c0, c1, c2, c3⟩ := HSV.out
      go_enter Tryd.func14, Tryd.ntmps14
      go_wp2_with (first
        | (go_at_call 35; refine (within_yes _ _ _ (by omega) (by omega) _).mono ?_; rintro e w' ⟨rfl, rfl⟩)
        | (go_at_call 35; refine (within_no _ _ _ (by omega) _).mono ?_; rintro e w' ⟨rfl, rfl⟩))
      go_ret2
      exact ⟨by rw [R.out]; rfl, HB0.out⟩
  · have R := hide (show stVal (snText i t zs b) = .tuple #[.string ⟨#[]⟩, .bool false] by rw [snText_no (Or.inl (snOk_no (by omega)))]; rfl)
    obtain ⟨c0, c1, c2, c3⟩ := HSV.out
    go_enter Tryd.func14, Tryd.ntmps14
    go_wp2_with (go_at_call 35; refine (within_no _ _ _ (by omega) _).mono ?_; rintro e w' ⟨rfl, rfl⟩)
    go_ret2
    exact ⟨by rw [R.out]; rfl, HB0.out⟩

end Go.Proofs.YtpenpbopehbncaaDoor
