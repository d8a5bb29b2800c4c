/-
  Walks of chapter 8: SnapText, of the specification and of the program.
-/
import Derived.Test.YtpenpbopehbncaaDoorSnap2
import Derived.Test.YtpenpbopehbncaaDoorWalk5b
import Derived.Test.YtpenpbopehbncaaDoorPack19
import Derived.Test.YtpenpbopehbncaaDoorPack18
import Derived.Test.YtpenpbopehbncaaDoorPack15
namespace Go.Proofs.YtpenpbopehbncaaDoor
open Go.RowKit P1 P3 P9 P11 K
attribute [local go_sem ↓] Go.wp_at_zero Go.wp_at_succ
set_option linter.unusedVariables false
set_option linter.unusedSimpArgs false

theorem l05Short_any (l : List UInt8) (hl : l.length ≤ 1048576) (w : World) :
    Calls Tryd.prog 40 #[.string ⟨l.toArray⟩] w fun e w' => e = .returned (.string ⟨(shortB l).toArray⟩) ∧ Below w.heap.size w w' := by
  have hv := varB_length l.length
  have C := cat_two8 (varB l.length) l
  have HV := hide (l01Var_any l.length (by omega))
  go_enter Tryd.func40, Tryd.ntmps40
  go_wp2_with (go_at_call 39; refine (HV.out _).mono ?_; rintro e w1 ⟨rfl, hb1⟩)
  go_ret
  exact ⟨rfl, hb1⟩

set_option maxHeartbeats 4000000 in
theorem specSnapText_any (i t : Int) (oa : Option Addr) (n cap : Nat) (zs : List Int) (b : List UInt8) (hb : b.length ≤ 1048576) (w : World) (hat : IntsAt w oa n cap zs) :
    Calls Tryd.prog 12 #[snval i t (.slice oa n cap) b] w fun e w' => e = .returned (stVal (snText i t zs b)) ∧ Below w.heap.size w w' := by
  have hb0 := (Below.refl w.heap.size w).alloc (Nat.le_refl _) (.cells #[.int .i64 i, .int .i64 t, .slice oa n cap, .string ⟨b.toArray⟩] 30)
  have HCT := hide (specConfText_any oa n cap zs _ (hat.below hb0))
  have HSV := hide (SV.new w i t (.slice oa n cap) b 30)
  have HB0 := hide hb0
  have hlen := hat.len
  clear hat hb0
  cases hok : confOk zs with
  | false =>
    have R := hide (show stVal (snText i t zs b) = .tuple #[.string ⟨#[]⟩, .bool false] by rw [snText_no (Or.inl (snOk_no (by simp [hok])))]; rfl)
    rw [ctVal_no hok] at HCT
    clear hok
    go_enter Tryd.func12, Tryd.ntmps12
    go_wp2_with fail
    refine HCT.out.mono ?_
    rintro r w1 ⟨rfl, hb1⟩
    go_wp2_with fail
    go_ret2
    exact ⟨by rw [R.out]; rfl, HB0.out.trans (hb1.mono (by simp))⟩
  | true =>
    have hcl := (confOk_len hok).2
    rw [ctVal_yes hok] at HCT
    by_cases hi : 0 ≤ i ∧ i ≤ 1000000
    · obtain ⟨i0, i1⟩ := hi
      by_cases ht : 0 ≤ t ∧ t ≤ 100000
      · obtain ⟨t0, t1⟩ := ht
        have hsn := snOk_iff.2 ⟨⟨i0, i1⟩, ⟨t0, t1⟩, hok⟩
        have hsl := snapB_length i.toNat t.toNat (confB zs) b
        rw [confB_length] at hsl
        by_cases hbb : b.length ≤ 20000
        · have gb : ¬ (20000 : Int) < (b.length : Int) := by omega
          have HVI := hide (l01Var_int i i0 (by omega))
          have HVT := hide (l01Var_int t t0 (by omega))
          have HSC := hide (l05Short_any (confB zs) (by rw [confB_length]; omega))
          have HSB := hide (l05Short_any b hb)
          have HSE := hide (specSealed_any ⟨(snapB i.toNat t.toNat (confB zs) b).toArray⟩ (by rw [size_mk8]; omega))
          rw [bl_mk8] at HSE
          have hv1 := varB_length i.toNat
          have hv2 := varB_length t.toNat
          have hv3 := shortB_length (confB zs)
          rw [confB_length] at hv3
          have hv4 := shortB_length b
          obtain ⟨A1, A2, f1, f2, f3⟩ := cat4_facts Tryd.prog ⟨(varB i.toNat).toArray⟩ ⟨(varB t.toNat).toArray⟩ ⟨(shortB (confB zs)).toArray⟩ ⟨(shortB b).toArray⟩ _ (by rw [size_mk8, size_mk8, size_mk8, size_mk8]; omega) (snap_parts i.toNat t.toNat (confB zs) b)
          obtain ⟨L, hL⟩ : ∃ L, (snapB i.toNat t.toNat (confB zs) b).length = L := ⟨_, rfl⟩
          have hTX : (⟨(snapB i.toNat t.toNat (confB zs) b).toArray⟩ : ByteArray).size = L := hL
          rw [hL] at hsl
          have RR := hide (show stVal (snText i t zs b) = if L + 4 ≤ 20000 then sealVal (snapB i.toNat t.toNat (confB zs) b) else .tuple #[.string ⟨#[]⟩, .bool false] by
            by_cases hh : L + 4 ≤ 20000
            · rw [if_pos hh, snText_yes hsn (by rw [hL]; exact hh), sealVal_yes (by rw [hL]; omega)]; rfl
            · rw [if_neg hh, snText_no (Or.inr (by rw [hL]; exact hh))]; rfl)
          have HSV2 : ∃ a c, sealVal (snapB i.toNat t.toNat (confB zs) b) = .tuple #[.string a, .bool c] := by unfold sealVal; split <;> exact ⟨_, _, rfl⟩
          clear hL hsn hok
          generalize (⟨(snapB i.toNat t.toNat (confB zs) b).toArray⟩ : ByteArray) = TX at HSE f3 hTX
          generalize sealVal (snapB i.toNat t.toNat (confB zs) b) = SR at HSE RR HSV2
          obtain ⟨sa, sc, rfl⟩ := HSV2
          generalize (⟨(varB i.toNat).toArray⟩ : ByteArray) = VI at HVI f1
          generalize (⟨(varB t.toNat).toArray⟩ : ByteArray) = VT at HVT f1
          generalize (⟨(shortB (confB zs)).toArray⟩ : ByteArray) = VC at HSC f2
          generalize (⟨(shortB b).toArray⟩ : ByteArray) = VB at HSB f3
          generalize (⟨(confB zs).toArray⟩ : ByteArray) = CB at HSC HCT
          clear hv1 hv2 hv3 hv4
          go_enter Tryd.func12, Tryd.ntmps12
          go_wp2_with fail
          refine HCT.out.mono ?_
          rintro r w1 ⟨rfl, hb1⟩
          have HS1 := hide (HSV.out.on hb1)
          have B1 := hide (HB0.out.trans (hb1.mono (by simp)))
          clear hb1 HCT HSV HB0
          obtain ⟨c0, c1, c2, c3⟩ := HS1.out
          go_wp2_with (go_at_call 33; refine (l01In_yes _ _ _ (by omega) (by omega) _).mono ?_; rintro e w' ⟨rfl, rfl⟩)
          refine wp_region_in (F := (fun w' => Below w1.heap.size w1 w')) (by kernel_rfl) (by kernel_rfl) (Below.refl _ _).drew ?_
          clear c0 c1 c2 c3
          have hne : Nonempty (InW (fun w' => Below w1.heap.size w1 w')) := ⟨⟨_, Below.refl _ _⟩⟩
          have k0 : ∀ m : InW (fun w' => Below w1.heap.size w1 w'), m.w.cell? ⟨w.heap.size, 0, none⟩ = some (.int .i64 i) := fun m => (HS1.out.on m.h).c0
          have k1 : ∀ m : InW (fun w' => Below w1.heap.size w1 w'), m.w.cell? ⟨w.heap.size, 1, none⟩ = some (.int .i64 t) := fun m => (HS1.out.on m.h).c1
          have k3 : ∀ m : InW (fun w' => Below w1.heap.size w1 w'), m.w.cell? ⟨w.heap.size, 3, none⟩ = some (.string ⟨b.toArray⟩) := fun m => (HS1.out.on m.h).c3
          repeat (go_big_quiet_step (first
            | (go_at_call 39; with_reducible refine (HVI.out _).mono ?_; rintro r w9 ⟨rfl, hb9⟩; exact ⟨rfl, ⟨w9, Below.trans (InW.h _) (hb9.mono (Below.size (InW.h (F := (fun w' => Below w1.heap.size w1 w')) ‹_›)))⟩, rfl⟩)
            | (go_at_call 39; with_reducible refine (HVT.out _).mono ?_; rintro r w9 ⟨rfl, hb9⟩; exact ⟨rfl, ⟨w9, Below.trans (InW.h _) (hb9.mono (Below.size (InW.h (F := (fun w' => Below w1.heap.size w1 w')) ‹_›)))⟩, rfl⟩)
            | (go_at_call 40; with_reducible refine (HSC.out _).mono ?_; rintro r w9 ⟨rfl, hb9⟩; exact ⟨rfl, ⟨w9, Below.trans (InW.h _) (hb9.mono (Below.size (InW.h (F := (fun w' => Below w1.heap.size w1 w')) ‹_›)))⟩, rfl⟩)
            | (go_at_call 40; with_reducible refine (HSB.out _).mono ?_; rintro r w9 ⟨rfl, hb9⟩; exact ⟨rfl, ⟨w9, Below.trans (InW.h _) (hb9.mono (Below.size (InW.h (F := (fun w' => Below w1.heap.size w1 w')) ‹_›)))⟩, rfl⟩)))
          refine wpQuiet_nil ?_
          intro _ hw'
          obtain ⟨nq, hw''⟩ := hw'
          subst hw''
          have hb2 := nq.h
          generalize nq.w = w2 at hb2 ⊢
          have B2 := hide (B1.out.trans (hb2.mono B1.out.size))
          clear hne k0 k1 k3 hb2 B1 f1 f2 f3
          by_cases hh : L + 4 ≤ 20000
          · have gl : ¬ (20000 : Int) < (L : Int) + 4 := by omega
            rw [if_pos hh] at RR
            clear hh
            go_wp2_with fail
            refine (HSE.out _).mono ?_
            rintro r w3 ⟨rfl, hb3⟩
            go_wp2_with fail
            go_ret2
            exact ⟨by rw [RR.out]; rfl, B2.out.trans (hb3.mono B2.out.size)⟩
          · have gl : (20000 : Int) < (L : Int) + 4 := by omega
            rw [if_neg hh] at RR
            clear hh
            go_wp2_with fail
            go_ret2
            exact ⟨by rw [RR.out]; rfl, B2.out⟩
        · have gb : (20000 : Int) < (b.length : Int) := by omega
          have R := hide (show stVal (snText i t zs b) = .tuple #[.string ⟨#[]⟩, .bool false] by rw [snText_no (Or.inr (by omega))]; rfl)
          generalize (⟨(confB zs).toArray⟩ : ByteArray) = CB at HCT
          clear hok hsn hsl
          go_enter Tryd.func12, Tryd.ntmps12
          go_wp2_with fail
          refine HCT.out.mono ?_
          rintro r w1 ⟨rfl, hb1⟩
          obtain ⟨c0, c1, c2, c3⟩ := HSV.out.on hb1
          go_wp2_with (go_at_call 33; refine (l01In_yes _ _ _ (by omega) (by omega) _).mono ?_; rintro e w' ⟨rfl, rfl⟩)
          go_ret2
          exact ⟨by rw [R.out]; rfl, HB0.out.trans (hb1.mono (by simp))⟩
      · have R := hide (show stVal (snText i t zs b) = .tuple #[.string ⟨#[]⟩, .bool false] by rw [snText_no (Or.inl (snOk_no (by omega)))]; rfl)
        generalize (⟨(confB zs).toArray⟩ : ByteArray) = CB at HCT
        clear hok
        go_enter Tryd.func12, Tryd.ntmps12
        go_wp2_with fail
        refine HCT.out.mono ?_
        rintro r w1 ⟨rfl, hb1⟩
        obtain ⟨c0, c1, c2, c3⟩ := HSV.out.on hb1
        go_wp2_with (first
          | (go_at_call 33; refine (l01In_yes _ _ _ (by omega) (by omega) _).mono ?_; rintro e w' ⟨rfl, rfl⟩)
          | (go_at_call 33; refine (l01In_no _ _ _ (by omega) _).mono ?_; rintro e w' ⟨rfl, rfl⟩))
        go_ret2
        exact ⟨by rw [R.out]; rfl, HB0.out.trans (hb1.mono (by simp))⟩
    · have R := hide (show stVal (snText i t zs b) = .tuple #[.string ⟨#[]⟩, .bool false] by rw [snText_no (Or.inl (snOk_no (by omega)))]; rfl)
      generalize (⟨(confB zs).toArray⟩ : ByteArray) = CB at HCT
      clear hok
      go_enter Tryd.func12, Tryd.ntmps12
      go_wp2_with fail
      refine HCT.out.mono ?_
      rintro r w1 ⟨rfl, hb1⟩
      obtain ⟨c0, c1, c2, c3⟩ := HSV.out.on hb1
      go_wp2_with (go_at_call 33; refine (l01In_no _ _ _ (by omega) _).mono ?_; rintro e w' ⟨rfl, rfl⟩)
      go_ret2
      exact ⟨by rw [R.out]; rfl, HB0.out.trans (hb1.mono (by simp))⟩

end Go.Proofs.YtpenpbopehbncaaDoor
