/-
  The law FnEntries: its walk.
-/
import Derived.Test.YteilmhlhddihpaaEntries2
import Derived.Test.YteilmhlhddihpaaLawMost
namespace Go.Proofs.Yteilmhlhddihpaa
open Go.RowKit P1 P9 K
attribute [local go_sem ↓] Go.wp_at_zero Go.wp_at_succ
set_option linter.unusedVariables false
set_option linter.unusedSimpArgs false

set_option maxHeartbeats 8000000 in
theorem FnEntries_walk (a0 : Option Addr) (len0 cap0 : Nat) (z0 : List Int) (w : World) (w0 : IsRow .u8 w a0 len0 cap0 z0) :
    Calls Try.prog 3 #[.slice a0 len0 cap0] w fun e w' => e = .returned (.bool true) ∧ Below w.heap.size w w' := by
  have HC := hide (codeAt_of_row w0)
  clear w0
  by_cases hbig : 1048576 < len0
  · go_enter Try.func3, Try.ntmps3
    go_wp2_with (go_at_call 4; refine (big_yes a0 len0 cap0 hbig _).mono ?_; rintro e w1 ⟨rfl, rfl⟩)
    go_ret
    exact ⟨rfl, Below.refl _ _⟩
  · have hlen : len0 ≤ 1048576 := by omega
    go_enter Try.func3, Try.ntmps3
    go_wp2_with fail
    refine (big_no a0 len0 cap0 hlen _).mono ?_
    rintro e w1 ⟨rfl, rfl⟩
    go_wp2_with fail
    refine (drawEntryText_any w.heap.size a0 len0 cap0 _ hlen (Nat.le_refl _) HC.out).mono ?_
    rintro e w1 ⟨i, t, k, z, hz, rfl, hb1⟩
    obtain ⟨s, ok, hs, het, i', t', k', d, b, hre, hback⟩ := entry_back i t k z hz
    have HET := hide het
    have HRE := hide hre
    have HBK := hide hback
    have B1 := hide hb1
    have s1 := hb1.size
    have E1 := hide (BoxS.new w1 #[.int .i64 t, .int .i64 k, .string z] 25)
    clear hb1 het hre hback
    go_wp2_with fail
    refine (implEntryText_any i ⟨t, k, z⟩ (by show z.size ≤ _; omega) _).mono ?_
    rw [HET.out]
    rintro e w2 ⟨rfl, hb2⟩
    replace E1 := hide (E1.out.call hb2)
    have c0 := E1.out.cell 0 rfl
    have c1 := E1.out.cell 1 rfl
    have c2 := E1.out.cell 2 rfl
    clear hb2
    go_wp2_with fail
    refine (specEntryText_any i ⟨t, k, z⟩ (by show z.size ≤ _; omega) _).mono ?_
    rw [HET.out]
    rintro e w3 ⟨rfl, hb3⟩
    replace E1 := hide (E1.out.call hb3)
    clear hb3 c0 c1 c2 HET
    go_wp2_with fail
    refine (implReadEntry_any s hs _).mono ?_
    rw [HRE.out]
    rintro e w4 ⟨rfl, hb4⟩
    replace E1 := hide (E1.out.call hb4)
    have B4 := hide (B1.out.trans (E1.out.1.mono s1))
    have s4 := B4.out.size
    have c0 := E1.out.cell 0 rfl
    have c1 := E1.out.cell 1 rfl
    have c2 := E1.out.cell 2 rfl
    have l1 := E1.out.lt
    have B5 := hide (B4.out.alloc s4 (.cells #[.int .i64 t', .int .i64 k', .string d] 25))
    clear hb4 HRE E1 B1 B4
    cases ok with
    | false =>
      clear HBK
      go_wp2_with fail
      have s5 := B5.out.size
      refine (drawConfText_any w.heap.size a0 len0 cap0 _ hlen s5 (HC.out.below B5.out)).mono ?_
      rintro e w6 ⟨l, v, hl, rfl, ho6, hb6⟩
      obtain ⟨oa, cp, rfl, hat⟩ := intsAt_of_own ho6 (fun z hz => wf_small (by have := hl.2 z hz; omega) (by have := hl.2 z hz; omega))
      obtain ⟨s2, hs2, hct, hrc⟩ := conf_back l hl.1
      have hl5 := hl.1
      have B6 := hide (B5.out.trans (hb6.mono s5))
      have HAT := hide hat
      clear hat ho6 hb6 hl s5 B5
      go_wp2_with fail
      refine (implConfText_any oa l.length cp l _ HAT.out).mono ?_
      rw [hct]
      rintro e w7 ⟨rfl, hb7⟩
      have s6 := B6.out.size
      have B7 := hide (B6.out.trans (hb7.mono s6))
      replace HAT := hide (HAT.out.below hb7)
      clear hb7 hct B6 s6
      cases hok : confOk l with
      | false =>
        rw [hok, if_neg (by decide)] at hrc
        have HRC := hide hrc
        have HOK := hide hok
        clear hrc hok
        go_wp2_with fail
        refine (implReadConf_any s2 hs2 _).mono ?_
        rw [HRC.out]
        rintro e w8 ⟨g, cg, rfl, ho8, hb8⟩
        have s7 := B7.out.size
        have B8 := hide (B7.out.trans (hb8.mono s7))
        replace HAT := hide (HAT.out.below hb8)
        clear hb8 ho8 B7 s7
        go_wp2_with fail
        refine (specConfOk_any oa l.length cp l _ HAT.out).mono ?_
        rw [HOK.out]
        rintro e w9 ⟨rfl, hd9⟩
        have s8 := B8.out.size
        have B9 := hide (B8.out.trans (hd9.below.mono s8))
        replace HAT := hide (HAT.out.drew hd9)
        clear hd9 B8 s8
        go_wp2_with fail
        refine (implConfOk_any oa l.length cp l _ HAT.out).mono ?_
        rw [HOK.out]
        rintro e w10 ⟨rfl, rfl⟩
        go_wp2_with fail
        go_ret
        exact ⟨rfl, B9.out⟩
      | true =>
        rw [hok, if_pos rfl] at hrc
        have HRC := hide hrc
        have HOK := hide hok
        have hl1 := (confOk_len hok).1
        clear hrc hok
        go_wp2_with fail
        refine (implReadConf_any s2 hs2 _).mono ?_
        rw [HRC.out]
        rintro e w8 ⟨g, cg, rfl, ho8, hb8⟩
        obtain ⟨_, _, he8, hat8⟩ := intsAt_of_own (zs := l) ho8 HAT.out.fits
        cases he8
        have HBT := hide hat8
        have s7 := B7.out.size
        have B8 := hide (B7.out.trans (hb8.mono s7))
        replace HAT := hide (HAT.out.below hb8)
        clear hb8 ho8 hat8 B7 s7
        go_wp2_with fail
        refine (specConfOk_any oa l.length cp l _ HAT.out).mono ?_
        rw [HOK.out]
        rintro e w9 ⟨rfl, hd9⟩
        have s8 := B8.out.size
        have B9 := hide (B8.out.trans (hd9.below.mono s8))
        replace HAT := hide (HAT.out.drew hd9)
        replace HBT := hide (HBT.out.drew hd9)
        clear hd9 B8 s8
        go_wp2_with fail
        refine (sameInts_same _ l.length cg _ cp l (by omega) _ HBT.out HAT.out).mono ?_
        rintro e w10 ⟨rfl, hb10⟩
        have s9 := B9.out.size
        have B10 := hide (B9.out.trans (hb10.mono s9))
        replace HAT := hide (HAT.out.below hb10)
        clear hb10 HBT B9 s9
        go_wp2_with fail
        refine (implConfOk_any oa l.length cp l _ HAT.out).mono ?_
        rw [HOK.out]
        rintro e w11 ⟨rfl, rfl⟩
        go_wp2_with fail
        refine (implMost_any oa l.length cp l oa l.length cp l (by omega) _ HAT.out HAT.out).mono ?_
        rw [most_self HOK.out]
        rintro e w12 ⟨rfl, hb12⟩
        have s10 := B10.out.size
        have B12 := B10.out.trans (hb12.mono s10)
        have hat12 := HAT.out.below hb12
        have s12 := B12.size
        have hba := (Below.refl w12.heap.size w12).alloc (Nat.le_refl _) (.cells #[] 3)
        have B13 := hide (B12.trans (hba.mono s12))
        have HAT13 := hide (hat12.below hba)
        have HNil : Hid (IntsAt (w12.alloc (.cells #[] 3)) (some ⟨w12.heap.size, 0, none⟩) 0 0 []) := hide ⟨rfl, Nat.le_refl _, by unfold maxLen; omega, by simp, by simp⟩
        clear hb12 B10 s10 B12 hat12 s12 hba HAT
        go_wp2_with fail
        refine (implMost_any oa l.length cp l _ 0 _ [] (by omega) _ HAT13.out HNil.out).mono ?_
        rw [most_nil]
        rintro e w14 ⟨rfl, hb14⟩
        have s13 := B13.out.size
        have B14 := hide (B13.out.trans (hb14.mono s13))
        have HAT14 := hide (HAT13.out.below hb14)
        clear hb14 HNil HAT13 B13 s13
        obtain ⟨bb, bo, rfl, -⟩ := HAT14.out.at_ 0 (l[0]) (by simp)
        have hroom := HAT14.out.room
        have hmost := HAT14.out.most
        have r1 : (1 : Int) ≤ (cp : Int) := by omega
        have HF := hide (HAT14.out.first hl1)
        go_wp2_with fail
        refine (implMost_any _ l.length cp l _ 1 cp (l.take 1) (by omega) _ HAT14.out HF.out).mono ?_
        rw [most_one HOK.out]
        rintro e w15 ⟨rfl, hb15⟩
        have s14 := B14.out.size
        have B15 := hide (B14.out.trans (hb15.mono s14))
        clear hb15 HAT14 HF B14 s14
        by_cases h1 : l.length = 1
        · have g1 : ((l.length : Int) == 1) = true := by rw [beq_iff_eq]; omega
          rw [decide_eq_true h1]
          go_wp2_with fail
          go_ret
          exact ⟨rfl, B15.out⟩
        · have g1 : ((l.length : Int) == 1) = false := by rw [beq_eq_false_iff_ne]; omega
          rw [decide_eq_false h1]
          go_wp2_with fail
          go_ret
          exact ⟨rfl, B15.out⟩
    | true =>
      obtain ⟨rfl, rfl, rfl, rfl, rfl⟩ := HBK.out rfl
      clear HBK
      go_wp2_with fail
      have s5 := B5.out.size
      refine (drawConfText_any w.heap.size a0 len0 cap0 _ hlen s5 (HC.out.below B5.out)).mono ?_
      rintro e w6 ⟨l, v, hl, rfl, ho6, hb6⟩
      obtain ⟨oa, cp, rfl, hat⟩ := intsAt_of_own ho6 (fun z hz => wf_small (by have := hl.2 z hz; omega) (by have := hl.2 z hz; omega))
      obtain ⟨s2, hs2, hct, hrc⟩ := conf_back l hl.1
      have hl5 := hl.1
      have B6 := hide (B5.out.trans (hb6.mono s5))
      have HAT := hide hat
      clear hat ho6 hb6 hl s5 B5
      go_wp2_with fail
      refine (implConfText_any oa l.length cp l _ HAT.out).mono ?_
      rw [hct]
      rintro e w7 ⟨rfl, hb7⟩
      have s6 := B6.out.size
      have B7 := hide (B6.out.trans (hb7.mono s6))
      replace HAT := hide (HAT.out.below hb7)
      clear hb7 hct B6 s6
      cases hok : confOk l with
      | false =>
        rw [hok, if_neg (by decide)] at hrc
        have HRC := hide hrc
        have HOK := hide hok
        clear hrc hok
        go_wp2_with fail
        refine (implReadConf_any s2 hs2 _).mono ?_
        rw [HRC.out]
        rintro e w8 ⟨g, cg, rfl, ho8, hb8⟩
        have s7 := B7.out.size
        have B8 := hide (B7.out.trans (hb8.mono s7))
        replace HAT := hide (HAT.out.below hb8)
        clear hb8 ho8 B7 s7
        go_wp2_with fail
        refine (specConfOk_any oa l.length cp l _ HAT.out).mono ?_
        rw [HOK.out]
        rintro e w9 ⟨rfl, hd9⟩
        have s8 := B8.out.size
        have B9 := hide (B8.out.trans (hd9.below.mono s8))
        replace HAT := hide (HAT.out.drew hd9)
        clear hd9 B8 s8
        go_wp2_with fail
        refine (implConfOk_any oa l.length cp l _ HAT.out).mono ?_
        rw [HOK.out]
        rintro e w10 ⟨rfl, rfl⟩
        go_wp2_with fail
        go_ret
        exact ⟨rfl, B9.out⟩
      | true =>
        rw [hok, if_pos rfl] at hrc
        have HRC := hide hrc
        have HOK := hide hok
        have hl1 := (confOk_len hok).1
        clear hrc hok
        go_wp2_with fail
        refine (implReadConf_any s2 hs2 _).mono ?_
        rw [HRC.out]
        rintro e w8 ⟨g, cg, rfl, ho8, hb8⟩
        obtain ⟨_, _, he8, hat8⟩ := intsAt_of_own (zs := l) ho8 HAT.out.fits
        cases he8
        have HBT := hide hat8
        have s7 := B7.out.size
        have B8 := hide (B7.out.trans (hb8.mono s7))
        replace HAT := hide (HAT.out.below hb8)
        clear hb8 ho8 hat8 B7 s7
        go_wp2_with fail
        refine (specConfOk_any oa l.length cp l _ HAT.out).mono ?_
        rw [HOK.out]
        rintro e w9 ⟨rfl, hd9⟩
        have s8 := B8.out.size
        have B9 := hide (B8.out.trans (hd9.below.mono s8))
        replace HAT := hide (HAT.out.drew hd9)
        replace HBT := hide (HBT.out.drew hd9)
        clear hd9 B8 s8
        go_wp2_with fail
        refine (sameInts_same _ l.length cg _ cp l (by omega) _ HBT.out HAT.out).mono ?_
        rintro e w10 ⟨rfl, hb10⟩
        have s9 := B9.out.size
        have B10 := hide (B9.out.trans (hb10.mono s9))
        replace HAT := hide (HAT.out.below hb10)
        clear hb10 HBT B9 s9
        go_wp2_with fail
        refine (implConfOk_any oa l.length cp l _ HAT.out).mono ?_
        rw [HOK.out]
        rintro e w11 ⟨rfl, rfl⟩
        go_wp2_with fail
        refine (implMost_any oa l.length cp l oa l.length cp l (by omega) _ HAT.out HAT.out).mono ?_
        rw [most_self HOK.out]
        rintro e w12 ⟨rfl, hb12⟩
        have s10 := B10.out.size
        have B12 := B10.out.trans (hb12.mono s10)
        have hat12 := HAT.out.below hb12
        have s12 := B12.size
        have hba := (Below.refl w12.heap.size w12).alloc (Nat.le_refl _) (.cells #[] 3)
        have B13 := hide (B12.trans (hba.mono s12))
        have HAT13 := hide (hat12.below hba)
        have HNil : Hid (IntsAt (w12.alloc (.cells #[] 3)) (some ⟨w12.heap.size, 0, none⟩) 0 0 []) := hide ⟨rfl, Nat.le_refl _, by unfold maxLen; omega, by simp, by simp⟩
        clear hb12 B10 s10 B12 hat12 s12 hba HAT
        go_wp2_with fail
        refine (implMost_any oa l.length cp l _ 0 _ [] (by omega) _ HAT13.out HNil.out).mono ?_
        rw [most_nil]
        rintro e w14 ⟨rfl, hb14⟩
        have s13 := B13.out.size
        have B14 := hide (B13.out.trans (hb14.mono s13))
        have HAT14 := hide (HAT13.out.below hb14)
        clear hb14 HNil HAT13 B13 s13
        obtain ⟨bb, bo, rfl, -⟩ := HAT14.out.at_ 0 (l[0]) (by simp)
        have hroom := HAT14.out.room
        have hmost := HAT14.out.most
        have r1 : (1 : Int) ≤ (cp : Int) := by omega
        have HF := hide (HAT14.out.first hl1)
        go_wp2_with fail
        refine (implMost_any _ l.length cp l _ 1 cp (l.take 1) (by omega) _ HAT14.out HF.out).mono ?_
        rw [most_one HOK.out]
        rintro e w15 ⟨rfl, hb15⟩
        have s14 := B14.out.size
        have B15 := hide (B14.out.trans (hb15.mono s14))
        clear hb15 HAT14 HF B14 s14
        by_cases h1 : l.length = 1
        · have g1 : ((l.length : Int) == 1) = true := by rw [beq_iff_eq]; omega
          rw [decide_eq_true h1]
          go_wp2_with fail
          go_ret
          exact ⟨rfl, B15.out⟩
        · have g1 : ((l.length : Int) == 1) = false := by rw [beq_eq_false_iff_ne]; omega
          rw [decide_eq_false h1]
          go_wp2_with fail
          go_ret
          exact ⟨rfl, B15.out⟩

end Go.Proofs.Yteilmhlhddihpaa
