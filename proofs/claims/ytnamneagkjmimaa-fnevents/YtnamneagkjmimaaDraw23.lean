/-
  Draws of chapter 9: an event, and a text that may be spoilt.
-/
import Derived.Test.YtnamneagkjmimaaDraw22
import Derived.Test.YtnamneagkjmimaaWalk9i
namespace Go.Proofs.Ytnamneagkjmimaa
open Go.RowKit P1 P3 P9 P11 P12 K
set_option linter.unusedVariables false
set_option linter.unusedSimpArgs false

set_option maxHeartbeats 2000000 in
theorem drawEventText_any (B : Nat) (a : Option Addr) (len cap : Nat) (w : World) (hlen : len ≤ 1048576) (hB : B ≤ w.heap.size) (hcode : CodeAt B w a len) :
    Calls Try.prog 8 #[.slice a len cap] w fun e w' => ∃ (id kd sn us mb dp : Int) (vl vp : Value) (tx : List UInt8) (n m : Nat) (zl zp : List Int), e = .returned (evval id kd sn us mb dp vl vp tx) ∧ n ≤ 6 ∧ m ≤ 4 ∧ tx.length ≤ 30 ∧ EvOwn w' w.heap.size vl vp n m zl zp ∧ (∀ z ∈ zl, (Lit.int .i64 z).wf = true) ∧ (∀ z ∈ zp, (Lit.int .i64 z).wf = true) ∧ Below w.heap.size w w' := by
  have k1 := (Below.refl w.heap.size w).alloc (Nat.le_refl _) (.cells #[.int .i64 0, .int .i64 0, .int .i64 0, .int .i64 0, .int .i64 0, .slice none 0 0, .string ⟨#[]⟩, .slice none 0 0, .int .i64 0] 26)
  have HN := hide (l01New_any B a len cap (w.alloc (.cells #[.int .i64 0, .int .i64 0, .int .i64 0, .int .i64 0, .int .i64 0, .slice none 0 0, .string ⟨#[]⟩, .slice none 0 0, .int .i64 0] 26)) hlen (by simp; omega) (hcode.below (k1.mono hB)))
  have HR0 := hide (EB.new w 0 0 0 0 0 0 (.slice none 0 0) (.slice none 0 0) [])
  have HB0 := hide k1
  clear k1 hcode
  rw [World.size_alloc] at HN
  go_enter Try.func8, Try.ntmps8
  go_wp2_with fail
  refine HN.out.mono ?_
  rintro e x1 ⟨rfl, hc1, hb1⟩
  have hs1 : w.heap.size + 1 < x1.heap.size := hc1.lt
  have HR1 := hide (HR0.out.on hb1 (by simp))
  have HB1 := hide (HB0.out.trans (hb1.mono (by simp)))
  have HC1 := hide hc1
  clear hc1 hb1 HN HR0 HB0
  go_wp2_with fail
  refine (l09Any_any B (w.heap.size + 1) a len cap x1 (by omega) HC1.out).mono ?_
  rintro e x2 ⟨id, kd, sn, us, mb, dp, vl, vp, tx, n, m, zl, zp, rfl, hn, hm, ht, hown, hfl, hfp, hc2, hg2⟩
  obtain ⟨oa, cl, hvl⟩ := row_form hown.l
  obtain ⟨ob, cp, hvp⟩ := row_form hown.p
  subst hvl
  subst hvp
  have HR2 := hide (HR1.out.kept hg2 (fun q => by have := Option.some.inj q; omega))
  have HB2 := hide (HB1.out.grown hg2 HB1.out.size (fun j hj => by cases hj; omega))
  have HO := hide hown
  have HF := hide hfl
  have HP := hide hfp
  clear hc2 hg2 hown hfl hfp HR1 HB1 HC1
  obtain ⟨q0, q1, q2, q3, q4, q5, q6, q7, q8⟩ := HR2.out.ev
  have y0 := HR2.out.free 0
  have y1 := HR2.out.free 1
  have y2 := HR2.out.free 2
  have y3 := HR2.out.free 3
  have y4 := HR2.out.free 4
  have y5 := HR2.out.free 5
  have y6 := HR2.out.free 6
  have y7 := HR2.out.free 7
  have y8 := HR2.out.free 8
  go_wp2_with fail
  clear q0 q1 q2 q3 q4 q5 q6 q7 q8 y0 y1 y2 y3 y4 y5 y6 y7 y8
  obtain ⟨w6, hw6, hE6, hg6⟩ := HR2.out.all id kd sn us mb dp (.slice oa n cl) (.slice ob m cp) tx
  rw [hw6]
  obtain ⟨c0, c1, c2, c3, c4, c5, c6, c7, c8⟩ := hE6.ev
  refine bodyPost_ret (v := evval id kd sn us mb dp (.slice oa n cl) (.slice ob m cp) tx) (by simp [results, Try.results8, go_sem, c0, c1, c2, c3, c4, c5, c6, c7, c8]) rfl ?_
  exact ⟨id, kd, sn, us, mb, dp, _, _, tx, n, m, zl, zp, rfl, hn, hm, ht, (HO.out.kept hg6 (by omega)).down (by omega), HF.out, HP.out, HB2.out.grown hg6 HB2.out.size (fun j hj => by cases hj; exact Nat.le_refl _)⟩

theorem run_to9 (s : List UInt8) (k : Nat) (hk : k ≤ s.length) (wx : World) :
    (Instr.slice 9 (.string ⟨s.toArray⟩) none (some (.int .i64 (k : Int))) none).run Try.prog wx = .ok (.string ⟨(s.take k).toArray⟩) wx := by
  have e : (⟨s.toArray⟩ : ByteArray).extract 0 k = ⟨(s.take k).toArray⟩ := by
    apply ByteArray.ext
    simp [ByteArray.data_extract]
  have hs : (⟨s.toArray⟩ : ByteArray).size = s.length := by simp [ByteArray.size]
  have h1 : (k : Int) ≤ (s.length : Int) := by omega
  rw [← e]
  simp [Instr.slice, run_underlying Try.underlying9, Instr.sliceBounds, go_sem, hs, h1, hk]

theorem run_from9 (s : List UInt8) (k : Nat) (hk : k ≤ s.length) (wx : World) :
    (Instr.slice 9 (.string ⟨s.toArray⟩) (some (.int .i64 (k : Int))) none none).run Try.prog wx = .ok (.string ⟨(s.drop k).toArray⟩) wx := by
  have e : (⟨s.toArray⟩ : ByteArray).extract k s.length = ⟨(s.drop k).toArray⟩ := by
    apply ByteArray.ext
    simp [ByteArray.data_extract]
    exact List.take_of_length_le (by rw [List.length_drop]; exact Nat.le_refl _)
  have hs : (⟨s.toArray⟩ : ByteArray).size = s.length := by simp [ByteArray.size]
  have h1 : (k : Int) ≤ (s.length : Int) := by omega
  rw [← e]
  simp [Instr.slice, run_underlying Try.underlying9, Instr.sliceBounds, go_sem, hs, h1, hk]

/-- A text, spoilt or not. -/
def SpD (N : Nat) (B p : Nat) (a : Option Addr) (len cap : Nat) (w : World) (e : Ending) (w' : World) : Prop :=
  ∃ t : List UInt8, t.length ≤ N ∧ e = .returned (.string ⟨t.toArray⟩) ∧ CurAt B w' p a len cap ∧ w.grownBy w' (some p)

set_option maxHeartbeats 4000000 in
theorem l02Spoilt_any (B p : Nat) (a : Option Addr) (len cap : Nat) (s : List UInt8) (hs : s.length ≤ 1000000) (w : World) (hB : B ≤ w.heap.size) (hc : CurAt B w p a len cap) :
    Calls Try.prog 38 #[.pointer (some ⟨p, 0, none⟩), .string ⟨s.toArray⟩] w fun e w' => SpD (s.length + 1) B p a len cap w e w' := by
  have hsz : (⟨s.toArray⟩ : ByteArray).size = s.length := by simp [ByteArray.size]
  have HC := hide hc
  clear hc
  go_enter Try.func38, Try.ntmps38
  go_wp2_with fail
  refine (l01Below_any B p a len cap 12 (by omega) (by omega) _ HC.out).mono ?_
  rintro e x1 ⟨xs, hxs, rfl, hc1, hg1⟩
  have hs1 : B ≤ x1.heap.size := Nat.le_trans hB hg1.size
  have HC1 := hide hc1
  have HG1 := hide hg1
  clear hc1 hg1 HC
  obtain ⟨X, hX⟩ : ∃ X : Int, (xs : Int) = X := ⟨_, rfl⟩
  rw [hX]
  have hXb : 0 ≤ X ∧ X < 12 := by omega
  clear hX hxs
  rcases (show X = 0 ∨ X = 1 ∨ (X = 2 ∨ X = 3) ∨ 4 ≤ X by omega) with rfl | rfl | hX | hX
  · go_wp2_with fail
    refine (l01Text_any B p a len cap 1 (by omega) _ hs1 HC1.out).mono ?_
    rintro e x2 ⟨l, hl, rfl, hc2, hg2⟩
    have HC2 := hide hc2
    have HG2 := hide (grown_trans HG1.out hg2)
    have hadd := add_fact Try.prog s l (by omega)
    have hlen : (s ++ l).length ≤ s.length + 1 := by rw [List.length_append]; omega
    generalize s ++ l = t at hadd hlen
    generalize (⟨s.toArray⟩ : ByteArray) = SS at hadd hsz ⊢
    generalize (⟨l.toArray⟩ : ByteArray) = LL at hadd ⊢
    clear hc2 hg2
    go_wp2_with fail
    go_ret
    exact ⟨t, hlen, rfl, HC2.out, HG2.out⟩
  · have hw : ((s.length + 1 : Nat) : Int) = (s.length : Int) + 1 := by omega
    have HBL := hide (l01Below_any B p a len cap (s.length + 1) (by omega) (by omega) x1 HC1.out)
    rw [hw] at HBL
    clear hw
    go_wp2_with fail
    refine HBL.out.mono ?_
    rintro e x2 ⟨k, hk, rfl, hc2, hg2⟩
    have hsl := run_to9 s k (by omega)
    have HC2 := hide hc2
    have HG2 := hide (grown_trans HG1.out hg2)
    have hlen : (s.take k).length ≤ s.length + 1 := by rw [List.length_take]; omega
    generalize s.take k = t at hsl hlen
    clear hc2 hg2
    go_wp2_with fail
    go_ret
    exact ⟨t, hlen, rfl, HC2.out, HG2.out⟩
  · by_cases h0 : 0 < s.length
    · have g0 : (0 : Int) < (s.length : Int) := by omega
      have key : ∀ (Q : Exit → Act → World → Prop), True := fun _ => trivial
      have HBL := hide (l01Below_any B p a len cap s.length h0 (by omega) x1 HC1.out)
      rcases hX with rfl | rfl
      · go_wp2_with fail
        refine HBL.out.mono ?_
        rintro e x2 ⟨k, hk, rfl, hc2, hg2⟩
        have hs2 : B ≤ x2.heap.size := Nat.le_trans hs1 hg2.size
        have HC2 := hide hc2
        have HG2 := hide (grown_trans HG1.out hg2)
        have hsl1 := run_to9 s k (by omega)
        have hsl2 := run_from9 s (k + 1) (by omega)
        rw [show ((k + 1 : Nat) : Int) = (k : Int) + 1 by omega] at hsl2
        have hwk : IntKind.i64.wrap ((k : Int) + 1) = (k : Int) + 1 := by rw [IntKind.wrap_i64]; omega
        obtain ⟨T1, hT1⟩ : ∃ T1, s.take k = T1 := ⟨_, rfl⟩
        obtain ⟨T2, hT2⟩ : ∃ T2, s.drop (k + 1) = T2 := ⟨_, rfl⟩
        have hl1 : T1.length = k := by rw [← hT1, List.length_take]; omega
        have hl2 : T2.length = s.length - (k + 1) := by rw [← hT2, List.length_drop]
        rw [hT1] at hsl1
        rw [hT2] at hsl2
        clear hc2 hg2 hT1 hT2 HBL
        have HTX := hide (l01Text_any B p a len cap 1 (by omega) x2.drew hs2 (HC2.out.kept (Below.refl _ _).drew rfl))
        have HL1 := hide hl1
        have HL2 := hide hl2
        clear hl1 hl2
        go_wp2_with fail
        refine wp_region_held_drew (S := fun _ => True) (by kernel_rfl) trivial (fun hHeld => ?_)
        refine wpAnyH_take (i := 0) (v := ?_) rfl (by kernel_rfl) (by kernel_rfl) (by kernel_rfl) (fun _ _ _ h => h) (Or.inl ⟨by rfl, ?_⟩) (by assumption) ?_; rotate_left
        · (intro w hSw; (try dsimp only at hSw); go_simp; first | done | with_reducible rfl)
        try simp only [Act.put, List.getElem_toArray, List.getElem_cons_zero, List.getElem_cons_succ, List.setIfInBounds_toArray, List.set_cons_zero, List.set_cons_succ]
        refine wpAnyH_take (i := 1) (v := ?_) rfl (by kernel_rfl) (by kernel_rfl) (by kernel_rfl) (fun _ _ _ h => h) (Or.inl ⟨by rfl, ?_⟩) (by assumption) ?_; rotate_left
        · (intro w hSw; (try dsimp only at hSw); go_simp; first | done | with_reducible rfl)
        try simp only [Act.put, List.getElem_toArray, List.getElem_cons_zero, List.getElem_cons_succ, List.setIfInBounds_toArray, List.set_cons_zero, List.set_cons_succ]
        refine wpAnyH_take (i := 2) (v := ?_) rfl (by kernel_rfl) (by kernel_rfl) (by kernel_rfl) (fun _ _ _ h => h) (Or.inl ⟨by rfl, ?_⟩) (by assumption) ?_; rotate_left
        · (intro w hSw; (try dsimp only at hSw); go_simp; first | done | with_reducible rfl)
        try simp only [Act.put, List.getElem_toArray, List.getElem_cons_zero, List.getElem_cons_succ, List.setIfInBounds_toArray, List.set_cons_zero, List.set_cons_succ]
        refine wpAnyH_take (i := 3) (v := ?_) rfl (by kernel_rfl) (by kernel_rfl) (by kernel_rfl) (fun _ _ _ h => h) (Or.inl ⟨by rfl, ?_⟩) (by assumption) ?_; rotate_left
        · (intro w hSw; (try dsimp only at hSw); go_simp; first | done | with_reducible rfl)
        try simp only [Act.put, List.getElem_toArray, List.getElem_cons_zero, List.getElem_cons_succ, List.setIfInBounds_toArray, List.set_cons_zero, List.set_cons_succ]
        refine wpAnyH_take (i := 6) (v := ?_) rfl (by kernel_rfl) (by kernel_rfl) (by kernel_rfl) (fun _ _ _ h => h) (Or.inl ⟨by rfl, ?_⟩) (by assumption) ?_; rotate_left
        · (intro w hSw; (try dsimp only at hSw); go_simp; first | done | with_reducible rfl)
        try simp only [Act.put, List.getElem_toArray, List.getElem_cons_zero, List.getElem_cons_succ, List.setIfInBounds_toArray, List.set_cons_zero, List.set_cons_succ]
        refine wpAnyH_take (i := 7) (v := ?_) rfl (by kernel_rfl) (by kernel_rfl) (by kernel_rfl) (fun _ _ _ h => h) (Or.inl ⟨by rfl, ?_⟩) (by assumption) ?_; rotate_left
        · (intro w hSw; (try dsimp only at hSw); go_simp; first | done | with_reducible rfl)
        try simp only [Act.put, List.getElem_toArray, List.getElem_cons_zero, List.getElem_cons_succ, List.setIfInBounds_toArray, List.set_cons_zero, List.set_cons_succ]
        refine wpAnyH_take (i := 8) (v := ?_) rfl (by kernel_rfl) (by kernel_rfl) (by kernel_rfl) (fun _ _ _ h => h) (Or.inl ⟨by rfl, ?_⟩) (by assumption) ?_; rotate_left
        · (intro w hSw; (try dsimp only at hSw); go_simp; first | done | with_reducible rfl)
        try simp only [Act.put, List.getElem_toArray, List.getElem_cons_zero, List.getElem_cons_succ, List.setIfInBounds_toArray, List.set_cons_zero, List.set_cons_succ]
        refine wpAnyH_take (i := 9) (v := ?_) rfl (by kernel_rfl) (by kernel_rfl) (by kernel_rfl) (fun _ _ _ h => h) (Or.inl ⟨by rfl, ?_⟩) (by assumption) ?_; rotate_left
        · (intro w hSw; (try dsimp only at hSw); go_simp; first | done | with_reducible rfl)
        try simp only [Act.put, List.getElem_toArray, List.getElem_cons_zero, List.getElem_cons_succ, List.setIfInBounds_toArray, List.set_cons_zero, List.set_cons_succ]
        refine wpAnyH_ready (rs := [4]) (by kernel_rfl) (by simp) ?_
        refine AllReadyH.cons rfl (fun K hK => ?_) ?_
        · rw [if_pos (by rfl)]
          go_simp
          go_at_call 62
          refine HTX.out.mono ?_
          rintro r x3 ⟨l, hl, rfl, hc3, hg3⟩
          have HC3 := hide hc3
          have HG3 := hide (grown_trans HG2.out (grown_trans (grown_below (Below.refl _ _).drew) hg3))
          have hadd1 := add_fact Try.prog T1 l (by have := HL1.out; omega)
          have hadd2 := add_fact Try.prog (T1 ++ l) T2 (by have := HL1.out; have := HL2.out; rw [List.length_append]; omega)
          have HLN := hide (show ((T1 ++ l) ++ T2).length ≤ s.length + 1 by have := HL1.out; have := HL2.out; rw [List.length_append, List.length_append]; omega)
          generalize (T1 ++ l) ++ T2 = t at hadd2 HLN
          generalize (⟨(T1 ++ l).toArray⟩ : ByteArray) = S1 at hadd1 hadd2
          clear hc3 hg3
          try go_simp
          refine hK.out _ _ ?_ (fun hHeld => ?_)
          · trivial
          clear hK K
          try simp only [Act.put, List.getElem_toArray, List.getElem_cons_zero, List.getElem_cons_succ, List.setIfInBounds_toArray, List.set_cons_zero, List.set_cons_succ]
          refine wpAnyH_take (i := 5) (v := ?_) rfl (by kernel_rfl) (by kernel_rfl) (by kernel_rfl) (fun _ _ _ h => h) (Or.inl ⟨by rfl, ?_⟩) (by assumption) ?_; rotate_left
          · (intro w hSw; (try dsimp only at hSw); go_simp; first | done | with_reducible rfl)
          try simp only [Act.put, List.getElem_toArray, List.getElem_cons_zero, List.getElem_cons_succ, List.setIfInBounds_toArray, List.set_cons_zero, List.set_cons_succ]
          refine wpAnyH_take (i := 10) (v := ?_) rfl (by kernel_rfl) (by kernel_rfl) (by kernel_rfl) (fun _ _ _ h => h) (Or.inl ⟨by rfl, ?_⟩) (by assumption) ?_; rotate_left
          · (intro w hSw; (try dsimp only at hSw); go_simp; first | done | with_reducible rfl)
          try simp only [Act.put, List.getElem_toArray, List.getElem_cons_zero, List.getElem_cons_succ, List.setIfInBounds_toArray, List.set_cons_zero, List.set_cons_succ]
          refine wpAnyH_take (i := 11) (v := ?_) rfl (by kernel_rfl) (by kernel_rfl) (by kernel_rfl) (fun _ _ _ h => h) (Or.inl ⟨by rfl, ?_⟩) (by assumption) ?_; rotate_left
          · (intro w hSw; (try dsimp only at hSw); go_simp; first | done | with_reducible rfl)
          try simp only [Act.put, List.getElem_toArray, List.getElem_cons_zero, List.getElem_cons_succ, List.setIfInBounds_toArray, List.set_cons_zero, List.set_cons_succ]
          refine wpAnyH_done (by kernel_rfl) ?_ _
          go_wp2_with fail
          go_ret
          exact ⟨t, HLN.out, rfl, HC3.out, HG3.out⟩
        exact AllReadyH.nil
      · go_wp2_with fail
        refine HBL.out.mono ?_
        rintro e x2 ⟨k, hk, rfl, hc2, hg2⟩
        have hs2 : B ≤ x2.heap.size := Nat.le_trans hs1 hg2.size
        have HC2 := hide hc2
        have HG2 := hide (grown_trans HG1.out hg2)
        have hsl1 := run_to9 s k (by omega)
        have hsl2 := run_from9 s (k + 1) (by omega)
        rw [show ((k + 1 : Nat) : Int) = (k : Int) + 1 by omega] at hsl2
        have hwk : IntKind.i64.wrap ((k : Int) + 1) = (k : Int) + 1 := by rw [IntKind.wrap_i64]; omega
        obtain ⟨T1, hT1⟩ : ∃ T1, s.take k = T1 := ⟨_, rfl⟩
        obtain ⟨T2, hT2⟩ : ∃ T2, s.drop (k + 1) = T2 := ⟨_, rfl⟩
        have hl1 : T1.length = k := by rw [← hT1, List.length_take]; omega
        have hl2 : T2.length = s.length - (k + 1) := by rw [← hT2, List.length_drop]
        rw [hT1] at hsl1
        rw [hT2] at hsl2
        clear hc2 hg2 hT1 hT2 HBL
        have HTX := hide (l01Text_any B p a len cap 1 (by omega) x2.drew hs2 (HC2.out.kept (Below.refl _ _).drew rfl))
        have HL1 := hide hl1
        have HL2 := hide hl2
        clear hl1 hl2
        go_wp2_with fail
        refine wp_region_held_drew (S := fun _ => True) (by kernel_rfl) trivial (fun hHeld => ?_)
        refine wpAnyH_take (i := 0) (v := ?_) rfl (by kernel_rfl) (by kernel_rfl) (by kernel_rfl) (fun _ _ _ h => h) (Or.inl ⟨by rfl, ?_⟩) (by assumption) ?_; rotate_left
        · (intro w hSw; (try dsimp only at hSw); go_simp; first | done | with_reducible rfl)
        try simp only [Act.put, List.getElem_toArray, List.getElem_cons_zero, List.getElem_cons_succ, List.setIfInBounds_toArray, List.set_cons_zero, List.set_cons_succ]
        refine wpAnyH_take (i := 1) (v := ?_) rfl (by kernel_rfl) (by kernel_rfl) (by kernel_rfl) (fun _ _ _ h => h) (Or.inl ⟨by rfl, ?_⟩) (by assumption) ?_; rotate_left
        · (intro w hSw; (try dsimp only at hSw); go_simp; first | done | with_reducible rfl)
        try simp only [Act.put, List.getElem_toArray, List.getElem_cons_zero, List.getElem_cons_succ, List.setIfInBounds_toArray, List.set_cons_zero, List.set_cons_succ]
        refine wpAnyH_take (i := 2) (v := ?_) rfl (by kernel_rfl) (by kernel_rfl) (by kernel_rfl) (fun _ _ _ h => h) (Or.inl ⟨by rfl, ?_⟩) (by assumption) ?_; rotate_left
        · (intro w hSw; (try dsimp only at hSw); go_simp; first | done | with_reducible rfl)
        try simp only [Act.put, List.getElem_toArray, List.getElem_cons_zero, List.getElem_cons_succ, List.setIfInBounds_toArray, List.set_cons_zero, List.set_cons_succ]
        refine wpAnyH_take (i := 3) (v := ?_) rfl (by kernel_rfl) (by kernel_rfl) (by kernel_rfl) (fun _ _ _ h => h) (Or.inl ⟨by rfl, ?_⟩) (by assumption) ?_; rotate_left
        · (intro w hSw; (try dsimp only at hSw); go_simp; first | done | with_reducible rfl)
        try simp only [Act.put, List.getElem_toArray, List.getElem_cons_zero, List.getElem_cons_succ, List.setIfInBounds_toArray, List.set_cons_zero, List.set_cons_succ]
        refine wpAnyH_take (i := 6) (v := ?_) rfl (by kernel_rfl) (by kernel_rfl) (by kernel_rfl) (fun _ _ _ h => h) (Or.inl ⟨by rfl, ?_⟩) (by assumption) ?_; rotate_left
        · (intro w hSw; (try dsimp only at hSw); go_simp; first | done | with_reducible rfl)
        try simp only [Act.put, List.getElem_toArray, List.getElem_cons_zero, List.getElem_cons_succ, List.setIfInBounds_toArray, List.set_cons_zero, List.set_cons_succ]
        refine wpAnyH_take (i := 7) (v := ?_) rfl (by kernel_rfl) (by kernel_rfl) (by kernel_rfl) (fun _ _ _ h => h) (Or.inl ⟨by rfl, ?_⟩) (by assumption) ?_; rotate_left
        · (intro w hSw; (try dsimp only at hSw); go_simp; first | done | with_reducible rfl)
        try simp only [Act.put, List.getElem_toArray, List.getElem_cons_zero, List.getElem_cons_succ, List.setIfInBounds_toArray, List.set_cons_zero, List.set_cons_succ]
        refine wpAnyH_take (i := 8) (v := ?_) rfl (by kernel_rfl) (by kernel_rfl) (by kernel_rfl) (fun _ _ _ h => h) (Or.inl ⟨by rfl, ?_⟩) (by assumption) ?_; rotate_left
        · (intro w hSw; (try dsimp only at hSw); go_simp; first | done | with_reducible rfl)
        try simp only [Act.put, List.getElem_toArray, List.getElem_cons_zero, List.getElem_cons_succ, List.setIfInBounds_toArray, List.set_cons_zero, List.set_cons_succ]
        refine wpAnyH_take (i := 9) (v := ?_) rfl (by kernel_rfl) (by kernel_rfl) (by kernel_rfl) (fun _ _ _ h => h) (Or.inl ⟨by rfl, ?_⟩) (by assumption) ?_; rotate_left
        · (intro w hSw; (try dsimp only at hSw); go_simp; first | done | with_reducible rfl)
        try simp only [Act.put, List.getElem_toArray, List.getElem_cons_zero, List.getElem_cons_succ, List.setIfInBounds_toArray, List.set_cons_zero, List.set_cons_succ]
        refine wpAnyH_ready (rs := [4]) (by kernel_rfl) (by simp) ?_
        refine AllReadyH.cons rfl (fun K hK => ?_) ?_
        · rw [if_pos (by rfl)]
          go_simp
          go_at_call 62
          refine HTX.out.mono ?_
          rintro r x3 ⟨l, hl, rfl, hc3, hg3⟩
          have HC3 := hide hc3
          have HG3 := hide (grown_trans HG2.out (grown_trans (grown_below (Below.refl _ _).drew) hg3))
          have hadd1 := add_fact Try.prog T1 l (by have := HL1.out; omega)
          have hadd2 := add_fact Try.prog (T1 ++ l) T2 (by have := HL1.out; have := HL2.out; rw [List.length_append]; omega)
          have HLN := hide (show ((T1 ++ l) ++ T2).length ≤ s.length + 1 by have := HL1.out; have := HL2.out; rw [List.length_append, List.length_append]; omega)
          generalize (T1 ++ l) ++ T2 = t at hadd2 HLN
          generalize (⟨(T1 ++ l).toArray⟩ : ByteArray) = S1 at hadd1 hadd2
          clear hc3 hg3
          try go_simp
          refine hK.out _ _ ?_ (fun hHeld => ?_)
          · trivial
          clear hK K
          try simp only [Act.put, List.getElem_toArray, List.getElem_cons_zero, List.getElem_cons_succ, List.setIfInBounds_toArray, List.set_cons_zero, List.set_cons_succ]
          refine wpAnyH_take (i := 5) (v := ?_) rfl (by kernel_rfl) (by kernel_rfl) (by kernel_rfl) (fun _ _ _ h => h) (Or.inl ⟨by rfl, ?_⟩) (by assumption) ?_; rotate_left
          · (intro w hSw; (try dsimp only at hSw); go_simp; first | done | with_reducible rfl)
          try simp only [Act.put, List.getElem_toArray, List.getElem_cons_zero, List.getElem_cons_succ, List.setIfInBounds_toArray, List.set_cons_zero, List.set_cons_succ]
          refine wpAnyH_take (i := 10) (v := ?_) rfl (by kernel_rfl) (by kernel_rfl) (by kernel_rfl) (fun _ _ _ h => h) (Or.inl ⟨by rfl, ?_⟩) (by assumption) ?_; rotate_left
          · (intro w hSw; (try dsimp only at hSw); go_simp; first | done | with_reducible rfl)
          try simp only [Act.put, List.getElem_toArray, List.getElem_cons_zero, List.getElem_cons_succ, List.setIfInBounds_toArray, List.set_cons_zero, List.set_cons_succ]
          refine wpAnyH_take (i := 11) (v := ?_) rfl (by kernel_rfl) (by kernel_rfl) (by kernel_rfl) (fun _ _ _ h => h) (Or.inl ⟨by rfl, ?_⟩) (by assumption) ?_; rotate_left
          · (intro w hSw; (try dsimp only at hSw); go_simp; first | done | with_reducible rfl)
          try simp only [Act.put, List.getElem_toArray, List.getElem_cons_zero, List.getElem_cons_succ, List.setIfInBounds_toArray, List.set_cons_zero, List.set_cons_succ]
          refine wpAnyH_done (by kernel_rfl) ?_ _
          go_wp2_with fail
          go_ret
          exact ⟨t, HLN.out, rfl, HC3.out, HG3.out⟩
        exact AllReadyH.nil
    · have g0 : ¬ (0 : Int) < (s.length : Int) := by omega
      rcases hX with rfl | rfl
      · go_wp2_with fail
        go_ret
        exact ⟨s, by omega, rfl, HC1.out, HG1.out⟩
      · go_wp2_with fail
        go_ret
        exact ⟨s, by omega, rfl, HC1.out, HG1.out⟩
  · have n0 : (X == 0) = false := by simp; omega
    have n1 : (X == 1) = false := by simp; omega
    have n2 : (X == 2) = false := by simp; omega
    have n3 : (X == 3) = false := by simp; omega
    go_wp2_with fail
    go_ret
    exact ⟨s, by omega, rfl, HC1.out, HG1.out⟩

theorem etV_small {e : EvV} : ∃ (t : List UInt8) (b : Bool), t.length ≤ 1000 ∧ etV (evText e) = .tuple #[.string ⟨t.toArray⟩, .bool b] := by
  unfold evText
  split
  · rename_i h
    have hin := evOk_in h
    refine ⟨evB e, true, ?_, rfl⟩
    have h1 := evBody_len hin
    have h2 := varZ_len e.id
    have h3 := varB_length e.prev.length
    have h4 := vars_len e.prev
    have h5 := varZ_len e.depth
    have h6 := hin.prevs
    unfold evB
    simp only [List.length_append]
    omega
  · exact ⟨[], false, by simp, rfl⟩

set_option maxHeartbeats 2000000 in
theorem drawReadEvent_any (B : Nat) (a : Option Addr) (len cap : Nat) (w : World) (hlen : len ≤ 1048576) (hB : B ≤ w.heap.size) (hcode : CodeAt B w a len) :
    Calls Try.prog 14 #[.slice a len cap] w fun e w' => ∃ t : List UInt8, t.length ≤ 1001 ∧ e = .returned (.string ⟨t.toArray⟩) ∧ Below w.heap.size w w' := by
  have HN := hide (l01New_any B a len cap w hlen hB hcode)
  clear hcode
  go_enter Try.func14, Try.ntmps14
  go_wp2_with fail
  refine HN.out.mono ?_
  rintro e x1 ⟨rfl, hc1, hb1⟩
  have hs1 : w.heap.size < x1.heap.size := hc1.lt
  have HB1 := hide hb1
  have HC1 := hide hc1
  clear hc1 hb1 HN
  go_wp2_with fail
  refine (l09Any_any B w.heap.size a len cap x1 (by omega) HC1.out).mono ?_
  rintro e x2 ⟨id, kd, sn, us, mb, dp, vl, vp, tx, n, m, zl, zp, rfl, hn, hm, ht, hown, hfl, hfp, hc2, hg2⟩
  obtain ⟨oa, cl, hvl, hat⟩ := intsAt_of_own hown.l hfl
  obtain ⟨ob, cp, hvp, hbt⟩ := intsAt_of_own hown.p hfp
  subst hvl
  subst hvp
  have HET := hide (specEventText_any id kd sn us mb dp oa n cl tx ob m cp zl zp (by omega) x2 hat hbt)
  obtain ⟨t, bb, htl, hte⟩ := etV_small (e := ⟨id, kd, sn, us, mb, zl, tx, zp, dp⟩)
  rw [hte] at HET
  have hs2 := hg2.size
  have HB2 := hide (HB1.out.grown hg2 HB1.out.size (fun j hj => by cases hj; exact Nat.le_refl _))
  have HC2 := hide hc2
  clear hc2 hg2 hown hfl hfp hat hbt hte HB1 HC1
  go_wp2_with fail
  refine HET.out.mono ?_
  rintro e x3 ⟨rfl, hb3⟩
  have hs3 := hb3.size
  have HB3 := hide (HB2.out.trans (hb3.mono HB2.out.size))
  have HC3 := hide (HC2.out.kept (hb3.mono (by omega)) (hb3.block _ HC2.out.lt))
  clear hb3 HB2 HC2 HET
  go_wp2_with fail
  refine (l02Spoilt_any B w.heap.size a len cap t (by omega) x3 (by omega) HC3.out).mono ?_
  rintro e x4 ⟨t2, ht2, rfl, hc4, hg4⟩
  have HB4 := hide (HB3.out.grown hg4 HB3.out.size (fun j hj => by cases hj; exact Nat.le_refl _))
  clear hc4 hg4
  go_wp2_with fail
  go_ret
  exact ⟨t2, by omega, rfl, HB4.out⟩

end Go.Proofs.Ytnamneagkjmimaa
