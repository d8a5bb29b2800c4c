/-
  Walks and mathematics of Walk6e.
-/
import Derived.Test.YtoalbeiinlcgpaaKWalk6d
import Derived.Test.YtoalbeiinlcgpaaKIntsMark
namespace Go.Proofs.Ytoalbeiinlcgpaa
open Go.RowKit P1 P9 K
set_option linter.unusedVariables false
set_option linter.unusedSimpArgs false

theorem blk_new3 (w : World) (X Y Z : Obj) : (((w.alloc X).alloc Y).alloc Z).heap[w.heap.size + 1 + 1]? = some Z := by
  have h := heap_alloc_new ((w.alloc X).alloc Y) Z
  rwa [show ((w.alloc X).alloc Y).heap.size = w.heap.size + 1 + 1 by simp] at h

set_option maxHeartbeats 4000000 in
theorem specLogBehind_any (s u : Int) (oa : Option Addr) (n cap : Nat) (es : List EntV) (b t : Int) (w : World) (hat : EntsAt w oa n cap es) (hw : ∀ f ∈ es, f.data.size ≤ 1048576) :
    Calls Try.prog 48 #[lgv s u (.slice oa n cap), .int .i64 b, .int .i64 t] w fun e w' => LogRes w b t (bhL s u es b t) e w' := by
  have HLO := hide (fun w hat => specLogOk_any s u oa n cap es w hat hw)
  have HN := hide hat.len
  have HRM := hide hat.room
  have HAT := hide hat
  have HW := hide hw
  clear hat hw
  go_enter Try.func48, Try.ntmps48
  go_wp2_with fail
  obtain ⟨W3, hW3⟩ : ∃ W3, W3 = (((w.alloc (.cells #[.int .i64 s, .int .i64 u, .slice oa n cap] 33)).alloc (.cells #[.int .i64 0, .int .i64 0, .slice none 0 0] 33)).alloc (.cells #[.int .i64 b, .int .i64 t, .slice none 0 0] 33)) := ⟨_, rfl⟩
  have hb3 : Below w.heap.size w W3 := by
    rw [hW3]
    exact (((Below.refl w.heap.size w).alloc (Nat.le_refl _) _).alloc (by simp) _).alloc (by simp; omega) _
  have hl3 : LV W3 w.heap.size s u (.slice oa n cap) := by
    rw [hW3]
    exact (((LV.new w s u (.slice oa n cap) 33).on ((Below.refl _ _).alloc (Nat.le_refl _) _)).on ((Below.refl _ _).alloc (Nat.le_refl _) _))
  have hr3 : W3.heap[w.heap.size + 1]? = some (.cells #[.int .i64 0, .int .i64 0, .slice none 0 0] 33 (0, 0)) := by
    rw [hW3]
    exact (((Below.refl _ _).alloc (Nat.le_refl _) _).block _ (by simp)).trans (blk_new2 _ _ _)
  have hx3 : W3.heap[w.heap.size + 1 + 1]? = some (.cells #[.int .i64 b, .int .i64 t, .slice none 0 0] 33 (0, 0)) := by
    rw [hW3]
    exact blk_new3 _ _ _ _
  rw [← hW3]
  clear hW3
  have B3 := hide hb3
  have L3 := hide hl3
  have R3 := hide hr3
  have X3 := hide hx3
  clear hb3 hl3 hr3 hx3
  have l0 := L3.out.lt
  have l1 := blk_lt R3.out
  have l2 := blk_lt X3.out
  obtain ⟨c0, c1, c2⟩ := L3.out
  cases hok : lgOk s u es with
  | false =>
    have HBH := hide (show bhL s u es b t = [] by simp [bhL, bhOk, hok])
    have HOK := hide hok
    clear hok
    refine wp_region_in (F := (fun w' => Below W3.heap.size W3 w')) (by kernel_rfl) (by kernel_rfl) (Below.refl _ _).drew ?_
    have hne : Nonempty (InW (fun w' => Below W3.heap.size W3 w')) := ⟨⟨_, Below.refl _ _⟩⟩
    have k0 : ∀ m : InW (fun w' => Below W3.heap.size W3 w'), m.w.cell? ⟨w.heap.size, 0, none⟩ = some (.int .i64 s) := fun m => (m.h.cell (by simpa using l0)).trans c0
    have k1 : ∀ m : InW (fun w' => Below W3.heap.size W3 w'), m.w.cell? ⟨w.heap.size, 1, none⟩ = some (.int .i64 u) := fun m => (m.h.cell (by simpa using l0)).trans c1
    have k2 : ∀ m : InW (fun w' => Below W3.heap.size W3 w'), m.w.cell? ⟨w.heap.size, 2, none⟩ = some (.slice oa n cap) := fun m => (m.h.cell (by simpa using l0)).trans c2
    have HATW := hide (show ∀ m : InW (fun w' => Below W3.heap.size W3 w'), EntsAt m.w oa n cap es from fun m => HAT.out.below (B3.out.trans (m.h.mono B3.out.size)))
    repeat (go_big_quiet_step (first | (go_at_call 25; refine (HLO.out _ (HATW.out _)).mono ?_; rw [HOK.out]; rintro e w2 ⟨rfl, hb2⟩; exact ⟨rfl, ⟨w2, Below.trans (InW.h _) (hb2.mono (Below.size (InW.h (F := (fun w' => Below W3.heap.size W3 w')) ‹_›)))⟩, rfl⟩)))
    refine wpQuiet_nil ?_
    intro _ hw'
    obtain ⟨nq, hw''⟩ := hw'
    subst hw''
    have hb4 := nq.h
    generalize nq.w = w4 at hb4 ⊢
    clear hne k0 k1 k2 HATW
    have B4 := hide (B3.out.trans (hb4.mono B3.out.size))
    have L4 := hide (L3.out.on hb4)
    have R4 := hide ((hb4.block _ l1).trans R3.out)
    have X4 := hide ((hb4.block _ l2).trans X3.out)
    clear hb4 c0 c1 c2
    have l0 := L4.out.lt
    have l1 := blk_lt R4.out
    have l2 := blk_lt X4.out
    obtain ⟨c0, c1, c2⟩ := L4.out
    have x0 := blk_cell X4.out 0 rfl
    have x1 := blk_cell X4.out 1 rfl
    have x2 := blk_cell X4.out 2 rfl
    have z2 := blk_free X4.out 2
    simp only [List.getElem_toArray, List.getElem_cons_zero, List.getElem_cons_succ] at x0 x1 x2
    have r0 := blk_cell R4.out 0 rfl
    have r1 := blk_cell R4.out 1 rfl
    have r2 := blk_cell R4.out 2 rfl
    have t0 := blk_free R4.out 0
    have t1 := blk_free R4.out 1
    have t2 := blk_free R4.out 2
    go_wp2_with fail
    refine bodyPost_ret (v := lgv b t (.slice none 0 0)) (by simp [results, Try.results48, go_sem, r0, r1, r2, t0, t1, t2]) rfl ?_
    rw [HBH.out]
    refine ⟨_, rfl, World.ownsRow_nil _ _ _ _, ?_⟩
    repeat (refine Below.setCell ?_ (by simp <;> omega) _)
    exact B4.out
  | true =>
    obtain ⟨s0, s1, u0, u1, hn60, hsn, hup⟩ := lgOk_hd hok
    rw [HN.out] at hn60 hsn
    have HOK := hide hok
    by_cases hin : s ≤ b ∧ b ≤ s + n
    · obtain ⟨b0, b1⟩ := hin
      obtain ⟨k, rfl⟩ : ∃ k : Nat, b = s + k := ⟨(b - s).toNat, by omega⟩
      have ek : (s + (k : Int) - s).toNat = k := by omega
      have hkn : k ≤ n := by omega
      by_cases ht : lastT u (es.take k) = t
      · have hbh : bhL s u es (s + k) t = es.drop k := by
          have h1 : bhOk s u es (s + k) t = true := by
            simp only [bhOk, hok, ek, ht, HN.out, Bool.true_and, decide_true, Bool.and_true, Bool.and_eq_true, decide_eq_true_eq]
            omega
          rw [bhL, if_pos h1, ek]
        have HBH := hide hbh
        have HT := hide ht
        clear hbh hok hup ek ht
        refine wp_region_in (F := (fun w' => Below W3.heap.size W3 w')) (by kernel_rfl) (by kernel_rfl) (Below.refl _ _).drew ?_
        have hne : Nonempty (InW (fun w' => Below W3.heap.size W3 w')) := ⟨⟨_, Below.refl _ _⟩⟩
        have k0 : ∀ m : InW (fun w' => Below W3.heap.size W3 w'), m.w.cell? ⟨w.heap.size, 0, none⟩ = some (.int .i64 s) := fun m => (m.h.cell (by simpa using l0)).trans c0
        have k1 : ∀ m : InW (fun w' => Below W3.heap.size W3 w'), m.w.cell? ⟨w.heap.size, 1, none⟩ = some (.int .i64 u) := fun m => (m.h.cell (by simpa using l0)).trans c1
        have k2 : ∀ m : InW (fun w' => Below W3.heap.size W3 w'), m.w.cell? ⟨w.heap.size, 2, none⟩ = some (.slice oa n cap) := fun m => (m.h.cell (by simpa using l0)).trans c2
        have HATW := hide (show ∀ m : InW (fun w' => Below W3.heap.size W3 w'), EntsAt m.w oa n cap es from fun m => HAT.out.below (B3.out.trans (m.h.mono B3.out.size)))
        repeat (go_big_quiet_step (first | (go_at_call 25; refine (HLO.out _ (HATW.out _)).mono ?_; rw [HOK.out]; rintro e w2 ⟨rfl, hb2⟩; exact ⟨rfl, ⟨w2, Below.trans (InW.h _) (hb2.mono (Below.size (InW.h (F := (fun w' => Below W3.heap.size W3 w')) ‹_›)))⟩, rfl⟩) | (go_at_call 68; refine (l06Last_any s u oa n cap s0 s1 hn60 _).mono ?_; rintro e w2 ⟨rfl, hb2⟩; exact ⟨rfl, ⟨w2, Below.trans (InW.h _) (hb2.mono (Below.size (InW.h (F := (fun w' => Below W3.heap.size W3 w')) ‹_›)))⟩, rfl⟩) | (go_at_call 23; refine (l01In_yes _ _ _ (by omega) (by omega) _).mono ?_; rintro e w2 ⟨rfl, rfl⟩; exact ⟨rfl, ⟨_, InW.h _⟩, rfl⟩) | (go_at_call 49; refine (specLogTerm_in s u oa n cap es _ (HATW.out _) s0 s1 hn60 _ k rfl hkn).mono ?_; rw [HT.out]; rintro e w2 ⟨rfl, hb2⟩; exact ⟨rfl, ⟨w2, Below.trans (InW.h _) (hb2.mono (Below.size (InW.h (F := (fun w' => Below W3.heap.size W3 w')) ‹_›)))⟩, rfl⟩)))
        refine wpQuiet_nil ?_
        intro _ hw'
        obtain ⟨nq, hw''⟩ := hw'
        subst hw''
        have hb4 := nq.h
        generalize nq.w = w4 at hb4 ⊢
        clear hne k0 k1 k2 HATW
        have B4 := hide (B3.out.trans (hb4.mono B3.out.size))
        have L4 := hide (L3.out.on hb4)
        have R4 := hide ((hb4.block _ l1).trans R3.out)
        have X4 := hide ((hb4.block _ l2).trans X3.out)
        clear hb4 c0 c1 c2
        have l0 := L4.out.lt
        have l1 := blk_lt R4.out
        have l2 := blk_lt X4.out
        obtain ⟨c0, c1, c2⟩ := L4.out
        have x0 := blk_cell X4.out 0 rfl
        have x1 := blk_cell X4.out 1 rfl
        have x2 := blk_cell X4.out 2 rfl
        have z2 := blk_free X4.out 2
        simp only [List.getElem_toArray, List.getElem_cons_zero, List.getElem_cons_succ] at x0 x1 x2
        have hsl := run_piece_l oa n cap (s + (k : Int) - s) k (by omega) hkn
        have b2 : s + (k : Int) - s ≤ 60 := by omega
        have b3 : 0 ≤ s + (k : Int) - s := by omega
        have hb5 := (Below.refl w4.heap.size w4).alloc (Nat.le_refl _) (.cells #[] 75)
        have A5 := ((HAT.out.below B4.out).below hb5).piece k n cap hkn (Nat.le_refl _) HRM.out (Nat.le_refl _)
        rw [List.take_of_length_le (by rw [HN.out]; exact Nat.le_refl _)] at A5
        have A5 := hide A5
        have HB5 := hide hb5
        clear hb5
        go_wp2_with (at_builtin; refine wpList_append_piece rfl _ _ rfl w4.heap.size (heap_alloc_new _ _) rfl _ _ _ _ rfl A5.out (by omega) w4.heap.size (Nat.le_refl _) ?_)
        intro v' w6 ho6 hg6
        obtain ⟨o6, c6, rfl⟩ := own_form3 ho6
        have hb6 : Below w4.heap.size w4 w6 := HB5.out.grown hg6 (by simp) (fun q hq => by cases hq; exact Nat.le_refl _)
        have R6 := (hb6.block _ l1).trans R4.out
        have X6 := (hb6.block _ l2).trans X4.out
        have y0 := blk_cell X6 0 rfl
        have y1 := blk_cell X6 1 rfl
        have y2 := blk_cell X6 2 rfl
        have z6 := blk_free X6 2
        simp only [List.getElem_toArray, List.getElem_cons_zero, List.getElem_cons_succ] at y0 y1 y2
        have r0 := blk_cell R6 0 rfl
        have r1 := blk_cell R6 1 rfl
        have r2 := blk_cell R6 2 rfl
        have t0 := blk_free R6 0
        have t1 := blk_free R6 1
        have t2 := blk_free R6 2
        have HO6 := hide ho6
        have B6 := hide (B4.out.trans (hb6.mono B4.out.size))
        have HL := hide (show (es.drop k).length = n - k by rw [List.length_drop, HN.out])
        clear ho6 hg6 hb6 R6 X6 x0 x1 x2 z2 c0 c1 c2 hsl
        go_wp2_with fail
        refine bodyPost_ret (v := lgv (s + k) t (.slice o6 (n - k) c6)) (by simp [results, Try.results48, go_sem, r0, r1, r2, t0, t1, t2]) rfl ?_
        rw [HBH.out]
        refine ⟨_, rfl, ?_, ?_⟩
        · rw [HL.out]
          have h7 := own_base HO6.out (base' := w.heap.size + 1 + 1 + 1) (by omega)
          refine own_base (base := w.heap.size + 1 + 1 + 1) ?_ (by omega)
          repeat (refine own_setCell ?_ (by simp <;> omega) _)
          exact h7
        · repeat (refine Below.setCell ?_ (by simp <;> omega) _)
          exact B6.out
      · have hbh : bhL s u es (s + k) t = [] := by
          have h1 : bhOk s u es (s + k) t = false := by
            simp only [bhOk, hok, ek, Bool.true_and]
            simp [ht]
          rw [bhL, if_neg (by rw [h1]; simp)]
        have HBH := hide hbh
        obtain ⟨tt, htt⟩ : ∃ tt, lastT u (es.take k) = tt := ⟨_, rfl⟩
        rw [htt] at ht
        have g : (tt == t) = false := by simpa using ht
        have HT := hide htt
        clear hbh hok hup ek ht htt
        refine wp_region_in (F := (fun w' => Below W3.heap.size W3 w')) (by kernel_rfl) (by kernel_rfl) (Below.refl _ _).drew ?_
        have hne : Nonempty (InW (fun w' => Below W3.heap.size W3 w')) := ⟨⟨_, Below.refl _ _⟩⟩
        have k0 : ∀ m : InW (fun w' => Below W3.heap.size W3 w'), m.w.cell? ⟨w.heap.size, 0, none⟩ = some (.int .i64 s) := fun m => (m.h.cell (by simpa using l0)).trans c0
        have k1 : ∀ m : InW (fun w' => Below W3.heap.size W3 w'), m.w.cell? ⟨w.heap.size, 1, none⟩ = some (.int .i64 u) := fun m => (m.h.cell (by simpa using l0)).trans c1
        have k2 : ∀ m : InW (fun w' => Below W3.heap.size W3 w'), m.w.cell? ⟨w.heap.size, 2, none⟩ = some (.slice oa n cap) := fun m => (m.h.cell (by simpa using l0)).trans c2
        have HATW := hide (show ∀ m : InW (fun w' => Below W3.heap.size W3 w'), EntsAt m.w oa n cap es from fun m => HAT.out.below (B3.out.trans (m.h.mono B3.out.size)))
        repeat (go_big_quiet_step (first | (go_at_call 25; refine (HLO.out _ (HATW.out _)).mono ?_; rw [HOK.out]; rintro e w2 ⟨rfl, hb2⟩; exact ⟨rfl, ⟨w2, Below.trans (InW.h _) (hb2.mono (Below.size (InW.h (F := (fun w' => Below W3.heap.size W3 w')) ‹_›)))⟩, rfl⟩) | (go_at_call 68; refine (l06Last_any s u oa n cap s0 s1 hn60 _).mono ?_; rintro e w2 ⟨rfl, hb2⟩; exact ⟨rfl, ⟨w2, Below.trans (InW.h _) (hb2.mono (Below.size (InW.h (F := (fun w' => Below W3.heap.size W3 w')) ‹_›)))⟩, rfl⟩) | (go_at_call 23; refine (l01In_yes _ _ _ (by omega) (by omega) _).mono ?_; rintro e w2 ⟨rfl, rfl⟩; exact ⟨rfl, ⟨_, InW.h _⟩, rfl⟩) | (go_at_call 49; refine (specLogTerm_in s u oa n cap es _ (HATW.out _) s0 s1 hn60 _ k rfl hkn).mono ?_; rw [HT.out]; rintro e w2 ⟨rfl, hb2⟩; exact ⟨rfl, ⟨w2, Below.trans (InW.h _) (hb2.mono (Below.size (InW.h (F := (fun w' => Below W3.heap.size W3 w')) ‹_›)))⟩, rfl⟩)))
        refine wpQuiet_nil ?_
        intro _ hw'
        obtain ⟨nq, hw''⟩ := hw'
        subst hw''
        have hb4 := nq.h
        generalize nq.w = w4 at hb4 ⊢
        clear hne k0 k1 k2 HATW
        have B4 := hide (B3.out.trans (hb4.mono B3.out.size))
        have L4 := hide (L3.out.on hb4)
        have R4 := hide ((hb4.block _ l1).trans R3.out)
        have X4 := hide ((hb4.block _ l2).trans X3.out)
        clear hb4 c0 c1 c2
        have l0 := L4.out.lt
        have l1 := blk_lt R4.out
        have l2 := blk_lt X4.out
        obtain ⟨c0, c1, c2⟩ := L4.out
        have x0 := blk_cell X4.out 0 rfl
        have x1 := blk_cell X4.out 1 rfl
        have x2 := blk_cell X4.out 2 rfl
        have z2 := blk_free X4.out 2
        simp only [List.getElem_toArray, List.getElem_cons_zero, List.getElem_cons_succ] at x0 x1 x2
        have r0 := blk_cell R4.out 0 rfl
        have r1 := blk_cell R4.out 1 rfl
        have r2 := blk_cell R4.out 2 rfl
        have t0 := blk_free R4.out 0
        have t1 := blk_free R4.out 1
        have t2 := blk_free R4.out 2
        go_wp2_with fail
        refine bodyPost_ret (v := lgv (s + k) t (.slice none 0 0)) (by simp [results, Try.results48, go_sem, r0, r1, r2, t0, t1, t2]) rfl ?_
        rw [HBH.out]
        refine ⟨_, rfl, World.ownsRow_nil _ _ _ _, ?_⟩
        repeat (refine Below.setCell ?_ (by simp <;> omega) _)
        exact B4.out
    · have hbh : bhL s u es b t = [] := by
        have h1 : bhOk s u es b t = false := by
          simp only [bhOk, hok, HN.out, Bool.true_and]
          have : (decide (s ≤ b) && decide (b ≤ s + n)) = false := by simp; omega
          rw [this, Bool.false_and]
        rw [bhL, if_neg (by rw [h1]; simp)]
      have HBH := hide hbh
      clear hbh hok hup
      refine wp_region_in (F := (fun w' => Below W3.heap.size W3 w')) (by kernel_rfl) (by kernel_rfl) (Below.refl _ _).drew ?_
      have hne : Nonempty (InW (fun w' => Below W3.heap.size W3 w')) := ⟨⟨_, Below.refl _ _⟩⟩
      have k0 : ∀ m : InW (fun w' => Below W3.heap.size W3 w'), m.w.cell? ⟨w.heap.size, 0, none⟩ = some (.int .i64 s) := fun m => (m.h.cell (by simpa using l0)).trans c0
      have k1 : ∀ m : InW (fun w' => Below W3.heap.size W3 w'), m.w.cell? ⟨w.heap.size, 1, none⟩ = some (.int .i64 u) := fun m => (m.h.cell (by simpa using l0)).trans c1
      have k2 : ∀ m : InW (fun w' => Below W3.heap.size W3 w'), m.w.cell? ⟨w.heap.size, 2, none⟩ = some (.slice oa n cap) := fun m => (m.h.cell (by simpa using l0)).trans c2
      have HATW := hide (show ∀ m : InW (fun w' => Below W3.heap.size W3 w'), EntsAt m.w oa n cap es from fun m => HAT.out.below (B3.out.trans (m.h.mono B3.out.size)))
      repeat (go_big_quiet_step (first | (go_at_call 25; refine (HLO.out _ (HATW.out _)).mono ?_; rw [HOK.out]; rintro e w2 ⟨rfl, hb2⟩; exact ⟨rfl, ⟨w2, Below.trans (InW.h _) (hb2.mono (Below.size (InW.h (F := (fun w' => Below W3.heap.size W3 w')) ‹_›)))⟩, rfl⟩) | (go_at_call 68; refine (l06Last_any s u oa n cap s0 s1 hn60 _).mono ?_; rintro e w2 ⟨rfl, hb2⟩; exact ⟨rfl, ⟨w2, Below.trans (InW.h _) (hb2.mono (Below.size (InW.h (F := (fun w' => Below W3.heap.size W3 w')) ‹_›)))⟩, rfl⟩) | (go_at_call 23; refine (l01In_no _ _ _ (by omega) _).mono ?_; rintro e w2 ⟨rfl, rfl⟩; exact ⟨rfl, ⟨_, InW.h _⟩, rfl⟩)))
      refine wpQuiet_nil ?_
      intro _ hw'
      obtain ⟨nq, hw''⟩ := hw'
      subst hw''
      have hb4 := nq.h
      generalize nq.w = w4 at hb4 ⊢
      clear hne k0 k1 k2 HATW
      have B4 := hide (B3.out.trans (hb4.mono B3.out.size))
      have L4 := hide (L3.out.on hb4)
      have R4 := hide ((hb4.block _ l1).trans R3.out)
      have X4 := hide ((hb4.block _ l2).trans X3.out)
      clear hb4 c0 c1 c2
      have l0 := L4.out.lt
      have l1 := blk_lt R4.out
      have l2 := blk_lt X4.out
      obtain ⟨c0, c1, c2⟩ := L4.out
      have x0 := blk_cell X4.out 0 rfl
      have x1 := blk_cell X4.out 1 rfl
      have x2 := blk_cell X4.out 2 rfl
      have z2 := blk_free X4.out 2
      simp only [List.getElem_toArray, List.getElem_cons_zero, List.getElem_cons_succ] at x0 x1 x2
      have r0 := blk_cell R4.out 0 rfl
      have r1 := blk_cell R4.out 1 rfl
      have r2 := blk_cell R4.out 2 rfl
      have t0 := blk_free R4.out 0
      have t1 := blk_free R4.out 1
      have t2 := blk_free R4.out 2
      go_wp2_with fail
      refine bodyPost_ret (v := lgv b t (.slice none 0 0)) (by simp [results, Try.results48, go_sem, r0, r1, r2, t0, t1, t2]) rfl ?_
      rw [HBH.out]
      refine ⟨_, rfl, World.ownsRow_nil _ _ _ _, ?_⟩
      repeat (refine Below.setCell ?_ (by simp <;> omega) _)
      exact B4.out

end Go.Proofs.Ytoalbeiinlcgpaa
