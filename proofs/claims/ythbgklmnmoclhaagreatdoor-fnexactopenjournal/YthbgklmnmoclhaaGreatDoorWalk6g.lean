/-
  Walks of chapter 6: LogPut of the specification (made by wip/tools/gen6g.py).
-/
import Derived.Test.YthbgklmnmoclhaaGreatDoorPack13
import Derived.Test.YthbgklmnmoclhaaGreatDoorPack9
namespace Go.Proofs.YthbgklmnmoclhaaGreatDoor
open Go.RowKit P1 P9 K
attribute [local go_sem ↓] Go.wp_at_zero Go.wp_at_succ
set_option linter.unusedVariables false
set_option linter.unusedSimpArgs false

set_option maxRecDepth 100000 in
set_option maxHeartbeats 8000000 in
theorem specLogPut_any (s u : Int) (oa : Option Addr) (n cap : Nat) (es : List EntV) (ix : Int) (e : EntV) (w : World) (hat : EntsAt w oa n cap es) (hw : ∀ f ∈ es, f.data.size ≤ 1048576) (hwe : e.data.size ≤ 1048576) :
    Calls Tryz.prog 66 #[lgv s u (.slice oa n cap), .int .i64 ix, .agg #[.int .i64 e.term, .int .i64 e.kind, .string e.data]] w fun r w' => LogRes2 w (putR s u es ix e) r w' := by
  have HLO := hide (fun w hat => specLogOk_any s u oa n cap es w hat hw)
  have HN := hide hat.len
  have HRM := hide hat.room
  have HAT := hide hat
  have HW := hide hw
  clear hat hw
  go_enter Tryz.func66, Tryz.ntmps66
  go_wp2_with fail
  obtain ⟨W3, hW3⟩ : ∃ W3, W3 = (((w.alloc (.cells #[.int .i64 s, .int .i64 u, .slice oa n cap] 28)).alloc (.cells #[.int .i64 e.term, .int .i64 e.kind, .string e.data] 111)).alloc (.cells #[.int .i64 0, .int .i64 0, .slice none 0 0] 28)) := ⟨_, rfl⟩
  have hb3 : Below w.heap.size w W3 := by
    rw [hW3]
    exact (((Below.refl w.heap.size w).alloc (Nat.le_refl _) _).alloc (by simp) _).alloc (by simp; omega) _
  have hl3 : LV W3 w.heap.size s u (.slice oa n cap) := by
    rw [hW3]
    exact (((LV.new w s u (.slice oa n cap) 28).on ((Below.refl _ _).alloc (Nat.le_refl _) _)).on ((Below.refl _ _).alloc (Nat.le_refl _) _))
  have he3 : W3.heap[w.heap.size + 1]? = some (.cells #[.int .i64 e.term, .int .i64 e.kind, .string e.data] 111 (0, 0)) := by
    rw [hW3]
    exact (((Below.refl _ _).alloc (Nat.le_refl _) _).block _ (by simp)).trans (blk_new2 _ _ _)
  have hr3 : W3.heap[w.heap.size + 1 + 1]? = some (.cells #[.int .i64 0, .int .i64 0, .slice none 0 0] 28 (0, 0)) := by
    rw [hW3]
    exact blk_new3 _ _ _ _
  rw [← hW3]
  clear hW3
  have B3 := hide hb3
  have L3 := hide hl3
  have E3 := hide he3
  have R3 := hide hr3
  clear hb3 hl3 hr3 he3
  have l0 := L3.out.lt
  have l1 := blk_lt E3.out
  have l2 := blk_lt R3.out
  obtain ⟨c0, c1, c2⟩ := L3.out
  cases hok : lgOk s u es with
  | false =>
    have HPR := hide (show putR s u es ix e = (0, 0, [], false) by simp [putR, putOk, hok])
    have HOK := hide hok
    clear hok
    refine wp_region_in (F := (fun w' => Below W3.heap.size W3 w')) (by kernel_rfl) (by kernel_rfl) (Below.refl _ _).drew ?_
    have hne : Nonempty (InW (fun w' => Below W3.heap.size W3 w')) := ⟨⟨_, Below.refl _ _⟩⟩
    have k0 : ∀ m : InW (fun w' => Below W3.heap.size W3 w'), m.w.cell? ⟨w.heap.size, 0, none⟩ = some (.int .i64 s) := fun m => (m.h.cell (by simpa using l0)).trans c0
    have k1 : ∀ m : InW (fun w' => Below W3.heap.size W3 w'), m.w.cell? ⟨w.heap.size, 1, none⟩ = some (.int .i64 u) := fun m => (m.h.cell (by simpa using l0)).trans c1
    have k2 : ∀ m : InW (fun w' => Below W3.heap.size W3 w'), m.w.cell? ⟨w.heap.size, 2, none⟩ = some (.slice oa n cap) := fun m => (m.h.cell (by simpa using l0)).trans c2
    have HATW := hide (show ∀ m : InW (fun w' => Below W3.heap.size W3 w'), EntsAt m.w oa n cap es from fun m => HAT.out.below (B3.out.trans (m.h.mono B3.out.size)))
    repeat (go_big_quiet_step (first | (go_at_call 42; refine (HLO.out _ (HATW.out _)).mono ?_; rw [HOK.out]; rintro r w9 ⟨rfl, hb9⟩; exact ⟨rfl, ⟨w9, Below.trans (InW.h _) (hb9.mono (Below.size (InW.h (F := (fun w' => Below W3.heap.size W3 w')) ‹_›)))⟩, rfl⟩)))
    refine wpQuiet_nil ?_
    intro _ hw'
    obtain ⟨nq, hw''⟩ := hw'
    subst hw''
    have hb4 := nq.h
    generalize nq.w = w2 at hb4 ⊢
    clear hne k0 k1 k2 HATW
    have B2 := hide (B3.out.trans (hb4.mono B3.out.size))
    have L2 := hide (L3.out.on hb4)
    have E2 := hide ((hb4.block _ l1).trans E3.out)
    have R2 := hide ((hb4.block _ l2).trans R3.out)
    clear hb4 c0 c1 c2
    have l0 := L2.out.lt
    have l1 := blk_lt E2.out
    have l2 := blk_lt R2.out
    obtain ⟨c0, c1, c2⟩ := L2.out
    have d0 := blk_cell E2.out 0 rfl
    have d1 := blk_cell E2.out 1 rfl
    have d2 := blk_cell E2.out 2 rfl
    simp only [List.getElem_toArray, List.getElem_cons_zero, List.getElem_cons_succ] at d0 d1 d2
    have r0 := blk_cell R2.out 0 rfl
    have r1 := blk_cell R2.out 1 rfl
    have r2 := blk_cell R2.out 2 rfl
    have t0 := blk_free R2.out 0
    have t1 := blk_free R2.out 1
    have t2 := blk_free R2.out 2
    go_wp2_with fail
    refine bodyPost_ret (v := .tuple #[lgv 0 0 (.slice none 0 0), .bool false]) (by simp [results, Tryz.results66, go_sem, r0, r1, r2, t0, t1, t2]) rfl ?_
    rw [HPR.out]
    refine ⟨_, rfl, World.ownsRow_nil _ _ _ _, ?_⟩
    repeat (refine Below.setCell ?_ (by simp <;> omega) _)
    exact B2.out
  | true =>
    obtain ⟨s0, s1, u0, u1, hn60, hsn, hup⟩ := lgOk_hd hok
    rw [HN.out] at hn60 hsn
    have HOK := hide hok
    by_cases hin : s + 1 ≤ ix ∧ ix ≤ s + n + 1
    · obtain ⟨k, rfl⟩ : ∃ k : Nat, ix = s + 1 + k := ⟨(ix - s - 1).toNat, by omega⟩
      have hkn : k ≤ n := by omega
      have ek : (s + 1 + (k : Int) - s - 1).toNat = k := by omega
      obtain ⟨XS, hXS⟩ : ∃ XS, XS = es.take k := ⟨_, rfl⟩
      obtain ⟨YS, hYS⟩ : ∃ YS, YS = XS ++ [e] := ⟨_, rfl⟩
      have hpl : putL s es (s + 1 + k) e = YS := by rw [putL, ek, hYS, hXS]
      have HPO := hide (show putOk s u es (s + 1 + k) e = lgOk s u YS by
        rw [putOk, hok, hpl, HN.out, decide_eq_true (show s + 1 ≤ s + 1 + (k : Int) by omega), decide_eq_true (show s + 1 + (k : Int) ≤ s + n + 1 by omega)]
        simp)
      have HPL := hide hpl
      have HXL := hide (show XS.length = k by rw [hXS, List.length_take, HN.out]; omega)
      have HYL := hide (show YS.length = XS.length + 1 by rw [hYS, List.length_append]; simp)
      have HYW := hide (show ∀ f ∈ YS, f.data.size ≤ 1048576 by
        rw [hYS, hXS]
        intro f hf
        rcases List.mem_append.1 hf with h | h
        · exact HW.out f (List.mem_of_mem_take h)
        · rw [List.mem_singleton.1 h]; exact hwe)
      have HYS := hide hYS
      have HXS := hide hXS
      clear hok hup hpl hYS hXS ek
      refine wp_region_in (F := (fun w' => Below W3.heap.size W3 w')) (by kernel_rfl) (by kernel_rfl) (Below.refl _ _).drew ?_
      have hne : Nonempty (InW (fun w' => Below W3.heap.size W3 w')) := ⟨⟨_, Below.refl _ _⟩⟩
      have k0 : ∀ m : InW (fun w' => Below W3.heap.size W3 w'), m.w.cell? ⟨w.heap.size, 0, none⟩ = some (.int .i64 s) := fun m => (m.h.cell (by simpa using l0)).trans c0
      have k1 : ∀ m : InW (fun w' => Below W3.heap.size W3 w'), m.w.cell? ⟨w.heap.size, 1, none⟩ = some (.int .i64 u) := fun m => (m.h.cell (by simpa using l0)).trans c1
      have k2 : ∀ m : InW (fun w' => Below W3.heap.size W3 w'), m.w.cell? ⟨w.heap.size, 2, none⟩ = some (.slice oa n cap) := fun m => (m.h.cell (by simpa using l0)).trans c2
      have HATW := hide (show ∀ m : InW (fun w' => Below W3.heap.size W3 w'), EntsAt m.w oa n cap es from fun m => HAT.out.below (B3.out.trans (m.h.mono B3.out.size)))
      repeat (go_big_quiet_step (first | (go_at_call 42; refine (HLO.out _ (HATW.out _)).mono ?_; rw [HOK.out]; rintro r w9 ⟨rfl, hb9⟩; exact ⟨rfl, ⟨w9, Below.trans (InW.h _) (hb9.mono (Below.size (InW.h (F := (fun w' => Below W3.heap.size W3 w')) ‹_›)))⟩, rfl⟩) | (go_at_call 88; refine (l06Last_any s u oa n cap s0 s1 hn60 _).mono ?_; rintro r w9 ⟨rfl, hb9⟩; exact ⟨rfl, ⟨w9, Below.trans (InW.h _) (hb9.mono (Below.size (InW.h (F := (fun w' => Below W3.heap.size W3 w')) ‹_›)))⟩, rfl⟩) | (go_at_call 37; refine (l01In_yes _ _ _ (by omega) (by omega) _).mono ?_; rintro r w9 ⟨rfl, rfl⟩; exact ⟨rfl, ⟨_, InW.h _⟩, rfl⟩)))
      refine wpQuiet_nil ?_
      intro _ hw'
      obtain ⟨nq, hw''⟩ := hw'
      subst hw''
      have hb4 := nq.h
      generalize nq.w = w2 at hb4 ⊢
      clear hne k0 k1 k2 HATW
      have B2 := hide (B3.out.trans (hb4.mono B3.out.size))
      have L2 := hide (L3.out.on hb4)
      have E2 := hide ((hb4.block _ l1).trans E3.out)
      have R2 := hide ((hb4.block _ l2).trans R3.out)
      clear hb4 c0 c1 c2
      have l0 := L2.out.lt
      have l1 := blk_lt E2.out
      have l2 := blk_lt R2.out
      obtain ⟨c0, c1, c2⟩ := L2.out
      have d0 := blk_cell E2.out 0 rfl
      have d1 := blk_cell E2.out 1 rfl
      have d2 := blk_cell E2.out 2 rfl
      simp only [List.getElem_toArray, List.getElem_cons_zero, List.getElem_cons_succ] at d0 d1 d2
      go_wp2_with fail
      have g1 : s + 1 + (k : Int) - s = (k : Int) + 1 := by omega
      have g2 : IntKind.i64.wrap ((k : Int) + 1) = (k : Int) + 1 := by rw [IntKind.wrap_i64]; omega
      have g3 : IntKind.i64.wrap (k : Int) = (k : Int) := by rw [IntKind.wrap_i64]; omega
      have hsl := run_piece_h oa n cap (k : Int) k rfl (Nat.le_trans hkn HRM.out)
      have HPS := hide (show PutS w.heap.size s u (.slice oa n cap) e w2 w2 from ⟨Below.refl _ _, L2.out, d0, d1, d2⟩)
      have hst := PuSt.start w2 e XS YS
      have HSs := hide hst
      clear hst c0 c1 c2 d0 d1 d2
      refine wp_region_held_drew (S := PutS w.heap.size s u (.slice oa n cap) e w2) (by kernel_rfl) (HPS.out.of (Below.refl _ _).drew) (fun hHeld => ?_)
      generalize w2.drew = xs at HSs hHeld ⊢
      refine wpAnyH_take (i := 0) (v := ?_) rfl (by kernel_rfl) (by kernel_rfl) (by kernel_rfl) (fun _ _ _ h => h) (Or.inl ⟨by rfl, ?_⟩) (by assumption) ?_; rotate_left
      · (intro wz hSw; obtain ⟨z0, z1, z2, z3, z4, z5⟩ := PutS.cells hSw; clear hSw; go_simp; first | done | with_reducible rfl)
      try simp only [Act.put, List.getElem_toArray, List.getElem_cons_zero, List.getElem_cons_succ, List.setIfInBounds_toArray, List.set_cons_zero, List.set_cons_succ]
      refine wpAnyH_take (i := 1) (v := ?_) rfl (by kernel_rfl) (by kernel_rfl) (by kernel_rfl) (fun _ _ _ h => h) (Or.inl ⟨by rfl, ?_⟩) (by assumption) ?_; rotate_left
      · (intro wz hSw; obtain ⟨z0, z1, z2, z3, z4, z5⟩ := PutS.cells hSw; clear hSw; go_simp; first | done | with_reducible rfl)
      try simp only [Act.put, List.getElem_toArray, List.getElem_cons_zero, List.getElem_cons_succ, List.setIfInBounds_toArray, List.set_cons_zero, List.set_cons_succ]
      refine wpAnyH_take (i := 2) (v := ?_) rfl (by kernel_rfl) (by kernel_rfl) (by kernel_rfl) (fun _ _ _ h => h) (Or.inl ⟨by rfl, ?_⟩) (by assumption) ?_; rotate_left
      · (intro wz hSw; obtain ⟨z0, z1, z2, z3, z4, z5⟩ := PutS.cells hSw; clear hSw; go_simp; first | done | with_reducible rfl)
      try simp only [Act.put, List.getElem_toArray, List.getElem_cons_zero, List.getElem_cons_succ, List.setIfInBounds_toArray, List.set_cons_zero, List.set_cons_succ]
      refine wpAnyH_take (i := 3) (v := ?_) rfl (by kernel_rfl) (by kernel_rfl) (by kernel_rfl) (fun _ _ _ h => h) (Or.inl ⟨by rfl, ?_⟩) (by assumption) ?_; rotate_left
      · (intro wz hSw; obtain ⟨z0, z1, z2, z3, z4, z5⟩ := PutS.cells hSw; clear hSw; go_simp; first | done | with_reducible rfl)
      try simp only [Act.put, List.getElem_toArray, List.getElem_cons_zero, List.getElem_cons_succ, List.setIfInBounds_toArray, List.set_cons_zero, List.set_cons_succ]
      refine wpAnyH_take (i := 5) (v := ?_) rfl (by kernel_rfl) (by kernel_rfl) (by kernel_rfl) (fun _ _ _ h => h) (Or.inl ⟨by rfl, ?_⟩) (by assumption) ?_; rotate_left
      · (intro wz hSw; obtain ⟨z0, z1, z2, z3, z4, z5⟩ := PutS.cells hSw; clear hSw; go_simp; first | done | with_reducible rfl)
      try simp only [Act.put, List.getElem_toArray, List.getElem_cons_zero, List.getElem_cons_succ, List.setIfInBounds_toArray, List.set_cons_zero, List.set_cons_succ]
      refine wpAnyH_take (i := 6) (v := ?_) rfl (by kernel_rfl) (by kernel_rfl) (by kernel_rfl) (fun _ _ _ h => h) (Or.inl ⟨by rfl, ?_⟩) (by assumption) ?_; rotate_left
      · (intro wz hSw; obtain ⟨z0, z1, z2, z3, z4, z5⟩ := PutS.cells hSw; clear hSw; go_simp; first | done | with_reducible rfl)
      try simp only [Act.put, List.getElem_toArray, List.getElem_cons_zero, List.getElem_cons_succ, List.setIfInBounds_toArray, List.set_cons_zero, List.set_cons_succ]
      refine wpAnyH_take (i := 7) (v := ?_) rfl (by kernel_rfl) (by kernel_rfl) (by kernel_rfl) (fun _ _ _ h => h) (Or.inl ⟨by rfl, ?_⟩) (by assumption) ?_; rotate_left
      · (intro wz hSw; obtain ⟨z0, z1, z2, z3, z4, z5⟩ := PutS.cells hSw; clear hSw; go_simp; first | done | with_reducible rfl)
      try simp only [Act.put, List.getElem_toArray, List.getElem_cons_zero, List.getElem_cons_succ, List.setIfInBounds_toArray, List.set_cons_zero, List.set_cons_succ]
      refine wpAnyH_take (i := 8) (v := ?_) rfl (by kernel_rfl) (by kernel_rfl) (by kernel_rfl) (fun _ _ _ h => h) (Or.inl ⟨by rfl, ?_⟩) (by assumption) ?_; rotate_left
      · (intro wz hSw; obtain ⟨z0, z1, z2, z3, z4, z5⟩ := PutS.cells hSw; clear hSw; go_simp; first | done | with_reducible rfl)
      try simp only [Act.put, List.getElem_toArray, List.getElem_cons_zero, List.getElem_cons_succ, List.setIfInBounds_toArray, List.set_cons_zero, List.set_cons_succ]
      refine wpAnyH_take (i := 9) (v := ?_) rfl (by kernel_rfl) (by kernel_rfl) (by kernel_rfl) (fun _ _ _ h => h) (Or.inl ⟨by rfl, ?_⟩) (by assumption) ?_; rotate_left
      · (intro wz hSw; obtain ⟨z0, z1, z2, z3, z4, z5⟩ := PutS.cells hSw; clear hSw; go_simp; first | done | with_reducible rfl)
      try simp only [Act.put, List.getElem_toArray, List.getElem_cons_zero, List.getElem_cons_succ, List.setIfInBounds_toArray, List.set_cons_zero, List.set_cons_succ]
      refine wpAnyH_take (i := 10) (v := ?_) rfl (by kernel_rfl) (by kernel_rfl) (by kernel_rfl) (fun _ _ _ h => h) (Or.inl ⟨by rfl, ?_⟩) (by assumption) ?_; rotate_left
      · (intro wz hSw; obtain ⟨z0, z1, z2, z3, z4, z5⟩ := PutS.cells hSw; clear hSw; go_simp; first | done | with_reducible rfl)
      try simp only [Act.put, List.getElem_toArray, List.getElem_cons_zero, List.getElem_cons_succ, List.setIfInBounds_toArray, List.set_cons_zero, List.set_cons_succ]
      refine wpAnyH_take (i := 11) (v := ?_) rfl (by kernel_rfl) (by kernel_rfl) (by kernel_rfl) (fun _ _ _ h => h) (Or.inl ⟨by rfl, ?_⟩) (by assumption) ?_; rotate_left
      · (intro wz hSw; obtain ⟨z0, z1, z2, z3, z4, z5⟩ := PutS.cells hSw; clear hSw; go_simp; first | done | with_reducible rfl)
      try simp only [Act.put, List.getElem_toArray, List.getElem_cons_zero, List.getElem_cons_succ, List.setIfInBounds_toArray, List.set_cons_zero, List.set_cons_succ]
      refine wpAnyH_take (i := 12) (v := ?_) rfl (by kernel_rfl) (by kernel_rfl) (by kernel_rfl) (fun _ _ _ h => h) (Or.inl ⟨by rfl, ?_⟩) (by assumption) ?_; rotate_left
      · (intro wz hSw; obtain ⟨z0, z1, z2, z3, z4, z5⟩ := PutS.cells hSw; clear hSw; go_simp; first | done | with_reducible rfl)
      try simp only [Act.put, List.getElem_toArray, List.getElem_cons_zero, List.getElem_cons_succ, List.setIfInBounds_toArray, List.set_cons_zero, List.set_cons_succ]
      refine wpAnyH_take (i := 14) (v := ?_) rfl (by kernel_rfl) (by kernel_rfl) (by kernel_rfl) (fun _ _ _ h => h) (Or.inl ⟨by rfl, ?_⟩) (by assumption) ?_; rotate_left
      · (intro wz hSw; obtain ⟨z0, z1, z2, z3, z4, z5⟩ := PutS.cells hSw; clear hSw; go_simp; first | done | with_reducible rfl)
      try simp only [Act.put, List.getElem_toArray, List.getElem_cons_zero, List.getElem_cons_succ, List.setIfInBounds_toArray, List.set_cons_zero, List.set_cons_succ]
      refine wpAnyH_ready (rs := [4, 15, 18]) (by kernel_rfl) (by simp) ?_
      refine AllReadyH.cons rfl (fun K hK => ?_) ?_
      · have HS4 := hide HSs.out.alloc4
        rw [if_pos (by rfl)]
        go_simp
        refine hK.out _ _ ?_ (fun hHeld => ?_)
        · exact HPS.out.of HS4.out.bel
        clear hK K
        try simp only [Act.put, List.getElem_toArray, List.getElem_cons_zero, List.getElem_cons_succ, List.setIfInBounds_toArray, List.set_cons_zero, List.set_cons_succ]
        generalize xs.alloc (Obj.cells #[] 111) = x4 at HS4 hHeld ⊢
        refine wpAnyH_ready (rs := [13, 15, 18]) (by kernel_rfl) (by simp) ?_
        refine AllReadyH.cons rfl (fun K hK => ?_) ?_
        · have A13 := ((HAT.out.below (B2.out.trans (HS4.out.bel.mono B2.out.size))).piece 0 k cap (Nat.zero_le _) hkn (Nat.le_trans hkn HRM.out) (Nat.le_refl _))
          rw [List.drop_zero, ← HXS.out] at A13
          rw [if_pos (by rfl)]
          refine wp_append_piece _ _ rfl _ (HS4.out.h4 _ rfl).2 rfl (partA oa 0 cap) k cap XS rfl A13 (by omega) w2.heap.size (HS4.out.h4 _ rfl).1 ?_
          clear A13
          intro v13 x13 ho13 hg13
          rw [← HXL.out] at ho13
          have HS13 := hide (HS4.out.grow13 ho13 hg13)
          clear ho13 hg13
          try go_simp
          refine hK.out _ _ ?_ (fun hHeld => ?_)
          · exact HPS.out.of HS13.out.bel
          clear hK K
          try simp only [Act.put, List.getElem_toArray, List.getElem_cons_zero, List.getElem_cons_succ, List.setIfInBounds_toArray, List.set_cons_zero, List.set_cons_succ]
          refine wpAnyH_ready (rs := [15, 18]) (by kernel_rfl) (by simp) ?_
          refine AllReadyH.cons rfl (fun K hK => ?_) ?_
          · have HS15 := hide HS13.out.alloc15
            rw [if_pos (by rfl)]
            go_simp
            refine hK.out _ _ ?_ (fun hHeld => ?_)
            · exact HPS.out.of HS15.out.bel
            clear hK K
            try simp only [Act.put, List.getElem_toArray, List.getElem_cons_zero, List.getElem_cons_succ, List.setIfInBounds_toArray, List.set_cons_zero, List.set_cons_succ]
            generalize x13.alloc (Obj.cells #[Value.int IntKind.i64 e.term, Value.int IntKind.i64 e.kind, Value.string e.data] 111) = x15 at HS15 hHeld ⊢
            refine wpAnyH_ready (rs := [16, 18]) (by kernel_rfl) (by simp) ?_
            refine AllReadyH.cons rfl (fun K hK => ?_) ?_
            · rw [if_pos (by rfl)]
              refine wp_append_entry _ _ rfl w2.heap.size _ XS.length XS rfl (HS15.out.h13 _ rfl) (by rw [HXL.out]; omega) HS15.out.bel.size _ _ e rfl (HS15.out.h15 _ rfl) ?_
              intro v16 x16 ho16 hg16
              rw [← HYS.out, ← HYL.out] at ho16
              have HS16 := hide (HS15.out.grow16 ho16 hg16)
              obtain ⟨ov, cv, rfl⟩ := own_form3 ho16
              clear ho16 hg16
              try go_simp
              refine hK.out _ _ ?_ (fun hHeld => ?_)
              · exact HPS.out.of HS16.out.bel
              clear hK K
              try simp only [Act.put, List.getElem_toArray, List.getElem_cons_zero, List.getElem_cons_succ, List.setIfInBounds_toArray, List.set_cons_zero, List.set_cons_succ]
              refine wpAnyH_take (i := 17) (v := ?_) rfl (by kernel_rfl) (by kernel_rfl) (by kernel_rfl) (fun _ _ _ h => h) (Or.inl ⟨by rfl, ?_⟩) (by assumption) ?_; rotate_left
              · (intro wz hSw; obtain ⟨z0, z1, z2, z3, z4, z5⟩ := PutS.cells hSw; clear hSw; go_simp; first | done | with_reducible rfl)
              try simp only [Act.put, List.getElem_toArray, List.getElem_cons_zero, List.getElem_cons_succ, List.setIfInBounds_toArray, List.set_cons_zero, List.set_cons_succ]
              refine wpAnyH_ready (rs := [18]) (by kernel_rfl) (by simp) ?_
              refine AllReadyH.cons rfl (fun K hK => ?_) ?_
              · have HS18 := hide HS16.out.alloc18
                rw [if_pos (by rfl)]
                go_simp
                refine hK.out _ _ ?_ (fun hHeld => ?_)
                · exact HPS.out.of HS18.out.bel
                clear hK K
                try simp only [Act.put, List.getElem_toArray, List.getElem_cons_zero, List.getElem_cons_succ, List.setIfInBounds_toArray, List.set_cons_zero, List.set_cons_succ]
                generalize x16.alloc (Obj.cells #[Value.int IntKind.i64 0, Value.int IntKind.i64 0, Value.slice none 0 0] 28) = x18 at HS18 hHeld ⊢
                refine wpAnyH_ready (rs := [19]) (by kernel_rfl) (by simp) ?_
                refine AllReadyH.cons rfl (fun K hK => ?_) ?_
                · have hq := (HS18.out.h18 _ rfl).2
                  have q0 := blk_cell hq 0 rfl
                  have q1 := blk_cell hq 1 rfl
                  have q2 := blk_cell hq 2 rfl
                  have f0 := blk_free hq 0
                  have f1 := blk_free hq 1
                  have f2 := blk_free hq 2
                  simp only [List.getElem_toArray, List.getElem_cons_zero, List.getElem_cons_succ] at q0 q1 q2
                  rw [if_pos (by rfl)]
                  go_simp
                  refine hK.out _ _ ?_ (fun hHeld => ?_)
                  · exact HPS.out.of (HS18.out.stored (s := s) (u := u)).1
                  clear hK K
                  try simp only [Act.put, List.getElem_toArray, List.getElem_cons_zero, List.getElem_cons_succ, List.setIfInBounds_toArray, List.set_cons_zero, List.set_cons_succ]
                  clear hq q0 q1 q2 f0 f1 f2
                  have hF := HS18.out.stored (s := s) (u := u)
                  refine wpAnyH_done (by kernel_rfl) ?_ _
                  have hbz := hF.1
                  have hlz := hF.2.1
                  have hoz := hF.2.2
                  clear hF hHeld
                  generalize (((x18.setCell ⟨x16.heap.size, 0, none⟩ (Value.int IntKind.i64 s)).setCell ⟨x16.heap.size, 1, none⟩ (Value.int IntKind.i64 u)).setCell ⟨x16.heap.size, 2, none⟩ (Value.slice ov YS.length cv)) = xz at hbz hlz hoz ⊢
                  generalize x16.heap.size = bk at hbz hlz hoz ⊢
                  have BZ := hide (B2.out.trans (hbz.mono B2.out.size))
                  have RZ := hide ((hbz.block _ (blk_lt R2.out)).trans R2.out)
                  have LZ := hide hlz
                  obtain ⟨_, _, he, hatz⟩ := entsAt_own hoz
                  cases he
                  have HAZ := hide hatz
                  have HOZ := hide hoz
                  obtain ⟨c0, c1, c2⟩ := LZ.out
                  clear hbz hlz hoz hatz
                  go_wp2_with fail
                  refine (specLogOk_any s u _ _ _ YS _ HAZ.out HYW.out).mono ?_
                  rintro r x8 ⟨rfl, hb8⟩
                  have B8 := hide (BZ.out.trans (hb8.mono BZ.out.size))
                  have R8 := hide ((hb8.block _ (blk_lt RZ.out)).trans RZ.out)
                  obtain ⟨d0, d1, d2⟩ := LZ.out.on hb8
                  have HO8 := hide (own_base (own_below HOZ.out hb8) (base' := w.heap.size + 1 + 1 + 1) (by omega))
                  have r0 := blk_cell R8.out 0 rfl
                  have r1 := blk_cell R8.out 1 rfl
                  have r2 := blk_cell R8.out 2 rfl
                  have t0 := blk_free R8.out 0
                  have t1 := blk_free R8.out 1
                  have t2 := blk_free R8.out 2
                  clear hb8 c0 c1 c2 LZ HAZ HOZ
                  cases hy : lgOk s u YS with
                  | false =>
                    have HPR := hide (show putR s u es (s + 1 + k) e = (0, 0, [], false) by rw [putR, if_neg]; rw [HPO.out, hy]; simp)
                    clear hy
                    go_wp2_with fail
                    refine bodyPost_ret (v := .tuple #[lgv 0 0 (.slice none 0 0), .bool false]) (by simp [results, Tryz.results66, go_sem, r0, r1, r2, t0, t1, t2]) rfl ?_
                    rw [HPR.out]
                    refine ⟨_, rfl, World.ownsRow_nil _ _ _ _, ?_⟩
                    repeat (refine Below.setCell ?_ (by simp <;> omega) _)
                    exact B8.out
                  | true =>
                    have HPR := hide (show putR s u es (s + 1 + k) e = (s, u, YS, true) by rw [putR, if_pos (by rw [HPO.out, hy]), HPL.out])
                    clear hy
                    go_wp2_with fail
                    refine bodyPost_ret (v := .tuple #[lgv s u (.slice ov YS.length cv), .bool true]) (by simp [results, Tryz.results66, go_sem, r0, r1, r2, t0, t1, t2]) rfl ?_
                    rw [HPR.out]
                    refine ⟨_, rfl, ?_, ?_⟩
                    · refine own_base (base := w.heap.size + 1 + 1 + 1) ?_ (by omega)
                      repeat (refine own_setCell ?_ (by simp <;> omega) _)
                      exact HO8.out
                    · repeat (refine Below.setCell ?_ (by simp <;> omega) _)
                      exact B8.out
                exact AllReadyH.nil
              exact AllReadyH.nil
            refine AllReadyH.cons rfl (fun K hK => ?_) ?_
            · have HS18 := hide HS15.out.alloc18
              rw [if_pos (by rfl)]
              go_simp
              refine hK.out _ _ ?_ (fun hHeld => ?_)
              · exact HPS.out.of HS18.out.bel
              clear hK K
              try simp only [Act.put, List.getElem_toArray, List.getElem_cons_zero, List.getElem_cons_succ, List.setIfInBounds_toArray, List.set_cons_zero, List.set_cons_succ]
              generalize x15.alloc (Obj.cells #[Value.int IntKind.i64 0, Value.int IntKind.i64 0, Value.slice none 0 0] 28) = x18 at HS18 hHeld ⊢
              refine wpAnyH_ready (rs := [16]) (by kernel_rfl) (by simp) ?_
              refine AllReadyH.cons rfl (fun K hK => ?_) ?_
              · rw [if_pos (by rfl)]
                refine wp_append_entry _ _ rfl w2.heap.size _ XS.length XS rfl (HS18.out.h13 _ rfl) (by rw [HXL.out]; omega) HS18.out.bel.size _ _ e rfl (HS18.out.h15 _ rfl) ?_
                intro v16 x16 ho16 hg16
                rw [← HYS.out, ← HYL.out] at ho16
                have HS16 := hide (HS18.out.grow16 ho16 hg16)
                obtain ⟨ov, cv, rfl⟩ := own_form3 ho16
                clear ho16 hg16
                try go_simp
                refine hK.out _ _ ?_ (fun hHeld => ?_)
                · exact HPS.out.of HS16.out.bel
                clear hK K
                try simp only [Act.put, List.getElem_toArray, List.getElem_cons_zero, List.getElem_cons_succ, List.setIfInBounds_toArray, List.set_cons_zero, List.set_cons_succ]
                refine wpAnyH_take (i := 17) (v := ?_) rfl (by kernel_rfl) (by kernel_rfl) (by kernel_rfl) (fun _ _ _ h => h) (Or.inl ⟨by rfl, ?_⟩) (by assumption) ?_; rotate_left
                · (intro wz hSw; obtain ⟨z0, z1, z2, z3, z4, z5⟩ := PutS.cells hSw; clear hSw; go_simp; first | done | with_reducible rfl)
                try simp only [Act.put, List.getElem_toArray, List.getElem_cons_zero, List.getElem_cons_succ, List.setIfInBounds_toArray, List.set_cons_zero, List.set_cons_succ]
                refine wpAnyH_ready (rs := [19]) (by kernel_rfl) (by simp) ?_
                refine AllReadyH.cons rfl (fun K hK => ?_) ?_
                · have hq := (HS16.out.h18 _ rfl).2
                  have q0 := blk_cell hq 0 rfl
                  have q1 := blk_cell hq 1 rfl
                  have q2 := blk_cell hq 2 rfl
                  have f0 := blk_free hq 0
                  have f1 := blk_free hq 1
                  have f2 := blk_free hq 2
                  simp only [List.getElem_toArray, List.getElem_cons_zero, List.getElem_cons_succ] at q0 q1 q2
                  rw [if_pos (by rfl)]
                  go_simp
                  refine hK.out _ _ ?_ (fun hHeld => ?_)
                  · exact HPS.out.of (HS16.out.stored (s := s) (u := u)).1
                  clear hK K
                  try simp only [Act.put, List.getElem_toArray, List.getElem_cons_zero, List.getElem_cons_succ, List.setIfInBounds_toArray, List.set_cons_zero, List.set_cons_succ]
                  clear hq q0 q1 q2 f0 f1 f2
                  have hF := HS16.out.stored (s := s) (u := u)
                  refine wpAnyH_done (by kernel_rfl) ?_ _
                  have hbz := hF.1
                  have hlz := hF.2.1
                  have hoz := hF.2.2
                  clear hF hHeld
                  generalize (((x16.setCell ⟨x15.heap.size, 0, none⟩ (Value.int IntKind.i64 s)).setCell ⟨x15.heap.size, 1, none⟩ (Value.int IntKind.i64 u)).setCell ⟨x15.heap.size, 2, none⟩ (Value.slice ov YS.length cv)) = xz at hbz hlz hoz ⊢
                  generalize x15.heap.size = bk at hbz hlz hoz ⊢
                  have BZ := hide (B2.out.trans (hbz.mono B2.out.size))
                  have RZ := hide ((hbz.block _ (blk_lt R2.out)).trans R2.out)
                  have LZ := hide hlz
                  obtain ⟨_, _, he, hatz⟩ := entsAt_own hoz
                  cases he
                  have HAZ := hide hatz
                  have HOZ := hide hoz
                  obtain ⟨c0, c1, c2⟩ := LZ.out
                  clear hbz hlz hoz hatz
                  go_wp2_with fail
                  refine (specLogOk_any s u _ _ _ YS _ HAZ.out HYW.out).mono ?_
                  rintro r x8 ⟨rfl, hb8⟩
                  have B8 := hide (BZ.out.trans (hb8.mono BZ.out.size))
                  have R8 := hide ((hb8.block _ (blk_lt RZ.out)).trans RZ.out)
                  obtain ⟨d0, d1, d2⟩ := LZ.out.on hb8
                  have HO8 := hide (own_base (own_below HOZ.out hb8) (base' := w.heap.size + 1 + 1 + 1) (by omega))
                  have r0 := blk_cell R8.out 0 rfl
                  have r1 := blk_cell R8.out 1 rfl
                  have r2 := blk_cell R8.out 2 rfl
                  have t0 := blk_free R8.out 0
                  have t1 := blk_free R8.out 1
                  have t2 := blk_free R8.out 2
                  clear hb8 c0 c1 c2 LZ HAZ HOZ
                  cases hy : lgOk s u YS with
                  | false =>
                    have HPR := hide (show putR s u es (s + 1 + k) e = (0, 0, [], false) by rw [putR, if_neg]; rw [HPO.out, hy]; simp)
                    clear hy
                    go_wp2_with fail
                    refine bodyPost_ret (v := .tuple #[lgv 0 0 (.slice none 0 0), .bool false]) (by simp [results, Tryz.results66, go_sem, r0, r1, r2, t0, t1, t2]) rfl ?_
                    rw [HPR.out]
                    refine ⟨_, rfl, World.ownsRow_nil _ _ _ _, ?_⟩
                    repeat (refine Below.setCell ?_ (by simp <;> omega) _)
                    exact B8.out
                  | true =>
                    have HPR := hide (show putR s u es (s + 1 + k) e = (s, u, YS, true) by rw [putR, if_pos (by rw [HPO.out, hy]), HPL.out])
                    clear hy
                    go_wp2_with fail
                    refine bodyPost_ret (v := .tuple #[lgv s u (.slice ov YS.length cv), .bool true]) (by simp [results, Tryz.results66, go_sem, r0, r1, r2, t0, t1, t2]) rfl ?_
                    rw [HPR.out]
                    refine ⟨_, rfl, ?_, ?_⟩
                    · refine own_base (base := w.heap.size + 1 + 1 + 1) ?_ (by omega)
                      repeat (refine own_setCell ?_ (by simp <;> omega) _)
                      exact HO8.out
                    · repeat (refine Below.setCell ?_ (by simp <;> omega) _)
                      exact B8.out
                exact AllReadyH.nil
              exact AllReadyH.nil
            exact AllReadyH.nil
          refine AllReadyH.cons rfl (fun K hK => ?_) ?_
          · have HS18 := hide HS13.out.alloc18
            rw [if_pos (by rfl)]
            go_simp
            refine hK.out _ _ ?_ (fun hHeld => ?_)
            · exact HPS.out.of HS18.out.bel
            clear hK K
            try simp only [Act.put, List.getElem_toArray, List.getElem_cons_zero, List.getElem_cons_succ, List.setIfInBounds_toArray, List.set_cons_zero, List.set_cons_succ]
            generalize x13.alloc (Obj.cells #[Value.int IntKind.i64 0, Value.int IntKind.i64 0, Value.slice none 0 0] 28) = x18 at HS18 hHeld ⊢
            refine wpAnyH_ready (rs := [15]) (by kernel_rfl) (by simp) ?_
            refine AllReadyH.cons rfl (fun K hK => ?_) ?_
            · have HS15 := hide HS18.out.alloc15
              rw [if_pos (by rfl)]
              go_simp
              refine hK.out _ _ ?_ (fun hHeld => ?_)
              · exact HPS.out.of HS15.out.bel
              clear hK K
              try simp only [Act.put, List.getElem_toArray, List.getElem_cons_zero, List.getElem_cons_succ, List.setIfInBounds_toArray, List.set_cons_zero, List.set_cons_succ]
              generalize x18.alloc (Obj.cells #[Value.int IntKind.i64 e.term, Value.int IntKind.i64 e.kind, Value.string e.data] 111) = x15 at HS15 hHeld ⊢
              refine wpAnyH_ready (rs := [16]) (by kernel_rfl) (by simp) ?_
              refine AllReadyH.cons rfl (fun K hK => ?_) ?_
              · rw [if_pos (by rfl)]
                refine wp_append_entry _ _ rfl w2.heap.size _ XS.length XS rfl (HS15.out.h13 _ rfl) (by rw [HXL.out]; omega) HS15.out.bel.size _ _ e rfl (HS15.out.h15 _ rfl) ?_
                intro v16 x16 ho16 hg16
                rw [← HYS.out, ← HYL.out] at ho16
                have HS16 := hide (HS15.out.grow16 ho16 hg16)
                obtain ⟨ov, cv, rfl⟩ := own_form3 ho16
                clear ho16 hg16
                try go_simp
                refine hK.out _ _ ?_ (fun hHeld => ?_)
                · exact HPS.out.of HS16.out.bel
                clear hK K
                try simp only [Act.put, List.getElem_toArray, List.getElem_cons_zero, List.getElem_cons_succ, List.setIfInBounds_toArray, List.set_cons_zero, List.set_cons_succ]
                refine wpAnyH_take (i := 17) (v := ?_) rfl (by kernel_rfl) (by kernel_rfl) (by kernel_rfl) (fun _ _ _ h => h) (Or.inl ⟨by rfl, ?_⟩) (by assumption) ?_; rotate_left
                · (intro wz hSw; obtain ⟨z0, z1, z2, z3, z4, z5⟩ := PutS.cells hSw; clear hSw; go_simp; first | done | with_reducible rfl)
                try simp only [Act.put, List.getElem_toArray, List.getElem_cons_zero, List.getElem_cons_succ, List.setIfInBounds_toArray, List.set_cons_zero, List.set_cons_succ]
                refine wpAnyH_ready (rs := [19]) (by kernel_rfl) (by simp) ?_
                refine AllReadyH.cons rfl (fun K hK => ?_) ?_
                · have hq := (HS16.out.h18 _ rfl).2
                  have q0 := blk_cell hq 0 rfl
                  have q1 := blk_cell hq 1 rfl
                  have q2 := blk_cell hq 2 rfl
                  have f0 := blk_free hq 0
                  have f1 := blk_free hq 1
                  have f2 := blk_free hq 2
                  simp only [List.getElem_toArray, List.getElem_cons_zero, List.getElem_cons_succ] at q0 q1 q2
                  rw [if_pos (by rfl)]
                  go_simp
                  refine hK.out _ _ ?_ (fun hHeld => ?_)
                  · exact HPS.out.of (HS16.out.stored (s := s) (u := u)).1
                  clear hK K
                  try simp only [Act.put, List.getElem_toArray, List.getElem_cons_zero, List.getElem_cons_succ, List.setIfInBounds_toArray, List.set_cons_zero, List.set_cons_succ]
                  clear hq q0 q1 q2 f0 f1 f2
                  have hF := HS16.out.stored (s := s) (u := u)
                  refine wpAnyH_done (by kernel_rfl) ?_ _
                  have hbz := hF.1
                  have hlz := hF.2.1
                  have hoz := hF.2.2
                  clear hF hHeld
                  generalize (((x16.setCell ⟨x13.heap.size, 0, none⟩ (Value.int IntKind.i64 s)).setCell ⟨x13.heap.size, 1, none⟩ (Value.int IntKind.i64 u)).setCell ⟨x13.heap.size, 2, none⟩ (Value.slice ov YS.length cv)) = xz at hbz hlz hoz ⊢
                  generalize x13.heap.size = bk at hbz hlz hoz ⊢
                  have BZ := hide (B2.out.trans (hbz.mono B2.out.size))
                  have RZ := hide ((hbz.block _ (blk_lt R2.out)).trans R2.out)
                  have LZ := hide hlz
                  obtain ⟨_, _, he, hatz⟩ := entsAt_own hoz
                  cases he
                  have HAZ := hide hatz
                  have HOZ := hide hoz
                  obtain ⟨c0, c1, c2⟩ := LZ.out
                  clear hbz hlz hoz hatz
                  go_wp2_with fail
                  refine (specLogOk_any s u _ _ _ YS _ HAZ.out HYW.out).mono ?_
                  rintro r x8 ⟨rfl, hb8⟩
                  have B8 := hide (BZ.out.trans (hb8.mono BZ.out.size))
                  have R8 := hide ((hb8.block _ (blk_lt RZ.out)).trans RZ.out)
                  obtain ⟨d0, d1, d2⟩ := LZ.out.on hb8
                  have HO8 := hide (own_base (own_below HOZ.out hb8) (base' := w.heap.size + 1 + 1 + 1) (by omega))
                  have r0 := blk_cell R8.out 0 rfl
                  have r1 := blk_cell R8.out 1 rfl
                  have r2 := blk_cell R8.out 2 rfl
                  have t0 := blk_free R8.out 0
                  have t1 := blk_free R8.out 1
                  have t2 := blk_free R8.out 2
                  clear hb8 c0 c1 c2 LZ HAZ HOZ
                  cases hy : lgOk s u YS with
                  | false =>
                    have HPR := hide (show putR s u es (s + 1 + k) e = (0, 0, [], false) by rw [putR, if_neg]; rw [HPO.out, hy]; simp)
                    clear hy
                    go_wp2_with fail
                    refine bodyPost_ret (v := .tuple #[lgv 0 0 (.slice none 0 0), .bool false]) (by simp [results, Tryz.results66, go_sem, r0, r1, r2, t0, t1, t2]) rfl ?_
                    rw [HPR.out]
                    refine ⟨_, rfl, World.ownsRow_nil _ _ _ _, ?_⟩
                    repeat (refine Below.setCell ?_ (by simp <;> omega) _)
                    exact B8.out
                  | true =>
                    have HPR := hide (show putR s u es (s + 1 + k) e = (s, u, YS, true) by rw [putR, if_pos (by rw [HPO.out, hy]), HPL.out])
                    clear hy
                    go_wp2_with fail
                    refine bodyPost_ret (v := .tuple #[lgv s u (.slice ov YS.length cv), .bool true]) (by simp [results, Tryz.results66, go_sem, r0, r1, r2, t0, t1, t2]) rfl ?_
                    rw [HPR.out]
                    refine ⟨_, rfl, ?_, ?_⟩
                    · refine own_base (base := w.heap.size + 1 + 1 + 1) ?_ (by omega)
                      repeat (refine own_setCell ?_ (by simp <;> omega) _)
                      exact HO8.out
                    · repeat (refine Below.setCell ?_ (by simp <;> omega) _)
                      exact B8.out
                exact AllReadyH.nil
              exact AllReadyH.nil
            exact AllReadyH.nil
          exact AllReadyH.nil
        refine AllReadyH.cons rfl (fun K hK => ?_) ?_
        · have HS15 := hide HS4.out.alloc15
          rw [if_pos (by rfl)]
          go_simp
          refine hK.out _ _ ?_ (fun hHeld => ?_)
          · exact HPS.out.of HS15.out.bel
          clear hK K
          try simp only [Act.put, List.getElem_toArray, List.getElem_cons_zero, List.getElem_cons_succ, List.setIfInBounds_toArray, List.set_cons_zero, List.set_cons_succ]
          generalize x4.alloc (Obj.cells #[Value.int IntKind.i64 e.term, Value.int IntKind.i64 e.kind, Value.string e.data] 111) = x15 at HS15 hHeld ⊢
          refine wpAnyH_ready (rs := [13, 18]) (by kernel_rfl) (by simp) ?_
          refine AllReadyH.cons rfl (fun K hK => ?_) ?_
          · have A13 := ((HAT.out.below (B2.out.trans (HS15.out.bel.mono B2.out.size))).piece 0 k cap (Nat.zero_le _) hkn (Nat.le_trans hkn HRM.out) (Nat.le_refl _))
            rw [List.drop_zero, ← HXS.out] at A13
            rw [if_pos (by rfl)]
            refine wp_append_piece _ _ rfl _ (HS15.out.h4 _ rfl).2 rfl (partA oa 0 cap) k cap XS rfl A13 (by omega) w2.heap.size (HS15.out.h4 _ rfl).1 ?_
            clear A13
            intro v13 x13 ho13 hg13
            rw [← HXL.out] at ho13
            have HS13 := hide (HS15.out.grow13 ho13 hg13)
            clear ho13 hg13
            try go_simp
            refine hK.out _ _ ?_ (fun hHeld => ?_)
            · exact HPS.out.of HS13.out.bel
            clear hK K
            try simp only [Act.put, List.getElem_toArray, List.getElem_cons_zero, List.getElem_cons_succ, List.setIfInBounds_toArray, List.set_cons_zero, List.set_cons_succ]
            refine wpAnyH_ready (rs := [16, 18]) (by kernel_rfl) (by simp) ?_
            refine AllReadyH.cons rfl (fun K hK => ?_) ?_
            · rw [if_pos (by rfl)]
              refine wp_append_entry _ _ rfl w2.heap.size _ XS.length XS rfl (HS13.out.h13 _ rfl) (by rw [HXL.out]; omega) HS13.out.bel.size _ _ e rfl (HS13.out.h15 _ rfl) ?_
              intro v16 x16 ho16 hg16
              rw [← HYS.out, ← HYL.out] at ho16
              have HS16 := hide (HS13.out.grow16 ho16 hg16)
              obtain ⟨ov, cv, rfl⟩ := own_form3 ho16
              clear ho16 hg16
              try go_simp
              refine hK.out _ _ ?_ (fun hHeld => ?_)
              · exact HPS.out.of HS16.out.bel
              clear hK K
              try simp only [Act.put, List.getElem_toArray, List.getElem_cons_zero, List.getElem_cons_succ, List.setIfInBounds_toArray, List.set_cons_zero, List.set_cons_succ]
              refine wpAnyH_take (i := 17) (v := ?_) rfl (by kernel_rfl) (by kernel_rfl) (by kernel_rfl) (fun _ _ _ h => h) (Or.inl ⟨by rfl, ?_⟩) (by assumption) ?_; rotate_left
              · (intro wz hSw; obtain ⟨z0, z1, z2, z3, z4, z5⟩ := PutS.cells hSw; clear hSw; go_simp; first | done | with_reducible rfl)
              try simp only [Act.put, List.getElem_toArray, List.getElem_cons_zero, List.getElem_cons_succ, List.setIfInBounds_toArray, List.set_cons_zero, List.set_cons_succ]
              refine wpAnyH_ready (rs := [18]) (by kernel_rfl) (by simp) ?_
              refine AllReadyH.cons rfl (fun K hK => ?_) ?_
              · have HS18 := hide HS16.out.alloc18
                rw [if_pos (by rfl)]
                go_simp
                refine hK.out _ _ ?_ (fun hHeld => ?_)
                · exact HPS.out.of HS18.out.bel
                clear hK K
                try simp only [Act.put, List.getElem_toArray, List.getElem_cons_zero, List.getElem_cons_succ, List.setIfInBounds_toArray, List.set_cons_zero, List.set_cons_succ]
                generalize x16.alloc (Obj.cells #[Value.int IntKind.i64 0, Value.int IntKind.i64 0, Value.slice none 0 0] 28) = x18 at HS18 hHeld ⊢
                refine wpAnyH_ready (rs := [19]) (by kernel_rfl) (by simp) ?_
                refine AllReadyH.cons rfl (fun K hK => ?_) ?_
                · have hq := (HS18.out.h18 _ rfl).2
                  have q0 := blk_cell hq 0 rfl
                  have q1 := blk_cell hq 1 rfl
                  have q2 := blk_cell hq 2 rfl
                  have f0 := blk_free hq 0
                  have f1 := blk_free hq 1
                  have f2 := blk_free hq 2
                  simp only [List.getElem_toArray, List.getElem_cons_zero, List.getElem_cons_succ] at q0 q1 q2
                  rw [if_pos (by rfl)]
                  go_simp
                  refine hK.out _ _ ?_ (fun hHeld => ?_)
                  · exact HPS.out.of (HS18.out.stored (s := s) (u := u)).1
                  clear hK K
                  try simp only [Act.put, List.getElem_toArray, List.getElem_cons_zero, List.getElem_cons_succ, List.setIfInBounds_toArray, List.set_cons_zero, List.set_cons_succ]
                  clear hq q0 q1 q2 f0 f1 f2
                  have hF := HS18.out.stored (s := s) (u := u)
                  refine wpAnyH_done (by kernel_rfl) ?_ _
                  have hbz := hF.1
                  have hlz := hF.2.1
                  have hoz := hF.2.2
                  clear hF hHeld
                  generalize (((x18.setCell ⟨x16.heap.size, 0, none⟩ (Value.int IntKind.i64 s)).setCell ⟨x16.heap.size, 1, none⟩ (Value.int IntKind.i64 u)).setCell ⟨x16.heap.size, 2, none⟩ (Value.slice ov YS.length cv)) = xz at hbz hlz hoz ⊢
                  generalize x16.heap.size = bk at hbz hlz hoz ⊢
                  have BZ := hide (B2.out.trans (hbz.mono B2.out.size))
                  have RZ := hide ((hbz.block _ (blk_lt R2.out)).trans R2.out)
                  have LZ := hide hlz
                  obtain ⟨_, _, he, hatz⟩ := entsAt_own hoz
                  cases he
                  have HAZ := hide hatz
                  have HOZ := hide hoz
                  obtain ⟨c0, c1, c2⟩ := LZ.out
                  clear hbz hlz hoz hatz
                  go_wp2_with fail
                  refine (specLogOk_any s u _ _ _ YS _ HAZ.out HYW.out).mono ?_
                  rintro r x8 ⟨rfl, hb8⟩
                  have B8 := hide (BZ.out.trans (hb8.mono BZ.out.size))
                  have R8 := hide ((hb8.block _ (blk_lt RZ.out)).trans RZ.out)
                  obtain ⟨d0, d1, d2⟩ := LZ.out.on hb8
                  have HO8 := hide (own_base (own_below HOZ.out hb8) (base' := w.heap.size + 1 + 1 + 1) (by omega))
                  have r0 := blk_cell R8.out 0 rfl
                  have r1 := blk_cell R8.out 1 rfl
                  have r2 := blk_cell R8.out 2 rfl
                  have t0 := blk_free R8.out 0
                  have t1 := blk_free R8.out 1
                  have t2 := blk_free R8.out 2
                  clear hb8 c0 c1 c2 LZ HAZ HOZ
                  cases hy : lgOk s u YS with
                  | false =>
                    have HPR := hide (show putR s u es (s + 1 + k) e = (0, 0, [], false) by rw [putR, if_neg]; rw [HPO.out, hy]; simp)
                    clear hy
                    go_wp2_with fail
                    refine bodyPost_ret (v := .tuple #[lgv 0 0 (.slice none 0 0), .bool false]) (by simp [results, Tryz.results66, go_sem, r0, r1, r2, t0, t1, t2]) rfl ?_
                    rw [HPR.out]
                    refine ⟨_, rfl, World.ownsRow_nil _ _ _ _, ?_⟩
                    repeat (refine Below.setCell ?_ (by simp <;> omega) _)
                    exact B8.out
                  | true =>
                    have HPR := hide (show putR s u es (s + 1 + k) e = (s, u, YS, true) by rw [putR, if_pos (by rw [HPO.out, hy]), HPL.out])
                    clear hy
                    go_wp2_with fail
                    refine bodyPost_ret (v := .tuple #[lgv s u (.slice ov YS.length cv), .bool true]) (by simp [results, Tryz.results66, go_sem, r0, r1, r2, t0, t1, t2]) rfl ?_
                    rw [HPR.out]
                    refine ⟨_, rfl, ?_, ?_⟩
                    · refine own_base (base := w.heap.size + 1 + 1 + 1) ?_ (by omega)
                      repeat (refine own_setCell ?_ (by simp <;> omega) _)
                      exact HO8.out
                    · repeat (refine Below.setCell ?_ (by simp <;> omega) _)
                      exact B8.out
                exact AllReadyH.nil
              exact AllReadyH.nil
            refine AllReadyH.cons rfl (fun K hK => ?_) ?_
            · have HS18 := hide HS13.out.alloc18
              rw [if_pos (by rfl)]
              go_simp
              refine hK.out _ _ ?_ (fun hHeld => ?_)
              · exact HPS.out.of HS18.out.bel
              clear hK K
              try simp only [Act.put, List.getElem_toArray, List.getElem_cons_zero, List.getElem_cons_succ, List.setIfInBounds_toArray, List.set_cons_zero, List.set_cons_succ]
              generalize x13.alloc (Obj.cells #[Value.int IntKind.i64 0, Value.int IntKind.i64 0, Value.slice none 0 0] 28) = x18 at HS18 hHeld ⊢
              refine wpAnyH_ready (rs := [16]) (by kernel_rfl) (by simp) ?_
              refine AllReadyH.cons rfl (fun K hK => ?_) ?_
              · rw [if_pos (by rfl)]
                refine wp_append_entry _ _ rfl w2.heap.size _ XS.length XS rfl (HS18.out.h13 _ rfl) (by rw [HXL.out]; omega) HS18.out.bel.size _ _ e rfl (HS18.out.h15 _ rfl) ?_
                intro v16 x16 ho16 hg16
                rw [← HYS.out, ← HYL.out] at ho16
                have HS16 := hide (HS18.out.grow16 ho16 hg16)
                obtain ⟨ov, cv, rfl⟩ := own_form3 ho16
                clear ho16 hg16
                try go_simp
                refine hK.out _ _ ?_ (fun hHeld => ?_)
                · exact HPS.out.of HS16.out.bel
                clear hK K
                try simp only [Act.put, List.getElem_toArray, List.getElem_cons_zero, List.getElem_cons_succ, List.setIfInBounds_toArray, List.set_cons_zero, List.set_cons_succ]
                refine wpAnyH_take (i := 17) (v := ?_) rfl (by kernel_rfl) (by kernel_rfl) (by kernel_rfl) (fun _ _ _ h => h) (Or.inl ⟨by rfl, ?_⟩) (by assumption) ?_; rotate_left
                · (intro wz hSw; obtain ⟨z0, z1, z2, z3, z4, z5⟩ := PutS.cells hSw; clear hSw; go_simp; first | done | with_reducible rfl)
                try simp only [Act.put, List.getElem_toArray, List.getElem_cons_zero, List.getElem_cons_succ, List.setIfInBounds_toArray, List.set_cons_zero, List.set_cons_succ]
                refine wpAnyH_ready (rs := [19]) (by kernel_rfl) (by simp) ?_
                refine AllReadyH.cons rfl (fun K hK => ?_) ?_
                · have hq := (HS16.out.h18 _ rfl).2
                  have q0 := blk_cell hq 0 rfl
                  have q1 := blk_cell hq 1 rfl
                  have q2 := blk_cell hq 2 rfl
                  have f0 := blk_free hq 0
                  have f1 := blk_free hq 1
                  have f2 := blk_free hq 2
                  simp only [List.getElem_toArray, List.getElem_cons_zero, List.getElem_cons_succ] at q0 q1 q2
                  rw [if_pos (by rfl)]
                  go_simp
                  refine hK.out _ _ ?_ (fun hHeld => ?_)
                  · exact HPS.out.of (HS16.out.stored (s := s) (u := u)).1
                  clear hK K
                  try simp only [Act.put, List.getElem_toArray, List.getElem_cons_zero, List.getElem_cons_succ, List.setIfInBounds_toArray, List.set_cons_zero, List.set_cons_succ]
                  clear hq q0 q1 q2 f0 f1 f2
                  have hF := HS16.out.stored (s := s) (u := u)
                  refine wpAnyH_done (by kernel_rfl) ?_ _
                  have hbz := hF.1
                  have hlz := hF.2.1
                  have hoz := hF.2.2
                  clear hF hHeld
                  generalize (((x16.setCell ⟨x13.heap.size, 0, none⟩ (Value.int IntKind.i64 s)).setCell ⟨x13.heap.size, 1, none⟩ (Value.int IntKind.i64 u)).setCell ⟨x13.heap.size, 2, none⟩ (Value.slice ov YS.length cv)) = xz at hbz hlz hoz ⊢
                  generalize x13.heap.size = bk at hbz hlz hoz ⊢
                  have BZ := hide (B2.out.trans (hbz.mono B2.out.size))
                  have RZ := hide ((hbz.block _ (blk_lt R2.out)).trans R2.out)
                  have LZ := hide hlz
                  obtain ⟨_, _, he, hatz⟩ := entsAt_own hoz
                  cases he
                  have HAZ := hide hatz
                  have HOZ := hide hoz
                  obtain ⟨c0, c1, c2⟩ := LZ.out
                  clear hbz hlz hoz hatz
                  go_wp2_with fail
                  refine (specLogOk_any s u _ _ _ YS _ HAZ.out HYW.out).mono ?_
                  rintro r x8 ⟨rfl, hb8⟩
                  have B8 := hide (BZ.out.trans (hb8.mono BZ.out.size))
                  have R8 := hide ((hb8.block _ (blk_lt RZ.out)).trans RZ.out)
                  obtain ⟨d0, d1, d2⟩ := LZ.out.on hb8
                  have HO8 := hide (own_base (own_below HOZ.out hb8) (base' := w.heap.size + 1 + 1 + 1) (by omega))
                  have r0 := blk_cell R8.out 0 rfl
                  have r1 := blk_cell R8.out 1 rfl
                  have r2 := blk_cell R8.out 2 rfl
                  have t0 := blk_free R8.out 0
                  have t1 := blk_free R8.out 1
                  have t2 := blk_free R8.out 2
                  clear hb8 c0 c1 c2 LZ HAZ HOZ
                  cases hy : lgOk s u YS with
                  | false =>
                    have HPR := hide (show putR s u es (s + 1 + k) e = (0, 0, [], false) by rw [putR, if_neg]; rw [HPO.out, hy]; simp)
                    clear hy
                    go_wp2_with fail
                    refine bodyPost_ret (v := .tuple #[lgv 0 0 (.slice none 0 0), .bool false]) (by simp [results, Tryz.results66, go_sem, r0, r1, r2, t0, t1, t2]) rfl ?_
                    rw [HPR.out]
                    refine ⟨_, rfl, World.ownsRow_nil _ _ _ _, ?_⟩
                    repeat (refine Below.setCell ?_ (by simp <;> omega) _)
                    exact B8.out
                  | true =>
                    have HPR := hide (show putR s u es (s + 1 + k) e = (s, u, YS, true) by rw [putR, if_pos (by rw [HPO.out, hy]), HPL.out])
                    clear hy
                    go_wp2_with fail
                    refine bodyPost_ret (v := .tuple #[lgv s u (.slice ov YS.length cv), .bool true]) (by simp [results, Tryz.results66, go_sem, r0, r1, r2, t0, t1, t2]) rfl ?_
                    rw [HPR.out]
                    refine ⟨_, rfl, ?_, ?_⟩
                    · refine own_base (base := w.heap.size + 1 + 1 + 1) ?_ (by omega)
                      repeat (refine own_setCell ?_ (by simp <;> omega) _)
                      exact HO8.out
                    · repeat (refine Below.setCell ?_ (by simp <;> omega) _)
                      exact B8.out
                exact AllReadyH.nil
              exact AllReadyH.nil
            exact AllReadyH.nil
          refine AllReadyH.cons rfl (fun K hK => ?_) ?_
          · have HS18 := hide HS15.out.alloc18
            rw [if_pos (by rfl)]
            go_simp
            refine hK.out _ _ ?_ (fun hHeld => ?_)
            · exact HPS.out.of HS18.out.bel
            clear hK K
            try simp only [Act.put, List.getElem_toArray, List.getElem_cons_zero, List.getElem_cons_succ, List.setIfInBounds_toArray, List.set_cons_zero, List.set_cons_succ]
            generalize x15.alloc (Obj.cells #[Value.int IntKind.i64 0, Value.int IntKind.i64 0, Value.slice none 0 0] 28) = x18 at HS18 hHeld ⊢
            refine wpAnyH_ready (rs := [13]) (by kernel_rfl) (by simp) ?_
            refine AllReadyH.cons rfl (fun K hK => ?_) ?_
            · have A13 := ((HAT.out.below (B2.out.trans (HS18.out.bel.mono B2.out.size))).piece 0 k cap (Nat.zero_le _) hkn (Nat.le_trans hkn HRM.out) (Nat.le_refl _))
              rw [List.drop_zero, ← HXS.out] at A13
              rw [if_pos (by rfl)]
              refine wp_append_piece _ _ rfl _ (HS18.out.h4 _ rfl).2 rfl (partA oa 0 cap) k cap XS rfl A13 (by omega) w2.heap.size (HS18.out.h4 _ rfl).1 ?_
              clear A13
              intro v13 x13 ho13 hg13
              rw [← HXL.out] at ho13
              have HS13 := hide (HS18.out.grow13 ho13 hg13)
              clear ho13 hg13
              try go_simp
              refine hK.out _ _ ?_ (fun hHeld => ?_)
              · exact HPS.out.of HS13.out.bel
              clear hK K
              try simp only [Act.put, List.getElem_toArray, List.getElem_cons_zero, List.getElem_cons_succ, List.setIfInBounds_toArray, List.set_cons_zero, List.set_cons_succ]
              refine wpAnyH_ready (rs := [16]) (by kernel_rfl) (by simp) ?_
              refine AllReadyH.cons rfl (fun K hK => ?_) ?_
              · rw [if_pos (by rfl)]
                refine wp_append_entry _ _ rfl w2.heap.size _ XS.length XS rfl (HS13.out.h13 _ rfl) (by rw [HXL.out]; omega) HS13.out.bel.size _ _ e rfl (HS13.out.h15 _ rfl) ?_
                intro v16 x16 ho16 hg16
                rw [← HYS.out, ← HYL.out] at ho16
                have HS16 := hide (HS13.out.grow16 ho16 hg16)
                obtain ⟨ov, cv, rfl⟩ := own_form3 ho16
                clear ho16 hg16
                try go_simp
                refine hK.out _ _ ?_ (fun hHeld => ?_)
                · exact HPS.out.of HS16.out.bel
                clear hK K
                try simp only [Act.put, List.getElem_toArray, List.getElem_cons_zero, List.getElem_cons_succ, List.setIfInBounds_toArray, List.set_cons_zero, List.set_cons_succ]
                refine wpAnyH_take (i := 17) (v := ?_) rfl (by kernel_rfl) (by kernel_rfl) (by kernel_rfl) (fun _ _ _ h => h) (Or.inl ⟨by rfl, ?_⟩) (by assumption) ?_; rotate_left
                · (intro wz hSw; obtain ⟨z0, z1, z2, z3, z4, z5⟩ := PutS.cells hSw; clear hSw; go_simp; first | done | with_reducible rfl)
                try simp only [Act.put, List.getElem_toArray, List.getElem_cons_zero, List.getElem_cons_succ, List.setIfInBounds_toArray, List.set_cons_zero, List.set_cons_succ]
                refine wpAnyH_ready (rs := [19]) (by kernel_rfl) (by simp) ?_
                refine AllReadyH.cons rfl (fun K hK => ?_) ?_
                · have hq := (HS16.out.h18 _ rfl).2
                  have q0 := blk_cell hq 0 rfl
                  have q1 := blk_cell hq 1 rfl
                  have q2 := blk_cell hq 2 rfl
                  have f0 := blk_free hq 0
                  have f1 := blk_free hq 1
                  have f2 := blk_free hq 2
                  simp only [List.getElem_toArray, List.getElem_cons_zero, List.getElem_cons_succ] at q0 q1 q2
                  rw [if_pos (by rfl)]
                  go_simp
                  refine hK.out _ _ ?_ (fun hHeld => ?_)
                  · exact HPS.out.of (HS16.out.stored (s := s) (u := u)).1
                  clear hK K
                  try simp only [Act.put, List.getElem_toArray, List.getElem_cons_zero, List.getElem_cons_succ, List.setIfInBounds_toArray, List.set_cons_zero, List.set_cons_succ]
                  clear hq q0 q1 q2 f0 f1 f2
                  have hF := HS16.out.stored (s := s) (u := u)
                  refine wpAnyH_done (by kernel_rfl) ?_ _
                  have hbz := hF.1
                  have hlz := hF.2.1
                  have hoz := hF.2.2
                  clear hF hHeld
                  generalize (((x16.setCell ⟨x15.heap.size, 0, none⟩ (Value.int IntKind.i64 s)).setCell ⟨x15.heap.size, 1, none⟩ (Value.int IntKind.i64 u)).setCell ⟨x15.heap.size, 2, none⟩ (Value.slice ov YS.length cv)) = xz at hbz hlz hoz ⊢
                  generalize x15.heap.size = bk at hbz hlz hoz ⊢
                  have BZ := hide (B2.out.trans (hbz.mono B2.out.size))
                  have RZ := hide ((hbz.block _ (blk_lt R2.out)).trans R2.out)
                  have LZ := hide hlz
                  obtain ⟨_, _, he, hatz⟩ := entsAt_own hoz
                  cases he
                  have HAZ := hide hatz
                  have HOZ := hide hoz
                  obtain ⟨c0, c1, c2⟩ := LZ.out
                  clear hbz hlz hoz hatz
                  go_wp2_with fail
                  refine (specLogOk_any s u _ _ _ YS _ HAZ.out HYW.out).mono ?_
                  rintro r x8 ⟨rfl, hb8⟩
                  have B8 := hide (BZ.out.trans (hb8.mono BZ.out.size))
                  have R8 := hide ((hb8.block _ (blk_lt RZ.out)).trans RZ.out)
                  obtain ⟨d0, d1, d2⟩ := LZ.out.on hb8
                  have HO8 := hide (own_base (own_below HOZ.out hb8) (base' := w.heap.size + 1 + 1 + 1) (by omega))
                  have r0 := blk_cell R8.out 0 rfl
                  have r1 := blk_cell R8.out 1 rfl
                  have r2 := blk_cell R8.out 2 rfl
                  have t0 := blk_free R8.out 0
                  have t1 := blk_free R8.out 1
                  have t2 := blk_free R8.out 2
                  clear hb8 c0 c1 c2 LZ HAZ HOZ
                  cases hy : lgOk s u YS with
                  | false =>
                    have HPR := hide (show putR s u es (s + 1 + k) e = (0, 0, [], false) by rw [putR, if_neg]; rw [HPO.out, hy]; simp)
                    clear hy
                    go_wp2_with fail
                    refine bodyPost_ret (v := .tuple #[lgv 0 0 (.slice none 0 0), .bool false]) (by simp [results, Tryz.results66, go_sem, r0, r1, r2, t0, t1, t2]) rfl ?_
                    rw [HPR.out]
                    refine ⟨_, rfl, World.ownsRow_nil _ _ _ _, ?_⟩
                    repeat (refine Below.setCell ?_ (by simp <;> omega) _)
                    exact B8.out
                  | true =>
                    have HPR := hide (show putR s u es (s + 1 + k) e = (s, u, YS, true) by rw [putR, if_pos (by rw [HPO.out, hy]), HPL.out])
                    clear hy
                    go_wp2_with fail
                    refine bodyPost_ret (v := .tuple #[lgv s u (.slice ov YS.length cv), .bool true]) (by simp [results, Tryz.results66, go_sem, r0, r1, r2, t0, t1, t2]) rfl ?_
                    rw [HPR.out]
                    refine ⟨_, rfl, ?_, ?_⟩
                    · refine own_base (base := w.heap.size + 1 + 1 + 1) ?_ (by omega)
                      repeat (refine own_setCell ?_ (by simp <;> omega) _)
                      exact HO8.out
                    · repeat (refine Below.setCell ?_ (by simp <;> omega) _)
                      exact B8.out
                exact AllReadyH.nil
              exact AllReadyH.nil
            exact AllReadyH.nil
          exact AllReadyH.nil
        refine AllReadyH.cons rfl (fun K hK => ?_) ?_
        · have HS18 := hide HS4.out.alloc18
          rw [if_pos (by rfl)]
          go_simp
          refine hK.out _ _ ?_ (fun hHeld => ?_)
          · exact HPS.out.of HS18.out.bel
          clear hK K
          try simp only [Act.put, List.getElem_toArray, List.getElem_cons_zero, List.getElem_cons_succ, List.setIfInBounds_toArray, List.set_cons_zero, List.set_cons_succ]
          generalize x4.alloc (Obj.cells #[Value.int IntKind.i64 0, Value.int IntKind.i64 0, Value.slice none 0 0] 28) = x18 at HS18 hHeld ⊢
          refine wpAnyH_ready (rs := [13, 15]) (by kernel_rfl) (by simp) ?_
          refine AllReadyH.cons rfl (fun K hK => ?_) ?_
          · have A13 := ((HAT.out.below (B2.out.trans (HS18.out.bel.mono B2.out.size))).piece 0 k cap (Nat.zero_le _) hkn (Nat.le_trans hkn HRM.out) (Nat.le_refl _))
            rw [List.drop_zero, ← HXS.out] at A13
            rw [if_pos (by rfl)]
            refine wp_append_piece _ _ rfl _ (HS18.out.h4 _ rfl).2 rfl (partA oa 0 cap) k cap XS rfl A13 (by omega) w2.heap.size (HS18.out.h4 _ rfl).1 ?_
            clear A13
            intro v13 x13 ho13 hg13
            rw [← HXL.out] at ho13
            have HS13 := hide (HS18.out.grow13 ho13 hg13)
            clear ho13 hg13
            try go_simp
            refine hK.out _ _ ?_ (fun hHeld => ?_)
            · exact HPS.out.of HS13.out.bel
            clear hK K
            try simp only [Act.put, List.getElem_toArray, List.getElem_cons_zero, List.getElem_cons_succ, List.setIfInBounds_toArray, List.set_cons_zero, List.set_cons_succ]
            refine wpAnyH_ready (rs := [15]) (by kernel_rfl) (by simp) ?_
            refine AllReadyH.cons rfl (fun K hK => ?_) ?_
            · have HS15 := hide HS13.out.alloc15
              rw [if_pos (by rfl)]
              go_simp
              refine hK.out _ _ ?_ (fun hHeld => ?_)
              · exact HPS.out.of HS15.out.bel
              clear hK K
              try simp only [Act.put, List.getElem_toArray, List.getElem_cons_zero, List.getElem_cons_succ, List.setIfInBounds_toArray, List.set_cons_zero, List.set_cons_succ]
              generalize x13.alloc (Obj.cells #[Value.int IntKind.i64 e.term, Value.int IntKind.i64 e.kind, Value.string e.data] 111) = x15 at HS15 hHeld ⊢
              refine wpAnyH_ready (rs := [16]) (by kernel_rfl) (by simp) ?_
              refine AllReadyH.cons rfl (fun K hK => ?_) ?_
              · rw [if_pos (by rfl)]
                refine wp_append_entry _ _ rfl w2.heap.size _ XS.length XS rfl (HS15.out.h13 _ rfl) (by rw [HXL.out]; omega) HS15.out.bel.size _ _ e rfl (HS15.out.h15 _ rfl) ?_
                intro v16 x16 ho16 hg16
                rw [← HYS.out, ← HYL.out] at ho16
                have HS16 := hide (HS15.out.grow16 ho16 hg16)
                obtain ⟨ov, cv, rfl⟩ := own_form3 ho16
                clear ho16 hg16
                try go_simp
                refine hK.out _ _ ?_ (fun hHeld => ?_)
                · exact HPS.out.of HS16.out.bel
                clear hK K
                try simp only [Act.put, List.getElem_toArray, List.getElem_cons_zero, List.getElem_cons_succ, List.setIfInBounds_toArray, List.set_cons_zero, List.set_cons_succ]
                refine wpAnyH_take (i := 17) (v := ?_) rfl (by kernel_rfl) (by kernel_rfl) (by kernel_rfl) (fun _ _ _ h => h) (Or.inl ⟨by rfl, ?_⟩) (by assumption) ?_; rotate_left
                · (intro wz hSw; obtain ⟨z0, z1, z2, z3, z4, z5⟩ := PutS.cells hSw; clear hSw; go_simp; first | done | with_reducible rfl)
                try simp only [Act.put, List.getElem_toArray, List.getElem_cons_zero, List.getElem_cons_succ, List.setIfInBounds_toArray, List.set_cons_zero, List.set_cons_succ]
                refine wpAnyH_ready (rs := [19]) (by kernel_rfl) (by simp) ?_
                refine AllReadyH.cons rfl (fun K hK => ?_) ?_
                · have hq := (HS16.out.h18 _ rfl).2
                  have q0 := blk_cell hq 0 rfl
                  have q1 := blk_cell hq 1 rfl
                  have q2 := blk_cell hq 2 rfl
                  have f0 := blk_free hq 0
                  have f1 := blk_free hq 1
                  have f2 := blk_free hq 2
                  simp only [List.getElem_toArray, List.getElem_cons_zero, List.getElem_cons_succ] at q0 q1 q2
                  rw [if_pos (by rfl)]
                  go_simp
                  refine hK.out _ _ ?_ (fun hHeld => ?_)
                  · exact HPS.out.of (HS16.out.stored (s := s) (u := u)).1
                  clear hK K
                  try simp only [Act.put, List.getElem_toArray, List.getElem_cons_zero, List.getElem_cons_succ, List.setIfInBounds_toArray, List.set_cons_zero, List.set_cons_succ]
                  clear hq q0 q1 q2 f0 f1 f2
                  have hF := HS16.out.stored (s := s) (u := u)
                  refine wpAnyH_done (by kernel_rfl) ?_ _
                  have hbz := hF.1
                  have hlz := hF.2.1
                  have hoz := hF.2.2
                  clear hF hHeld
                  generalize (((x16.setCell ⟨x4.heap.size, 0, none⟩ (Value.int IntKind.i64 s)).setCell ⟨x4.heap.size, 1, none⟩ (Value.int IntKind.i64 u)).setCell ⟨x4.heap.size, 2, none⟩ (Value.slice ov YS.length cv)) = xz at hbz hlz hoz ⊢
                  generalize x4.heap.size = bk at hbz hlz hoz ⊢
                  have BZ := hide (B2.out.trans (hbz.mono B2.out.size))
                  have RZ := hide ((hbz.block _ (blk_lt R2.out)).trans R2.out)
                  have LZ := hide hlz
                  obtain ⟨_, _, he, hatz⟩ := entsAt_own hoz
                  cases he
                  have HAZ := hide hatz
                  have HOZ := hide hoz
                  obtain ⟨c0, c1, c2⟩ := LZ.out
                  clear hbz hlz hoz hatz
                  go_wp2_with fail
                  refine (specLogOk_any s u _ _ _ YS _ HAZ.out HYW.out).mono ?_
                  rintro r x8 ⟨rfl, hb8⟩
                  have B8 := hide (BZ.out.trans (hb8.mono BZ.out.size))
                  have R8 := hide ((hb8.block _ (blk_lt RZ.out)).trans RZ.out)
                  obtain ⟨d0, d1, d2⟩ := LZ.out.on hb8
                  have HO8 := hide (own_base (own_below HOZ.out hb8) (base' := w.heap.size + 1 + 1 + 1) (by omega))
                  have r0 := blk_cell R8.out 0 rfl
                  have r1 := blk_cell R8.out 1 rfl
                  have r2 := blk_cell R8.out 2 rfl
                  have t0 := blk_free R8.out 0
                  have t1 := blk_free R8.out 1
                  have t2 := blk_free R8.out 2
                  clear hb8 c0 c1 c2 LZ HAZ HOZ
                  cases hy : lgOk s u YS with
                  | false =>
                    have HPR := hide (show putR s u es (s + 1 + k) e = (0, 0, [], false) by rw [putR, if_neg]; rw [HPO.out, hy]; simp)
                    clear hy
                    go_wp2_with fail
                    refine bodyPost_ret (v := .tuple #[lgv 0 0 (.slice none 0 0), .bool false]) (by simp [results, Tryz.results66, go_sem, r0, r1, r2, t0, t1, t2]) rfl ?_
                    rw [HPR.out]
                    refine ⟨_, rfl, World.ownsRow_nil _ _ _ _, ?_⟩
                    repeat (refine Below.setCell ?_ (by simp <;> omega) _)
                    exact B8.out
                  | true =>
                    have HPR := hide (show putR s u es (s + 1 + k) e = (s, u, YS, true) by rw [putR, if_pos (by rw [HPO.out, hy]), HPL.out])
                    clear hy
                    go_wp2_with fail
                    refine bodyPost_ret (v := .tuple #[lgv s u (.slice ov YS.length cv), .bool true]) (by simp [results, Tryz.results66, go_sem, r0, r1, r2, t0, t1, t2]) rfl ?_
                    rw [HPR.out]
                    refine ⟨_, rfl, ?_, ?_⟩
                    · refine own_base (base := w.heap.size + 1 + 1 + 1) ?_ (by omega)
                      repeat (refine own_setCell ?_ (by simp <;> omega) _)
                      exact HO8.out
                    · repeat (refine Below.setCell ?_ (by simp <;> omega) _)
                      exact B8.out
                exact AllReadyH.nil
              exact AllReadyH.nil
            exact AllReadyH.nil
          refine AllReadyH.cons rfl (fun K hK => ?_) ?_
          · have HS15 := hide HS18.out.alloc15
            rw [if_pos (by rfl)]
            go_simp
            refine hK.out _ _ ?_ (fun hHeld => ?_)
            · exact HPS.out.of HS15.out.bel
            clear hK K
            try simp only [Act.put, List.getElem_toArray, List.getElem_cons_zero, List.getElem_cons_succ, List.setIfInBounds_toArray, List.set_cons_zero, List.set_cons_succ]
            generalize x18.alloc (Obj.cells #[Value.int IntKind.i64 e.term, Value.int IntKind.i64 e.kind, Value.string e.data] 111) = x15 at HS15 hHeld ⊢
            refine wpAnyH_ready (rs := [13]) (by kernel_rfl) (by simp) ?_
            refine AllReadyH.cons rfl (fun K hK => ?_) ?_
            · have A13 := ((HAT.out.below (B2.out.trans (HS15.out.bel.mono B2.out.size))).piece 0 k cap (Nat.zero_le _) hkn (Nat.le_trans hkn HRM.out) (Nat.le_refl _))
              rw [List.drop_zero, ← HXS.out] at A13
              rw [if_pos (by rfl)]
              refine wp_append_piece _ _ rfl _ (HS15.out.h4 _ rfl).2 rfl (partA oa 0 cap) k cap XS rfl A13 (by omega) w2.heap.size (HS15.out.h4 _ rfl).1 ?_
              clear A13
              intro v13 x13 ho13 hg13
              rw [← HXL.out] at ho13
              have HS13 := hide (HS15.out.grow13 ho13 hg13)
              clear ho13 hg13
              try go_simp
              refine hK.out _ _ ?_ (fun hHeld => ?_)
              · exact HPS.out.of HS13.out.bel
              clear hK K
              try simp only [Act.put, List.getElem_toArray, List.getElem_cons_zero, List.getElem_cons_succ, List.setIfInBounds_toArray, List.set_cons_zero, List.set_cons_succ]
              refine wpAnyH_ready (rs := [16]) (by kernel_rfl) (by simp) ?_
              refine AllReadyH.cons rfl (fun K hK => ?_) ?_
              · rw [if_pos (by rfl)]
                refine wp_append_entry _ _ rfl w2.heap.size _ XS.length XS rfl (HS13.out.h13 _ rfl) (by rw [HXL.out]; omega) HS13.out.bel.size _ _ e rfl (HS13.out.h15 _ rfl) ?_
                intro v16 x16 ho16 hg16
                rw [← HYS.out, ← HYL.out] at ho16
                have HS16 := hide (HS13.out.grow16 ho16 hg16)
                obtain ⟨ov, cv, rfl⟩ := own_form3 ho16
                clear ho16 hg16
                try go_simp
                refine hK.out _ _ ?_ (fun hHeld => ?_)
                · exact HPS.out.of HS16.out.bel
                clear hK K
                try simp only [Act.put, List.getElem_toArray, List.getElem_cons_zero, List.getElem_cons_succ, List.setIfInBounds_toArray, List.set_cons_zero, List.set_cons_succ]
                refine wpAnyH_take (i := 17) (v := ?_) rfl (by kernel_rfl) (by kernel_rfl) (by kernel_rfl) (fun _ _ _ h => h) (Or.inl ⟨by rfl, ?_⟩) (by assumption) ?_; rotate_left
                · (intro wz hSw; obtain ⟨z0, z1, z2, z3, z4, z5⟩ := PutS.cells hSw; clear hSw; go_simp; first | done | with_reducible rfl)
                try simp only [Act.put, List.getElem_toArray, List.getElem_cons_zero, List.getElem_cons_succ, List.setIfInBounds_toArray, List.set_cons_zero, List.set_cons_succ]
                refine wpAnyH_ready (rs := [19]) (by kernel_rfl) (by simp) ?_
                refine AllReadyH.cons rfl (fun K hK => ?_) ?_
                · have hq := (HS16.out.h18 _ rfl).2
                  have q0 := blk_cell hq 0 rfl
                  have q1 := blk_cell hq 1 rfl
                  have q2 := blk_cell hq 2 rfl
                  have f0 := blk_free hq 0
                  have f1 := blk_free hq 1
                  have f2 := blk_free hq 2
                  simp only [List.getElem_toArray, List.getElem_cons_zero, List.getElem_cons_succ] at q0 q1 q2
                  rw [if_pos (by rfl)]
                  go_simp
                  refine hK.out _ _ ?_ (fun hHeld => ?_)
                  · exact HPS.out.of (HS16.out.stored (s := s) (u := u)).1
                  clear hK K
                  try simp only [Act.put, List.getElem_toArray, List.getElem_cons_zero, List.getElem_cons_succ, List.setIfInBounds_toArray, List.set_cons_zero, List.set_cons_succ]
                  clear hq q0 q1 q2 f0 f1 f2
                  have hF := HS16.out.stored (s := s) (u := u)
                  refine wpAnyH_done (by kernel_rfl) ?_ _
                  have hbz := hF.1
                  have hlz := hF.2.1
                  have hoz := hF.2.2
                  clear hF hHeld
                  generalize (((x16.setCell ⟨x4.heap.size, 0, none⟩ (Value.int IntKind.i64 s)).setCell ⟨x4.heap.size, 1, none⟩ (Value.int IntKind.i64 u)).setCell ⟨x4.heap.size, 2, none⟩ (Value.slice ov YS.length cv)) = xz at hbz hlz hoz ⊢
                  generalize x4.heap.size = bk at hbz hlz hoz ⊢
                  have BZ := hide (B2.out.trans (hbz.mono B2.out.size))
                  have RZ := hide ((hbz.block _ (blk_lt R2.out)).trans R2.out)
                  have LZ := hide hlz
                  obtain ⟨_, _, he, hatz⟩ := entsAt_own hoz
                  cases he
                  have HAZ := hide hatz
                  have HOZ := hide hoz
                  obtain ⟨c0, c1, c2⟩ := LZ.out
                  clear hbz hlz hoz hatz
                  go_wp2_with fail
                  refine (specLogOk_any s u _ _ _ YS _ HAZ.out HYW.out).mono ?_
                  rintro r x8 ⟨rfl, hb8⟩
                  have B8 := hide (BZ.out.trans (hb8.mono BZ.out.size))
                  have R8 := hide ((hb8.block _ (blk_lt RZ.out)).trans RZ.out)
                  obtain ⟨d0, d1, d2⟩ := LZ.out.on hb8
                  have HO8 := hide (own_base (own_below HOZ.out hb8) (base' := w.heap.size + 1 + 1 + 1) (by omega))
                  have r0 := blk_cell R8.out 0 rfl
                  have r1 := blk_cell R8.out 1 rfl
                  have r2 := blk_cell R8.out 2 rfl
                  have t0 := blk_free R8.out 0
                  have t1 := blk_free R8.out 1
                  have t2 := blk_free R8.out 2
                  clear hb8 c0 c1 c2 LZ HAZ HOZ
                  cases hy : lgOk s u YS with
                  | false =>
                    have HPR := hide (show putR s u es (s + 1 + k) e = (0, 0, [], false) by rw [putR, if_neg]; rw [HPO.out, hy]; simp)
                    clear hy
                    go_wp2_with fail
                    refine bodyPost_ret (v := .tuple #[lgv 0 0 (.slice none 0 0), .bool false]) (by simp [results, Tryz.results66, go_sem, r0, r1, r2, t0, t1, t2]) rfl ?_
                    rw [HPR.out]
                    refine ⟨_, rfl, World.ownsRow_nil _ _ _ _, ?_⟩
                    repeat (refine Below.setCell ?_ (by simp <;> omega) _)
                    exact B8.out
                  | true =>
                    have HPR := hide (show putR s u es (s + 1 + k) e = (s, u, YS, true) by rw [putR, if_pos (by rw [HPO.out, hy]), HPL.out])
                    clear hy
                    go_wp2_with fail
                    refine bodyPost_ret (v := .tuple #[lgv s u (.slice ov YS.length cv), .bool true]) (by simp [results, Tryz.results66, go_sem, r0, r1, r2, t0, t1, t2]) rfl ?_
                    rw [HPR.out]
                    refine ⟨_, rfl, ?_, ?_⟩
                    · refine own_base (base := w.heap.size + 1 + 1 + 1) ?_ (by omega)
                      repeat (refine own_setCell ?_ (by simp <;> omega) _)
                      exact HO8.out
                    · repeat (refine Below.setCell ?_ (by simp <;> omega) _)
                      exact B8.out
                exact AllReadyH.nil
              exact AllReadyH.nil
            exact AllReadyH.nil
          exact AllReadyH.nil
        exact AllReadyH.nil
      refine AllReadyH.cons rfl (fun K hK => ?_) ?_
      · have HS15 := hide HSs.out.alloc15
        rw [if_pos (by rfl)]
        go_simp
        refine hK.out _ _ ?_ (fun hHeld => ?_)
        · exact HPS.out.of HS15.out.bel
        clear hK K
        try simp only [Act.put, List.getElem_toArray, List.getElem_cons_zero, List.getElem_cons_succ, List.setIfInBounds_toArray, List.set_cons_zero, List.set_cons_succ]
        generalize xs.alloc (Obj.cells #[Value.int IntKind.i64 e.term, Value.int IntKind.i64 e.kind, Value.string e.data] 111) = x15 at HS15 hHeld ⊢
        refine wpAnyH_ready (rs := [4, 18]) (by kernel_rfl) (by simp) ?_
        refine AllReadyH.cons rfl (fun K hK => ?_) ?_
        · have HS4 := hide HS15.out.alloc4
          rw [if_pos (by rfl)]
          go_simp
          refine hK.out _ _ ?_ (fun hHeld => ?_)
          · exact HPS.out.of HS4.out.bel
          clear hK K
          try simp only [Act.put, List.getElem_toArray, List.getElem_cons_zero, List.getElem_cons_succ, List.setIfInBounds_toArray, List.set_cons_zero, List.set_cons_succ]
          generalize x15.alloc (Obj.cells #[] 111) = x4 at HS4 hHeld ⊢
          refine wpAnyH_ready (rs := [13, 18]) (by kernel_rfl) (by simp) ?_
          refine AllReadyH.cons rfl (fun K hK => ?_) ?_
          · have A13 := ((HAT.out.below (B2.out.trans (HS4.out.bel.mono B2.out.size))).piece 0 k cap (Nat.zero_le _) hkn (Nat.le_trans hkn HRM.out) (Nat.le_refl _))
            rw [List.drop_zero, ← HXS.out] at A13
            rw [if_pos (by rfl)]
            refine wp_append_piece _ _ rfl _ (HS4.out.h4 _ rfl).2 rfl (partA oa 0 cap) k cap XS rfl A13 (by omega) w2.heap.size (HS4.out.h4 _ rfl).1 ?_
            clear A13
            intro v13 x13 ho13 hg13
            rw [← HXL.out] at ho13
            have HS13 := hide (HS4.out.grow13 ho13 hg13)
            clear ho13 hg13
            try go_simp
            refine hK.out _ _ ?_ (fun hHeld => ?_)
            · exact HPS.out.of HS13.out.bel
            clear hK K
            try simp only [Act.put, List.getElem_toArray, List.getElem_cons_zero, List.getElem_cons_succ, List.setIfInBounds_toArray, List.set_cons_zero, List.set_cons_succ]
            refine wpAnyH_ready (rs := [16, 18]) (by kernel_rfl) (by simp) ?_
            refine AllReadyH.cons rfl (fun K hK => ?_) ?_
            · rw [if_pos (by rfl)]
              refine wp_append_entry _ _ rfl w2.heap.size _ XS.length XS rfl (HS13.out.h13 _ rfl) (by rw [HXL.out]; omega) HS13.out.bel.size _ _ e rfl (HS13.out.h15 _ rfl) ?_
              intro v16 x16 ho16 hg16
              rw [← HYS.out, ← HYL.out] at ho16
              have HS16 := hide (HS13.out.grow16 ho16 hg16)
              obtain ⟨ov, cv, rfl⟩ := own_form3 ho16
              clear ho16 hg16
              try go_simp
              refine hK.out _ _ ?_ (fun hHeld => ?_)
              · exact HPS.out.of HS16.out.bel
              clear hK K
              try simp only [Act.put, List.getElem_toArray, List.getElem_cons_zero, List.getElem_cons_succ, List.setIfInBounds_toArray, List.set_cons_zero, List.set_cons_succ]
              refine wpAnyH_take (i := 17) (v := ?_) rfl (by kernel_rfl) (by kernel_rfl) (by kernel_rfl) (fun _ _ _ h => h) (Or.inl ⟨by rfl, ?_⟩) (by assumption) ?_; rotate_left
              · (intro wz hSw; obtain ⟨z0, z1, z2, z3, z4, z5⟩ := PutS.cells hSw; clear hSw; go_simp; first | done | with_reducible rfl)
              try simp only [Act.put, List.getElem_toArray, List.getElem_cons_zero, List.getElem_cons_succ, List.setIfInBounds_toArray, List.set_cons_zero, List.set_cons_succ]
              refine wpAnyH_ready (rs := [18]) (by kernel_rfl) (by simp) ?_
              refine AllReadyH.cons rfl (fun K hK => ?_) ?_
              · have HS18 := hide HS16.out.alloc18
                rw [if_pos (by rfl)]
                go_simp
                refine hK.out _ _ ?_ (fun hHeld => ?_)
                · exact HPS.out.of HS18.out.bel
                clear hK K
                try simp only [Act.put, List.getElem_toArray, List.getElem_cons_zero, List.getElem_cons_succ, List.setIfInBounds_toArray, List.set_cons_zero, List.set_cons_succ]
                generalize x16.alloc (Obj.cells #[Value.int IntKind.i64 0, Value.int IntKind.i64 0, Value.slice none 0 0] 28) = x18 at HS18 hHeld ⊢
                refine wpAnyH_ready (rs := [19]) (by kernel_rfl) (by simp) ?_
                refine AllReadyH.cons rfl (fun K hK => ?_) ?_
                · have hq := (HS18.out.h18 _ rfl).2
                  have q0 := blk_cell hq 0 rfl
                  have q1 := blk_cell hq 1 rfl
                  have q2 := blk_cell hq 2 rfl
                  have f0 := blk_free hq 0
                  have f1 := blk_free hq 1
                  have f2 := blk_free hq 2
                  simp only [List.getElem_toArray, List.getElem_cons_zero, List.getElem_cons_succ] at q0 q1 q2
                  rw [if_pos (by rfl)]
                  go_simp
                  refine hK.out _ _ ?_ (fun hHeld => ?_)
                  · exact HPS.out.of (HS18.out.stored (s := s) (u := u)).1
                  clear hK K
                  try simp only [Act.put, List.getElem_toArray, List.getElem_cons_zero, List.getElem_cons_succ, List.setIfInBounds_toArray, List.set_cons_zero, List.set_cons_succ]
                  clear hq q0 q1 q2 f0 f1 f2
                  have hF := HS18.out.stored (s := s) (u := u)
                  refine wpAnyH_done (by kernel_rfl) ?_ _
                  have hbz := hF.1
                  have hlz := hF.2.1
                  have hoz := hF.2.2
                  clear hF hHeld
                  generalize (((x18.setCell ⟨x16.heap.size, 0, none⟩ (Value.int IntKind.i64 s)).setCell ⟨x16.heap.size, 1, none⟩ (Value.int IntKind.i64 u)).setCell ⟨x16.heap.size, 2, none⟩ (Value.slice ov YS.length cv)) = xz at hbz hlz hoz ⊢
                  generalize x16.heap.size = bk at hbz hlz hoz ⊢
                  have BZ := hide (B2.out.trans (hbz.mono B2.out.size))
                  have RZ := hide ((hbz.block _ (blk_lt R2.out)).trans R2.out)
                  have LZ := hide hlz
                  obtain ⟨_, _, he, hatz⟩ := entsAt_own hoz
                  cases he
                  have HAZ := hide hatz
                  have HOZ := hide hoz
                  obtain ⟨c0, c1, c2⟩ := LZ.out
                  clear hbz hlz hoz hatz
                  go_wp2_with fail
                  refine (specLogOk_any s u _ _ _ YS _ HAZ.out HYW.out).mono ?_
                  rintro r x8 ⟨rfl, hb8⟩
                  have B8 := hide (BZ.out.trans (hb8.mono BZ.out.size))
                  have R8 := hide ((hb8.block _ (blk_lt RZ.out)).trans RZ.out)
                  obtain ⟨d0, d1, d2⟩ := LZ.out.on hb8
                  have HO8 := hide (own_base (own_below HOZ.out hb8) (base' := w.heap.size + 1 + 1 + 1) (by omega))
                  have r0 := blk_cell R8.out 0 rfl
                  have r1 := blk_cell R8.out 1 rfl
                  have r2 := blk_cell R8.out 2 rfl
                  have t0 := blk_free R8.out 0
                  have t1 := blk_free R8.out 1
                  have t2 := blk_free R8.out 2
                  clear hb8 c0 c1 c2 LZ HAZ HOZ
                  cases hy : lgOk s u YS with
                  | false =>
                    have HPR := hide (show putR s u es (s + 1 + k) e = (0, 0, [], false) by rw [putR, if_neg]; rw [HPO.out, hy]; simp)
                    clear hy
                    go_wp2_with fail
                    refine bodyPost_ret (v := .tuple #[lgv 0 0 (.slice none 0 0), .bool false]) (by simp [results, Tryz.results66, go_sem, r0, r1, r2, t0, t1, t2]) rfl ?_
                    rw [HPR.out]
                    refine ⟨_, rfl, World.ownsRow_nil _ _ _ _, ?_⟩
                    repeat (refine Below.setCell ?_ (by simp <;> omega) _)
                    exact B8.out
                  | true =>
                    have HPR := hide (show putR s u es (s + 1 + k) e = (s, u, YS, true) by rw [putR, if_pos (by rw [HPO.out, hy]), HPL.out])
                    clear hy
                    go_wp2_with fail
                    refine bodyPost_ret (v := .tuple #[lgv s u (.slice ov YS.length cv), .bool true]) (by simp [results, Tryz.results66, go_sem, r0, r1, r2, t0, t1, t2]) rfl ?_
                    rw [HPR.out]
                    refine ⟨_, rfl, ?_, ?_⟩
                    · refine own_base (base := w.heap.size + 1 + 1 + 1) ?_ (by omega)
                      repeat (refine own_setCell ?_ (by simp <;> omega) _)
                      exact HO8.out
                    · repeat (refine Below.setCell ?_ (by simp <;> omega) _)
                      exact B8.out
                exact AllReadyH.nil
              exact AllReadyH.nil
            refine AllReadyH.cons rfl (fun K hK => ?_) ?_
            · have HS18 := hide HS13.out.alloc18
              rw [if_pos (by rfl)]
              go_simp
              refine hK.out _ _ ?_ (fun hHeld => ?_)
              · exact HPS.out.of HS18.out.bel
              clear hK K
              try simp only [Act.put, List.getElem_toArray, List.getElem_cons_zero, List.getElem_cons_succ, List.setIfInBounds_toArray, List.set_cons_zero, List.set_cons_succ]
              generalize x13.alloc (Obj.cells #[Value.int IntKind.i64 0, Value.int IntKind.i64 0, Value.slice none 0 0] 28) = x18 at HS18 hHeld ⊢
              refine wpAnyH_ready (rs := [16]) (by kernel_rfl) (by simp) ?_
              refine AllReadyH.cons rfl (fun K hK => ?_) ?_
              · rw [if_pos (by rfl)]
                refine wp_append_entry _ _ rfl w2.heap.size _ XS.length XS rfl (HS18.out.h13 _ rfl) (by rw [HXL.out]; omega) HS18.out.bel.size _ _ e rfl (HS18.out.h15 _ rfl) ?_
                intro v16 x16 ho16 hg16
                rw [← HYS.out, ← HYL.out] at ho16
                have HS16 := hide (HS18.out.grow16 ho16 hg16)
                obtain ⟨ov, cv, rfl⟩ := own_form3 ho16
                clear ho16 hg16
                try go_simp
                refine hK.out _ _ ?_ (fun hHeld => ?_)
                · exact HPS.out.of HS16.out.bel
                clear hK K
                try simp only [Act.put, List.getElem_toArray, List.getElem_cons_zero, List.getElem_cons_succ, List.setIfInBounds_toArray, List.set_cons_zero, List.set_cons_succ]
                refine wpAnyH_take (i := 17) (v := ?_) rfl (by kernel_rfl) (by kernel_rfl) (by kernel_rfl) (fun _ _ _ h => h) (Or.inl ⟨by rfl, ?_⟩) (by assumption) ?_; rotate_left
                · (intro wz hSw; obtain ⟨z0, z1, z2, z3, z4, z5⟩ := PutS.cells hSw; clear hSw; go_simp; first | done | with_reducible rfl)
                try simp only [Act.put, List.getElem_toArray, List.getElem_cons_zero, List.getElem_cons_succ, List.setIfInBounds_toArray, List.set_cons_zero, List.set_cons_succ]
                refine wpAnyH_ready (rs := [19]) (by kernel_rfl) (by simp) ?_
                refine AllReadyH.cons rfl (fun K hK => ?_) ?_
                · have hq := (HS16.out.h18 _ rfl).2
                  have q0 := blk_cell hq 0 rfl
                  have q1 := blk_cell hq 1 rfl
                  have q2 := blk_cell hq 2 rfl
                  have f0 := blk_free hq 0
                  have f1 := blk_free hq 1
                  have f2 := blk_free hq 2
                  simp only [List.getElem_toArray, List.getElem_cons_zero, List.getElem_cons_succ] at q0 q1 q2
                  rw [if_pos (by rfl)]
                  go_simp
                  refine hK.out _ _ ?_ (fun hHeld => ?_)
                  · exact HPS.out.of (HS16.out.stored (s := s) (u := u)).1
                  clear hK K
                  try simp only [Act.put, List.getElem_toArray, List.getElem_cons_zero, List.getElem_cons_succ, List.setIfInBounds_toArray, List.set_cons_zero, List.set_cons_succ]
                  clear hq q0 q1 q2 f0 f1 f2
                  have hF := HS16.out.stored (s := s) (u := u)
                  refine wpAnyH_done (by kernel_rfl) ?_ _
                  have hbz := hF.1
                  have hlz := hF.2.1
                  have hoz := hF.2.2
                  clear hF hHeld
                  generalize (((x16.setCell ⟨x13.heap.size, 0, none⟩ (Value.int IntKind.i64 s)).setCell ⟨x13.heap.size, 1, none⟩ (Value.int IntKind.i64 u)).setCell ⟨x13.heap.size, 2, none⟩ (Value.slice ov YS.length cv)) = xz at hbz hlz hoz ⊢
                  generalize x13.heap.size = bk at hbz hlz hoz ⊢
                  have BZ := hide (B2.out.trans (hbz.mono B2.out.size))
                  have RZ := hide ((hbz.block _ (blk_lt R2.out)).trans R2.out)
                  have LZ := hide hlz
                  obtain ⟨_, _, he, hatz⟩ := entsAt_own hoz
                  cases he
                  have HAZ := hide hatz
                  have HOZ := hide hoz
                  obtain ⟨c0, c1, c2⟩ := LZ.out
                  clear hbz hlz hoz hatz
                  go_wp2_with fail
                  refine (specLogOk_any s u _ _ _ YS _ HAZ.out HYW.out).mono ?_
                  rintro r x8 ⟨rfl, hb8⟩
                  have B8 := hide (BZ.out.trans (hb8.mono BZ.out.size))
                  have R8 := hide ((hb8.block _ (blk_lt RZ.out)).trans RZ.out)
                  obtain ⟨d0, d1, d2⟩ := LZ.out.on hb8
                  have HO8 := hide (own_base (own_below HOZ.out hb8) (base' := w.heap.size + 1 + 1 + 1) (by omega))
                  have r0 := blk_cell R8.out 0 rfl
                  have r1 := blk_cell R8.out 1 rfl
                  have r2 := blk_cell R8.out 2 rfl
                  have t0 := blk_free R8.out 0
                  have t1 := blk_free R8.out 1
                  have t2 := blk_free R8.out 2
                  clear hb8 c0 c1 c2 LZ HAZ HOZ
                  cases hy : lgOk s u YS with
                  | false =>
                    have HPR := hide (show putR s u es (s + 1 + k) e = (0, 0, [], false) by rw [putR, if_neg]; rw [HPO.out, hy]; simp)
                    clear hy
                    go_wp2_with fail
                    refine bodyPost_ret (v := .tuple #[lgv 0 0 (.slice none 0 0), .bool false]) (by simp [results, Tryz.results66, go_sem, r0, r1, r2, t0, t1, t2]) rfl ?_
                    rw [HPR.out]
                    refine ⟨_, rfl, World.ownsRow_nil _ _ _ _, ?_⟩
                    repeat (refine Below.setCell ?_ (by simp <;> omega) _)
                    exact B8.out
                  | true =>
                    have HPR := hide (show putR s u es (s + 1 + k) e = (s, u, YS, true) by rw [putR, if_pos (by rw [HPO.out, hy]), HPL.out])
                    clear hy
                    go_wp2_with fail
                    refine bodyPost_ret (v := .tuple #[lgv s u (.slice ov YS.length cv), .bool true]) (by simp [results, Tryz.results66, go_sem, r0, r1, r2, t0, t1, t2]) rfl ?_
                    rw [HPR.out]
                    refine ⟨_, rfl, ?_, ?_⟩
                    · refine own_base (base := w.heap.size + 1 + 1 + 1) ?_ (by omega)
                      repeat (refine own_setCell ?_ (by simp <;> omega) _)
                      exact HO8.out
                    · repeat (refine Below.setCell ?_ (by simp <;> omega) _)
                      exact B8.out
                exact AllReadyH.nil
              exact AllReadyH.nil
            exact AllReadyH.nil
          refine AllReadyH.cons rfl (fun K hK => ?_) ?_
          · have HS18 := hide HS4.out.alloc18
            rw [if_pos (by rfl)]
            go_simp
            refine hK.out _ _ ?_ (fun hHeld => ?_)
            · exact HPS.out.of HS18.out.bel
            clear hK K
            try simp only [Act.put, List.getElem_toArray, List.getElem_cons_zero, List.getElem_cons_succ, List.setIfInBounds_toArray, List.set_cons_zero, List.set_cons_succ]
            generalize x4.alloc (Obj.cells #[Value.int IntKind.i64 0, Value.int IntKind.i64 0, Value.slice none 0 0] 28) = x18 at HS18 hHeld ⊢
            refine wpAnyH_ready (rs := [13]) (by kernel_rfl) (by simp) ?_
            refine AllReadyH.cons rfl (fun K hK => ?_) ?_
            · have A13 := ((HAT.out.below (B2.out.trans (HS18.out.bel.mono B2.out.size))).piece 0 k cap (Nat.zero_le _) hkn (Nat.le_trans hkn HRM.out) (Nat.le_refl _))
              rw [List.drop_zero, ← HXS.out] at A13
              rw [if_pos (by rfl)]
              refine wp_append_piece _ _ rfl _ (HS18.out.h4 _ rfl).2 rfl (partA oa 0 cap) k cap XS rfl A13 (by omega) w2.heap.size (HS18.out.h4 _ rfl).1 ?_
              clear A13
              intro v13 x13 ho13 hg13
              rw [← HXL.out] at ho13
              have HS13 := hide (HS18.out.grow13 ho13 hg13)
              clear ho13 hg13
              try go_simp
              refine hK.out _ _ ?_ (fun hHeld => ?_)
              · exact HPS.out.of HS13.out.bel
              clear hK K
              try simp only [Act.put, List.getElem_toArray, List.getElem_cons_zero, List.getElem_cons_succ, List.setIfInBounds_toArray, List.set_cons_zero, List.set_cons_succ]
              refine wpAnyH_ready (rs := [16]) (by kernel_rfl) (by simp) ?_
              refine AllReadyH.cons rfl (fun K hK => ?_) ?_
              · rw [if_pos (by rfl)]
                refine wp_append_entry _ _ rfl w2.heap.size _ XS.length XS rfl (HS13.out.h13 _ rfl) (by rw [HXL.out]; omega) HS13.out.bel.size _ _ e rfl (HS13.out.h15 _ rfl) ?_
                intro v16 x16 ho16 hg16
                rw [← HYS.out, ← HYL.out] at ho16
                have HS16 := hide (HS13.out.grow16 ho16 hg16)
                obtain ⟨ov, cv, rfl⟩ := own_form3 ho16
                clear ho16 hg16
                try go_simp
                refine hK.out _ _ ?_ (fun hHeld => ?_)
                · exact HPS.out.of HS16.out.bel
                clear hK K
                try simp only [Act.put, List.getElem_toArray, List.getElem_cons_zero, List.getElem_cons_succ, List.setIfInBounds_toArray, List.set_cons_zero, List.set_cons_succ]
                refine wpAnyH_take (i := 17) (v := ?_) rfl (by kernel_rfl) (by kernel_rfl) (by kernel_rfl) (fun _ _ _ h => h) (Or.inl ⟨by rfl, ?_⟩) (by assumption) ?_; rotate_left
                · (intro wz hSw; obtain ⟨z0, z1, z2, z3, z4, z5⟩ := PutS.cells hSw; clear hSw; go_simp; first | done | with_reducible rfl)
                try simp only [Act.put, List.getElem_toArray, List.getElem_cons_zero, List.getElem_cons_succ, List.setIfInBounds_toArray, List.set_cons_zero, List.set_cons_succ]
                refine wpAnyH_ready (rs := [19]) (by kernel_rfl) (by simp) ?_
                refine AllReadyH.cons rfl (fun K hK => ?_) ?_
                · have hq := (HS16.out.h18 _ rfl).2
                  have q0 := blk_cell hq 0 rfl
                  have q1 := blk_cell hq 1 rfl
                  have q2 := blk_cell hq 2 rfl
                  have f0 := blk_free hq 0
                  have f1 := blk_free hq 1
                  have f2 := blk_free hq 2
                  simp only [List.getElem_toArray, List.getElem_cons_zero, List.getElem_cons_succ] at q0 q1 q2
                  rw [if_pos (by rfl)]
                  go_simp
                  refine hK.out _ _ ?_ (fun hHeld => ?_)
                  · exact HPS.out.of (HS16.out.stored (s := s) (u := u)).1
                  clear hK K
                  try simp only [Act.put, List.getElem_toArray, List.getElem_cons_zero, List.getElem_cons_succ, List.setIfInBounds_toArray, List.set_cons_zero, List.set_cons_succ]
                  clear hq q0 q1 q2 f0 f1 f2
                  have hF := HS16.out.stored (s := s) (u := u)
                  refine wpAnyH_done (by kernel_rfl) ?_ _
                  have hbz := hF.1
                  have hlz := hF.2.1
                  have hoz := hF.2.2
                  clear hF hHeld
                  generalize (((x16.setCell ⟨x4.heap.size, 0, none⟩ (Value.int IntKind.i64 s)).setCell ⟨x4.heap.size, 1, none⟩ (Value.int IntKind.i64 u)).setCell ⟨x4.heap.size, 2, none⟩ (Value.slice ov YS.length cv)) = xz at hbz hlz hoz ⊢
                  generalize x4.heap.size = bk at hbz hlz hoz ⊢
                  have BZ := hide (B2.out.trans (hbz.mono B2.out.size))
                  have RZ := hide ((hbz.block _ (blk_lt R2.out)).trans R2.out)
                  have LZ := hide hlz
                  obtain ⟨_, _, he, hatz⟩ := entsAt_own hoz
                  cases he
                  have HAZ := hide hatz
                  have HOZ := hide hoz
                  obtain ⟨c0, c1, c2⟩ := LZ.out
                  clear hbz hlz hoz hatz
                  go_wp2_with fail
                  refine (specLogOk_any s u _ _ _ YS _ HAZ.out HYW.out).mono ?_
                  rintro r x8 ⟨rfl, hb8⟩
                  have B8 := hide (BZ.out.trans (hb8.mono BZ.out.size))
                  have R8 := hide ((hb8.block _ (blk_lt RZ.out)).trans RZ.out)
                  obtain ⟨d0, d1, d2⟩ := LZ.out.on hb8
                  have HO8 := hide (own_base (own_below HOZ.out hb8) (base' := w.heap.size + 1 + 1 + 1) (by omega))
                  have r0 := blk_cell R8.out 0 rfl
                  have r1 := blk_cell R8.out 1 rfl
                  have r2 := blk_cell R8.out 2 rfl
                  have t0 := blk_free R8.out 0
                  have t1 := blk_free R8.out 1
                  have t2 := blk_free R8.out 2
                  clear hb8 c0 c1 c2 LZ HAZ HOZ
                  cases hy : lgOk s u YS with
                  | false =>
                    have HPR := hide (show putR s u es (s + 1 + k) e = (0, 0, [], false) by rw [putR, if_neg]; rw [HPO.out, hy]; simp)
                    clear hy
                    go_wp2_with fail
                    refine bodyPost_ret (v := .tuple #[lgv 0 0 (.slice none 0 0), .bool false]) (by simp [results, Tryz.results66, go_sem, r0, r1, r2, t0, t1, t2]) rfl ?_
                    rw [HPR.out]
                    refine ⟨_, rfl, World.ownsRow_nil _ _ _ _, ?_⟩
                    repeat (refine Below.setCell ?_ (by simp <;> omega) _)
                    exact B8.out
                  | true =>
                    have HPR := hide (show putR s u es (s + 1 + k) e = (s, u, YS, true) by rw [putR, if_pos (by rw [HPO.out, hy]), HPL.out])
                    clear hy
                    go_wp2_with fail
                    refine bodyPost_ret (v := .tuple #[lgv s u (.slice ov YS.length cv), .bool true]) (by simp [results, Tryz.results66, go_sem, r0, r1, r2, t0, t1, t2]) rfl ?_
                    rw [HPR.out]
                    refine ⟨_, rfl, ?_, ?_⟩
                    · refine own_base (base := w.heap.size + 1 + 1 + 1) ?_ (by omega)
                      repeat (refine own_setCell ?_ (by simp <;> omega) _)
                      exact HO8.out
                    · repeat (refine Below.setCell ?_ (by simp <;> omega) _)
                      exact B8.out
                exact AllReadyH.nil
              exact AllReadyH.nil
            exact AllReadyH.nil
          exact AllReadyH.nil
        refine AllReadyH.cons rfl (fun K hK => ?_) ?_
        · have HS18 := hide HS15.out.alloc18
          rw [if_pos (by rfl)]
          go_simp
          refine hK.out _ _ ?_ (fun hHeld => ?_)
          · exact HPS.out.of HS18.out.bel
          clear hK K
          try simp only [Act.put, List.getElem_toArray, List.getElem_cons_zero, List.getElem_cons_succ, List.setIfInBounds_toArray, List.set_cons_zero, List.set_cons_succ]
          generalize x15.alloc (Obj.cells #[Value.int IntKind.i64 0, Value.int IntKind.i64 0, Value.slice none 0 0] 28) = x18 at HS18 hHeld ⊢
          refine wpAnyH_ready (rs := [4]) (by kernel_rfl) (by simp) ?_
          refine AllReadyH.cons rfl (fun K hK => ?_) ?_
          · have HS4 := hide HS18.out.alloc4
            rw [if_pos (by rfl)]
            go_simp
            refine hK.out _ _ ?_ (fun hHeld => ?_)
            · exact HPS.out.of HS4.out.bel
            clear hK K
            try simp only [Act.put, List.getElem_toArray, List.getElem_cons_zero, List.getElem_cons_succ, List.setIfInBounds_toArray, List.set_cons_zero, List.set_cons_succ]
            generalize x18.alloc (Obj.cells #[] 111) = x4 at HS4 hHeld ⊢
            refine wpAnyH_ready (rs := [13]) (by kernel_rfl) (by simp) ?_
            refine AllReadyH.cons rfl (fun K hK => ?_) ?_
            · have A13 := ((HAT.out.below (B2.out.trans (HS4.out.bel.mono B2.out.size))).piece 0 k cap (Nat.zero_le _) hkn (Nat.le_trans hkn HRM.out) (Nat.le_refl _))
              rw [List.drop_zero, ← HXS.out] at A13
              rw [if_pos (by rfl)]
              refine wp_append_piece _ _ rfl _ (HS4.out.h4 _ rfl).2 rfl (partA oa 0 cap) k cap XS rfl A13 (by omega) w2.heap.size (HS4.out.h4 _ rfl).1 ?_
              clear A13
              intro v13 x13 ho13 hg13
              rw [← HXL.out] at ho13
              have HS13 := hide (HS4.out.grow13 ho13 hg13)
              clear ho13 hg13
              try go_simp
              refine hK.out _ _ ?_ (fun hHeld => ?_)
              · exact HPS.out.of HS13.out.bel
              clear hK K
              try simp only [Act.put, List.getElem_toArray, List.getElem_cons_zero, List.getElem_cons_succ, List.setIfInBounds_toArray, List.set_cons_zero, List.set_cons_succ]
              refine wpAnyH_ready (rs := [16]) (by kernel_rfl) (by simp) ?_
              refine AllReadyH.cons rfl (fun K hK => ?_) ?_
              · rw [if_pos (by rfl)]
                refine wp_append_entry _ _ rfl w2.heap.size _ XS.length XS rfl (HS13.out.h13 _ rfl) (by rw [HXL.out]; omega) HS13.out.bel.size _ _ e rfl (HS13.out.h15 _ rfl) ?_
                intro v16 x16 ho16 hg16
                rw [← HYS.out, ← HYL.out] at ho16
                have HS16 := hide (HS13.out.grow16 ho16 hg16)
                obtain ⟨ov, cv, rfl⟩ := own_form3 ho16
                clear ho16 hg16
                try go_simp
                refine hK.out _ _ ?_ (fun hHeld => ?_)
                · exact HPS.out.of HS16.out.bel
                clear hK K
                try simp only [Act.put, List.getElem_toArray, List.getElem_cons_zero, List.getElem_cons_succ, List.setIfInBounds_toArray, List.set_cons_zero, List.set_cons_succ]
                refine wpAnyH_take (i := 17) (v := ?_) rfl (by kernel_rfl) (by kernel_rfl) (by kernel_rfl) (fun _ _ _ h => h) (Or.inl ⟨by rfl, ?_⟩) (by assumption) ?_; rotate_left
                · (intro wz hSw; obtain ⟨z0, z1, z2, z3, z4, z5⟩ := PutS.cells hSw; clear hSw; go_simp; first | done | with_reducible rfl)
                try simp only [Act.put, List.getElem_toArray, List.getElem_cons_zero, List.getElem_cons_succ, List.setIfInBounds_toArray, List.set_cons_zero, List.set_cons_succ]
                refine wpAnyH_ready (rs := [19]) (by kernel_rfl) (by simp) ?_
                refine AllReadyH.cons rfl (fun K hK => ?_) ?_
                · have hq := (HS16.out.h18 _ rfl).2
                  have q0 := blk_cell hq 0 rfl
                  have q1 := blk_cell hq 1 rfl
                  have q2 := blk_cell hq 2 rfl
                  have f0 := blk_free hq 0
                  have f1 := blk_free hq 1
                  have f2 := blk_free hq 2
                  simp only [List.getElem_toArray, List.getElem_cons_zero, List.getElem_cons_succ] at q0 q1 q2
                  rw [if_pos (by rfl)]
                  go_simp
                  refine hK.out _ _ ?_ (fun hHeld => ?_)
                  · exact HPS.out.of (HS16.out.stored (s := s) (u := u)).1
                  clear hK K
                  try simp only [Act.put, List.getElem_toArray, List.getElem_cons_zero, List.getElem_cons_succ, List.setIfInBounds_toArray, List.set_cons_zero, List.set_cons_succ]
                  clear hq q0 q1 q2 f0 f1 f2
                  have hF := HS16.out.stored (s := s) (u := u)
                  refine wpAnyH_done (by kernel_rfl) ?_ _
                  have hbz := hF.1
                  have hlz := hF.2.1
                  have hoz := hF.2.2
                  clear hF hHeld
                  generalize (((x16.setCell ⟨x15.heap.size, 0, none⟩ (Value.int IntKind.i64 s)).setCell ⟨x15.heap.size, 1, none⟩ (Value.int IntKind.i64 u)).setCell ⟨x15.heap.size, 2, none⟩ (Value.slice ov YS.length cv)) = xz at hbz hlz hoz ⊢
                  generalize x15.heap.size = bk at hbz hlz hoz ⊢
                  have BZ := hide (B2.out.trans (hbz.mono B2.out.size))
                  have RZ := hide ((hbz.block _ (blk_lt R2.out)).trans R2.out)
                  have LZ := hide hlz
                  obtain ⟨_, _, he, hatz⟩ := entsAt_own hoz
                  cases he
                  have HAZ := hide hatz
                  have HOZ := hide hoz
                  obtain ⟨c0, c1, c2⟩ := LZ.out
                  clear hbz hlz hoz hatz
                  go_wp2_with fail
                  refine (specLogOk_any s u _ _ _ YS _ HAZ.out HYW.out).mono ?_
                  rintro r x8 ⟨rfl, hb8⟩
                  have B8 := hide (BZ.out.trans (hb8.mono BZ.out.size))
                  have R8 := hide ((hb8.block _ (blk_lt RZ.out)).trans RZ.out)
                  obtain ⟨d0, d1, d2⟩ := LZ.out.on hb8
                  have HO8 := hide (own_base (own_below HOZ.out hb8) (base' := w.heap.size + 1 + 1 + 1) (by omega))
                  have r0 := blk_cell R8.out 0 rfl
                  have r1 := blk_cell R8.out 1 rfl
                  have r2 := blk_cell R8.out 2 rfl
                  have t0 := blk_free R8.out 0
                  have t1 := blk_free R8.out 1
                  have t2 := blk_free R8.out 2
                  clear hb8 c0 c1 c2 LZ HAZ HOZ
                  cases hy : lgOk s u YS with
                  | false =>
                    have HPR := hide (show putR s u es (s + 1 + k) e = (0, 0, [], false) by rw [putR, if_neg]; rw [HPO.out, hy]; simp)
                    clear hy
                    go_wp2_with fail
                    refine bodyPost_ret (v := .tuple #[lgv 0 0 (.slice none 0 0), .bool false]) (by simp [results, Tryz.results66, go_sem, r0, r1, r2, t0, t1, t2]) rfl ?_
                    rw [HPR.out]
                    refine ⟨_, rfl, World.ownsRow_nil _ _ _ _, ?_⟩
                    repeat (refine Below.setCell ?_ (by simp <;> omega) _)
                    exact B8.out
                  | true =>
                    have HPR := hide (show putR s u es (s + 1 + k) e = (s, u, YS, true) by rw [putR, if_pos (by rw [HPO.out, hy]), HPL.out])
                    clear hy
                    go_wp2_with fail
                    refine bodyPost_ret (v := .tuple #[lgv s u (.slice ov YS.length cv), .bool true]) (by simp [results, Tryz.results66, go_sem, r0, r1, r2, t0, t1, t2]) rfl ?_
                    rw [HPR.out]
                    refine ⟨_, rfl, ?_, ?_⟩
                    · refine own_base (base := w.heap.size + 1 + 1 + 1) ?_ (by omega)
                      repeat (refine own_setCell ?_ (by simp <;> omega) _)
                      exact HO8.out
                    · repeat (refine Below.setCell ?_ (by simp <;> omega) _)
                      exact B8.out
                exact AllReadyH.nil
              exact AllReadyH.nil
            exact AllReadyH.nil
          exact AllReadyH.nil
        exact AllReadyH.nil
      refine AllReadyH.cons rfl (fun K hK => ?_) ?_
      · have HS18 := hide HSs.out.alloc18
        rw [if_pos (by rfl)]
        go_simp
        refine hK.out _ _ ?_ (fun hHeld => ?_)
        · exact HPS.out.of HS18.out.bel
        clear hK K
        try simp only [Act.put, List.getElem_toArray, List.getElem_cons_zero, List.getElem_cons_succ, List.setIfInBounds_toArray, List.set_cons_zero, List.set_cons_succ]
        generalize xs.alloc (Obj.cells #[Value.int IntKind.i64 0, Value.int IntKind.i64 0, Value.slice none 0 0] 28) = x18 at HS18 hHeld ⊢
        refine wpAnyH_ready (rs := [4, 15]) (by kernel_rfl) (by simp) ?_
        refine AllReadyH.cons rfl (fun K hK => ?_) ?_
        · have HS4 := hide HS18.out.alloc4
          rw [if_pos (by rfl)]
          go_simp
          refine hK.out _ _ ?_ (fun hHeld => ?_)
          · exact HPS.out.of HS4.out.bel
          clear hK K
          try simp only [Act.put, List.getElem_toArray, List.getElem_cons_zero, List.getElem_cons_succ, List.setIfInBounds_toArray, List.set_cons_zero, List.set_cons_succ]
          generalize x18.alloc (Obj.cells #[] 111) = x4 at HS4 hHeld ⊢
          refine wpAnyH_ready (rs := [13, 15]) (by kernel_rfl) (by simp) ?_
          refine AllReadyH.cons rfl (fun K hK => ?_) ?_
          · have A13 := ((HAT.out.below (B2.out.trans (HS4.out.bel.mono B2.out.size))).piece 0 k cap (Nat.zero_le _) hkn (Nat.le_trans hkn HRM.out) (Nat.le_refl _))
            rw [List.drop_zero, ← HXS.out] at A13
            rw [if_pos (by rfl)]
            refine wp_append_piece _ _ rfl _ (HS4.out.h4 _ rfl).2 rfl (partA oa 0 cap) k cap XS rfl A13 (by omega) w2.heap.size (HS4.out.h4 _ rfl).1 ?_
            clear A13
            intro v13 x13 ho13 hg13
            rw [← HXL.out] at ho13
            have HS13 := hide (HS4.out.grow13 ho13 hg13)
            clear ho13 hg13
            try go_simp
            refine hK.out _ _ ?_ (fun hHeld => ?_)
            · exact HPS.out.of HS13.out.bel
            clear hK K
            try simp only [Act.put, List.getElem_toArray, List.getElem_cons_zero, List.getElem_cons_succ, List.setIfInBounds_toArray, List.set_cons_zero, List.set_cons_succ]
            refine wpAnyH_ready (rs := [15]) (by kernel_rfl) (by simp) ?_
            refine AllReadyH.cons rfl (fun K hK => ?_) ?_
            · have HS15 := hide HS13.out.alloc15
              rw [if_pos (by rfl)]
              go_simp
              refine hK.out _ _ ?_ (fun hHeld => ?_)
              · exact HPS.out.of HS15.out.bel
              clear hK K
              try simp only [Act.put, List.getElem_toArray, List.getElem_cons_zero, List.getElem_cons_succ, List.setIfInBounds_toArray, List.set_cons_zero, List.set_cons_succ]
              generalize x13.alloc (Obj.cells #[Value.int IntKind.i64 e.term, Value.int IntKind.i64 e.kind, Value.string e.data] 111) = x15 at HS15 hHeld ⊢
              refine wpAnyH_ready (rs := [16]) (by kernel_rfl) (by simp) ?_
              refine AllReadyH.cons rfl (fun K hK => ?_) ?_
              · rw [if_pos (by rfl)]
                refine wp_append_entry _ _ rfl w2.heap.size _ XS.length XS rfl (HS15.out.h13 _ rfl) (by rw [HXL.out]; omega) HS15.out.bel.size _ _ e rfl (HS15.out.h15 _ rfl) ?_
                intro v16 x16 ho16 hg16
                rw [← HYS.out, ← HYL.out] at ho16
                have HS16 := hide (HS15.out.grow16 ho16 hg16)
                obtain ⟨ov, cv, rfl⟩ := own_form3 ho16
                clear ho16 hg16
                try go_simp
                refine hK.out _ _ ?_ (fun hHeld => ?_)
                · exact HPS.out.of HS16.out.bel
                clear hK K
                try simp only [Act.put, List.getElem_toArray, List.getElem_cons_zero, List.getElem_cons_succ, List.setIfInBounds_toArray, List.set_cons_zero, List.set_cons_succ]
                refine wpAnyH_take (i := 17) (v := ?_) rfl (by kernel_rfl) (by kernel_rfl) (by kernel_rfl) (fun _ _ _ h => h) (Or.inl ⟨by rfl, ?_⟩) (by assumption) ?_; rotate_left
                · (intro wz hSw; obtain ⟨z0, z1, z2, z3, z4, z5⟩ := PutS.cells hSw; clear hSw; go_simp; first | done | with_reducible rfl)
                try simp only [Act.put, List.getElem_toArray, List.getElem_cons_zero, List.getElem_cons_succ, List.setIfInBounds_toArray, List.set_cons_zero, List.set_cons_succ]
                refine wpAnyH_ready (rs := [19]) (by kernel_rfl) (by simp) ?_
                refine AllReadyH.cons rfl (fun K hK => ?_) ?_
                · have hq := (HS16.out.h18 _ rfl).2
                  have q0 := blk_cell hq 0 rfl
                  have q1 := blk_cell hq 1 rfl
                  have q2 := blk_cell hq 2 rfl
                  have f0 := blk_free hq 0
                  have f1 := blk_free hq 1
                  have f2 := blk_free hq 2
                  simp only [List.getElem_toArray, List.getElem_cons_zero, List.getElem_cons_succ] at q0 q1 q2
                  rw [if_pos (by rfl)]
                  go_simp
                  refine hK.out _ _ ?_ (fun hHeld => ?_)
                  · exact HPS.out.of (HS16.out.stored (s := s) (u := u)).1
                  clear hK K
                  try simp only [Act.put, List.getElem_toArray, List.getElem_cons_zero, List.getElem_cons_succ, List.setIfInBounds_toArray, List.set_cons_zero, List.set_cons_succ]
                  clear hq q0 q1 q2 f0 f1 f2
                  have hF := HS16.out.stored (s := s) (u := u)
                  refine wpAnyH_done (by kernel_rfl) ?_ _
                  have hbz := hF.1
                  have hlz := hF.2.1
                  have hoz := hF.2.2
                  clear hF hHeld
                  generalize (((x16.setCell ⟨xs.heap.size, 0, none⟩ (Value.int IntKind.i64 s)).setCell ⟨xs.heap.size, 1, none⟩ (Value.int IntKind.i64 u)).setCell ⟨xs.heap.size, 2, none⟩ (Value.slice ov YS.length cv)) = xz at hbz hlz hoz ⊢
                  generalize xs.heap.size = bk at hbz hlz hoz ⊢
                  have BZ := hide (B2.out.trans (hbz.mono B2.out.size))
                  have RZ := hide ((hbz.block _ (blk_lt R2.out)).trans R2.out)
                  have LZ := hide hlz
                  obtain ⟨_, _, he, hatz⟩ := entsAt_own hoz
                  cases he
                  have HAZ := hide hatz
                  have HOZ := hide hoz
                  obtain ⟨c0, c1, c2⟩ := LZ.out
                  clear hbz hlz hoz hatz
                  go_wp2_with fail
                  refine (specLogOk_any s u _ _ _ YS _ HAZ.out HYW.out).mono ?_
                  rintro r x8 ⟨rfl, hb8⟩
                  have B8 := hide (BZ.out.trans (hb8.mono BZ.out.size))
                  have R8 := hide ((hb8.block _ (blk_lt RZ.out)).trans RZ.out)
                  obtain ⟨d0, d1, d2⟩ := LZ.out.on hb8
                  have HO8 := hide (own_base (own_below HOZ.out hb8) (base' := w.heap.size + 1 + 1 + 1) (by omega))
                  have r0 := blk_cell R8.out 0 rfl
                  have r1 := blk_cell R8.out 1 rfl
                  have r2 := blk_cell R8.out 2 rfl
                  have t0 := blk_free R8.out 0
                  have t1 := blk_free R8.out 1
                  have t2 := blk_free R8.out 2
                  clear hb8 c0 c1 c2 LZ HAZ HOZ
                  cases hy : lgOk s u YS with
                  | false =>
                    have HPR := hide (show putR s u es (s + 1 + k) e = (0, 0, [], false) by rw [putR, if_neg]; rw [HPO.out, hy]; simp)
                    clear hy
                    go_wp2_with fail
                    refine bodyPost_ret (v := .tuple #[lgv 0 0 (.slice none 0 0), .bool false]) (by simp [results, Tryz.results66, go_sem, r0, r1, r2, t0, t1, t2]) rfl ?_
                    rw [HPR.out]
                    refine ⟨_, rfl, World.ownsRow_nil _ _ _ _, ?_⟩
                    repeat (refine Below.setCell ?_ (by simp <;> omega) _)
                    exact B8.out
                  | true =>
                    have HPR := hide (show putR s u es (s + 1 + k) e = (s, u, YS, true) by rw [putR, if_pos (by rw [HPO.out, hy]), HPL.out])
                    clear hy
                    go_wp2_with fail
                    refine bodyPost_ret (v := .tuple #[lgv s u (.slice ov YS.length cv), .bool true]) (by simp [results, Tryz.results66, go_sem, r0, r1, r2, t0, t1, t2]) rfl ?_
                    rw [HPR.out]
                    refine ⟨_, rfl, ?_, ?_⟩
                    · refine own_base (base := w.heap.size + 1 + 1 + 1) ?_ (by omega)
                      repeat (refine own_setCell ?_ (by simp <;> omega) _)
                      exact HO8.out
                    · repeat (refine Below.setCell ?_ (by simp <;> omega) _)
                      exact B8.out
                exact AllReadyH.nil
              exact AllReadyH.nil
            exact AllReadyH.nil
          refine AllReadyH.cons rfl (fun K hK => ?_) ?_
          · have HS15 := hide HS4.out.alloc15
            rw [if_pos (by rfl)]
            go_simp
            refine hK.out _ _ ?_ (fun hHeld => ?_)
            · exact HPS.out.of HS15.out.bel
            clear hK K
            try simp only [Act.put, List.getElem_toArray, List.getElem_cons_zero, List.getElem_cons_succ, List.setIfInBounds_toArray, List.set_cons_zero, List.set_cons_succ]
            generalize x4.alloc (Obj.cells #[Value.int IntKind.i64 e.term, Value.int IntKind.i64 e.kind, Value.string e.data] 111) = x15 at HS15 hHeld ⊢
            refine wpAnyH_ready (rs := [13]) (by kernel_rfl) (by simp) ?_
            refine AllReadyH.cons rfl (fun K hK => ?_) ?_
            · have A13 := ((HAT.out.below (B2.out.trans (HS15.out.bel.mono B2.out.size))).piece 0 k cap (Nat.zero_le _) hkn (Nat.le_trans hkn HRM.out) (Nat.le_refl _))
              rw [List.drop_zero, ← HXS.out] at A13
              rw [if_pos (by rfl)]
              refine wp_append_piece _ _ rfl _ (HS15.out.h4 _ rfl).2 rfl (partA oa 0 cap) k cap XS rfl A13 (by omega) w2.heap.size (HS15.out.h4 _ rfl).1 ?_
              clear A13
              intro v13 x13 ho13 hg13
              rw [← HXL.out] at ho13
              have HS13 := hide (HS15.out.grow13 ho13 hg13)
              clear ho13 hg13
              try go_simp
              refine hK.out _ _ ?_ (fun hHeld => ?_)
              · exact HPS.out.of HS13.out.bel
              clear hK K
              try simp only [Act.put, List.getElem_toArray, List.getElem_cons_zero, List.getElem_cons_succ, List.setIfInBounds_toArray, List.set_cons_zero, List.set_cons_succ]
              refine wpAnyH_ready (rs := [16]) (by kernel_rfl) (by simp) ?_
              refine AllReadyH.cons rfl (fun K hK => ?_) ?_
              · rw [if_pos (by rfl)]
                refine wp_append_entry _ _ rfl w2.heap.size _ XS.length XS rfl (HS13.out.h13 _ rfl) (by rw [HXL.out]; omega) HS13.out.bel.size _ _ e rfl (HS13.out.h15 _ rfl) ?_
                intro v16 x16 ho16 hg16
                rw [← HYS.out, ← HYL.out] at ho16
                have HS16 := hide (HS13.out.grow16 ho16 hg16)
                obtain ⟨ov, cv, rfl⟩ := own_form3 ho16
                clear ho16 hg16
                try go_simp
                refine hK.out _ _ ?_ (fun hHeld => ?_)
                · exact HPS.out.of HS16.out.bel
                clear hK K
                try simp only [Act.put, List.getElem_toArray, List.getElem_cons_zero, List.getElem_cons_succ, List.setIfInBounds_toArray, List.set_cons_zero, List.set_cons_succ]
                refine wpAnyH_take (i := 17) (v := ?_) rfl (by kernel_rfl) (by kernel_rfl) (by kernel_rfl) (fun _ _ _ h => h) (Or.inl ⟨by rfl, ?_⟩) (by assumption) ?_; rotate_left
                · (intro wz hSw; obtain ⟨z0, z1, z2, z3, z4, z5⟩ := PutS.cells hSw; clear hSw; go_simp; first | done | with_reducible rfl)
                try simp only [Act.put, List.getElem_toArray, List.getElem_cons_zero, List.getElem_cons_succ, List.setIfInBounds_toArray, List.set_cons_zero, List.set_cons_succ]
                refine wpAnyH_ready (rs := [19]) (by kernel_rfl) (by simp) ?_
                refine AllReadyH.cons rfl (fun K hK => ?_) ?_
                · have hq := (HS16.out.h18 _ rfl).2
                  have q0 := blk_cell hq 0 rfl
                  have q1 := blk_cell hq 1 rfl
                  have q2 := blk_cell hq 2 rfl
                  have f0 := blk_free hq 0
                  have f1 := blk_free hq 1
                  have f2 := blk_free hq 2
                  simp only [List.getElem_toArray, List.getElem_cons_zero, List.getElem_cons_succ] at q0 q1 q2
                  rw [if_pos (by rfl)]
                  go_simp
                  refine hK.out _ _ ?_ (fun hHeld => ?_)
                  · exact HPS.out.of (HS16.out.stored (s := s) (u := u)).1
                  clear hK K
                  try simp only [Act.put, List.getElem_toArray, List.getElem_cons_zero, List.getElem_cons_succ, List.setIfInBounds_toArray, List.set_cons_zero, List.set_cons_succ]
                  clear hq q0 q1 q2 f0 f1 f2
                  have hF := HS16.out.stored (s := s) (u := u)
                  refine wpAnyH_done (by kernel_rfl) ?_ _
                  have hbz := hF.1
                  have hlz := hF.2.1
                  have hoz := hF.2.2
                  clear hF hHeld
                  generalize (((x16.setCell ⟨xs.heap.size, 0, none⟩ (Value.int IntKind.i64 s)).setCell ⟨xs.heap.size, 1, none⟩ (Value.int IntKind.i64 u)).setCell ⟨xs.heap.size, 2, none⟩ (Value.slice ov YS.length cv)) = xz at hbz hlz hoz ⊢
                  generalize xs.heap.size = bk at hbz hlz hoz ⊢
                  have BZ := hide (B2.out.trans (hbz.mono B2.out.size))
                  have RZ := hide ((hbz.block _ (blk_lt R2.out)).trans R2.out)
                  have LZ := hide hlz
                  obtain ⟨_, _, he, hatz⟩ := entsAt_own hoz
                  cases he
                  have HAZ := hide hatz
                  have HOZ := hide hoz
                  obtain ⟨c0, c1, c2⟩ := LZ.out
                  clear hbz hlz hoz hatz
                  go_wp2_with fail
                  refine (specLogOk_any s u _ _ _ YS _ HAZ.out HYW.out).mono ?_
                  rintro r x8 ⟨rfl, hb8⟩
                  have B8 := hide (BZ.out.trans (hb8.mono BZ.out.size))
                  have R8 := hide ((hb8.block _ (blk_lt RZ.out)).trans RZ.out)
                  obtain ⟨d0, d1, d2⟩ := LZ.out.on hb8
                  have HO8 := hide (own_base (own_below HOZ.out hb8) (base' := w.heap.size + 1 + 1 + 1) (by omega))
                  have r0 := blk_cell R8.out 0 rfl
                  have r1 := blk_cell R8.out 1 rfl
                  have r2 := blk_cell R8.out 2 rfl
                  have t0 := blk_free R8.out 0
                  have t1 := blk_free R8.out 1
                  have t2 := blk_free R8.out 2
                  clear hb8 c0 c1 c2 LZ HAZ HOZ
                  cases hy : lgOk s u YS with
                  | false =>
                    have HPR := hide (show putR s u es (s + 1 + k) e = (0, 0, [], false) by rw [putR, if_neg]; rw [HPO.out, hy]; simp)
                    clear hy
                    go_wp2_with fail
                    refine bodyPost_ret (v := .tuple #[lgv 0 0 (.slice none 0 0), .bool false]) (by simp [results, Tryz.results66, go_sem, r0, r1, r2, t0, t1, t2]) rfl ?_
                    rw [HPR.out]
                    refine ⟨_, rfl, World.ownsRow_nil _ _ _ _, ?_⟩
                    repeat (refine Below.setCell ?_ (by simp <;> omega) _)
                    exact B8.out
                  | true =>
                    have HPR := hide (show putR s u es (s + 1 + k) e = (s, u, YS, true) by rw [putR, if_pos (by rw [HPO.out, hy]), HPL.out])
                    clear hy
                    go_wp2_with fail
                    refine bodyPost_ret (v := .tuple #[lgv s u (.slice ov YS.length cv), .bool true]) (by simp [results, Tryz.results66, go_sem, r0, r1, r2, t0, t1, t2]) rfl ?_
                    rw [HPR.out]
                    refine ⟨_, rfl, ?_, ?_⟩
                    · refine own_base (base := w.heap.size + 1 + 1 + 1) ?_ (by omega)
                      repeat (refine own_setCell ?_ (by simp <;> omega) _)
                      exact HO8.out
                    · repeat (refine Below.setCell ?_ (by simp <;> omega) _)
                      exact B8.out
                exact AllReadyH.nil
              exact AllReadyH.nil
            exact AllReadyH.nil
          exact AllReadyH.nil
        refine AllReadyH.cons rfl (fun K hK => ?_) ?_
        · have HS15 := hide HS18.out.alloc15
          rw [if_pos (by rfl)]
          go_simp
          refine hK.out _ _ ?_ (fun hHeld => ?_)
          · exact HPS.out.of HS15.out.bel
          clear hK K
          try simp only [Act.put, List.getElem_toArray, List.getElem_cons_zero, List.getElem_cons_succ, List.setIfInBounds_toArray, List.set_cons_zero, List.set_cons_succ]
          generalize x18.alloc (Obj.cells #[Value.int IntKind.i64 e.term, Value.int IntKind.i64 e.kind, Value.string e.data] 111) = x15 at HS15 hHeld ⊢
          refine wpAnyH_ready (rs := [4]) (by kernel_rfl) (by simp) ?_
          refine AllReadyH.cons rfl (fun K hK => ?_) ?_
          · have HS4 := hide HS15.out.alloc4
            rw [if_pos (by rfl)]
            go_simp
            refine hK.out _ _ ?_ (fun hHeld => ?_)
            · exact HPS.out.of HS4.out.bel
            clear hK K
            try simp only [Act.put, List.getElem_toArray, List.getElem_cons_zero, List.getElem_cons_succ, List.setIfInBounds_toArray, List.set_cons_zero, List.set_cons_succ]
            generalize x15.alloc (Obj.cells #[] 111) = x4 at HS4 hHeld ⊢
            refine wpAnyH_ready (rs := [13]) (by kernel_rfl) (by simp) ?_
            refine AllReadyH.cons rfl (fun K hK => ?_) ?_
            · have A13 := ((HAT.out.below (B2.out.trans (HS4.out.bel.mono B2.out.size))).piece 0 k cap (Nat.zero_le _) hkn (Nat.le_trans hkn HRM.out) (Nat.le_refl _))
              rw [List.drop_zero, ← HXS.out] at A13
              rw [if_pos (by rfl)]
              refine wp_append_piece _ _ rfl _ (HS4.out.h4 _ rfl).2 rfl (partA oa 0 cap) k cap XS rfl A13 (by omega) w2.heap.size (HS4.out.h4 _ rfl).1 ?_
              clear A13
              intro v13 x13 ho13 hg13
              rw [← HXL.out] at ho13
              have HS13 := hide (HS4.out.grow13 ho13 hg13)
              clear ho13 hg13
              try go_simp
              refine hK.out _ _ ?_ (fun hHeld => ?_)
              · exact HPS.out.of HS13.out.bel
              clear hK K
              try simp only [Act.put, List.getElem_toArray, List.getElem_cons_zero, List.getElem_cons_succ, List.setIfInBounds_toArray, List.set_cons_zero, List.set_cons_succ]
              refine wpAnyH_ready (rs := [16]) (by kernel_rfl) (by simp) ?_
              refine AllReadyH.cons rfl (fun K hK => ?_) ?_
              · rw [if_pos (by rfl)]
                refine wp_append_entry _ _ rfl w2.heap.size _ XS.length XS rfl (HS13.out.h13 _ rfl) (by rw [HXL.out]; omega) HS13.out.bel.size _ _ e rfl (HS13.out.h15 _ rfl) ?_
                intro v16 x16 ho16 hg16
                rw [← HYS.out, ← HYL.out] at ho16
                have HS16 := hide (HS13.out.grow16 ho16 hg16)
                obtain ⟨ov, cv, rfl⟩ := own_form3 ho16
                clear ho16 hg16
                try go_simp
                refine hK.out _ _ ?_ (fun hHeld => ?_)
                · exact HPS.out.of HS16.out.bel
                clear hK K
                try simp only [Act.put, List.getElem_toArray, List.getElem_cons_zero, List.getElem_cons_succ, List.setIfInBounds_toArray, List.set_cons_zero, List.set_cons_succ]
                refine wpAnyH_take (i := 17) (v := ?_) rfl (by kernel_rfl) (by kernel_rfl) (by kernel_rfl) (fun _ _ _ h => h) (Or.inl ⟨by rfl, ?_⟩) (by assumption) ?_; rotate_left
                · (intro wz hSw; obtain ⟨z0, z1, z2, z3, z4, z5⟩ := PutS.cells hSw; clear hSw; go_simp; first | done | with_reducible rfl)
                try simp only [Act.put, List.getElem_toArray, List.getElem_cons_zero, List.getElem_cons_succ, List.setIfInBounds_toArray, List.set_cons_zero, List.set_cons_succ]
                refine wpAnyH_ready (rs := [19]) (by kernel_rfl) (by simp) ?_
                refine AllReadyH.cons rfl (fun K hK => ?_) ?_
                · have hq := (HS16.out.h18 _ rfl).2
                  have q0 := blk_cell hq 0 rfl
                  have q1 := blk_cell hq 1 rfl
                  have q2 := blk_cell hq 2 rfl
                  have f0 := blk_free hq 0
                  have f1 := blk_free hq 1
                  have f2 := blk_free hq 2
                  simp only [List.getElem_toArray, List.getElem_cons_zero, List.getElem_cons_succ] at q0 q1 q2
                  rw [if_pos (by rfl)]
                  go_simp
                  refine hK.out _ _ ?_ (fun hHeld => ?_)
                  · exact HPS.out.of (HS16.out.stored (s := s) (u := u)).1
                  clear hK K
                  try simp only [Act.put, List.getElem_toArray, List.getElem_cons_zero, List.getElem_cons_succ, List.setIfInBounds_toArray, List.set_cons_zero, List.set_cons_succ]
                  clear hq q0 q1 q2 f0 f1 f2
                  have hF := HS16.out.stored (s := s) (u := u)
                  refine wpAnyH_done (by kernel_rfl) ?_ _
                  have hbz := hF.1
                  have hlz := hF.2.1
                  have hoz := hF.2.2
                  clear hF hHeld
                  generalize (((x16.setCell ⟨xs.heap.size, 0, none⟩ (Value.int IntKind.i64 s)).setCell ⟨xs.heap.size, 1, none⟩ (Value.int IntKind.i64 u)).setCell ⟨xs.heap.size, 2, none⟩ (Value.slice ov YS.length cv)) = xz at hbz hlz hoz ⊢
                  generalize xs.heap.size = bk at hbz hlz hoz ⊢
                  have BZ := hide (B2.out.trans (hbz.mono B2.out.size))
                  have RZ := hide ((hbz.block _ (blk_lt R2.out)).trans R2.out)
                  have LZ := hide hlz
                  obtain ⟨_, _, he, hatz⟩ := entsAt_own hoz
                  cases he
                  have HAZ := hide hatz
                  have HOZ := hide hoz
                  obtain ⟨c0, c1, c2⟩ := LZ.out
                  clear hbz hlz hoz hatz
                  go_wp2_with fail
                  refine (specLogOk_any s u _ _ _ YS _ HAZ.out HYW.out).mono ?_
                  rintro r x8 ⟨rfl, hb8⟩
                  have B8 := hide (BZ.out.trans (hb8.mono BZ.out.size))
                  have R8 := hide ((hb8.block _ (blk_lt RZ.out)).trans RZ.out)
                  obtain ⟨d0, d1, d2⟩ := LZ.out.on hb8
                  have HO8 := hide (own_base (own_below HOZ.out hb8) (base' := w.heap.size + 1 + 1 + 1) (by omega))
                  have r0 := blk_cell R8.out 0 rfl
                  have r1 := blk_cell R8.out 1 rfl
                  have r2 := blk_cell R8.out 2 rfl
                  have t0 := blk_free R8.out 0
                  have t1 := blk_free R8.out 1
                  have t2 := blk_free R8.out 2
                  clear hb8 c0 c1 c2 LZ HAZ HOZ
                  cases hy : lgOk s u YS with
                  | false =>
                    have HPR := hide (show putR s u es (s + 1 + k) e = (0, 0, [], false) by rw [putR, if_neg]; rw [HPO.out, hy]; simp)
                    clear hy
                    go_wp2_with fail
                    refine bodyPost_ret (v := .tuple #[lgv 0 0 (.slice none 0 0), .bool false]) (by simp [results, Tryz.results66, go_sem, r0, r1, r2, t0, t1, t2]) rfl ?_
                    rw [HPR.out]
                    refine ⟨_, rfl, World.ownsRow_nil _ _ _ _, ?_⟩
                    repeat (refine Below.setCell ?_ (by simp <;> omega) _)
                    exact B8.out
                  | true =>
                    have HPR := hide (show putR s u es (s + 1 + k) e = (s, u, YS, true) by rw [putR, if_pos (by rw [HPO.out, hy]), HPL.out])
                    clear hy
                    go_wp2_with fail
                    refine bodyPost_ret (v := .tuple #[lgv s u (.slice ov YS.length cv), .bool true]) (by simp [results, Tryz.results66, go_sem, r0, r1, r2, t0, t1, t2]) rfl ?_
                    rw [HPR.out]
                    refine ⟨_, rfl, ?_, ?_⟩
                    · refine own_base (base := w.heap.size + 1 + 1 + 1) ?_ (by omega)
                      repeat (refine own_setCell ?_ (by simp <;> omega) _)
                      exact HO8.out
                    · repeat (refine Below.setCell ?_ (by simp <;> omega) _)
                      exact B8.out
                exact AllReadyH.nil
              exact AllReadyH.nil
            exact AllReadyH.nil
          exact AllReadyH.nil
        exact AllReadyH.nil
      exact AllReadyH.nil
    · have HPR := hide (show putR s u es ix e = (0, 0, [], false) by
        have h1 : putOk s u es ix e = false := by
          rw [putOk, hok, HN.out, Bool.true_and]
          have : (decide (s + 1 ≤ ix) && decide (ix ≤ s + n + 1)) = false := by simp; omega
          rw [this, Bool.false_and]
        rw [putR, if_neg (by rw [h1]; simp)])
      clear hok hup
      refine wp_region_in (F := (fun w' => Below W3.heap.size W3 w')) (by kernel_rfl) (by kernel_rfl) (Below.refl _ _).drew ?_
      have hne : Nonempty (InW (fun w' => Below W3.heap.size W3 w')) := ⟨⟨_, Below.refl _ _⟩⟩
      have k0 : ∀ m : InW (fun w' => Below W3.heap.size W3 w'), m.w.cell? ⟨w.heap.size, 0, none⟩ = some (.int .i64 s) := fun m => (m.h.cell (by simpa using l0)).trans c0
      have k1 : ∀ m : InW (fun w' => Below W3.heap.size W3 w'), m.w.cell? ⟨w.heap.size, 1, none⟩ = some (.int .i64 u) := fun m => (m.h.cell (by simpa using l0)).trans c1
      have k2 : ∀ m : InW (fun w' => Below W3.heap.size W3 w'), m.w.cell? ⟨w.heap.size, 2, none⟩ = some (.slice oa n cap) := fun m => (m.h.cell (by simpa using l0)).trans c2
      have HATW := hide (show ∀ m : InW (fun w' => Below W3.heap.size W3 w'), EntsAt m.w oa n cap es from fun m => HAT.out.below (B3.out.trans (m.h.mono B3.out.size)))
      repeat (go_big_quiet_step (first | (go_at_call 42; refine (HLO.out _ (HATW.out _)).mono ?_; rw [HOK.out]; rintro r w9 ⟨rfl, hb9⟩; exact ⟨rfl, ⟨w9, Below.trans (InW.h _) (hb9.mono (Below.size (InW.h (F := (fun w' => Below W3.heap.size W3 w')) ‹_›)))⟩, rfl⟩) | (go_at_call 88; refine (l06Last_any s u oa n cap s0 s1 hn60 _).mono ?_; rintro r w9 ⟨rfl, hb9⟩; exact ⟨rfl, ⟨w9, Below.trans (InW.h _) (hb9.mono (Below.size (InW.h (F := (fun w' => Below W3.heap.size W3 w')) ‹_›)))⟩, rfl⟩) | (go_at_call 37; refine (l01In_no _ _ _ (by omega) _).mono ?_; rintro r w9 ⟨rfl, rfl⟩; exact ⟨rfl, ⟨_, InW.h _⟩, rfl⟩)))
      refine wpQuiet_nil ?_
      intro _ hw'
      obtain ⟨nq, hw''⟩ := hw'
      subst hw''
      have hb4 := nq.h
      generalize nq.w = w2 at hb4 ⊢
      clear hne k0 k1 k2 HATW
      have B2 := hide (B3.out.trans (hb4.mono B3.out.size))
      have L2 := hide (L3.out.on hb4)
      have E2 := hide ((hb4.block _ l1).trans E3.out)
      have R2 := hide ((hb4.block _ l2).trans R3.out)
      clear hb4 c0 c1 c2
      have l0 := L2.out.lt
      have l1 := blk_lt E2.out
      have l2 := blk_lt R2.out
      obtain ⟨c0, c1, c2⟩ := L2.out
      have d0 := blk_cell E2.out 0 rfl
      have d1 := blk_cell E2.out 1 rfl
      have d2 := blk_cell E2.out 2 rfl
      simp only [List.getElem_toArray, List.getElem_cons_zero, List.getElem_cons_succ] at d0 d1 d2
      have r0 := blk_cell R2.out 0 rfl
      have r1 := blk_cell R2.out 1 rfl
      have r2 := blk_cell R2.out 2 rfl
      have t0 := blk_free R2.out 0
      have t1 := blk_free R2.out 1
      have t2 := blk_free R2.out 2
      go_wp2_with fail
      refine bodyPost_ret (v := .tuple #[lgv 0 0 (.slice none 0 0), .bool false]) (by simp [results, Tryz.results66, go_sem, r0, r1, r2, t0, t1, t2]) rfl ?_
      rw [HPR.out]
      refine ⟨_, rfl, World.ownsRow_nil _ _ _ _, ?_⟩
      repeat (refine Below.setCell ?_ (by simp <;> omega) _)
      exact B2.out

end Go.Proofs.YthbgklmnmoclhaaGreatDoor
