/-
  Walks of chapter 6: LogPut of the program (made by wip/tools/gen6f.py).
-/
import Derived.Test.YthbgklmnmoclhaaGreatDoorPack13
namespace Go.Proofs.YthbgklmnmoclhaaGreatDoor
open Go.RowKit P1 P9 K
attribute [local go_sem ↓] Go.wp_at_zero Go.wp_at_succ
set_option linter.unusedVariables false
set_option linter.unusedSimpArgs false

set_option maxRecDepth 100000 in
set_option maxHeartbeats 8000000 in
theorem implLogPut_any (s u : Int) (oa : Option Addr) (n cap : Nat) (es : List EntV) (ix : Int) (e : EntV) (w : World) (hat : EntsAt w oa n cap es) (hw : ∀ f ∈ es, f.data.size ≤ 1048576) (hwe : e.data.size ≤ 1048576) :
    Calls Tryz.prog 98 #[lgv s u (.slice oa n cap), .int .i64 ix, .agg #[.int .i64 e.term, .int .i64 e.kind, .string e.data]] w fun r w' => LogRes2 w (putR s u es ix e) r w' := by
  have hb0 := (((Below.refl w.heap.size w).alloc (Nat.le_refl _) (.cells #[.int .i64 s, .int .i64 u, .slice oa n cap] 28)).alloc (by simp) (.cells #[.int .i64 e.term, .int .i64 e.kind, .string e.data] 111)).alloc (by simp; omega) (.cells #[.int .i64 0, .int .i64 0, .slice none 0 0] 28)
  have HLL := hide (fun w hat => implLogLast_any s u oa n cap es w hat)
  have HLO := hide (fun w hat => implLogOk_any s u oa n cap es w hat hw)
  have HN := hide hat.len
  have HRM := hide hat.room
  have HAT := hide hat
  have HW := hide hw
  have HB0 := hide hb0
  clear hat hw hb0
  go_enter Tryz.func98, Tryz.ntmps98
  go_wp2_with fail
  refine (HLL.out _ (HAT.out.below HB0.out)).mono ?_
  rintro r w1 ⟨rfl, hb1⟩
  have B1 := hide (HB0.out.trans (hb1.mono (by simp; omega)))
  have L1 := hide (((LV.new w s u (.slice oa n cap) 28).on (((Below.refl _ _).alloc (Nat.le_refl _) (.cells #[.int .i64 e.term, .int .i64 e.kind, .string e.data] 111)).alloc (by simp) (.cells #[.int .i64 0, .int .i64 0, .slice none 0 0] 28))).on hb1)
  have E1 := hide (show w1.heap[w.heap.size + 1]? = some (.cells #[.int .i64 e.term, .int .i64 e.kind, .string e.data] 111 (0, 0)) from (hb1.block _ (by simp <;> omega)).trans ((((Below.refl _ _).alloc (Nat.le_refl _) _).block _ (by simp)).trans (blk_new2 _ _ _)))
  have R1 := hide (show w1.heap[w.heap.size + 1 + 1]? = some (.cells #[.int .i64 0, .int .i64 0, .slice none 0 0] 28 (0, 0)) from (hb1.block _ (by simp)).trans (blk_new3 _ _ _ _))
  have l0 : w.heap.size < w1.heap.size := L1.out.lt
  obtain ⟨c0, c1, c2⟩ := L1.out
  clear hb1
  go_wp2_with fail
  refine (HLO.out _ (HAT.out.below B1.out)).mono ?_
  rintro r w2 ⟨rfl, hb2⟩
  have B2 := hide (B1.out.trans (hb2.mono B1.out.size))
  have L2 := hide (L1.out.on hb2)
  have E2 := hide ((hb2.block _ (blk_lt E1.out)).trans E1.out)
  have R2 := hide ((hb2.block _ (blk_lt R1.out)).trans R1.out)
  clear hb2 c0 c1 c2 L1 E1 R1
  have l0 := L2.out.lt
  have l1 := blk_lt E2.out
  have l2 := blk_lt R2.out
  obtain ⟨c0, c1, c2⟩ := L2.out
  have d0 := blk_cell E2.out 0 rfl
  have d1 := blk_cell E2.out 1 rfl
  have d2 := blk_cell E2.out 2 rfl
  simp only [List.getElem_toArray, List.getElem_cons_zero, List.getElem_cons_succ] at d0 d1 d2
  cases hok : lgOk s u es with
  | false =>
    have hpr : putR s u es ix e = (0, 0, [], false) := by simp [putR, putOk, hok]
    clear hok
    have HPR := hide hpr
    clear hpr
    have r0 := blk_cell R2.out 0 rfl
    have r1 := blk_cell R2.out 1 rfl
    have r2 := blk_cell R2.out 2 rfl
    have t0 := blk_free R2.out 0
    have t1 := blk_free R2.out 1
    have t2 := blk_free R2.out 2
    go_wp2_with (go_at_call 75; refine (within_no _ _ _ (by omega) _).mono ?_; rintro e w1 ⟨rfl, rfl⟩)
    refine bodyPost_ret (v := .tuple #[lgv 0 0 (.slice none 0 0), .bool false]) (by simp [results, Tryz.results98, go_sem, r0, r1, r2, t0, t1, t2]) rfl ?_
    rw [HPR.out]
    refine ⟨_, rfl, World.ownsRow_nil _ _ _ _, ?_⟩
    repeat (refine Below.setCell ?_ (by simp <;> omega) _)
    exact B2.out
  | true =>
    obtain ⟨s0, s1, u0, u1, hn60, hsn, hup⟩ := lgOk_hd hok
    rw [HN.out] at hn60 hsn
    rw [lastI_in s0 s1 hn60]
    by_cases hin : s + 1 ≤ ix ∧ ix ≤ s + n + 1
    · obtain ⟨k, rfl⟩ : ∃ k : Nat, ix = s + 1 + k := ⟨(ix - s - 1).toNat, by omega⟩
      have hkn : k ≤ n := by omega
      have ek : (s + 1 + (k : Int) - s - 1).toNat = k := by omega
      obtain ⟨YS, hYS⟩ : ∃ YS, YS = es.take k ++ [e] := ⟨_, rfl⟩
      have hpl : putL s es (s + 1 + k) e = YS := by rw [putL, ek, hYS]
      have HPO := hide (show putOk s u es (s + 1 + k) e = lgOk s u YS by
        rw [putOk, hok, hpl, HN.out, decide_eq_true (show s + 1 ≤ s + 1 + (k : Int) by omega), decide_eq_true (show s + 1 + (k : Int) ≤ s + n + 1 by omega)]
        simp)
      have HPL := hide hpl
      have HYL := hide (show YS.length = k + 1 by rw [hYS, List.length_append, List.length_take, HN.out]; simp; omega)
      have HYW := hide (show ∀ f ∈ YS, f.data.size ≤ 1048576 by
        rw [hYS]
        intro f hf
        rcases List.mem_append.1 hf with h | h
        · exact HW.out f (List.mem_of_mem_take h)
        · rw [List.mem_singleton.1 h]; exact hwe)
      have HYS := hide hYS
      have hwr : IntKind.i64.wrap (s + 1 + (k : Int) - 1) = s + 1 + (k : Int) - 1 := by rw [IntKind.wrap_i64]; omega
      clear hok hup hin hpl hYS ek
      go_wp2_with (go_at_call 75; refine (within_yes _ _ _ (by omega) (by omega) _).mono ?_; rintro e w1 ⟨rfl, rfl⟩)
      have HPS := hide (show PutS w.heap.size s u (.slice oa n cap) e w2 w2 from ⟨Below.refl _ _, L2.out, d0, d1, d2⟩)
      have hst := PuSt.start w2 e (es.take k) YS
      have HSs := hide hst
      clear hst c0 c1 c2 d0 d1 d2
      refine wp_region_held_drew (S := PutS w.heap.size s u (.slice oa n cap) e w2) (by kernel_rfl) (HPS.out.of (Below.refl _ _).drew) (fun hHeld => ?_)
      generalize w2.drew = xs at HSs hHeld ⊢
      refine wpAnyH_take (i := 0) (v := ?_) rfl (by kernel_rfl) (by kernel_rfl) (by kernel_rfl) (fun _ _ _ h => h) (Or.inl ⟨by rfl, ?_⟩) (by assumption) ?_; rotate_left
      · (intro wz hSw; obtain ⟨z0, z1, z2, z3, z4, z5⟩ := PutS.cells hSw; clear hSw; go_simp; first | done | with_reducible rfl)
      try simp only [Act.put, List.getElem_toArray, List.getElem_cons_zero, List.getElem_cons_succ, List.setIfInBounds_toArray, List.set_cons_zero, List.set_cons_succ]
      refine wpAnyH_take (i := 1) (v := ?_) rfl (by kernel_rfl) (by kernel_rfl) (by kernel_rfl) (fun _ _ _ h => h) (Or.inl ⟨by rfl, ?_⟩) (by assumption) ?_; rotate_left
      · (intro wz hSw; obtain ⟨z0, z1, z2, z3, z4, z5⟩ := PutS.cells hSw; clear hSw; go_simp; first | done | with_reducible rfl)
      try simp only [Act.put, List.getElem_toArray, List.getElem_cons_zero, List.getElem_cons_succ, List.setIfInBounds_toArray, List.set_cons_zero, List.set_cons_succ]
      refine wpAnyH_take (i := 2) (v := ?_) rfl (by kernel_rfl) (by kernel_rfl) (by kernel_rfl) (fun _ _ _ h => h) (Or.inl ⟨by rfl, ?_⟩) (by assumption) ?_; rotate_left
      · (intro wz hSw; obtain ⟨z0, z1, z2, z3, z4, z5⟩ := PutS.cells hSw; clear hSw; go_simp; first | done | with_reducible rfl)
      try simp only [Act.put, List.getElem_toArray, List.getElem_cons_zero, List.getElem_cons_succ, List.setIfInBounds_toArray, List.set_cons_zero, List.set_cons_succ]
      refine wpAnyH_take (i := 3) (v := ?_) rfl (by kernel_rfl) (by kernel_rfl) (by kernel_rfl) (fun _ _ _ h => h) (Or.inl ⟨by rfl, ?_⟩) (by assumption) ?_; rotate_left
      · (intro wz hSw; obtain ⟨z0, z1, z2, z3, z4, z5⟩ := PutS.cells hSw; clear hSw; go_simp; first | done | with_reducible rfl)
      try simp only [Act.put, List.getElem_toArray, List.getElem_cons_zero, List.getElem_cons_succ, List.setIfInBounds_toArray, List.set_cons_zero, List.set_cons_succ]
      refine wpAnyH_take (i := 4) (v := ?_) rfl (by kernel_rfl) (by kernel_rfl) (by kernel_rfl) (fun _ _ _ h => h) (Or.inl ⟨by rfl, ?_⟩) (by assumption) ?_; rotate_left
      · (intro wz hSw; obtain ⟨z0, z1, z2, z3, z4, z5⟩ := PutS.cells hSw; clear hSw; go_simp; first | done | with_reducible rfl)
      try simp only [Act.put, List.getElem_toArray, List.getElem_cons_zero, List.getElem_cons_succ, List.setIfInBounds_toArray, List.set_cons_zero, List.set_cons_succ]
      refine wpAnyH_take (i := 5) (v := ?_) rfl (by kernel_rfl) (by kernel_rfl) (by kernel_rfl) (fun _ _ _ h => h) (Or.inl ⟨by rfl, ?_⟩) (by assumption) ?_; rotate_left
      · (intro wz hSw; obtain ⟨z0, z1, z2, z3, z4, z5⟩ := PutS.cells hSw; clear hSw; go_simp; first | done | with_reducible rfl)
      try simp only [Act.put, List.getElem_toArray, List.getElem_cons_zero, List.getElem_cons_succ, List.setIfInBounds_toArray, List.set_cons_zero, List.set_cons_succ]
      refine wpAnyH_take (i := 6) (v := ?_) rfl (by kernel_rfl) (by kernel_rfl) (by kernel_rfl) (fun _ _ _ h => h) (Or.inl ⟨by rfl, ?_⟩) (by assumption) ?_; rotate_left
      · (intro wz hSw; obtain ⟨z0, z1, z2, z3, z4, z5⟩ := PutS.cells hSw; clear hSw; go_simp; first | done | with_reducible rfl)
      try simp only [Act.put, List.getElem_toArray, List.getElem_cons_zero, List.getElem_cons_succ, List.setIfInBounds_toArray, List.set_cons_zero, List.set_cons_succ]
      refine wpAnyH_take (i := 7) (v := ?_) rfl (by kernel_rfl) (by kernel_rfl) (by kernel_rfl) (fun _ _ _ h => h) (Or.inl ⟨by rfl, ?_⟩) (by assumption) ?_; rotate_left
      · (intro wz hSw; obtain ⟨z0, z1, z2, z3, z4, z5⟩ := PutS.cells hSw; clear hSw; go_simp; first | done | with_reducible rfl)
      try simp only [Act.put, List.getElem_toArray, List.getElem_cons_zero, List.getElem_cons_succ, List.setIfInBounds_toArray, List.set_cons_zero, List.set_cons_succ]
      refine wpAnyH_take (i := 8) (v := ?_) rfl (by kernel_rfl) (by kernel_rfl) (by kernel_rfl) (fun _ _ _ h => h) (Or.inl ⟨by rfl, ?_⟩) (by assumption) ?_; rotate_left
      · (intro wz hSw; obtain ⟨z0, z1, z2, z3, z4, z5⟩ := PutS.cells hSw; clear hSw; go_simp; first | done | with_reducible rfl)
      try simp only [Act.put, List.getElem_toArray, List.getElem_cons_zero, List.getElem_cons_succ, List.setIfInBounds_toArray, List.set_cons_zero, List.set_cons_succ]
      refine wpAnyH_take (i := 10) (v := ?_) rfl (by kernel_rfl) (by kernel_rfl) (by kernel_rfl) (fun _ _ _ h => h) (Or.inl ⟨by rfl, ?_⟩) (by assumption) ?_; rotate_left
      · (intro wz hSw; obtain ⟨z0, z1, z2, z3, z4, z5⟩ := PutS.cells hSw; clear hSw; go_simp; first | done | with_reducible rfl)
      try simp only [Act.put, List.getElem_toArray, List.getElem_cons_zero, List.getElem_cons_succ, List.setIfInBounds_toArray, List.set_cons_zero, List.set_cons_succ]
      refine wpAnyH_ready (rs := [9, 11, 14]) (by kernel_rfl) (by simp) ?_
      refine AllReadyH.cons rfl (fun K hK => ?_) ?_
      · rw [if_pos (by rfl)]
        go_simp
        go_at_call 117
        refine (between_any s u oa n cap HRM.out _ _ 0 k (by omega) (by omega) s0 s1 (Nat.zero_le _) hkn hn60 _).mono ?_
        rintro r x9 ⟨rfl, hb9⟩
        have HS9 := hide (HSs.out.on hb9)
        clear hb9
        try go_simp
        refine hK.out _ _ ?_ (fun hHeld => ?_)
        · exact HPS.out.of HS9.out.bel
        clear hK K
        try simp only [Act.put, List.getElem_toArray, List.getElem_cons_zero, List.getElem_cons_succ, List.setIfInBounds_toArray, List.set_cons_zero, List.set_cons_succ]
        refine wpAnyH_ready (rs := [11, 14]) (by kernel_rfl) (by simp) ?_
        refine AllReadyH.cons rfl (fun K hK => ?_) ?_
        · have HS11 := hide HS9.out.alloc15
          rw [if_pos (by rfl)]
          go_simp
          refine hK.out _ _ ?_ (fun hHeld => ?_)
          · exact HPS.out.of HS11.out.bel
          clear hK K
          try simp only [Act.put, List.getElem_toArray, List.getElem_cons_zero, List.getElem_cons_succ, List.setIfInBounds_toArray, List.set_cons_zero, List.set_cons_succ]
          generalize x9.alloc (Obj.cells #[Value.int IntKind.i64 e.term, Value.int IntKind.i64 e.kind, Value.string e.data] 111) = x11 at HS11 hHeld ⊢
          refine wpAnyH_ready (rs := [12, 14]) (by kernel_rfl) (by simp) ?_
          refine AllReadyH.cons rfl (fun K hK => ?_) ?_
          · have A12 := ((HAT.out.below (B2.out.trans (HS11.out.bel.mono B2.out.size))).piece 0 k k (Nat.zero_le _) hkn (Nat.le_refl _) (Nat.le_trans hkn HRM.out))
            rw [List.drop_zero] at A12
            rw [if_pos (by rfl)]
            refine wp_append_full _ _ rfl (partA oa 0 k) k (es.take k) rfl A12 (by omega) _ _ e rfl (HS11.out.h15 _ rfl) ?_
            clear A12
            intro v x12 ho12 hg12
            rw [← HYS.out, ← HYL.out] at ho12
            have HS12 := hide (HS11.out.growFull ho12 hg12)
            obtain ⟨ov, cv, rfl⟩ := own_form3 ho12
            clear ho12 hg12
            try go_simp
            refine hK.out _ _ ?_ (fun hHeld => ?_)
            · exact HPS.out.of HS12.out.bel
            clear hK K
            try simp only [Act.put, List.getElem_toArray, List.getElem_cons_zero, List.getElem_cons_succ, List.setIfInBounds_toArray, List.set_cons_zero, List.set_cons_succ]
            refine wpAnyH_take (i := 13) (v := ?_) rfl (by kernel_rfl) (by kernel_rfl) (by kernel_rfl) (fun _ _ _ h => h) (Or.inl ⟨by rfl, ?_⟩) (by assumption) ?_; rotate_left
            · (intro wz hSw; obtain ⟨z0, z1, z2, z3, z4, z5⟩ := PutS.cells hSw; clear hSw; go_simp; first | done | with_reducible rfl)
            try simp only [Act.put, List.getElem_toArray, List.getElem_cons_zero, List.getElem_cons_succ, List.setIfInBounds_toArray, List.set_cons_zero, List.set_cons_succ]
            refine wpAnyH_ready (rs := [14]) (by kernel_rfl) (by simp) ?_
            refine AllReadyH.cons rfl (fun K hK => ?_) ?_
            · have HS14 := hide HS12.out.alloc18
              rw [if_pos (by rfl)]
              go_simp
              refine hK.out _ _ ?_ (fun hHeld => ?_)
              · exact HPS.out.of HS14.out.bel
              clear hK K
              try simp only [Act.put, List.getElem_toArray, List.getElem_cons_zero, List.getElem_cons_succ, List.setIfInBounds_toArray, List.set_cons_zero, List.set_cons_succ]
              generalize x12.alloc (Obj.cells #[Value.int IntKind.i64 0, Value.int IntKind.i64 0, Value.slice none 0 0] 28) = x14 at HS14 hHeld ⊢
              refine wpAnyH_ready (rs := [15]) (by kernel_rfl) (by simp) ?_
              refine AllReadyH.cons rfl (fun K hK => ?_) ?_
              · have hq := (HS14.out.h18 _ rfl).2
                have q0 := blk_cell hq 0 rfl
                have q1 := blk_cell hq 1 rfl
                have q2 := blk_cell hq 2 rfl
                have f0 := blk_free hq 0
                have f1 := blk_free hq 1
                have f2 := blk_free hq 2
                simp only [List.getElem_toArray, List.getElem_cons_zero, List.getElem_cons_succ] at q0 q1 q2
                rw [if_pos (by rfl)]
                go_simp
                refine hK.out _ _ ?_ (fun hHeld => ?_)
                · exact HPS.out.of (HS14.out.stored (s := s) (u := u)).1
                clear hK K
                try simp only [Act.put, List.getElem_toArray, List.getElem_cons_zero, List.getElem_cons_succ, List.setIfInBounds_toArray, List.set_cons_zero, List.set_cons_succ]
                clear hq q0 q1 q2 f0 f1 f2
                have hF := HS14.out.stored (s := s) (u := u)
                refine wpAnyH_done (by kernel_rfl) ?_ _
                have hbz := hF.1
                have hlz := hF.2.1
                have hoz := hF.2.2
                clear hF hHeld
                generalize (((x14.setCell ⟨x12.heap.size, 0, none⟩ (Value.int IntKind.i64 s)).setCell ⟨x12.heap.size, 1, none⟩ (Value.int IntKind.i64 u)).setCell ⟨x12.heap.size, 2, none⟩ (Value.slice ov YS.length cv)) = xz at hbz hlz hoz ⊢
                generalize x12.heap.size = bk at hbz hlz hoz ⊢
                have BZ := hide (B2.out.trans (hbz.mono B2.out.size))
                have RZ := hide ((hbz.block _ (blk_lt R2.out)).trans R2.out)
                have HOZ := hide hoz
                have LZ := hide hlz
                obtain ⟨_, _, he, hatz⟩ := entsAt_own hoz
                cases he
                have HAZ := hide hatz
                obtain ⟨c0, c1, c2⟩ := LZ.out
                clear hbz hlz hoz hatz
                go_wp2_with fail
                refine (implLogOk_any s u _ _ _ YS _ HAZ.out HYW.out).mono ?_
                rintro r x8 ⟨rfl, hb8⟩
                have B8 := hide (BZ.out.trans (hb8.mono BZ.out.size))
                have R8 := hide ((hb8.block _ (blk_lt RZ.out)).trans RZ.out)
                obtain ⟨d0, d1, d2⟩ := LZ.out.on hb8
                have HA8 := hide (HAZ.out.below hb8)
                have l8 := blk_lt R8.out
                clear hb8 c0 c1 c2 LZ HAZ HOZ
                cases hy : lgOk s u YS with
                | false =>
                  have HPR := hide (show putR s u es (s + 1 + k) e = (0, 0, [], false) by rw [putR, if_neg]; rw [HPO.out, hy]; simp)
                  have r0 := blk_cell R8.out 0 rfl
                  have r1 := blk_cell R8.out 1 rfl
                  have r2 := blk_cell R8.out 2 rfl
                  have t0 := blk_free R8.out 0
                  have t1 := blk_free R8.out 1
                  have t2 := blk_free R8.out 2
                  clear hy
                  go_wp2_with fail
                  refine bodyPost_ret (v := .tuple #[lgv 0 0 (.slice none 0 0), .bool false]) (by simp [results, Tryz.results98, go_sem, r0, r1, r2, t0, t1, t2]) rfl ?_
                  rw [HPR.out]
                  refine ⟨_, rfl, World.ownsRow_nil _ _ _ _, ?_⟩
                  repeat (refine Below.setCell ?_ (by simp <;> omega) _)
                  exact B8.out
                | true =>
                  have HPR := hide (show putR s u es (s + 1 + k) e = (s, u, YS, true) by rw [putR, if_pos (by rw [HPO.out, hy]), HPL.out])
                  clear hy
                  go_wp2_with fail
                  refine (copied6_any s u _ _ _ YS (by rw [HYL.out]; omega) _ HA8.out HYW.out).mono ?_
                  rintro r x7 ⟨v7, rfl, ho7, hb7⟩
                  obtain ⟨o7, c7, rfl⟩ := own_form3 ho7
                  have R7 := (hb7.block _ l8).trans R8.out
                  have r0 := blk_cell R7 0 rfl
                  have r1 := blk_cell R7 1 rfl
                  have r2 := blk_cell R7 2 rfl
                  have t0 := blk_free R7 0
                  have t1 := blk_free R7 1
                  have t2 := blk_free R7 2
                  have HO7 := hide (own_base ho7 (base' := w.heap.size + 1 + 1 + 1) (by omega))
                  have B7 := hide (B8.out.trans (hb7.mono B8.out.size))
                  clear hb7 ho7 R7
                  go_wp2_with fail
                  refine bodyPost_ret (v := .tuple #[lgv s u (.slice o7 YS.length c7), .bool true]) (by simp [results, Tryz.results98, go_sem, r0, r1, r2, t0, t1, t2]) rfl ?_
                  rw [HPR.out]
                  refine ⟨_, rfl, ?_, ?_⟩
                  · refine own_base (base := w.heap.size + 1 + 1 + 1) ?_ (by omega)
                    repeat (refine own_setCell ?_ (by simp <;> omega) _)
                    exact HO7.out
                  · repeat (refine Below.setCell ?_ (by simp <;> omega) _)
                    exact B7.out
              exact AllReadyH.nil
            exact AllReadyH.nil
          refine AllReadyH.cons rfl (fun K hK => ?_) ?_
          · have HS14 := hide HS11.out.alloc18
            rw [if_pos (by rfl)]
            go_simp
            refine hK.out _ _ ?_ (fun hHeld => ?_)
            · exact HPS.out.of HS14.out.bel
            clear hK K
            try simp only [Act.put, List.getElem_toArray, List.getElem_cons_zero, List.getElem_cons_succ, List.setIfInBounds_toArray, List.set_cons_zero, List.set_cons_succ]
            generalize x11.alloc (Obj.cells #[Value.int IntKind.i64 0, Value.int IntKind.i64 0, Value.slice none 0 0] 28) = x14 at HS14 hHeld ⊢
            refine wpAnyH_ready (rs := [12]) (by kernel_rfl) (by simp) ?_
            refine AllReadyH.cons rfl (fun K hK => ?_) ?_
            · have A12 := ((HAT.out.below (B2.out.trans (HS14.out.bel.mono B2.out.size))).piece 0 k k (Nat.zero_le _) hkn (Nat.le_refl _) (Nat.le_trans hkn HRM.out))
              rw [List.drop_zero] at A12
              rw [if_pos (by rfl)]
              refine wp_append_full _ _ rfl (partA oa 0 k) k (es.take k) rfl A12 (by omega) _ _ e rfl (HS14.out.h15 _ rfl) ?_
              clear A12
              intro v x12 ho12 hg12
              rw [← HYS.out, ← HYL.out] at ho12
              have HS12 := hide (HS14.out.growFull ho12 hg12)
              obtain ⟨ov, cv, rfl⟩ := own_form3 ho12
              clear ho12 hg12
              try go_simp
              refine hK.out _ _ ?_ (fun hHeld => ?_)
              · exact HPS.out.of HS12.out.bel
              clear hK K
              try simp only [Act.put, List.getElem_toArray, List.getElem_cons_zero, List.getElem_cons_succ, List.setIfInBounds_toArray, List.set_cons_zero, List.set_cons_succ]
              refine wpAnyH_take (i := 13) (v := ?_) rfl (by kernel_rfl) (by kernel_rfl) (by kernel_rfl) (fun _ _ _ h => h) (Or.inl ⟨by rfl, ?_⟩) (by assumption) ?_; rotate_left
              · (intro wz hSw; obtain ⟨z0, z1, z2, z3, z4, z5⟩ := PutS.cells hSw; clear hSw; go_simp; first | done | with_reducible rfl)
              try simp only [Act.put, List.getElem_toArray, List.getElem_cons_zero, List.getElem_cons_succ, List.setIfInBounds_toArray, List.set_cons_zero, List.set_cons_succ]
              refine wpAnyH_ready (rs := [15]) (by kernel_rfl) (by simp) ?_
              refine AllReadyH.cons rfl (fun K hK => ?_) ?_
              · have hq := (HS12.out.h18 _ rfl).2
                have q0 := blk_cell hq 0 rfl
                have q1 := blk_cell hq 1 rfl
                have q2 := blk_cell hq 2 rfl
                have f0 := blk_free hq 0
                have f1 := blk_free hq 1
                have f2 := blk_free hq 2
                simp only [List.getElem_toArray, List.getElem_cons_zero, List.getElem_cons_succ] at q0 q1 q2
                rw [if_pos (by rfl)]
                go_simp
                refine hK.out _ _ ?_ (fun hHeld => ?_)
                · exact HPS.out.of (HS12.out.stored (s := s) (u := u)).1
                clear hK K
                try simp only [Act.put, List.getElem_toArray, List.getElem_cons_zero, List.getElem_cons_succ, List.setIfInBounds_toArray, List.set_cons_zero, List.set_cons_succ]
                clear hq q0 q1 q2 f0 f1 f2
                have hF := HS12.out.stored (s := s) (u := u)
                refine wpAnyH_done (by kernel_rfl) ?_ _
                have hbz := hF.1
                have hlz := hF.2.1
                have hoz := hF.2.2
                clear hF hHeld
                generalize (((x12.setCell ⟨x11.heap.size, 0, none⟩ (Value.int IntKind.i64 s)).setCell ⟨x11.heap.size, 1, none⟩ (Value.int IntKind.i64 u)).setCell ⟨x11.heap.size, 2, none⟩ (Value.slice ov YS.length cv)) = xz at hbz hlz hoz ⊢
                generalize x11.heap.size = bk at hbz hlz hoz ⊢
                have BZ := hide (B2.out.trans (hbz.mono B2.out.size))
                have RZ := hide ((hbz.block _ (blk_lt R2.out)).trans R2.out)
                have HOZ := hide hoz
                have LZ := hide hlz
                obtain ⟨_, _, he, hatz⟩ := entsAt_own hoz
                cases he
                have HAZ := hide hatz
                obtain ⟨c0, c1, c2⟩ := LZ.out
                clear hbz hlz hoz hatz
                go_wp2_with fail
                refine (implLogOk_any s u _ _ _ YS _ HAZ.out HYW.out).mono ?_
                rintro r x8 ⟨rfl, hb8⟩
                have B8 := hide (BZ.out.trans (hb8.mono BZ.out.size))
                have R8 := hide ((hb8.block _ (blk_lt RZ.out)).trans RZ.out)
                obtain ⟨d0, d1, d2⟩ := LZ.out.on hb8
                have HA8 := hide (HAZ.out.below hb8)
                have l8 := blk_lt R8.out
                clear hb8 c0 c1 c2 LZ HAZ HOZ
                cases hy : lgOk s u YS with
                | false =>
                  have HPR := hide (show putR s u es (s + 1 + k) e = (0, 0, [], false) by rw [putR, if_neg]; rw [HPO.out, hy]; simp)
                  have r0 := blk_cell R8.out 0 rfl
                  have r1 := blk_cell R8.out 1 rfl
                  have r2 := blk_cell R8.out 2 rfl
                  have t0 := blk_free R8.out 0
                  have t1 := blk_free R8.out 1
                  have t2 := blk_free R8.out 2
                  clear hy
                  go_wp2_with fail
                  refine bodyPost_ret (v := .tuple #[lgv 0 0 (.slice none 0 0), .bool false]) (by simp [results, Tryz.results98, go_sem, r0, r1, r2, t0, t1, t2]) rfl ?_
                  rw [HPR.out]
                  refine ⟨_, rfl, World.ownsRow_nil _ _ _ _, ?_⟩
                  repeat (refine Below.setCell ?_ (by simp <;> omega) _)
                  exact B8.out
                | true =>
                  have HPR := hide (show putR s u es (s + 1 + k) e = (s, u, YS, true) by rw [putR, if_pos (by rw [HPO.out, hy]), HPL.out])
                  clear hy
                  go_wp2_with fail
                  refine (copied6_any s u _ _ _ YS (by rw [HYL.out]; omega) _ HA8.out HYW.out).mono ?_
                  rintro r x7 ⟨v7, rfl, ho7, hb7⟩
                  obtain ⟨o7, c7, rfl⟩ := own_form3 ho7
                  have R7 := (hb7.block _ l8).trans R8.out
                  have r0 := blk_cell R7 0 rfl
                  have r1 := blk_cell R7 1 rfl
                  have r2 := blk_cell R7 2 rfl
                  have t0 := blk_free R7 0
                  have t1 := blk_free R7 1
                  have t2 := blk_free R7 2
                  have HO7 := hide (own_base ho7 (base' := w.heap.size + 1 + 1 + 1) (by omega))
                  have B7 := hide (B8.out.trans (hb7.mono B8.out.size))
                  clear hb7 ho7 R7
                  go_wp2_with fail
                  refine bodyPost_ret (v := .tuple #[lgv s u (.slice o7 YS.length c7), .bool true]) (by simp [results, Tryz.results98, go_sem, r0, r1, r2, t0, t1, t2]) rfl ?_
                  rw [HPR.out]
                  refine ⟨_, rfl, ?_, ?_⟩
                  · refine own_base (base := w.heap.size + 1 + 1 + 1) ?_ (by omega)
                    repeat (refine own_setCell ?_ (by simp <;> omega) _)
                    exact HO7.out
                  · repeat (refine Below.setCell ?_ (by simp <;> omega) _)
                    exact B7.out
              exact AllReadyH.nil
            exact AllReadyH.nil
          exact AllReadyH.nil
        refine AllReadyH.cons rfl (fun K hK => ?_) ?_
        · have HS14 := hide HS9.out.alloc18
          rw [if_pos (by rfl)]
          go_simp
          refine hK.out _ _ ?_ (fun hHeld => ?_)
          · exact HPS.out.of HS14.out.bel
          clear hK K
          try simp only [Act.put, List.getElem_toArray, List.getElem_cons_zero, List.getElem_cons_succ, List.setIfInBounds_toArray, List.set_cons_zero, List.set_cons_succ]
          generalize x9.alloc (Obj.cells #[Value.int IntKind.i64 0, Value.int IntKind.i64 0, Value.slice none 0 0] 28) = x14 at HS14 hHeld ⊢
          refine wpAnyH_ready (rs := [11]) (by kernel_rfl) (by simp) ?_
          refine AllReadyH.cons rfl (fun K hK => ?_) ?_
          · have HS11 := hide HS14.out.alloc15
            rw [if_pos (by rfl)]
            go_simp
            refine hK.out _ _ ?_ (fun hHeld => ?_)
            · exact HPS.out.of HS11.out.bel
            clear hK K
            try simp only [Act.put, List.getElem_toArray, List.getElem_cons_zero, List.getElem_cons_succ, List.setIfInBounds_toArray, List.set_cons_zero, List.set_cons_succ]
            generalize x14.alloc (Obj.cells #[Value.int IntKind.i64 e.term, Value.int IntKind.i64 e.kind, Value.string e.data] 111) = x11 at HS11 hHeld ⊢
            refine wpAnyH_ready (rs := [12]) (by kernel_rfl) (by simp) ?_
            refine AllReadyH.cons rfl (fun K hK => ?_) ?_
            · have A12 := ((HAT.out.below (B2.out.trans (HS11.out.bel.mono B2.out.size))).piece 0 k k (Nat.zero_le _) hkn (Nat.le_refl _) (Nat.le_trans hkn HRM.out))
              rw [List.drop_zero] at A12
              rw [if_pos (by rfl)]
              refine wp_append_full _ _ rfl (partA oa 0 k) k (es.take k) rfl A12 (by omega) _ _ e rfl (HS11.out.h15 _ rfl) ?_
              clear A12
              intro v x12 ho12 hg12
              rw [← HYS.out, ← HYL.out] at ho12
              have HS12 := hide (HS11.out.growFull ho12 hg12)
              obtain ⟨ov, cv, rfl⟩ := own_form3 ho12
              clear ho12 hg12
              try go_simp
              refine hK.out _ _ ?_ (fun hHeld => ?_)
              · exact HPS.out.of HS12.out.bel
              clear hK K
              try simp only [Act.put, List.getElem_toArray, List.getElem_cons_zero, List.getElem_cons_succ, List.setIfInBounds_toArray, List.set_cons_zero, List.set_cons_succ]
              refine wpAnyH_take (i := 13) (v := ?_) rfl (by kernel_rfl) (by kernel_rfl) (by kernel_rfl) (fun _ _ _ h => h) (Or.inl ⟨by rfl, ?_⟩) (by assumption) ?_; rotate_left
              · (intro wz hSw; obtain ⟨z0, z1, z2, z3, z4, z5⟩ := PutS.cells hSw; clear hSw; go_simp; first | done | with_reducible rfl)
              try simp only [Act.put, List.getElem_toArray, List.getElem_cons_zero, List.getElem_cons_succ, List.setIfInBounds_toArray, List.set_cons_zero, List.set_cons_succ]
              refine wpAnyH_ready (rs := [15]) (by kernel_rfl) (by simp) ?_
              refine AllReadyH.cons rfl (fun K hK => ?_) ?_
              · have hq := (HS12.out.h18 _ rfl).2
                have q0 := blk_cell hq 0 rfl
                have q1 := blk_cell hq 1 rfl
                have q2 := blk_cell hq 2 rfl
                have f0 := blk_free hq 0
                have f1 := blk_free hq 1
                have f2 := blk_free hq 2
                simp only [List.getElem_toArray, List.getElem_cons_zero, List.getElem_cons_succ] at q0 q1 q2
                rw [if_pos (by rfl)]
                go_simp
                refine hK.out _ _ ?_ (fun hHeld => ?_)
                · exact HPS.out.of (HS12.out.stored (s := s) (u := u)).1
                clear hK K
                try simp only [Act.put, List.getElem_toArray, List.getElem_cons_zero, List.getElem_cons_succ, List.setIfInBounds_toArray, List.set_cons_zero, List.set_cons_succ]
                clear hq q0 q1 q2 f0 f1 f2
                have hF := HS12.out.stored (s := s) (u := u)
                refine wpAnyH_done (by kernel_rfl) ?_ _
                have hbz := hF.1
                have hlz := hF.2.1
                have hoz := hF.2.2
                clear hF hHeld
                generalize (((x12.setCell ⟨x9.heap.size, 0, none⟩ (Value.int IntKind.i64 s)).setCell ⟨x9.heap.size, 1, none⟩ (Value.int IntKind.i64 u)).setCell ⟨x9.heap.size, 2, none⟩ (Value.slice ov YS.length cv)) = xz at hbz hlz hoz ⊢
                generalize x9.heap.size = bk at hbz hlz hoz ⊢
                have BZ := hide (B2.out.trans (hbz.mono B2.out.size))
                have RZ := hide ((hbz.block _ (blk_lt R2.out)).trans R2.out)
                have HOZ := hide hoz
                have LZ := hide hlz
                obtain ⟨_, _, he, hatz⟩ := entsAt_own hoz
                cases he
                have HAZ := hide hatz
                obtain ⟨c0, c1, c2⟩ := LZ.out
                clear hbz hlz hoz hatz
                go_wp2_with fail
                refine (implLogOk_any s u _ _ _ YS _ HAZ.out HYW.out).mono ?_
                rintro r x8 ⟨rfl, hb8⟩
                have B8 := hide (BZ.out.trans (hb8.mono BZ.out.size))
                have R8 := hide ((hb8.block _ (blk_lt RZ.out)).trans RZ.out)
                obtain ⟨d0, d1, d2⟩ := LZ.out.on hb8
                have HA8 := hide (HAZ.out.below hb8)
                have l8 := blk_lt R8.out
                clear hb8 c0 c1 c2 LZ HAZ HOZ
                cases hy : lgOk s u YS with
                | false =>
                  have HPR := hide (show putR s u es (s + 1 + k) e = (0, 0, [], false) by rw [putR, if_neg]; rw [HPO.out, hy]; simp)
                  have r0 := blk_cell R8.out 0 rfl
                  have r1 := blk_cell R8.out 1 rfl
                  have r2 := blk_cell R8.out 2 rfl
                  have t0 := blk_free R8.out 0
                  have t1 := blk_free R8.out 1
                  have t2 := blk_free R8.out 2
                  clear hy
                  go_wp2_with fail
                  refine bodyPost_ret (v := .tuple #[lgv 0 0 (.slice none 0 0), .bool false]) (by simp [results, Tryz.results98, go_sem, r0, r1, r2, t0, t1, t2]) rfl ?_
                  rw [HPR.out]
                  refine ⟨_, rfl, World.ownsRow_nil _ _ _ _, ?_⟩
                  repeat (refine Below.setCell ?_ (by simp <;> omega) _)
                  exact B8.out
                | true =>
                  have HPR := hide (show putR s u es (s + 1 + k) e = (s, u, YS, true) by rw [putR, if_pos (by rw [HPO.out, hy]), HPL.out])
                  clear hy
                  go_wp2_with fail
                  refine (copied6_any s u _ _ _ YS (by rw [HYL.out]; omega) _ HA8.out HYW.out).mono ?_
                  rintro r x7 ⟨v7, rfl, ho7, hb7⟩
                  obtain ⟨o7, c7, rfl⟩ := own_form3 ho7
                  have R7 := (hb7.block _ l8).trans R8.out
                  have r0 := blk_cell R7 0 rfl
                  have r1 := blk_cell R7 1 rfl
                  have r2 := blk_cell R7 2 rfl
                  have t0 := blk_free R7 0
                  have t1 := blk_free R7 1
                  have t2 := blk_free R7 2
                  have HO7 := hide (own_base ho7 (base' := w.heap.size + 1 + 1 + 1) (by omega))
                  have B7 := hide (B8.out.trans (hb7.mono B8.out.size))
                  clear hb7 ho7 R7
                  go_wp2_with fail
                  refine bodyPost_ret (v := .tuple #[lgv s u (.slice o7 YS.length c7), .bool true]) (by simp [results, Tryz.results98, go_sem, r0, r1, r2, t0, t1, t2]) rfl ?_
                  rw [HPR.out]
                  refine ⟨_, rfl, ?_, ?_⟩
                  · refine own_base (base := w.heap.size + 1 + 1 + 1) ?_ (by omega)
                    repeat (refine own_setCell ?_ (by simp <;> omega) _)
                    exact HO7.out
                  · repeat (refine Below.setCell ?_ (by simp <;> omega) _)
                    exact B7.out
              exact AllReadyH.nil
            exact AllReadyH.nil
          exact AllReadyH.nil
        exact AllReadyH.nil
      refine AllReadyH.cons rfl (fun K hK => ?_) ?_
      · have HS11 := hide HSs.out.alloc15
        rw [if_pos (by rfl)]
        go_simp
        refine hK.out _ _ ?_ (fun hHeld => ?_)
        · exact HPS.out.of HS11.out.bel
        clear hK K
        try simp only [Act.put, List.getElem_toArray, List.getElem_cons_zero, List.getElem_cons_succ, List.setIfInBounds_toArray, List.set_cons_zero, List.set_cons_succ]
        generalize xs.alloc (Obj.cells #[Value.int IntKind.i64 e.term, Value.int IntKind.i64 e.kind, Value.string e.data] 111) = x11 at HS11 hHeld ⊢
        refine wpAnyH_ready (rs := [9, 14]) (by kernel_rfl) (by simp) ?_
        refine AllReadyH.cons rfl (fun K hK => ?_) ?_
        · rw [if_pos (by rfl)]
          go_simp
          go_at_call 117
          refine (between_any s u oa n cap HRM.out _ _ 0 k (by omega) (by omega) s0 s1 (Nat.zero_le _) hkn hn60 _).mono ?_
          rintro r x9 ⟨rfl, hb9⟩
          have HS9 := hide (HS11.out.on hb9)
          clear hb9
          try go_simp
          refine hK.out _ _ ?_ (fun hHeld => ?_)
          · exact HPS.out.of HS9.out.bel
          clear hK K
          try simp only [Act.put, List.getElem_toArray, List.getElem_cons_zero, List.getElem_cons_succ, List.setIfInBounds_toArray, List.set_cons_zero, List.set_cons_succ]
          refine wpAnyH_ready (rs := [12, 14]) (by kernel_rfl) (by simp) ?_
          refine AllReadyH.cons rfl (fun K hK => ?_) ?_
          · have A12 := ((HAT.out.below (B2.out.trans (HS9.out.bel.mono B2.out.size))).piece 0 k k (Nat.zero_le _) hkn (Nat.le_refl _) (Nat.le_trans hkn HRM.out))
            rw [List.drop_zero] at A12
            rw [if_pos (by rfl)]
            refine wp_append_full _ _ rfl (partA oa 0 k) k (es.take k) rfl A12 (by omega) _ _ e rfl (HS9.out.h15 _ rfl) ?_
            clear A12
            intro v x12 ho12 hg12
            rw [← HYS.out, ← HYL.out] at ho12
            have HS12 := hide (HS9.out.growFull ho12 hg12)
            obtain ⟨ov, cv, rfl⟩ := own_form3 ho12
            clear ho12 hg12
            try go_simp
            refine hK.out _ _ ?_ (fun hHeld => ?_)
            · exact HPS.out.of HS12.out.bel
            clear hK K
            try simp only [Act.put, List.getElem_toArray, List.getElem_cons_zero, List.getElem_cons_succ, List.setIfInBounds_toArray, List.set_cons_zero, List.set_cons_succ]
            refine wpAnyH_take (i := 13) (v := ?_) rfl (by kernel_rfl) (by kernel_rfl) (by kernel_rfl) (fun _ _ _ h => h) (Or.inl ⟨by rfl, ?_⟩) (by assumption) ?_; rotate_left
            · (intro wz hSw; obtain ⟨z0, z1, z2, z3, z4, z5⟩ := PutS.cells hSw; clear hSw; go_simp; first | done | with_reducible rfl)
            try simp only [Act.put, List.getElem_toArray, List.getElem_cons_zero, List.getElem_cons_succ, List.setIfInBounds_toArray, List.set_cons_zero, List.set_cons_succ]
            refine wpAnyH_ready (rs := [14]) (by kernel_rfl) (by simp) ?_
            refine AllReadyH.cons rfl (fun K hK => ?_) ?_
            · have HS14 := hide HS12.out.alloc18
              rw [if_pos (by rfl)]
              go_simp
              refine hK.out _ _ ?_ (fun hHeld => ?_)
              · exact HPS.out.of HS14.out.bel
              clear hK K
              try simp only [Act.put, List.getElem_toArray, List.getElem_cons_zero, List.getElem_cons_succ, List.setIfInBounds_toArray, List.set_cons_zero, List.set_cons_succ]
              generalize x12.alloc (Obj.cells #[Value.int IntKind.i64 0, Value.int IntKind.i64 0, Value.slice none 0 0] 28) = x14 at HS14 hHeld ⊢
              refine wpAnyH_ready (rs := [15]) (by kernel_rfl) (by simp) ?_
              refine AllReadyH.cons rfl (fun K hK => ?_) ?_
              · have hq := (HS14.out.h18 _ rfl).2
                have q0 := blk_cell hq 0 rfl
                have q1 := blk_cell hq 1 rfl
                have q2 := blk_cell hq 2 rfl
                have f0 := blk_free hq 0
                have f1 := blk_free hq 1
                have f2 := blk_free hq 2
                simp only [List.getElem_toArray, List.getElem_cons_zero, List.getElem_cons_succ] at q0 q1 q2
                rw [if_pos (by rfl)]
                go_simp
                refine hK.out _ _ ?_ (fun hHeld => ?_)
                · exact HPS.out.of (HS14.out.stored (s := s) (u := u)).1
                clear hK K
                try simp only [Act.put, List.getElem_toArray, List.getElem_cons_zero, List.getElem_cons_succ, List.setIfInBounds_toArray, List.set_cons_zero, List.set_cons_succ]
                clear hq q0 q1 q2 f0 f1 f2
                have hF := HS14.out.stored (s := s) (u := u)
                refine wpAnyH_done (by kernel_rfl) ?_ _
                have hbz := hF.1
                have hlz := hF.2.1
                have hoz := hF.2.2
                clear hF hHeld
                generalize (((x14.setCell ⟨x12.heap.size, 0, none⟩ (Value.int IntKind.i64 s)).setCell ⟨x12.heap.size, 1, none⟩ (Value.int IntKind.i64 u)).setCell ⟨x12.heap.size, 2, none⟩ (Value.slice ov YS.length cv)) = xz at hbz hlz hoz ⊢
                generalize x12.heap.size = bk at hbz hlz hoz ⊢
                have BZ := hide (B2.out.trans (hbz.mono B2.out.size))
                have RZ := hide ((hbz.block _ (blk_lt R2.out)).trans R2.out)
                have HOZ := hide hoz
                have LZ := hide hlz
                obtain ⟨_, _, he, hatz⟩ := entsAt_own hoz
                cases he
                have HAZ := hide hatz
                obtain ⟨c0, c1, c2⟩ := LZ.out
                clear hbz hlz hoz hatz
                go_wp2_with fail
                refine (implLogOk_any s u _ _ _ YS _ HAZ.out HYW.out).mono ?_
                rintro r x8 ⟨rfl, hb8⟩
                have B8 := hide (BZ.out.trans (hb8.mono BZ.out.size))
                have R8 := hide ((hb8.block _ (blk_lt RZ.out)).trans RZ.out)
                obtain ⟨d0, d1, d2⟩ := LZ.out.on hb8
                have HA8 := hide (HAZ.out.below hb8)
                have l8 := blk_lt R8.out
                clear hb8 c0 c1 c2 LZ HAZ HOZ
                cases hy : lgOk s u YS with
                | false =>
                  have HPR := hide (show putR s u es (s + 1 + k) e = (0, 0, [], false) by rw [putR, if_neg]; rw [HPO.out, hy]; simp)
                  have r0 := blk_cell R8.out 0 rfl
                  have r1 := blk_cell R8.out 1 rfl
                  have r2 := blk_cell R8.out 2 rfl
                  have t0 := blk_free R8.out 0
                  have t1 := blk_free R8.out 1
                  have t2 := blk_free R8.out 2
                  clear hy
                  go_wp2_with fail
                  refine bodyPost_ret (v := .tuple #[lgv 0 0 (.slice none 0 0), .bool false]) (by simp [results, Tryz.results98, go_sem, r0, r1, r2, t0, t1, t2]) rfl ?_
                  rw [HPR.out]
                  refine ⟨_, rfl, World.ownsRow_nil _ _ _ _, ?_⟩
                  repeat (refine Below.setCell ?_ (by simp <;> omega) _)
                  exact B8.out
                | true =>
                  have HPR := hide (show putR s u es (s + 1 + k) e = (s, u, YS, true) by rw [putR, if_pos (by rw [HPO.out, hy]), HPL.out])
                  clear hy
                  go_wp2_with fail
                  refine (copied6_any s u _ _ _ YS (by rw [HYL.out]; omega) _ HA8.out HYW.out).mono ?_
                  rintro r x7 ⟨v7, rfl, ho7, hb7⟩
                  obtain ⟨o7, c7, rfl⟩ := own_form3 ho7
                  have R7 := (hb7.block _ l8).trans R8.out
                  have r0 := blk_cell R7 0 rfl
                  have r1 := blk_cell R7 1 rfl
                  have r2 := blk_cell R7 2 rfl
                  have t0 := blk_free R7 0
                  have t1 := blk_free R7 1
                  have t2 := blk_free R7 2
                  have HO7 := hide (own_base ho7 (base' := w.heap.size + 1 + 1 + 1) (by omega))
                  have B7 := hide (B8.out.trans (hb7.mono B8.out.size))
                  clear hb7 ho7 R7
                  go_wp2_with fail
                  refine bodyPost_ret (v := .tuple #[lgv s u (.slice o7 YS.length c7), .bool true]) (by simp [results, Tryz.results98, go_sem, r0, r1, r2, t0, t1, t2]) rfl ?_
                  rw [HPR.out]
                  refine ⟨_, rfl, ?_, ?_⟩
                  · refine own_base (base := w.heap.size + 1 + 1 + 1) ?_ (by omega)
                    repeat (refine own_setCell ?_ (by simp <;> omega) _)
                    exact HO7.out
                  · repeat (refine Below.setCell ?_ (by simp <;> omega) _)
                    exact B7.out
              exact AllReadyH.nil
            exact AllReadyH.nil
          refine AllReadyH.cons rfl (fun K hK => ?_) ?_
          · have HS14 := hide HS9.out.alloc18
            rw [if_pos (by rfl)]
            go_simp
            refine hK.out _ _ ?_ (fun hHeld => ?_)
            · exact HPS.out.of HS14.out.bel
            clear hK K
            try simp only [Act.put, List.getElem_toArray, List.getElem_cons_zero, List.getElem_cons_succ, List.setIfInBounds_toArray, List.set_cons_zero, List.set_cons_succ]
            generalize x9.alloc (Obj.cells #[Value.int IntKind.i64 0, Value.int IntKind.i64 0, Value.slice none 0 0] 28) = x14 at HS14 hHeld ⊢
            refine wpAnyH_ready (rs := [12]) (by kernel_rfl) (by simp) ?_
            refine AllReadyH.cons rfl (fun K hK => ?_) ?_
            · have A12 := ((HAT.out.below (B2.out.trans (HS14.out.bel.mono B2.out.size))).piece 0 k k (Nat.zero_le _) hkn (Nat.le_refl _) (Nat.le_trans hkn HRM.out))
              rw [List.drop_zero] at A12
              rw [if_pos (by rfl)]
              refine wp_append_full _ _ rfl (partA oa 0 k) k (es.take k) rfl A12 (by omega) _ _ e rfl (HS14.out.h15 _ rfl) ?_
              clear A12
              intro v x12 ho12 hg12
              rw [← HYS.out, ← HYL.out] at ho12
              have HS12 := hide (HS14.out.growFull ho12 hg12)
              obtain ⟨ov, cv, rfl⟩ := own_form3 ho12
              clear ho12 hg12
              try go_simp
              refine hK.out _ _ ?_ (fun hHeld => ?_)
              · exact HPS.out.of HS12.out.bel
              clear hK K
              try simp only [Act.put, List.getElem_toArray, List.getElem_cons_zero, List.getElem_cons_succ, List.setIfInBounds_toArray, List.set_cons_zero, List.set_cons_succ]
              refine wpAnyH_take (i := 13) (v := ?_) rfl (by kernel_rfl) (by kernel_rfl) (by kernel_rfl) (fun _ _ _ h => h) (Or.inl ⟨by rfl, ?_⟩) (by assumption) ?_; rotate_left
              · (intro wz hSw; obtain ⟨z0, z1, z2, z3, z4, z5⟩ := PutS.cells hSw; clear hSw; go_simp; first | done | with_reducible rfl)
              try simp only [Act.put, List.getElem_toArray, List.getElem_cons_zero, List.getElem_cons_succ, List.setIfInBounds_toArray, List.set_cons_zero, List.set_cons_succ]
              refine wpAnyH_ready (rs := [15]) (by kernel_rfl) (by simp) ?_
              refine AllReadyH.cons rfl (fun K hK => ?_) ?_
              · have hq := (HS12.out.h18 _ rfl).2
                have q0 := blk_cell hq 0 rfl
                have q1 := blk_cell hq 1 rfl
                have q2 := blk_cell hq 2 rfl
                have f0 := blk_free hq 0
                have f1 := blk_free hq 1
                have f2 := blk_free hq 2
                simp only [List.getElem_toArray, List.getElem_cons_zero, List.getElem_cons_succ] at q0 q1 q2
                rw [if_pos (by rfl)]
                go_simp
                refine hK.out _ _ ?_ (fun hHeld => ?_)
                · exact HPS.out.of (HS12.out.stored (s := s) (u := u)).1
                clear hK K
                try simp only [Act.put, List.getElem_toArray, List.getElem_cons_zero, List.getElem_cons_succ, List.setIfInBounds_toArray, List.set_cons_zero, List.set_cons_succ]
                clear hq q0 q1 q2 f0 f1 f2
                have hF := HS12.out.stored (s := s) (u := u)
                refine wpAnyH_done (by kernel_rfl) ?_ _
                have hbz := hF.1
                have hlz := hF.2.1
                have hoz := hF.2.2
                clear hF hHeld
                generalize (((x12.setCell ⟨x9.heap.size, 0, none⟩ (Value.int IntKind.i64 s)).setCell ⟨x9.heap.size, 1, none⟩ (Value.int IntKind.i64 u)).setCell ⟨x9.heap.size, 2, none⟩ (Value.slice ov YS.length cv)) = xz at hbz hlz hoz ⊢
                generalize x9.heap.size = bk at hbz hlz hoz ⊢
                have BZ := hide (B2.out.trans (hbz.mono B2.out.size))
                have RZ := hide ((hbz.block _ (blk_lt R2.out)).trans R2.out)
                have HOZ := hide hoz
                have LZ := hide hlz
                obtain ⟨_, _, he, hatz⟩ := entsAt_own hoz
                cases he
                have HAZ := hide hatz
                obtain ⟨c0, c1, c2⟩ := LZ.out
                clear hbz hlz hoz hatz
                go_wp2_with fail
                refine (implLogOk_any s u _ _ _ YS _ HAZ.out HYW.out).mono ?_
                rintro r x8 ⟨rfl, hb8⟩
                have B8 := hide (BZ.out.trans (hb8.mono BZ.out.size))
                have R8 := hide ((hb8.block _ (blk_lt RZ.out)).trans RZ.out)
                obtain ⟨d0, d1, d2⟩ := LZ.out.on hb8
                have HA8 := hide (HAZ.out.below hb8)
                have l8 := blk_lt R8.out
                clear hb8 c0 c1 c2 LZ HAZ HOZ
                cases hy : lgOk s u YS with
                | false =>
                  have HPR := hide (show putR s u es (s + 1 + k) e = (0, 0, [], false) by rw [putR, if_neg]; rw [HPO.out, hy]; simp)
                  have r0 := blk_cell R8.out 0 rfl
                  have r1 := blk_cell R8.out 1 rfl
                  have r2 := blk_cell R8.out 2 rfl
                  have t0 := blk_free R8.out 0
                  have t1 := blk_free R8.out 1
                  have t2 := blk_free R8.out 2
                  clear hy
                  go_wp2_with fail
                  refine bodyPost_ret (v := .tuple #[lgv 0 0 (.slice none 0 0), .bool false]) (by simp [results, Tryz.results98, go_sem, r0, r1, r2, t0, t1, t2]) rfl ?_
                  rw [HPR.out]
                  refine ⟨_, rfl, World.ownsRow_nil _ _ _ _, ?_⟩
                  repeat (refine Below.setCell ?_ (by simp <;> omega) _)
                  exact B8.out
                | true =>
                  have HPR := hide (show putR s u es (s + 1 + k) e = (s, u, YS, true) by rw [putR, if_pos (by rw [HPO.out, hy]), HPL.out])
                  clear hy
                  go_wp2_with fail
                  refine (copied6_any s u _ _ _ YS (by rw [HYL.out]; omega) _ HA8.out HYW.out).mono ?_
                  rintro r x7 ⟨v7, rfl, ho7, hb7⟩
                  obtain ⟨o7, c7, rfl⟩ := own_form3 ho7
                  have R7 := (hb7.block _ l8).trans R8.out
                  have r0 := blk_cell R7 0 rfl
                  have r1 := blk_cell R7 1 rfl
                  have r2 := blk_cell R7 2 rfl
                  have t0 := blk_free R7 0
                  have t1 := blk_free R7 1
                  have t2 := blk_free R7 2
                  have HO7 := hide (own_base ho7 (base' := w.heap.size + 1 + 1 + 1) (by omega))
                  have B7 := hide (B8.out.trans (hb7.mono B8.out.size))
                  clear hb7 ho7 R7
                  go_wp2_with fail
                  refine bodyPost_ret (v := .tuple #[lgv s u (.slice o7 YS.length c7), .bool true]) (by simp [results, Tryz.results98, go_sem, r0, r1, r2, t0, t1, t2]) rfl ?_
                  rw [HPR.out]
                  refine ⟨_, rfl, ?_, ?_⟩
                  · refine own_base (base := w.heap.size + 1 + 1 + 1) ?_ (by omega)
                    repeat (refine own_setCell ?_ (by simp <;> omega) _)
                    exact HO7.out
                  · repeat (refine Below.setCell ?_ (by simp <;> omega) _)
                    exact B7.out
              exact AllReadyH.nil
            exact AllReadyH.nil
          exact AllReadyH.nil
        refine AllReadyH.cons rfl (fun K hK => ?_) ?_
        · have HS14 := hide HS11.out.alloc18
          rw [if_pos (by rfl)]
          go_simp
          refine hK.out _ _ ?_ (fun hHeld => ?_)
          · exact HPS.out.of HS14.out.bel
          clear hK K
          try simp only [Act.put, List.getElem_toArray, List.getElem_cons_zero, List.getElem_cons_succ, List.setIfInBounds_toArray, List.set_cons_zero, List.set_cons_succ]
          generalize x11.alloc (Obj.cells #[Value.int IntKind.i64 0, Value.int IntKind.i64 0, Value.slice none 0 0] 28) = x14 at HS14 hHeld ⊢
          refine wpAnyH_ready (rs := [9]) (by kernel_rfl) (by simp) ?_
          refine AllReadyH.cons rfl (fun K hK => ?_) ?_
          · rw [if_pos (by rfl)]
            go_simp
            go_at_call 117
            refine (between_any s u oa n cap HRM.out _ _ 0 k (by omega) (by omega) s0 s1 (Nat.zero_le _) hkn hn60 _).mono ?_
            rintro r x9 ⟨rfl, hb9⟩
            have HS9 := hide (HS14.out.on hb9)
            clear hb9
            try go_simp
            refine hK.out _ _ ?_ (fun hHeld => ?_)
            · exact HPS.out.of HS9.out.bel
            clear hK K
            try simp only [Act.put, List.getElem_toArray, List.getElem_cons_zero, List.getElem_cons_succ, List.setIfInBounds_toArray, List.set_cons_zero, List.set_cons_succ]
            refine wpAnyH_ready (rs := [12]) (by kernel_rfl) (by simp) ?_
            refine AllReadyH.cons rfl (fun K hK => ?_) ?_
            · have A12 := ((HAT.out.below (B2.out.trans (HS9.out.bel.mono B2.out.size))).piece 0 k k (Nat.zero_le _) hkn (Nat.le_refl _) (Nat.le_trans hkn HRM.out))
              rw [List.drop_zero] at A12
              rw [if_pos (by rfl)]
              refine wp_append_full _ _ rfl (partA oa 0 k) k (es.take k) rfl A12 (by omega) _ _ e rfl (HS9.out.h15 _ rfl) ?_
              clear A12
              intro v x12 ho12 hg12
              rw [← HYS.out, ← HYL.out] at ho12
              have HS12 := hide (HS9.out.growFull ho12 hg12)
              obtain ⟨ov, cv, rfl⟩ := own_form3 ho12
              clear ho12 hg12
              try go_simp
              refine hK.out _ _ ?_ (fun hHeld => ?_)
              · exact HPS.out.of HS12.out.bel
              clear hK K
              try simp only [Act.put, List.getElem_toArray, List.getElem_cons_zero, List.getElem_cons_succ, List.setIfInBounds_toArray, List.set_cons_zero, List.set_cons_succ]
              refine wpAnyH_take (i := 13) (v := ?_) rfl (by kernel_rfl) (by kernel_rfl) (by kernel_rfl) (fun _ _ _ h => h) (Or.inl ⟨by rfl, ?_⟩) (by assumption) ?_; rotate_left
              · (intro wz hSw; obtain ⟨z0, z1, z2, z3, z4, z5⟩ := PutS.cells hSw; clear hSw; go_simp; first | done | with_reducible rfl)
              try simp only [Act.put, List.getElem_toArray, List.getElem_cons_zero, List.getElem_cons_succ, List.setIfInBounds_toArray, List.set_cons_zero, List.set_cons_succ]
              refine wpAnyH_ready (rs := [15]) (by kernel_rfl) (by simp) ?_
              refine AllReadyH.cons rfl (fun K hK => ?_) ?_
              · have hq := (HS12.out.h18 _ rfl).2
                have q0 := blk_cell hq 0 rfl
                have q1 := blk_cell hq 1 rfl
                have q2 := blk_cell hq 2 rfl
                have f0 := blk_free hq 0
                have f1 := blk_free hq 1
                have f2 := blk_free hq 2
                simp only [List.getElem_toArray, List.getElem_cons_zero, List.getElem_cons_succ] at q0 q1 q2
                rw [if_pos (by rfl)]
                go_simp
                refine hK.out _ _ ?_ (fun hHeld => ?_)
                · exact HPS.out.of (HS12.out.stored (s := s) (u := u)).1
                clear hK K
                try simp only [Act.put, List.getElem_toArray, List.getElem_cons_zero, List.getElem_cons_succ, List.setIfInBounds_toArray, List.set_cons_zero, List.set_cons_succ]
                clear hq q0 q1 q2 f0 f1 f2
                have hF := HS12.out.stored (s := s) (u := u)
                refine wpAnyH_done (by kernel_rfl) ?_ _
                have hbz := hF.1
                have hlz := hF.2.1
                have hoz := hF.2.2
                clear hF hHeld
                generalize (((x12.setCell ⟨x11.heap.size, 0, none⟩ (Value.int IntKind.i64 s)).setCell ⟨x11.heap.size, 1, none⟩ (Value.int IntKind.i64 u)).setCell ⟨x11.heap.size, 2, none⟩ (Value.slice ov YS.length cv)) = xz at hbz hlz hoz ⊢
                generalize x11.heap.size = bk at hbz hlz hoz ⊢
                have BZ := hide (B2.out.trans (hbz.mono B2.out.size))
                have RZ := hide ((hbz.block _ (blk_lt R2.out)).trans R2.out)
                have HOZ := hide hoz
                have LZ := hide hlz
                obtain ⟨_, _, he, hatz⟩ := entsAt_own hoz
                cases he
                have HAZ := hide hatz
                obtain ⟨c0, c1, c2⟩ := LZ.out
                clear hbz hlz hoz hatz
                go_wp2_with fail
                refine (implLogOk_any s u _ _ _ YS _ HAZ.out HYW.out).mono ?_
                rintro r x8 ⟨rfl, hb8⟩
                have B8 := hide (BZ.out.trans (hb8.mono BZ.out.size))
                have R8 := hide ((hb8.block _ (blk_lt RZ.out)).trans RZ.out)
                obtain ⟨d0, d1, d2⟩ := LZ.out.on hb8
                have HA8 := hide (HAZ.out.below hb8)
                have l8 := blk_lt R8.out
                clear hb8 c0 c1 c2 LZ HAZ HOZ
                cases hy : lgOk s u YS with
                | false =>
                  have HPR := hide (show putR s u es (s + 1 + k) e = (0, 0, [], false) by rw [putR, if_neg]; rw [HPO.out, hy]; simp)
                  have r0 := blk_cell R8.out 0 rfl
                  have r1 := blk_cell R8.out 1 rfl
                  have r2 := blk_cell R8.out 2 rfl
                  have t0 := blk_free R8.out 0
                  have t1 := blk_free R8.out 1
                  have t2 := blk_free R8.out 2
                  clear hy
                  go_wp2_with fail
                  refine bodyPost_ret (v := .tuple #[lgv 0 0 (.slice none 0 0), .bool false]) (by simp [results, Tryz.results98, go_sem, r0, r1, r2, t0, t1, t2]) rfl ?_
                  rw [HPR.out]
                  refine ⟨_, rfl, World.ownsRow_nil _ _ _ _, ?_⟩
                  repeat (refine Below.setCell ?_ (by simp <;> omega) _)
                  exact B8.out
                | true =>
                  have HPR := hide (show putR s u es (s + 1 + k) e = (s, u, YS, true) by rw [putR, if_pos (by rw [HPO.out, hy]), HPL.out])
                  clear hy
                  go_wp2_with fail
                  refine (copied6_any s u _ _ _ YS (by rw [HYL.out]; omega) _ HA8.out HYW.out).mono ?_
                  rintro r x7 ⟨v7, rfl, ho7, hb7⟩
                  obtain ⟨o7, c7, rfl⟩ := own_form3 ho7
                  have R7 := (hb7.block _ l8).trans R8.out
                  have r0 := blk_cell R7 0 rfl
                  have r1 := blk_cell R7 1 rfl
                  have r2 := blk_cell R7 2 rfl
                  have t0 := blk_free R7 0
                  have t1 := blk_free R7 1
                  have t2 := blk_free R7 2
                  have HO7 := hide (own_base ho7 (base' := w.heap.size + 1 + 1 + 1) (by omega))
                  have B7 := hide (B8.out.trans (hb7.mono B8.out.size))
                  clear hb7 ho7 R7
                  go_wp2_with fail
                  refine bodyPost_ret (v := .tuple #[lgv s u (.slice o7 YS.length c7), .bool true]) (by simp [results, Tryz.results98, go_sem, r0, r1, r2, t0, t1, t2]) rfl ?_
                  rw [HPR.out]
                  refine ⟨_, rfl, ?_, ?_⟩
                  · refine own_base (base := w.heap.size + 1 + 1 + 1) ?_ (by omega)
                    repeat (refine own_setCell ?_ (by simp <;> omega) _)
                    exact HO7.out
                  · repeat (refine Below.setCell ?_ (by simp <;> omega) _)
                    exact B7.out
              exact AllReadyH.nil
            exact AllReadyH.nil
          exact AllReadyH.nil
        exact AllReadyH.nil
      refine AllReadyH.cons rfl (fun K hK => ?_) ?_
      · have HS14 := hide HSs.out.alloc18
        rw [if_pos (by rfl)]
        go_simp
        refine hK.out _ _ ?_ (fun hHeld => ?_)
        · exact HPS.out.of HS14.out.bel
        clear hK K
        try simp only [Act.put, List.getElem_toArray, List.getElem_cons_zero, List.getElem_cons_succ, List.setIfInBounds_toArray, List.set_cons_zero, List.set_cons_succ]
        generalize xs.alloc (Obj.cells #[Value.int IntKind.i64 0, Value.int IntKind.i64 0, Value.slice none 0 0] 28) = x14 at HS14 hHeld ⊢
        refine wpAnyH_ready (rs := [9, 11]) (by kernel_rfl) (by simp) ?_
        refine AllReadyH.cons rfl (fun K hK => ?_) ?_
        · rw [if_pos (by rfl)]
          go_simp
          go_at_call 117
          refine (between_any s u oa n cap HRM.out _ _ 0 k (by omega) (by omega) s0 s1 (Nat.zero_le _) hkn hn60 _).mono ?_
          rintro r x9 ⟨rfl, hb9⟩
          have HS9 := hide (HS14.out.on hb9)
          clear hb9
          try go_simp
          refine hK.out _ _ ?_ (fun hHeld => ?_)
          · exact HPS.out.of HS9.out.bel
          clear hK K
          try simp only [Act.put, List.getElem_toArray, List.getElem_cons_zero, List.getElem_cons_succ, List.setIfInBounds_toArray, List.set_cons_zero, List.set_cons_succ]
          refine wpAnyH_ready (rs := [11]) (by kernel_rfl) (by simp) ?_
          refine AllReadyH.cons rfl (fun K hK => ?_) ?_
          · have HS11 := hide HS9.out.alloc15
            rw [if_pos (by rfl)]
            go_simp
            refine hK.out _ _ ?_ (fun hHeld => ?_)
            · exact HPS.out.of HS11.out.bel
            clear hK K
            try simp only [Act.put, List.getElem_toArray, List.getElem_cons_zero, List.getElem_cons_succ, List.setIfInBounds_toArray, List.set_cons_zero, List.set_cons_succ]
            generalize x9.alloc (Obj.cells #[Value.int IntKind.i64 e.term, Value.int IntKind.i64 e.kind, Value.string e.data] 111) = x11 at HS11 hHeld ⊢
            refine wpAnyH_ready (rs := [12]) (by kernel_rfl) (by simp) ?_
            refine AllReadyH.cons rfl (fun K hK => ?_) ?_
            · have A12 := ((HAT.out.below (B2.out.trans (HS11.out.bel.mono B2.out.size))).piece 0 k k (Nat.zero_le _) hkn (Nat.le_refl _) (Nat.le_trans hkn HRM.out))
              rw [List.drop_zero] at A12
              rw [if_pos (by rfl)]
              refine wp_append_full _ _ rfl (partA oa 0 k) k (es.take k) rfl A12 (by omega) _ _ e rfl (HS11.out.h15 _ rfl) ?_
              clear A12
              intro v x12 ho12 hg12
              rw [← HYS.out, ← HYL.out] at ho12
              have HS12 := hide (HS11.out.growFull ho12 hg12)
              obtain ⟨ov, cv, rfl⟩ := own_form3 ho12
              clear ho12 hg12
              try go_simp
              refine hK.out _ _ ?_ (fun hHeld => ?_)
              · exact HPS.out.of HS12.out.bel
              clear hK K
              try simp only [Act.put, List.getElem_toArray, List.getElem_cons_zero, List.getElem_cons_succ, List.setIfInBounds_toArray, List.set_cons_zero, List.set_cons_succ]
              refine wpAnyH_take (i := 13) (v := ?_) rfl (by kernel_rfl) (by kernel_rfl) (by kernel_rfl) (fun _ _ _ h => h) (Or.inl ⟨by rfl, ?_⟩) (by assumption) ?_; rotate_left
              · (intro wz hSw; obtain ⟨z0, z1, z2, z3, z4, z5⟩ := PutS.cells hSw; clear hSw; go_simp; first | done | with_reducible rfl)
              try simp only [Act.put, List.getElem_toArray, List.getElem_cons_zero, List.getElem_cons_succ, List.setIfInBounds_toArray, List.set_cons_zero, List.set_cons_succ]
              refine wpAnyH_ready (rs := [15]) (by kernel_rfl) (by simp) ?_
              refine AllReadyH.cons rfl (fun K hK => ?_) ?_
              · have hq := (HS12.out.h18 _ rfl).2
                have q0 := blk_cell hq 0 rfl
                have q1 := blk_cell hq 1 rfl
                have q2 := blk_cell hq 2 rfl
                have f0 := blk_free hq 0
                have f1 := blk_free hq 1
                have f2 := blk_free hq 2
                simp only [List.getElem_toArray, List.getElem_cons_zero, List.getElem_cons_succ] at q0 q1 q2
                rw [if_pos (by rfl)]
                go_simp
                refine hK.out _ _ ?_ (fun hHeld => ?_)
                · exact HPS.out.of (HS12.out.stored (s := s) (u := u)).1
                clear hK K
                try simp only [Act.put, List.getElem_toArray, List.getElem_cons_zero, List.getElem_cons_succ, List.setIfInBounds_toArray, List.set_cons_zero, List.set_cons_succ]
                clear hq q0 q1 q2 f0 f1 f2
                have hF := HS12.out.stored (s := s) (u := u)
                refine wpAnyH_done (by kernel_rfl) ?_ _
                have hbz := hF.1
                have hlz := hF.2.1
                have hoz := hF.2.2
                clear hF hHeld
                generalize (((x12.setCell ⟨xs.heap.size, 0, none⟩ (Value.int IntKind.i64 s)).setCell ⟨xs.heap.size, 1, none⟩ (Value.int IntKind.i64 u)).setCell ⟨xs.heap.size, 2, none⟩ (Value.slice ov YS.length cv)) = xz at hbz hlz hoz ⊢
                generalize xs.heap.size = bk at hbz hlz hoz ⊢
                have BZ := hide (B2.out.trans (hbz.mono B2.out.size))
                have RZ := hide ((hbz.block _ (blk_lt R2.out)).trans R2.out)
                have HOZ := hide hoz
                have LZ := hide hlz
                obtain ⟨_, _, he, hatz⟩ := entsAt_own hoz
                cases he
                have HAZ := hide hatz
                obtain ⟨c0, c1, c2⟩ := LZ.out
                clear hbz hlz hoz hatz
                go_wp2_with fail
                refine (implLogOk_any s u _ _ _ YS _ HAZ.out HYW.out).mono ?_
                rintro r x8 ⟨rfl, hb8⟩
                have B8 := hide (BZ.out.trans (hb8.mono BZ.out.size))
                have R8 := hide ((hb8.block _ (blk_lt RZ.out)).trans RZ.out)
                obtain ⟨d0, d1, d2⟩ := LZ.out.on hb8
                have HA8 := hide (HAZ.out.below hb8)
                have l8 := blk_lt R8.out
                clear hb8 c0 c1 c2 LZ HAZ HOZ
                cases hy : lgOk s u YS with
                | false =>
                  have HPR := hide (show putR s u es (s + 1 + k) e = (0, 0, [], false) by rw [putR, if_neg]; rw [HPO.out, hy]; simp)
                  have r0 := blk_cell R8.out 0 rfl
                  have r1 := blk_cell R8.out 1 rfl
                  have r2 := blk_cell R8.out 2 rfl
                  have t0 := blk_free R8.out 0
                  have t1 := blk_free R8.out 1
                  have t2 := blk_free R8.out 2
                  clear hy
                  go_wp2_with fail
                  refine bodyPost_ret (v := .tuple #[lgv 0 0 (.slice none 0 0), .bool false]) (by simp [results, Tryz.results98, go_sem, r0, r1, r2, t0, t1, t2]) rfl ?_
                  rw [HPR.out]
                  refine ⟨_, rfl, World.ownsRow_nil _ _ _ _, ?_⟩
                  repeat (refine Below.setCell ?_ (by simp <;> omega) _)
                  exact B8.out
                | true =>
                  have HPR := hide (show putR s u es (s + 1 + k) e = (s, u, YS, true) by rw [putR, if_pos (by rw [HPO.out, hy]), HPL.out])
                  clear hy
                  go_wp2_with fail
                  refine (copied6_any s u _ _ _ YS (by rw [HYL.out]; omega) _ HA8.out HYW.out).mono ?_
                  rintro r x7 ⟨v7, rfl, ho7, hb7⟩
                  obtain ⟨o7, c7, rfl⟩ := own_form3 ho7
                  have R7 := (hb7.block _ l8).trans R8.out
                  have r0 := blk_cell R7 0 rfl
                  have r1 := blk_cell R7 1 rfl
                  have r2 := blk_cell R7 2 rfl
                  have t0 := blk_free R7 0
                  have t1 := blk_free R7 1
                  have t2 := blk_free R7 2
                  have HO7 := hide (own_base ho7 (base' := w.heap.size + 1 + 1 + 1) (by omega))
                  have B7 := hide (B8.out.trans (hb7.mono B8.out.size))
                  clear hb7 ho7 R7
                  go_wp2_with fail
                  refine bodyPost_ret (v := .tuple #[lgv s u (.slice o7 YS.length c7), .bool true]) (by simp [results, Tryz.results98, go_sem, r0, r1, r2, t0, t1, t2]) rfl ?_
                  rw [HPR.out]
                  refine ⟨_, rfl, ?_, ?_⟩
                  · refine own_base (base := w.heap.size + 1 + 1 + 1) ?_ (by omega)
                    repeat (refine own_setCell ?_ (by simp <;> omega) _)
                    exact HO7.out
                  · repeat (refine Below.setCell ?_ (by simp <;> omega) _)
                    exact B7.out
              exact AllReadyH.nil
            exact AllReadyH.nil
          exact AllReadyH.nil
        refine AllReadyH.cons rfl (fun K hK => ?_) ?_
        · have HS11 := hide HS14.out.alloc15
          rw [if_pos (by rfl)]
          go_simp
          refine hK.out _ _ ?_ (fun hHeld => ?_)
          · exact HPS.out.of HS11.out.bel
          clear hK K
          try simp only [Act.put, List.getElem_toArray, List.getElem_cons_zero, List.getElem_cons_succ, List.setIfInBounds_toArray, List.set_cons_zero, List.set_cons_succ]
          generalize x14.alloc (Obj.cells #[Value.int IntKind.i64 e.term, Value.int IntKind.i64 e.kind, Value.string e.data] 111) = x11 at HS11 hHeld ⊢
          refine wpAnyH_ready (rs := [9]) (by kernel_rfl) (by simp) ?_
          refine AllReadyH.cons rfl (fun K hK => ?_) ?_
          · rw [if_pos (by rfl)]
            go_simp
            go_at_call 117
            refine (between_any s u oa n cap HRM.out _ _ 0 k (by omega) (by omega) s0 s1 (Nat.zero_le _) hkn hn60 _).mono ?_
            rintro r x9 ⟨rfl, hb9⟩
            have HS9 := hide (HS11.out.on hb9)
            clear hb9
            try go_simp
            refine hK.out _ _ ?_ (fun hHeld => ?_)
            · exact HPS.out.of HS9.out.bel
            clear hK K
            try simp only [Act.put, List.getElem_toArray, List.getElem_cons_zero, List.getElem_cons_succ, List.setIfInBounds_toArray, List.set_cons_zero, List.set_cons_succ]
            refine wpAnyH_ready (rs := [12]) (by kernel_rfl) (by simp) ?_
            refine AllReadyH.cons rfl (fun K hK => ?_) ?_
            · have A12 := ((HAT.out.below (B2.out.trans (HS9.out.bel.mono B2.out.size))).piece 0 k k (Nat.zero_le _) hkn (Nat.le_refl _) (Nat.le_trans hkn HRM.out))
              rw [List.drop_zero] at A12
              rw [if_pos (by rfl)]
              refine wp_append_full _ _ rfl (partA oa 0 k) k (es.take k) rfl A12 (by omega) _ _ e rfl (HS9.out.h15 _ rfl) ?_
              clear A12
              intro v x12 ho12 hg12
              rw [← HYS.out, ← HYL.out] at ho12
              have HS12 := hide (HS9.out.growFull ho12 hg12)
              obtain ⟨ov, cv, rfl⟩ := own_form3 ho12
              clear ho12 hg12
              try go_simp
              refine hK.out _ _ ?_ (fun hHeld => ?_)
              · exact HPS.out.of HS12.out.bel
              clear hK K
              try simp only [Act.put, List.getElem_toArray, List.getElem_cons_zero, List.getElem_cons_succ, List.setIfInBounds_toArray, List.set_cons_zero, List.set_cons_succ]
              refine wpAnyH_take (i := 13) (v := ?_) rfl (by kernel_rfl) (by kernel_rfl) (by kernel_rfl) (fun _ _ _ h => h) (Or.inl ⟨by rfl, ?_⟩) (by assumption) ?_; rotate_left
              · (intro wz hSw; obtain ⟨z0, z1, z2, z3, z4, z5⟩ := PutS.cells hSw; clear hSw; go_simp; first | done | with_reducible rfl)
              try simp only [Act.put, List.getElem_toArray, List.getElem_cons_zero, List.getElem_cons_succ, List.setIfInBounds_toArray, List.set_cons_zero, List.set_cons_succ]
              refine wpAnyH_ready (rs := [15]) (by kernel_rfl) (by simp) ?_
              refine AllReadyH.cons rfl (fun K hK => ?_) ?_
              · have hq := (HS12.out.h18 _ rfl).2
                have q0 := blk_cell hq 0 rfl
                have q1 := blk_cell hq 1 rfl
                have q2 := blk_cell hq 2 rfl
                have f0 := blk_free hq 0
                have f1 := blk_free hq 1
                have f2 := blk_free hq 2
                simp only [List.getElem_toArray, List.getElem_cons_zero, List.getElem_cons_succ] at q0 q1 q2
                rw [if_pos (by rfl)]
                go_simp
                refine hK.out _ _ ?_ (fun hHeld => ?_)
                · exact HPS.out.of (HS12.out.stored (s := s) (u := u)).1
                clear hK K
                try simp only [Act.put, List.getElem_toArray, List.getElem_cons_zero, List.getElem_cons_succ, List.setIfInBounds_toArray, List.set_cons_zero, List.set_cons_succ]
                clear hq q0 q1 q2 f0 f1 f2
                have hF := HS12.out.stored (s := s) (u := u)
                refine wpAnyH_done (by kernel_rfl) ?_ _
                have hbz := hF.1
                have hlz := hF.2.1
                have hoz := hF.2.2
                clear hF hHeld
                generalize (((x12.setCell ⟨xs.heap.size, 0, none⟩ (Value.int IntKind.i64 s)).setCell ⟨xs.heap.size, 1, none⟩ (Value.int IntKind.i64 u)).setCell ⟨xs.heap.size, 2, none⟩ (Value.slice ov YS.length cv)) = xz at hbz hlz hoz ⊢
                generalize xs.heap.size = bk at hbz hlz hoz ⊢
                have BZ := hide (B2.out.trans (hbz.mono B2.out.size))
                have RZ := hide ((hbz.block _ (blk_lt R2.out)).trans R2.out)
                have HOZ := hide hoz
                have LZ := hide hlz
                obtain ⟨_, _, he, hatz⟩ := entsAt_own hoz
                cases he
                have HAZ := hide hatz
                obtain ⟨c0, c1, c2⟩ := LZ.out
                clear hbz hlz hoz hatz
                go_wp2_with fail
                refine (implLogOk_any s u _ _ _ YS _ HAZ.out HYW.out).mono ?_
                rintro r x8 ⟨rfl, hb8⟩
                have B8 := hide (BZ.out.trans (hb8.mono BZ.out.size))
                have R8 := hide ((hb8.block _ (blk_lt RZ.out)).trans RZ.out)
                obtain ⟨d0, d1, d2⟩ := LZ.out.on hb8
                have HA8 := hide (HAZ.out.below hb8)
                have l8 := blk_lt R8.out
                clear hb8 c0 c1 c2 LZ HAZ HOZ
                cases hy : lgOk s u YS with
                | false =>
                  have HPR := hide (show putR s u es (s + 1 + k) e = (0, 0, [], false) by rw [putR, if_neg]; rw [HPO.out, hy]; simp)
                  have r0 := blk_cell R8.out 0 rfl
                  have r1 := blk_cell R8.out 1 rfl
                  have r2 := blk_cell R8.out 2 rfl
                  have t0 := blk_free R8.out 0
                  have t1 := blk_free R8.out 1
                  have t2 := blk_free R8.out 2
                  clear hy
                  go_wp2_with fail
                  refine bodyPost_ret (v := .tuple #[lgv 0 0 (.slice none 0 0), .bool false]) (by simp [results, Tryz.results98, go_sem, r0, r1, r2, t0, t1, t2]) rfl ?_
                  rw [HPR.out]
                  refine ⟨_, rfl, World.ownsRow_nil _ _ _ _, ?_⟩
                  repeat (refine Below.setCell ?_ (by simp <;> omega) _)
                  exact B8.out
                | true =>
                  have HPR := hide (show putR s u es (s + 1 + k) e = (s, u, YS, true) by rw [putR, if_pos (by rw [HPO.out, hy]), HPL.out])
                  clear hy
                  go_wp2_with fail
                  refine (copied6_any s u _ _ _ YS (by rw [HYL.out]; omega) _ HA8.out HYW.out).mono ?_
                  rintro r x7 ⟨v7, rfl, ho7, hb7⟩
                  obtain ⟨o7, c7, rfl⟩ := own_form3 ho7
                  have R7 := (hb7.block _ l8).trans R8.out
                  have r0 := blk_cell R7 0 rfl
                  have r1 := blk_cell R7 1 rfl
                  have r2 := blk_cell R7 2 rfl
                  have t0 := blk_free R7 0
                  have t1 := blk_free R7 1
                  have t2 := blk_free R7 2
                  have HO7 := hide (own_base ho7 (base' := w.heap.size + 1 + 1 + 1) (by omega))
                  have B7 := hide (B8.out.trans (hb7.mono B8.out.size))
                  clear hb7 ho7 R7
                  go_wp2_with fail
                  refine bodyPost_ret (v := .tuple #[lgv s u (.slice o7 YS.length c7), .bool true]) (by simp [results, Tryz.results98, go_sem, r0, r1, r2, t0, t1, t2]) rfl ?_
                  rw [HPR.out]
                  refine ⟨_, rfl, ?_, ?_⟩
                  · refine own_base (base := w.heap.size + 1 + 1 + 1) ?_ (by omega)
                    repeat (refine own_setCell ?_ (by simp <;> omega) _)
                    exact HO7.out
                  · repeat (refine Below.setCell ?_ (by simp <;> omega) _)
                    exact B7.out
              exact AllReadyH.nil
            exact AllReadyH.nil
          exact AllReadyH.nil
        exact AllReadyH.nil
      exact AllReadyH.nil
    · have hpr : putR s u es ix e = (0, 0, [], false) := by
        have h1 : putOk s u es ix e = false := by
          rw [putOk, hok, HN.out, Bool.true_and]
          have : (decide (s + 1 ≤ ix) && decide (ix ≤ s + n + 1)) = false := by simp; omega
          rw [this, Bool.false_and]
        rw [putR, if_neg (by rw [h1]; simp)]
      clear hok hup
      have HPR := hide hpr
      clear hpr
      have r0 := blk_cell R2.out 0 rfl
      have r1 := blk_cell R2.out 1 rfl
      have r2 := blk_cell R2.out 2 rfl
      have t0 := blk_free R2.out 0
      have t1 := blk_free R2.out 1
      have t2 := blk_free R2.out 2
      go_wp2_with (go_at_call 75; refine (within_no _ _ _ (by omega) _).mono ?_; rintro e w1 ⟨rfl, rfl⟩)
      refine bodyPost_ret (v := .tuple #[lgv 0 0 (.slice none 0 0), .bool false]) (by simp [results, Tryz.results98, go_sem, r0, r1, r2, t0, t1, t2]) rfl ?_
      rw [HPR.out]
      refine ⟨_, rfl, World.ownsRow_nil _ _ _ _, ?_⟩
      repeat (refine Below.setCell ?_ (by simp <;> omega) _)
      exact B2.out

end Go.Proofs.YthbgklmnmoclhaaGreatDoor
