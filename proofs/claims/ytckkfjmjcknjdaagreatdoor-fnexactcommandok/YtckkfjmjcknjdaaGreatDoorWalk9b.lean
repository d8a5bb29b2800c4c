/-
  Walks of chapter 9: the numbers of an event brought within all limits (made by wip/tools/gen9b.py).
-/
import Derived.Test.YtckkfjmjcknjdaaGreatDoorWalk9a
namespace Go.Proofs.YtckkfjmjcknjdaaGreatDoor
open Go.RowKit P1 P3 P9 P11 P12 K
set_option linter.unusedVariables false
set_option linter.unusedSimpArgs false
attribute [local go_sem ↓] Go.wp_at_zero Go.wp_at_succ

/-- The numbers stand where they were laid. -/
def NbS (b : Nat) (id kd sn us mb dp : Int) (w' : World) : Prop := w'.heap[b]? = some (.cells #[.int .i64 id, .int .i64 kd, .int .i64 sn, .int .i64 us, .int .i64 mb, .int .i64 dp] 131 (0, 0))

theorem NbS.alloc {b : Nat} {id kd sn us mb dp : Int} {w' : World} (h : NbS b id kd sn us mb dp w') (o : Obj) : NbS b id kd sn us mb dp (w'.alloc o) := (((Below.refl _ _).alloc (Nat.le_refl _) o).block _ (blk_lt h)).trans h

theorem below8b (w : World) (a b c : Obj) : Below w.heap.size w (((w.alloc a).alloc b).alloc c).drew := ((((Below.refl w.heap.size w).alloc (Nat.le_refl _) a).alloc (by simp) b).alloc (by simp; omega) c).drew

set_option maxHeartbeats 4000000 in
theorem limited_any (id kd sn us mb dp : Int) (w : World) :
    Calls Tryz.prog 100 #[nval id kd sn us mb dp] w fun e w' => e = .returned (limI id kd sn us mb dp) ∧ Below w.heap.size w w' := by
  have HE := hide (show NbS w.heap.size id kd sn us mb dp ((w.alloc (.cells #[.int .i64 id, .int .i64 kd, .int .i64 sn, .int .i64 us, .int .i64 mb, .int .i64 dp] 131)).alloc (.cells #[.int .i64 0, .int .i64 0, .int .i64 0, .int .i64 0, .int .i64 0, .int .i64 0] 131)) from NbS.alloc (heap_alloc_new _ _) _)
  go_enter Tryz.func100, Tryz.ntmps100
  go_wp2_with fail
  rename_i K h
  have HK := hide h
  clear h
  refine wp_region_held_drew (S := NbS w.heap.size id kd sn us mb dp) (by kernel_rfl) HE.out (fun hHeld => ?_)
  refine wpAnyH_take (i := 0) (v := ?_) rfl (by kernel_rfl) (by kernel_rfl) (by kernel_rfl) (fun _ _ _ h => h) (Or.inl ⟨by rfl, ?_⟩) (by assumption) ?_; rotate_left
  · (intro wz hSw; have z0 := blk_cell hSw 0 rfl; have z1 := blk_cell hSw 1 rfl; have z2 := blk_cell hSw 2 rfl; have z5 := blk_cell hSw 5 rfl; clear hSw; go_simp; first | done | with_reducible rfl)
  try simp only [Act.put, List.getElem_toArray, List.getElem_cons_zero, List.getElem_cons_succ, List.setIfInBounds_toArray, List.set_cons_zero, List.set_cons_succ]
  refine wpAnyH_take (i := 1) (v := ?_) rfl (by kernel_rfl) (by kernel_rfl) (by kernel_rfl) (fun _ _ _ h => h) (Or.inl ⟨by rfl, ?_⟩) (by assumption) ?_; rotate_left
  · (intro wz hSw; have z0 := blk_cell hSw 0 rfl; have z1 := blk_cell hSw 1 rfl; have z2 := blk_cell hSw 2 rfl; have z5 := blk_cell hSw 5 rfl; clear hSw; go_simp; first | done | with_reducible rfl)
  try simp only [Act.put, List.getElem_toArray, List.getElem_cons_zero, List.getElem_cons_succ, List.setIfInBounds_toArray, List.set_cons_zero, List.set_cons_succ]
  refine wpAnyH_take (i := 3) (v := ?_) rfl (by kernel_rfl) (by kernel_rfl) (by kernel_rfl) (fun _ _ _ h => h) (Or.inl ⟨by rfl, ?_⟩) (by assumption) ?_; rotate_left
  · (intro wz hSw; have z0 := blk_cell hSw 0 rfl; have z1 := blk_cell hSw 1 rfl; have z2 := blk_cell hSw 2 rfl; have z5 := blk_cell hSw 5 rfl; clear hSw; go_simp; first | done | with_reducible rfl)
  try simp only [Act.put, List.getElem_toArray, List.getElem_cons_zero, List.getElem_cons_succ, List.setIfInBounds_toArray, List.set_cons_zero, List.set_cons_succ]
  refine wpAnyH_take (i := 4) (v := ?_) rfl (by kernel_rfl) (by kernel_rfl) (by kernel_rfl) (fun _ _ _ h => h) (Or.inl ⟨by rfl, ?_⟩) (by assumption) ?_; rotate_left
  · (intro wz hSw; have z0 := blk_cell hSw 0 rfl; have z1 := blk_cell hSw 1 rfl; have z2 := blk_cell hSw 2 rfl; have z5 := blk_cell hSw 5 rfl; clear hSw; go_simp; first | done | with_reducible rfl)
  try simp only [Act.put, List.getElem_toArray, List.getElem_cons_zero, List.getElem_cons_succ, List.setIfInBounds_toArray, List.set_cons_zero, List.set_cons_succ]
  refine wpAnyH_take (i := 6) (v := ?_) rfl (by kernel_rfl) (by kernel_rfl) (by kernel_rfl) (fun _ _ _ h => h) (Or.inl ⟨by rfl, ?_⟩) (by assumption) ?_; rotate_left
  · (intro wz hSw; have z0 := blk_cell hSw 0 rfl; have z1 := blk_cell hSw 1 rfl; have z2 := blk_cell hSw 2 rfl; have z5 := blk_cell hSw 5 rfl; clear hSw; go_simp; first | done | with_reducible rfl)
  try simp only [Act.put, List.getElem_toArray, List.getElem_cons_zero, List.getElem_cons_succ, List.setIfInBounds_toArray, List.set_cons_zero, List.set_cons_succ]
  refine wpAnyH_take (i := 7) (v := ?_) rfl (by kernel_rfl) (by kernel_rfl) (by kernel_rfl) (fun _ _ _ h => h) (Or.inl ⟨by rfl, ?_⟩) (by assumption) ?_; rotate_left
  · (intro wz hSw; have z0 := blk_cell hSw 0 rfl; have z1 := blk_cell hSw 1 rfl; have z2 := blk_cell hSw 2 rfl; have z5 := blk_cell hSw 5 rfl; clear hSw; go_simp; first | done | with_reducible rfl)
  try simp only [Act.put, List.getElem_toArray, List.getElem_cons_zero, List.getElem_cons_succ, List.setIfInBounds_toArray, List.set_cons_zero, List.set_cons_succ]
  refine wpAnyH_take (i := 9) (v := ?_) rfl (by kernel_rfl) (by kernel_rfl) (by kernel_rfl) (fun _ _ _ h => h) (Or.inl ⟨by rfl, ?_⟩) (by assumption) ?_; rotate_left
  · (intro wz hSw; have z0 := blk_cell hSw 0 rfl; have z1 := blk_cell hSw 1 rfl; have z2 := blk_cell hSw 2 rfl; have z5 := blk_cell hSw 5 rfl; clear hSw; go_simp; first | done | with_reducible rfl)
  try simp only [Act.put, List.getElem_toArray, List.getElem_cons_zero, List.getElem_cons_succ, List.setIfInBounds_toArray, List.set_cons_zero, List.set_cons_succ]
  refine wpAnyH_take (i := 10) (v := ?_) rfl (by kernel_rfl) (by kernel_rfl) (by kernel_rfl) (fun _ _ _ h => h) (Or.inl ⟨by rfl, ?_⟩) (by assumption) ?_; rotate_left
  · (intro wz hSw; have z0 := blk_cell hSw 0 rfl; have z1 := blk_cell hSw 1 rfl; have z2 := blk_cell hSw 2 rfl; have z5 := blk_cell hSw 5 rfl; clear hSw; go_simp; first | done | with_reducible rfl)
  try simp only [Act.put, List.getElem_toArray, List.getElem_cons_zero, List.getElem_cons_succ, List.setIfInBounds_toArray, List.set_cons_zero, List.set_cons_succ]
  refine wpAnyH_ready (rs := [2, 13]) (by kernel_rfl) (by simp) ?_
  refine AllReadyH.cons rfl (fun K hK => ?_) ?_
  · rw [if_pos (by rfl)]
    go_simp
    go_at_call 122
    refine (nearest_any _ _ _ (by decide) _).mono ?_
    rintro r w' ⟨rfl, rfl⟩
    try go_simp
    refine hK.out _ _ ?_ (fun hHeld => ?_)
    · exact hHeld
    clear hK K
    try simp only [Act.put, List.getElem_toArray, List.getElem_cons_zero, List.getElem_cons_succ, List.setIfInBounds_toArray, List.set_cons_zero, List.set_cons_succ]
    refine wpAnyH_ready (rs := [5, 13]) (by kernel_rfl) (by simp) ?_
    refine AllReadyH.cons rfl (fun K hK => ?_) ?_
    · rw [if_pos (by rfl)]
      go_simp
      go_at_call 122
      refine (nearest_any _ _ _ (by decide) _).mono ?_
      rintro r w' ⟨rfl, rfl⟩
      try go_simp
      refine hK.out _ _ ?_ (fun hHeld => ?_)
      · exact hHeld
      clear hK K
      try simp only [Act.put, List.getElem_toArray, List.getElem_cons_zero, List.getElem_cons_succ, List.setIfInBounds_toArray, List.set_cons_zero, List.set_cons_succ]
      refine wpAnyH_ready (rs := [8, 13]) (by kernel_rfl) (by simp) ?_
      refine AllReadyH.cons rfl (fun K hK => ?_) ?_
      · rw [if_pos (by rfl)]
        go_simp
        go_at_call 122
        refine (nearest_any _ _ _ (by decide) _).mono ?_
        rintro r w' ⟨rfl, rfl⟩
        try go_simp
        refine hK.out _ _ ?_ (fun hHeld => ?_)
        · exact hHeld
        clear hK K
        try simp only [Act.put, List.getElem_toArray, List.getElem_cons_zero, List.getElem_cons_succ, List.setIfInBounds_toArray, List.set_cons_zero, List.set_cons_succ]
        refine wpAnyH_ready (rs := [11, 13]) (by kernel_rfl) (by simp) ?_
        refine AllReadyH.cons rfl (fun K hK => ?_) ?_
        · rw [if_pos (by rfl)]
          go_simp
          go_at_call 122
          refine (nearest_any _ _ _ (by decide) _).mono ?_
          rintro r w' ⟨rfl, rfl⟩
          try go_simp
          refine hK.out _ _ ?_ (fun hHeld => ?_)
          · exact hHeld
          clear hK K
          try simp only [Act.put, List.getElem_toArray, List.getElem_cons_zero, List.getElem_cons_succ, List.setIfInBounds_toArray, List.set_cons_zero, List.set_cons_succ]
          refine wpAnyH_take (i := 12) (v := ?_) rfl (by kernel_rfl) (by kernel_rfl) (by kernel_rfl) (fun _ _ _ h => h) (Or.inl ⟨by rfl, ?_⟩) (by assumption) ?_; rotate_left
          · (intro wz hSw; have z0 := blk_cell hSw 0 rfl; have z1 := blk_cell hSw 1 rfl; have z2 := blk_cell hSw 2 rfl; have z5 := blk_cell hSw 5 rfl; clear hSw; go_simp; first | done | with_reducible rfl)
          try simp only [Act.put, List.getElem_toArray, List.getElem_cons_zero, List.getElem_cons_succ, List.setIfInBounds_toArray, List.set_cons_zero, List.set_cons_succ]
          refine wpAnyH_ready (rs := [13]) (by kernel_rfl) (by simp) ?_
          refine AllReadyH.cons rfl (fun K hK => ?_) ?_
          · rw [if_pos (by rfl)]
            go_simp
            refine hK.out _ _ ?_ (fun hHeld => ?_)
            · exact NbS.alloc hHeld _
            clear hK K
            try simp only [Act.put, List.getElem_toArray, List.getElem_cons_zero, List.getElem_cons_succ, List.setIfInBounds_toArray, List.set_cons_zero, List.set_cons_succ]
            refine wpAnyH_ready (rs := [14]) (by kernel_rfl) (by simp) ?_
            refine AllReadyH.cons rfl (fun K hK => ?_) ?_
            · rw [if_pos (by rfl)]
              go_simp
              refine hK.out _ _ ?_ (fun hHeld => ?_)
              · exact NbS.alloc HE.out _
              clear hK K
              try simp only [Act.put, List.getElem_toArray, List.getElem_cons_zero, List.getElem_cons_succ, List.setIfInBounds_toArray, List.set_cons_zero, List.set_cons_succ]
              refine wpAnyH_done (by kernel_rfl) ?_ _
              refine HK.out _ _ ?_
              clear hHeld HE HK
              by_cases c : kd = 2
              · subst c
                go_wp2_with (go_at_call 122; refine (nearest_any _ _ _ (by decide) _).mono ?_; rintro r w' ⟨rfl, rfl⟩)
                refine bodyPost_ret (v := limI id 2 sn us mb dp) (by simp [results, Tryz.results100, go_sem, limI]) rfl ⟨rfl, ?_⟩
                exact below8b w _ _ _
              · have c' : (kd == 2) = false := by simpa using c
                go_wp2_with (go_at_call 122; refine (nearest_any _ _ _ (by decide) _).mono ?_; rintro r w' ⟨rfl, rfl⟩)
                refine bodyPost_ret (v := limI id kd sn us mb dp) (by simp [results, Tryz.results100, go_sem, limI, c]) rfl ⟨rfl, ?_⟩
                exact below8b w _ _ _
            exact AllReadyH.nil
          exact AllReadyH.nil
        refine AllReadyH.cons rfl (fun K hK => ?_) ?_
        · rw [if_pos (by rfl)]
          go_simp
          refine hK.out _ _ ?_ (fun hHeld => ?_)
          · exact NbS.alloc hHeld _
          clear hK K
          try simp only [Act.put, List.getElem_toArray, List.getElem_cons_zero, List.getElem_cons_succ, List.setIfInBounds_toArray, List.set_cons_zero, List.set_cons_succ]
          refine wpAnyH_ready (rs := [11]) (by kernel_rfl) (by simp) ?_
          refine AllReadyH.cons rfl (fun K hK => ?_) ?_
          · rw [if_pos (by rfl)]
            go_simp
            go_at_call 122
            refine (nearest_any _ _ _ (by decide) _).mono ?_
            rintro r w' ⟨rfl, rfl⟩
            try go_simp
            refine hK.out _ _ ?_ (fun hHeld => ?_)
            · exact hHeld
            clear hK K
            try simp only [Act.put, List.getElem_toArray, List.getElem_cons_zero, List.getElem_cons_succ, List.setIfInBounds_toArray, List.set_cons_zero, List.set_cons_succ]
            refine wpAnyH_take (i := 12) (v := ?_) rfl (by kernel_rfl) (by kernel_rfl) (by kernel_rfl) (fun _ _ _ h => h) (Or.inl ⟨by rfl, ?_⟩) (by assumption) ?_; rotate_left
            · (intro wz hSw; have z0 := blk_cell hSw 0 rfl; have z1 := blk_cell hSw 1 rfl; have z2 := blk_cell hSw 2 rfl; have z5 := blk_cell hSw 5 rfl; clear hSw; go_simp; first | done | with_reducible rfl)
            try simp only [Act.put, List.getElem_toArray, List.getElem_cons_zero, List.getElem_cons_succ, List.setIfInBounds_toArray, List.set_cons_zero, List.set_cons_succ]
            refine wpAnyH_ready (rs := [14]) (by kernel_rfl) (by simp) ?_
            refine AllReadyH.cons rfl (fun K hK => ?_) ?_
            · rw [if_pos (by rfl)]
              go_simp
              refine hK.out _ _ ?_ (fun hHeld => ?_)
              · exact NbS.alloc HE.out _
              clear hK K
              try simp only [Act.put, List.getElem_toArray, List.getElem_cons_zero, List.getElem_cons_succ, List.setIfInBounds_toArray, List.set_cons_zero, List.set_cons_succ]
              refine wpAnyH_done (by kernel_rfl) ?_ _
              refine HK.out _ _ ?_
              clear hHeld HE HK
              by_cases c : kd = 2
              · subst c
                go_wp2_with (go_at_call 122; refine (nearest_any _ _ _ (by decide) _).mono ?_; rintro r w' ⟨rfl, rfl⟩)
                refine bodyPost_ret (v := limI id 2 sn us mb dp) (by simp [results, Tryz.results100, go_sem, limI]) rfl ⟨rfl, ?_⟩
                exact below8b w _ _ _
              · have c' : (kd == 2) = false := by simpa using c
                go_wp2_with (go_at_call 122; refine (nearest_any _ _ _ (by decide) _).mono ?_; rintro r w' ⟨rfl, rfl⟩)
                refine bodyPost_ret (v := limI id kd sn us mb dp) (by simp [results, Tryz.results100, go_sem, limI, c]) rfl ⟨rfl, ?_⟩
                exact below8b w _ _ _
            exact AllReadyH.nil
          exact AllReadyH.nil
        exact AllReadyH.nil
      refine AllReadyH.cons rfl (fun K hK => ?_) ?_
      · rw [if_pos (by rfl)]
        go_simp
        refine hK.out _ _ ?_ (fun hHeld => ?_)
        · exact NbS.alloc hHeld _
        clear hK K
        try simp only [Act.put, List.getElem_toArray, List.getElem_cons_zero, List.getElem_cons_succ, List.setIfInBounds_toArray, List.set_cons_zero, List.set_cons_succ]
        refine wpAnyH_ready (rs := [8]) (by kernel_rfl) (by simp) ?_
        refine AllReadyH.cons rfl (fun K hK => ?_) ?_
        · rw [if_pos (by rfl)]
          go_simp
          go_at_call 122
          refine (nearest_any _ _ _ (by decide) _).mono ?_
          rintro r w' ⟨rfl, rfl⟩
          try go_simp
          refine hK.out _ _ ?_ (fun hHeld => ?_)
          · exact hHeld
          clear hK K
          try simp only [Act.put, List.getElem_toArray, List.getElem_cons_zero, List.getElem_cons_succ, List.setIfInBounds_toArray, List.set_cons_zero, List.set_cons_succ]
          refine wpAnyH_ready (rs := [11]) (by kernel_rfl) (by simp) ?_
          refine AllReadyH.cons rfl (fun K hK => ?_) ?_
          · rw [if_pos (by rfl)]
            go_simp
            go_at_call 122
            refine (nearest_any _ _ _ (by decide) _).mono ?_
            rintro r w' ⟨rfl, rfl⟩
            try go_simp
            refine hK.out _ _ ?_ (fun hHeld => ?_)
            · exact hHeld
            clear hK K
            try simp only [Act.put, List.getElem_toArray, List.getElem_cons_zero, List.getElem_cons_succ, List.setIfInBounds_toArray, List.set_cons_zero, List.set_cons_succ]
            refine wpAnyH_take (i := 12) (v := ?_) rfl (by kernel_rfl) (by kernel_rfl) (by kernel_rfl) (fun _ _ _ h => h) (Or.inl ⟨by rfl, ?_⟩) (by assumption) ?_; rotate_left
            · (intro wz hSw; have z0 := blk_cell hSw 0 rfl; have z1 := blk_cell hSw 1 rfl; have z2 := blk_cell hSw 2 rfl; have z5 := blk_cell hSw 5 rfl; clear hSw; go_simp; first | done | with_reducible rfl)
            try simp only [Act.put, List.getElem_toArray, List.getElem_cons_zero, List.getElem_cons_succ, List.setIfInBounds_toArray, List.set_cons_zero, List.set_cons_succ]
            refine wpAnyH_ready (rs := [14]) (by kernel_rfl) (by simp) ?_
            refine AllReadyH.cons rfl (fun K hK => ?_) ?_
            · rw [if_pos (by rfl)]
              go_simp
              refine hK.out _ _ ?_ (fun hHeld => ?_)
              · exact NbS.alloc HE.out _
              clear hK K
              try simp only [Act.put, List.getElem_toArray, List.getElem_cons_zero, List.getElem_cons_succ, List.setIfInBounds_toArray, List.set_cons_zero, List.set_cons_succ]
              refine wpAnyH_done (by kernel_rfl) ?_ _
              refine HK.out _ _ ?_
              clear hHeld HE HK
              by_cases c : kd = 2
              · subst c
                go_wp2_with (go_at_call 122; refine (nearest_any _ _ _ (by decide) _).mono ?_; rintro r w' ⟨rfl, rfl⟩)
                refine bodyPost_ret (v := limI id 2 sn us mb dp) (by simp [results, Tryz.results100, go_sem, limI]) rfl ⟨rfl, ?_⟩
                exact below8b w _ _ _
              · have c' : (kd == 2) = false := by simpa using c
                go_wp2_with (go_at_call 122; refine (nearest_any _ _ _ (by decide) _).mono ?_; rintro r w' ⟨rfl, rfl⟩)
                refine bodyPost_ret (v := limI id kd sn us mb dp) (by simp [results, Tryz.results100, go_sem, limI, c]) rfl ⟨rfl, ?_⟩
                exact below8b w _ _ _
            exact AllReadyH.nil
          exact AllReadyH.nil
        exact AllReadyH.nil
      exact AllReadyH.nil
    refine AllReadyH.cons rfl (fun K hK => ?_) ?_
    · rw [if_pos (by rfl)]
      go_simp
      refine hK.out _ _ ?_ (fun hHeld => ?_)
      · exact NbS.alloc hHeld _
      clear hK K
      try simp only [Act.put, List.getElem_toArray, List.getElem_cons_zero, List.getElem_cons_succ, List.setIfInBounds_toArray, List.set_cons_zero, List.set_cons_succ]
      refine wpAnyH_ready (rs := [5]) (by kernel_rfl) (by simp) ?_
      refine AllReadyH.cons rfl (fun K hK => ?_) ?_
      · rw [if_pos (by rfl)]
        go_simp
        go_at_call 122
        refine (nearest_any _ _ _ (by decide) _).mono ?_
        rintro r w' ⟨rfl, rfl⟩
        try go_simp
        refine hK.out _ _ ?_ (fun hHeld => ?_)
        · exact hHeld
        clear hK K
        try simp only [Act.put, List.getElem_toArray, List.getElem_cons_zero, List.getElem_cons_succ, List.setIfInBounds_toArray, List.set_cons_zero, List.set_cons_succ]
        refine wpAnyH_ready (rs := [8]) (by kernel_rfl) (by simp) ?_
        refine AllReadyH.cons rfl (fun K hK => ?_) ?_
        · rw [if_pos (by rfl)]
          go_simp
          go_at_call 122
          refine (nearest_any _ _ _ (by decide) _).mono ?_
          rintro r w' ⟨rfl, rfl⟩
          try go_simp
          refine hK.out _ _ ?_ (fun hHeld => ?_)
          · exact hHeld
          clear hK K
          try simp only [Act.put, List.getElem_toArray, List.getElem_cons_zero, List.getElem_cons_succ, List.setIfInBounds_toArray, List.set_cons_zero, List.set_cons_succ]
          refine wpAnyH_ready (rs := [11]) (by kernel_rfl) (by simp) ?_
          refine AllReadyH.cons rfl (fun K hK => ?_) ?_
          · rw [if_pos (by rfl)]
            go_simp
            go_at_call 122
            refine (nearest_any _ _ _ (by decide) _).mono ?_
            rintro r w' ⟨rfl, rfl⟩
            try go_simp
            refine hK.out _ _ ?_ (fun hHeld => ?_)
            · exact hHeld
            clear hK K
            try simp only [Act.put, List.getElem_toArray, List.getElem_cons_zero, List.getElem_cons_succ, List.setIfInBounds_toArray, List.set_cons_zero, List.set_cons_succ]
            refine wpAnyH_take (i := 12) (v := ?_) rfl (by kernel_rfl) (by kernel_rfl) (by kernel_rfl) (fun _ _ _ h => h) (Or.inl ⟨by rfl, ?_⟩) (by assumption) ?_; rotate_left
            · (intro wz hSw; have z0 := blk_cell hSw 0 rfl; have z1 := blk_cell hSw 1 rfl; have z2 := blk_cell hSw 2 rfl; have z5 := blk_cell hSw 5 rfl; clear hSw; go_simp; first | done | with_reducible rfl)
            try simp only [Act.put, List.getElem_toArray, List.getElem_cons_zero, List.getElem_cons_succ, List.setIfInBounds_toArray, List.set_cons_zero, List.set_cons_succ]
            refine wpAnyH_ready (rs := [14]) (by kernel_rfl) (by simp) ?_
            refine AllReadyH.cons rfl (fun K hK => ?_) ?_
            · rw [if_pos (by rfl)]
              go_simp
              refine hK.out _ _ ?_ (fun hHeld => ?_)
              · exact NbS.alloc HE.out _
              clear hK K
              try simp only [Act.put, List.getElem_toArray, List.getElem_cons_zero, List.getElem_cons_succ, List.setIfInBounds_toArray, List.set_cons_zero, List.set_cons_succ]
              refine wpAnyH_done (by kernel_rfl) ?_ _
              refine HK.out _ _ ?_
              clear hHeld HE HK
              by_cases c : kd = 2
              · subst c
                go_wp2_with (go_at_call 122; refine (nearest_any _ _ _ (by decide) _).mono ?_; rintro r w' ⟨rfl, rfl⟩)
                refine bodyPost_ret (v := limI id 2 sn us mb dp) (by simp [results, Tryz.results100, go_sem, limI]) rfl ⟨rfl, ?_⟩
                exact below8b w _ _ _
              · have c' : (kd == 2) = false := by simpa using c
                go_wp2_with (go_at_call 122; refine (nearest_any _ _ _ (by decide) _).mono ?_; rintro r w' ⟨rfl, rfl⟩)
                refine bodyPost_ret (v := limI id kd sn us mb dp) (by simp [results, Tryz.results100, go_sem, limI, c]) rfl ⟨rfl, ?_⟩
                exact below8b w _ _ _
            exact AllReadyH.nil
          exact AllReadyH.nil
        exact AllReadyH.nil
      exact AllReadyH.nil
    exact AllReadyH.nil
  refine AllReadyH.cons rfl (fun K hK => ?_) ?_
  · rw [if_pos (by rfl)]
    go_simp
    refine hK.out _ _ ?_ (fun hHeld => ?_)
    · exact NbS.alloc hHeld _
    clear hK K
    try simp only [Act.put, List.getElem_toArray, List.getElem_cons_zero, List.getElem_cons_succ, List.setIfInBounds_toArray, List.set_cons_zero, List.set_cons_succ]
    refine wpAnyH_ready (rs := [2]) (by kernel_rfl) (by simp) ?_
    refine AllReadyH.cons rfl (fun K hK => ?_) ?_
    · rw [if_pos (by rfl)]
      go_simp
      go_at_call 122
      refine (nearest_any _ _ _ (by decide) _).mono ?_
      rintro r w' ⟨rfl, rfl⟩
      try go_simp
      refine hK.out _ _ ?_ (fun hHeld => ?_)
      · exact hHeld
      clear hK K
      try simp only [Act.put, List.getElem_toArray, List.getElem_cons_zero, List.getElem_cons_succ, List.setIfInBounds_toArray, List.set_cons_zero, List.set_cons_succ]
      refine wpAnyH_ready (rs := [5]) (by kernel_rfl) (by simp) ?_
      refine AllReadyH.cons rfl (fun K hK => ?_) ?_
      · rw [if_pos (by rfl)]
        go_simp
        go_at_call 122
        refine (nearest_any _ _ _ (by decide) _).mono ?_
        rintro r w' ⟨rfl, rfl⟩
        try go_simp
        refine hK.out _ _ ?_ (fun hHeld => ?_)
        · exact hHeld
        clear hK K
        try simp only [Act.put, List.getElem_toArray, List.getElem_cons_zero, List.getElem_cons_succ, List.setIfInBounds_toArray, List.set_cons_zero, List.set_cons_succ]
        refine wpAnyH_ready (rs := [8]) (by kernel_rfl) (by simp) ?_
        refine AllReadyH.cons rfl (fun K hK => ?_) ?_
        · rw [if_pos (by rfl)]
          go_simp
          go_at_call 122
          refine (nearest_any _ _ _ (by decide) _).mono ?_
          rintro r w' ⟨rfl, rfl⟩
          try go_simp
          refine hK.out _ _ ?_ (fun hHeld => ?_)
          · exact hHeld
          clear hK K
          try simp only [Act.put, List.getElem_toArray, List.getElem_cons_zero, List.getElem_cons_succ, List.setIfInBounds_toArray, List.set_cons_zero, List.set_cons_succ]
          refine wpAnyH_ready (rs := [11]) (by kernel_rfl) (by simp) ?_
          refine AllReadyH.cons rfl (fun K hK => ?_) ?_
          · rw [if_pos (by rfl)]
            go_simp
            go_at_call 122
            refine (nearest_any _ _ _ (by decide) _).mono ?_
            rintro r w' ⟨rfl, rfl⟩
            try go_simp
            refine hK.out _ _ ?_ (fun hHeld => ?_)
            · exact hHeld
            clear hK K
            try simp only [Act.put, List.getElem_toArray, List.getElem_cons_zero, List.getElem_cons_succ, List.setIfInBounds_toArray, List.set_cons_zero, List.set_cons_succ]
            refine wpAnyH_take (i := 12) (v := ?_) rfl (by kernel_rfl) (by kernel_rfl) (by kernel_rfl) (fun _ _ _ h => h) (Or.inl ⟨by rfl, ?_⟩) (by assumption) ?_; rotate_left
            · (intro wz hSw; have z0 := blk_cell hSw 0 rfl; have z1 := blk_cell hSw 1 rfl; have z2 := blk_cell hSw 2 rfl; have z5 := blk_cell hSw 5 rfl; clear hSw; go_simp; first | done | with_reducible rfl)
            try simp only [Act.put, List.getElem_toArray, List.getElem_cons_zero, List.getElem_cons_succ, List.setIfInBounds_toArray, List.set_cons_zero, List.set_cons_succ]
            refine wpAnyH_ready (rs := [14]) (by kernel_rfl) (by simp) ?_
            refine AllReadyH.cons rfl (fun K hK => ?_) ?_
            · rw [if_pos (by rfl)]
              go_simp
              refine hK.out _ _ ?_ (fun hHeld => ?_)
              · exact NbS.alloc HE.out _
              clear hK K
              try simp only [Act.put, List.getElem_toArray, List.getElem_cons_zero, List.getElem_cons_succ, List.setIfInBounds_toArray, List.set_cons_zero, List.set_cons_succ]
              refine wpAnyH_done (by kernel_rfl) ?_ _
              refine HK.out _ _ ?_
              clear hHeld HE HK
              by_cases c : kd = 2
              · subst c
                go_wp2_with (go_at_call 122; refine (nearest_any _ _ _ (by decide) _).mono ?_; rintro r w' ⟨rfl, rfl⟩)
                refine bodyPost_ret (v := limI id 2 sn us mb dp) (by simp [results, Tryz.results100, go_sem, limI]) rfl ⟨rfl, ?_⟩
                exact below8b w _ _ _
              · have c' : (kd == 2) = false := by simpa using c
                go_wp2_with (go_at_call 122; refine (nearest_any _ _ _ (by decide) _).mono ?_; rintro r w' ⟨rfl, rfl⟩)
                refine bodyPost_ret (v := limI id kd sn us mb dp) (by simp [results, Tryz.results100, go_sem, limI, c]) rfl ⟨rfl, ?_⟩
                exact below8b w _ _ _
            exact AllReadyH.nil
          exact AllReadyH.nil
        exact AllReadyH.nil
      exact AllReadyH.nil
    exact AllReadyH.nil
  exact AllReadyH.nil

end Go.Proofs.YtckkfjmjcknjdaaGreatDoor
