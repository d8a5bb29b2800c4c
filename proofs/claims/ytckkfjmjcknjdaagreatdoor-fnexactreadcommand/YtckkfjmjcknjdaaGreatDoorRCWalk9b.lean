/-
  Walks and mathematics of Walk9b, Walk9c, Walk9d.
-/
import Derived.Test.YtckkfjmjcknjdaaGreatDoorRCWalk9a
import Derived.Test.YtckkfjmjcknjdaaGreatDoorRCEv4
import Derived.Lib.Strings
import Derived.Test.YtckkfjmjcknjdaaGreatDoorRCQuietIn
import Derived.Laws.StructEq
namespace Go.Proofs.YtckkfjmjcknjdaaGreatDoor.P3
end Go.Proofs.YtckkfjmjcknjdaaGreatDoor.P3
namespace Go.Proofs.YtckkfjmjcknjdaaGreatDoor
open Go.RowKit P1 P3 P9 P11 P12 K
set_option linter.unusedVariables false
set_option linter.unusedSimpArgs false
attribute [local go_sem ↓] Go.wp_at_zero Go.wp_at_succ

def NbS (b : Nat) (id kd sn us mb dp : Int) (w' : World) : Prop := w'.heap[b]? = some (.cells #[.int .i64 id, .int .i64 kd, .int .i64 sn, .int .i64 us, .int .i64 mb, .int .i64 dp] 131 (0, 0))

theorem NbS.alloc {b : Nat} {id kd sn us mb dp : Int} {w' : World} (h : NbS b id kd sn us mb dp w') (o : Obj) : NbS b id kd sn us mb dp (w'.alloc o) := (((Below.refl _ _).alloc (Nat.le_refl _) o).block _ (blk_lt h)).trans h

theorem below8b (w : World) (a b c : Obj) : Below w.heap.size w (((w.alloc a).alloc b).alloc c).drew := ((((Below.refl w.heap.size w).alloc (Nat.le_refl _) a).alloc (by simp) b).alloc (by simp; omega) c).drew

set_option maxHeartbeats 4000000 in
theorem limited_any (id kd sn us mb dp : Int) (w : World) :
    Calls Tryz.prog 100 #[nval id kd sn us mb dp] w fun e w' => e = .returned (limI id kd sn us mb dp) ∧ Below w.heap.size w w' := by
  have HE := hide (show NbS w.heap.size id kd sn us mb dp ((w.alloc (.cells #[.int .i64 id, .int .i64 kd, .int .i64 sn, .int .i64 us, .int .i64 mb, .int .i64 dp] 131)).alloc (.cells #[.int .i64 0, .int .i64 0, .int .i64 0, .int .i64 0, .int .i64 0, .int .i64 0] 131)) from NbS.alloc (heap_alloc_new _ _) _)
  go_enter Tryz.func100, Tryz.ntmps100
  go_wp2_with fail
  rename_i K h
  have HK := hide h
  clear h
  refine wp_region_held_drew (S := NbS w.heap.size id kd sn us mb dp) (by kernel_rfl) HE.out (fun hHeld => ?_)
  refine wpAnyH_take (i := 0) (v := ?_) rfl (by kernel_rfl) (by kernel_rfl) (by kernel_rfl) (fun _ _ _ h => h) (Or.inl ⟨by rfl, ?_⟩) (by assumption) ?_; rotate_left
  · (intro wz hSw; have z0 := blk_cell hSw 0 rfl; have z1 := blk_cell hSw 1 rfl; have z2 := blk_cell hSw 2 rfl; have z5 := blk_cell hSw 5 rfl; clear hSw; go_simp; first | done | with_reducible rfl)
  try simp only [Act.put, List.getElem_toArray, List.getElem_cons_zero, List.getElem_cons_succ, List.setIfInBounds_toArray, List.set_cons_zero, List.set_cons_succ]
  refine wpAnyH_take (i := 1) (v := ?_) rfl (by kernel_rfl) (by kernel_rfl) (by kernel_rfl) (fun _ _ _ h => h) (Or.inl ⟨by rfl, ?_⟩) (by assumption) ?_; rotate_left
  · (intro wz hSw; have z0 := blk_cell hSw 0 rfl; have z1 := blk_cell hSw 1 rfl; have z2 := blk_cell hSw 2 rfl; have z5 := blk_cell hSw 5 rfl; clear hSw; go_simp; first | done | with_reducible rfl)
  try simp only [Act.put, List.getElem_toArray, List.getElem_cons_zero, List.getElem_cons_succ, List.setIfInBounds_toArray, List.set_cons_zero, List.set_cons_succ]
  refine wpAnyH_take (i := 3) (v := ?_) rfl (by kernel_rfl) (by kernel_rfl) (by kernel_rfl) (fun _ _ _ h => h) (Or.inl ⟨by rfl, ?_⟩) (by assumption) ?_; rotate_left
  · (intro wz hSw; have z0 := blk_cell hSw 0 rfl; have z1 := blk_cell hSw 1 rfl; have z2 := blk_cell hSw 2 rfl; have z5 := blk_cell hSw 5 rfl; clear hSw; go_simp; first | done | with_reducible rfl)
  try simp only [Act.put, List.getElem_toArray, List.getElem_cons_zero, List.getElem_cons_succ, List.setIfInBounds_toArray, List.set_cons_zero, List.set_cons_succ]
  refine wpAnyH_take (i := 4) (v := ?_) rfl (by kernel_rfl) (by kernel_rfl) (by kernel_rfl) (fun _ _ _ h => h) (Or.inl ⟨by rfl, ?_⟩) (by assumption) ?_; rotate_left
  · (intro wz hSw; have z0 := blk_cell hSw 0 rfl; have z1 := blk_cell hSw 1 rfl; have z2 := blk_cell hSw 2 rfl; have z5 := blk_cell hSw 5 rfl; clear hSw; go_simp; first | done | with_reducible rfl)
  try simp only [Act.put, List.getElem_toArray, List.getElem_cons_zero, List.getElem_cons_succ, List.setIfInBounds_toArray, List.set_cons_zero, List.set_cons_succ]
  refine wpAnyH_take (i := 6) (v := ?_) rfl (by kernel_rfl) (by kernel_rfl) (by kernel_rfl) (fun _ _ _ h => h) (Or.inl ⟨by rfl, ?_⟩) (by assumption) ?_; rotate_left
  · (intro wz hSw; have z0 := blk_cell hSw 0 rfl; have z1 := blk_cell hSw 1 rfl; have z2 := blk_cell hSw 2 rfl; have z5 := blk_cell hSw 5 rfl; clear hSw; go_simp; first | done | with_reducible rfl)
  try simp only [Act.put, List.getElem_toArray, List.getElem_cons_zero, List.getElem_cons_succ, List.setIfInBounds_toArray, List.set_cons_zero, List.set_cons_succ]
  refine wpAnyH_take (i := 7) (v := ?_) rfl (by kernel_rfl) (by kernel_rfl) (by kernel_rfl) (fun _ _ _ h => h) (Or.inl ⟨by rfl, ?_⟩) (by assumption) ?_; rotate_left
  · (intro wz hSw; have z0 := blk_cell hSw 0 rfl; have z1 := blk_cell hSw 1 rfl; have z2 := blk_cell hSw 2 rfl; have z5 := blk_cell hSw 5 rfl; clear hSw; go_simp; first | done | with_reducible rfl)
  try simp only [Act.put, List.getElem_toArray, List.getElem_cons_zero, List.getElem_cons_succ, List.setIfInBounds_toArray, List.set_cons_zero, List.set_cons_succ]
  refine wpAnyH_take (i := 9) (v := ?_) rfl (by kernel_rfl) (by kernel_rfl) (by kernel_rfl) (fun _ _ _ h => h) (Or.inl ⟨by rfl, ?_⟩) (by assumption) ?_; rotate_left
  · (intro wz hSw; have z0 := blk_cell hSw 0 rfl; have z1 := blk_cell hSw 1 rfl; have z2 := blk_cell hSw 2 rfl; have z5 := blk_cell hSw 5 rfl; clear hSw; go_simp; first | done | with_reducible rfl)
  try simp only [Act.put, List.getElem_toArray, List.getElem_cons_zero, List.getElem_cons_succ, List.setIfInBounds_toArray, List.set_cons_zero, List.set_cons_succ]
  refine wpAnyH_take (i := 10) (v := ?_) rfl (by kernel_rfl) (by kernel_rfl) (by kernel_rfl) (fun _ _ _ h => h) (Or.inl ⟨by rfl, ?_⟩) (by assumption) ?_; rotate_left
  · (intro wz hSw; have z0 := blk_cell hSw 0 rfl; have z1 := blk_cell hSw 1 rfl; have z2 := blk_cell hSw 2 rfl; have z5 := blk_cell hSw 5 rfl; clear hSw; go_simp; first | done | with_reducible rfl)
  try simp only [Act.put, List.getElem_toArray, List.getElem_cons_zero, List.getElem_cons_succ, List.setIfInBounds_toArray, List.set_cons_zero, List.set_cons_succ]
  refine wpAnyH_ready (rs := [2, 13]) (by kernel_rfl) (by simp) ?_
  refine AllReadyH.cons rfl (fun K hK => ?_) ?_
  · rw [if_pos (by rfl)]
    go_simp
    go_at_call 122
    refine (nearest_any _ _ _ (by decide) _).mono ?_
    rintro r w' ⟨rfl, rfl⟩
    try go_simp
    refine hK.out _ _ ?_ (fun hHeld => ?_)
    · exact hHeld
    clear hK K
    try simp only [Act.put, List.getElem_toArray, List.getElem_cons_zero, List.getElem_cons_succ, List.setIfInBounds_toArray, List.set_cons_zero, List.set_cons_succ]
    refine wpAnyH_ready (rs := [5, 13]) (by kernel_rfl) (by simp) ?_
    refine AllReadyH.cons rfl (fun K hK => ?_) ?_
    · rw [if_pos (by rfl)]
      go_simp
      go_at_call 122
      refine (nearest_any _ _ _ (by decide) _).mono ?_
      rintro r w' ⟨rfl, rfl⟩
      try go_simp
      refine hK.out _ _ ?_ (fun hHeld => ?_)
      · exact hHeld
      clear hK K
      try simp only [Act.put, List.getElem_toArray, List.getElem_cons_zero, List.getElem_cons_succ, List.setIfInBounds_toArray, List.set_cons_zero, List.set_cons_succ]
      refine wpAnyH_ready (rs := [8, 13]) (by kernel_rfl) (by simp) ?_
      refine AllReadyH.cons rfl (fun K hK => ?_) ?_
      · rw [if_pos (by rfl)]
        go_simp
        go_at_call 122
        refine (nearest_any _ _ _ (by decide) _).mono ?_
        rintro r w' ⟨rfl, rfl⟩
        try go_simp
        refine hK.out _ _ ?_ (fun hHeld => ?_)
        · exact hHeld
        clear hK K
        try simp only [Act.put, List.getElem_toArray, List.getElem_cons_zero, List.getElem_cons_succ, List.setIfInBounds_toArray, List.set_cons_zero, List.set_cons_succ]
        refine wpAnyH_ready (rs := [11, 13]) (by kernel_rfl) (by simp) ?_
        refine AllReadyH.cons rfl (fun K hK => ?_) ?_
        · rw [if_pos (by rfl)]
          go_simp
          go_at_call 122
          refine (nearest_any _ _ _ (by decide) _).mono ?_
          rintro r w' ⟨rfl, rfl⟩
          try go_simp
          refine hK.out _ _ ?_ (fun hHeld => ?_)
          · exact hHeld
          clear hK K
          try simp only [Act.put, List.getElem_toArray, List.getElem_cons_zero, List.getElem_cons_succ, List.setIfInBounds_toArray, List.set_cons_zero, List.set_cons_succ]
          refine wpAnyH_take (i := 12) (v := ?_) rfl (by kernel_rfl) (by kernel_rfl) (by kernel_rfl) (fun _ _ _ h => h) (Or.inl ⟨by rfl, ?_⟩) (by assumption) ?_; rotate_left
          · (intro wz hSw; have z0 := blk_cell hSw 0 rfl; have z1 := blk_cell hSw 1 rfl; have z2 := blk_cell hSw 2 rfl; have z5 := blk_cell hSw 5 rfl; clear hSw; go_simp; first | done | with_reducible rfl)
          try simp only [Act.put, List.getElem_toArray, List.getElem_cons_zero, List.getElem_cons_succ, List.setIfInBounds_toArray, List.set_cons_zero, List.set_cons_succ]
          refine wpAnyH_ready (rs := [13]) (by kernel_rfl) (by simp) ?_
          refine AllReadyH.cons rfl (fun K hK => ?_) ?_
          · rw [if_pos (by rfl)]
            go_simp
            refine hK.out _ _ ?_ (fun hHeld => ?_)
            · exact NbS.alloc hHeld _
            clear hK K
            try simp only [Act.put, List.getElem_toArray, List.getElem_cons_zero, List.getElem_cons_succ, List.setIfInBounds_toArray, List.set_cons_zero, List.set_cons_succ]
            refine wpAnyH_ready (rs := [14]) (by kernel_rfl) (by simp) ?_
            refine AllReadyH.cons rfl (fun K hK => ?_) ?_
            · rw [if_pos (by rfl)]
              go_simp
              refine hK.out _ _ ?_ (fun hHeld => ?_)
              · exact NbS.alloc HE.out _
              clear hK K
              try simp only [Act.put, List.getElem_toArray, List.getElem_cons_zero, List.getElem_cons_succ, List.setIfInBounds_toArray, List.set_cons_zero, List.set_cons_succ]
              refine wpAnyH_done (by kernel_rfl) ?_ _
              refine HK.out _ _ ?_
              clear hHeld HE HK
              by_cases c : kd = 2
              · subst c
                go_wp2_with (go_at_call 122; refine (nearest_any _ _ _ (by decide) _).mono ?_; rintro r w' ⟨rfl, rfl⟩)
                refine bodyPost_ret (v := limI id 2 sn us mb dp) (by simp [results, Tryz.results100, go_sem, limI]) rfl ⟨rfl, ?_⟩
                exact below8b w _ _ _
              · have c' : (kd == 2) = false := by simpa using c
                go_wp2_with (go_at_call 122; refine (nearest_any _ _ _ (by decide) _).mono ?_; rintro r w' ⟨rfl, rfl⟩)
                refine bodyPost_ret (v := limI id kd sn us mb dp) (by simp [results, Tryz.results100, go_sem, limI, c]) rfl ⟨rfl, ?_⟩
                exact below8b w _ _ _
            exact AllReadyH.nil
          exact AllReadyH.nil
        refine AllReadyH.cons rfl (fun K hK => ?_) ?_
        · rw [if_pos (by rfl)]
          go_simp
          refine hK.out _ _ ?_ (fun hHeld => ?_)
          · exact NbS.alloc hHeld _
          clear hK K
          try simp only [Act.put, List.getElem_toArray, List.getElem_cons_zero, List.getElem_cons_succ, List.setIfInBounds_toArray, List.set_cons_zero, List.set_cons_succ]
          refine wpAnyH_ready (rs := [11]) (by kernel_rfl) (by simp) ?_
          refine AllReadyH.cons rfl (fun K hK => ?_) ?_
          · rw [if_pos (by rfl)]
            go_simp
            go_at_call 122
            refine (nearest_any _ _ _ (by decide) _).mono ?_
            rintro r w' ⟨rfl, rfl⟩
            try go_simp
            refine hK.out _ _ ?_ (fun hHeld => ?_)
            · exact hHeld
            clear hK K
            try simp only [Act.put, List.getElem_toArray, List.getElem_cons_zero, List.getElem_cons_succ, List.setIfInBounds_toArray, List.set_cons_zero, List.set_cons_succ]
            refine wpAnyH_take (i := 12) (v := ?_) rfl (by kernel_rfl) (by kernel_rfl) (by kernel_rfl) (fun _ _ _ h => h) (Or.inl ⟨by rfl, ?_⟩) (by assumption) ?_; rotate_left
            · (intro wz hSw; have z0 := blk_cell hSw 0 rfl; have z1 := blk_cell hSw 1 rfl; have z2 := blk_cell hSw 2 rfl; have z5 := blk_cell hSw 5 rfl; clear hSw; go_simp; first | done | with_reducible rfl)
            try simp only [Act.put, List.getElem_toArray, List.getElem_cons_zero, List.getElem_cons_succ, List.setIfInBounds_toArray, List.set_cons_zero, List.set_cons_succ]
            refine wpAnyH_ready (rs := [14]) (by kernel_rfl) (by simp) ?_
            refine AllReadyH.cons rfl (fun K hK => ?_) ?_
            · rw [if_pos (by rfl)]
              go_simp
              refine hK.out _ _ ?_ (fun hHeld => ?_)
              · exact NbS.alloc HE.out _
              clear hK K
              try simp only [Act.put, List.getElem_toArray, List.getElem_cons_zero, List.getElem_cons_succ, List.setIfInBounds_toArray, List.set_cons_zero, List.set_cons_succ]
              refine wpAnyH_done (by kernel_rfl) ?_ _
              refine HK.out _ _ ?_
              clear hHeld HE HK
              by_cases c : kd = 2
              · subst c
                go_wp2_with (go_at_call 122; refine (nearest_any _ _ _ (by decide) _).mono ?_; rintro r w' ⟨rfl, rfl⟩)
                refine bodyPost_ret (v := limI id 2 sn us mb dp) (by simp [results, Tryz.results100, go_sem, limI]) rfl ⟨rfl, ?_⟩
                exact below8b w _ _ _
              · have c' : (kd == 2) = false := by simpa using c
                go_wp2_with (go_at_call 122; refine (nearest_any _ _ _ (by decide) _).mono ?_; rintro r w' ⟨rfl, rfl⟩)
                refine bodyPost_ret (v := limI id kd sn us mb dp) (by simp [results, Tryz.results100, go_sem, limI, c]) rfl ⟨rfl, ?_⟩
                exact below8b w _ _ _
            exact AllReadyH.nil
          exact AllReadyH.nil
        exact AllReadyH.nil
      refine AllReadyH.cons rfl (fun K hK => ?_) ?_
      · rw [if_pos (by rfl)]
        go_simp
        refine hK.out _ _ ?_ (fun hHeld => ?_)
        · exact NbS.alloc hHeld _
        clear hK K
        try simp only [Act.put, List.getElem_toArray, List.getElem_cons_zero, List.getElem_cons_succ, List.setIfInBounds_toArray, List.set_cons_zero, List.set_cons_succ]
        refine wpAnyH_ready (rs := [8]) (by kernel_rfl) (by simp) ?_
        refine AllReadyH.cons rfl (fun K hK => ?_) ?_
        · rw [if_pos (by rfl)]
          go_simp
          go_at_call 122
          refine (nearest_any _ _ _ (by decide) _).mono ?_
          rintro r w' ⟨rfl, rfl⟩
          try go_simp
          refine hK.out _ _ ?_ (fun hHeld => ?_)
          · exact hHeld
          clear hK K
          try simp only [Act.put, List.getElem_toArray, List.getElem_cons_zero, List.getElem_cons_succ, List.setIfInBounds_toArray, List.set_cons_zero, List.set_cons_succ]
          refine wpAnyH_ready (rs := [11]) (by kernel_rfl) (by simp) ?_
          refine AllReadyH.cons rfl (fun K hK => ?_) ?_
          · rw [if_pos (by rfl)]
            go_simp
            go_at_call 122
            refine (nearest_any _ _ _ (by decide) _).mono ?_
            rintro r w' ⟨rfl, rfl⟩
            try go_simp
            refine hK.out _ _ ?_ (fun hHeld => ?_)
            · exact hHeld
            clear hK K
            try simp only [Act.put, List.getElem_toArray, List.getElem_cons_zero, List.getElem_cons_succ, List.setIfInBounds_toArray, List.set_cons_zero, List.set_cons_succ]
            refine wpAnyH_take (i := 12) (v := ?_) rfl (by kernel_rfl) (by kernel_rfl) (by kernel_rfl) (fun _ _ _ h => h) (Or.inl ⟨by rfl, ?_⟩) (by assumption) ?_; rotate_left
            · (intro wz hSw; have z0 := blk_cell hSw 0 rfl; have z1 := blk_cell hSw 1 rfl; have z2 := blk_cell hSw 2 rfl; have z5 := blk_cell hSw 5 rfl; clear hSw; go_simp; first | done | with_reducible rfl)
            try simp only [Act.put, List.getElem_toArray, List.getElem_cons_zero, List.getElem_cons_succ, List.setIfInBounds_toArray, List.set_cons_zero, List.set_cons_succ]
            refine wpAnyH_ready (rs := [14]) (by kernel_rfl) (by simp) ?_
            refine AllReadyH.cons rfl (fun K hK => ?_) ?_
            · rw [if_pos (by rfl)]
              go_simp
              refine hK.out _ _ ?_ (fun hHeld => ?_)
              · exact NbS.alloc HE.out _
              clear hK K
              try simp only [Act.put, List.getElem_toArray, List.getElem_cons_zero, List.getElem_cons_succ, List.setIfInBounds_toArray, List.set_cons_zero, List.set_cons_succ]
              refine wpAnyH_done (by kernel_rfl) ?_ _
              refine HK.out _ _ ?_
              clear hHeld HE HK
              by_cases c : kd = 2
              · subst c
                go_wp2_with (go_at_call 122; refine (nearest_any _ _ _ (by decide) _).mono ?_; rintro r w' ⟨rfl, rfl⟩)
                refine bodyPost_ret (v := limI id 2 sn us mb dp) (by simp [results, Tryz.results100, go_sem, limI]) rfl ⟨rfl, ?_⟩
                exact below8b w _ _ _
              · have c' : (kd == 2) = false := by simpa using c
                go_wp2_with (go_at_call 122; refine (nearest_any _ _ _ (by decide) _).mono ?_; rintro r w' ⟨rfl, rfl⟩)
                refine bodyPost_ret (v := limI id kd sn us mb dp) (by simp [results, Tryz.results100, go_sem, limI, c]) rfl ⟨rfl, ?_⟩
                exact below8b w _ _ _
            exact AllReadyH.nil
          exact AllReadyH.nil
        exact AllReadyH.nil
      exact AllReadyH.nil
    refine AllReadyH.cons rfl (fun K hK => ?_) ?_
    · rw [if_pos (by rfl)]
      go_simp
      refine hK.out _ _ ?_ (fun hHeld => ?_)
      · exact NbS.alloc hHeld _
      clear hK K
      try simp only [Act.put, List.getElem_toArray, List.getElem_cons_zero, List.getElem_cons_succ, List.setIfInBounds_toArray, List.set_cons_zero, List.set_cons_succ]
      refine wpAnyH_ready (rs := [5]) (by kernel_rfl) (by simp) ?_
      refine AllReadyH.cons rfl (fun K hK => ?_) ?_
      · rw [if_pos (by rfl)]
        go_simp
        go_at_call 122
        refine (nearest_any _ _ _ (by decide) _).mono ?_
        rintro r w' ⟨rfl, rfl⟩
        try go_simp
        refine hK.out _ _ ?_ (fun hHeld => ?_)
        · exact hHeld
        clear hK K
        try simp only [Act.put, List.getElem_toArray, List.getElem_cons_zero, List.getElem_cons_succ, List.setIfInBounds_toArray, List.set_cons_zero, List.set_cons_succ]
        refine wpAnyH_ready (rs := [8]) (by kernel_rfl) (by simp) ?_
        refine AllReadyH.cons rfl (fun K hK => ?_) ?_
        · rw [if_pos (by rfl)]
          go_simp
          go_at_call 122
          refine (nearest_any _ _ _ (by decide) _).mono ?_
          rintro r w' ⟨rfl, rfl⟩
          try go_simp
          refine hK.out _ _ ?_ (fun hHeld => ?_)
          · exact hHeld
          clear hK K
          try simp only [Act.put, List.getElem_toArray, List.getElem_cons_zero, List.getElem_cons_succ, List.setIfInBounds_toArray, List.set_cons_zero, List.set_cons_succ]
          refine wpAnyH_ready (rs := [11]) (by kernel_rfl) (by simp) ?_
          refine AllReadyH.cons rfl (fun K hK => ?_) ?_
          · rw [if_pos (by rfl)]
            go_simp
            go_at_call 122
            refine (nearest_any _ _ _ (by decide) _).mono ?_
            rintro r w' ⟨rfl, rfl⟩
            try go_simp
            refine hK.out _ _ ?_ (fun hHeld => ?_)
            · exact hHeld
            clear hK K
            try simp only [Act.put, List.getElem_toArray, List.getElem_cons_zero, List.getElem_cons_succ, List.setIfInBounds_toArray, List.set_cons_zero, List.set_cons_succ]
            refine wpAnyH_take (i := 12) (v := ?_) rfl (by kernel_rfl) (by kernel_rfl) (by kernel_rfl) (fun _ _ _ h => h) (Or.inl ⟨by rfl, ?_⟩) (by assumption) ?_; rotate_left
            · (intro wz hSw; have z0 := blk_cell hSw 0 rfl; have z1 := blk_cell hSw 1 rfl; have z2 := blk_cell hSw 2 rfl; have z5 := blk_cell hSw 5 rfl; clear hSw; go_simp; first | done | with_reducible rfl)
            try simp only [Act.put, List.getElem_toArray, List.getElem_cons_zero, List.getElem_cons_succ, List.setIfInBounds_toArray, List.set_cons_zero, List.set_cons_succ]
            refine wpAnyH_ready (rs := [14]) (by kernel_rfl) (by simp) ?_
            refine AllReadyH.cons rfl (fun K hK => ?_) ?_
            · rw [if_pos (by rfl)]
              go_simp
              refine hK.out _ _ ?_ (fun hHeld => ?_)
              · exact NbS.alloc HE.out _
              clear hK K
              try simp only [Act.put, List.getElem_toArray, List.getElem_cons_zero, List.getElem_cons_succ, List.setIfInBounds_toArray, List.set_cons_zero, List.set_cons_succ]
              refine wpAnyH_done (by kernel_rfl) ?_ _
              refine HK.out _ _ ?_
              clear hHeld HE HK
              by_cases c : kd = 2
              · subst c
                go_wp2_with (go_at_call 122; refine (nearest_any _ _ _ (by decide) _).mono ?_; rintro r w' ⟨rfl, rfl⟩)
                refine bodyPost_ret (v := limI id 2 sn us mb dp) (by simp [results, Tryz.results100, go_sem, limI]) rfl ⟨rfl, ?_⟩
                exact below8b w _ _ _
              · have c' : (kd == 2) = false := by simpa using c
                go_wp2_with (go_at_call 122; refine (nearest_any _ _ _ (by decide) _).mono ?_; rintro r w' ⟨rfl, rfl⟩)
                refine bodyPost_ret (v := limI id kd sn us mb dp) (by simp [results, Tryz.results100, go_sem, limI, c]) rfl ⟨rfl, ?_⟩
                exact below8b w _ _ _
            exact AllReadyH.nil
          exact AllReadyH.nil
        exact AllReadyH.nil
      exact AllReadyH.nil
    exact AllReadyH.nil
  refine AllReadyH.cons rfl (fun K hK => ?_) ?_
  · rw [if_pos (by rfl)]
    go_simp
    refine hK.out _ _ ?_ (fun hHeld => ?_)
    · exact NbS.alloc hHeld _
    clear hK K
    try simp only [Act.put, List.getElem_toArray, List.getElem_cons_zero, List.getElem_cons_succ, List.setIfInBounds_toArray, List.set_cons_zero, List.set_cons_succ]
    refine wpAnyH_ready (rs := [2]) (by kernel_rfl) (by simp) ?_
    refine AllReadyH.cons rfl (fun K hK => ?_) ?_
    · rw [if_pos (by rfl)]
      go_simp
      go_at_call 122
      refine (nearest_any _ _ _ (by decide) _).mono ?_
      rintro r w' ⟨rfl, rfl⟩
      try go_simp
      refine hK.out _ _ ?_ (fun hHeld => ?_)
      · exact hHeld
      clear hK K
      try simp only [Act.put, List.getElem_toArray, List.getElem_cons_zero, List.getElem_cons_succ, List.setIfInBounds_toArray, List.set_cons_zero, List.set_cons_succ]
      refine wpAnyH_ready (rs := [5]) (by kernel_rfl) (by simp) ?_
      refine AllReadyH.cons rfl (fun K hK => ?_) ?_
      · rw [if_pos (by rfl)]
        go_simp
        go_at_call 122
        refine (nearest_any _ _ _ (by decide) _).mono ?_
        rintro r w' ⟨rfl, rfl⟩
        try go_simp
        refine hK.out _ _ ?_ (fun hHeld => ?_)
        · exact hHeld
        clear hK K
        try simp only [Act.put, List.getElem_toArray, List.getElem_cons_zero, List.getElem_cons_succ, List.setIfInBounds_toArray, List.set_cons_zero, List.set_cons_succ]
        refine wpAnyH_ready (rs := [8]) (by kernel_rfl) (by simp) ?_
        refine AllReadyH.cons rfl (fun K hK => ?_) ?_
        · rw [if_pos (by rfl)]
          go_simp
          go_at_call 122
          refine (nearest_any _ _ _ (by decide) _).mono ?_
          rintro r w' ⟨rfl, rfl⟩
          try go_simp
          refine hK.out _ _ ?_ (fun hHeld => ?_)
          · exact hHeld
          clear hK K
          try simp only [Act.put, List.getElem_toArray, List.getElem_cons_zero, List.getElem_cons_succ, List.setIfInBounds_toArray, List.set_cons_zero, List.set_cons_succ]
          refine wpAnyH_ready (rs := [11]) (by kernel_rfl) (by simp) ?_
          refine AllReadyH.cons rfl (fun K hK => ?_) ?_
          · rw [if_pos (by rfl)]
            go_simp
            go_at_call 122
            refine (nearest_any _ _ _ (by decide) _).mono ?_
            rintro r w' ⟨rfl, rfl⟩
            try go_simp
            refine hK.out _ _ ?_ (fun hHeld => ?_)
            · exact hHeld
            clear hK K
            try simp only [Act.put, List.getElem_toArray, List.getElem_cons_zero, List.getElem_cons_succ, List.setIfInBounds_toArray, List.set_cons_zero, List.set_cons_succ]
            refine wpAnyH_take (i := 12) (v := ?_) rfl (by kernel_rfl) (by kernel_rfl) (by kernel_rfl) (fun _ _ _ h => h) (Or.inl ⟨by rfl, ?_⟩) (by assumption) ?_; rotate_left
            · (intro wz hSw; have z0 := blk_cell hSw 0 rfl; have z1 := blk_cell hSw 1 rfl; have z2 := blk_cell hSw 2 rfl; have z5 := blk_cell hSw 5 rfl; clear hSw; go_simp; first | done | with_reducible rfl)
            try simp only [Act.put, List.getElem_toArray, List.getElem_cons_zero, List.getElem_cons_succ, List.setIfInBounds_toArray, List.set_cons_zero, List.set_cons_succ]
            refine wpAnyH_ready (rs := [14]) (by kernel_rfl) (by simp) ?_
            refine AllReadyH.cons rfl (fun K hK => ?_) ?_
            · rw [if_pos (by rfl)]
              go_simp
              refine hK.out _ _ ?_ (fun hHeld => ?_)
              · exact NbS.alloc HE.out _
              clear hK K
              try simp only [Act.put, List.getElem_toArray, List.getElem_cons_zero, List.getElem_cons_succ, List.setIfInBounds_toArray, List.set_cons_zero, List.set_cons_succ]
              refine wpAnyH_done (by kernel_rfl) ?_ _
              refine HK.out _ _ ?_
              clear hHeld HE HK
              by_cases c : kd = 2
              · subst c
                go_wp2_with (go_at_call 122; refine (nearest_any _ _ _ (by decide) _).mono ?_; rintro r w' ⟨rfl, rfl⟩)
                refine bodyPost_ret (v := limI id 2 sn us mb dp) (by simp [results, Tryz.results100, go_sem, limI]) rfl ⟨rfl, ?_⟩
                exact below8b w _ _ _
              · have c' : (kd == 2) = false := by simpa using c
                go_wp2_with (go_at_call 122; refine (nearest_any _ _ _ (by decide) _).mono ?_; rintro r w' ⟨rfl, rfl⟩)
                refine bodyPost_ret (v := limI id kd sn us mb dp) (by simp [results, Tryz.results100, go_sem, limI, c]) rfl ⟨rfl, ?_⟩
                exact below8b w _ _ _
            exact AllReadyH.nil
          exact AllReadyH.nil
        exact AllReadyH.nil
      exact AllReadyH.nil
    exact AllReadyH.nil
  exact AllReadyH.nil

end Go.Proofs.YtckkfjmjcknjdaaGreatDoor

namespace Go.Proofs.YtckkfjmjcknjdaaGreatDoor
open Go.RowKit P1 P3 P9 P11 P12 K
set_option linter.unusedVariables false
set_option linter.unusedSimpArgs false

set_option maxHeartbeats 1000000 in
theorem levelsOk_any (id kd sn us mb dp : Int) (oa : Option Addr) (n cl : Nat) (tx : List UInt8) (ob : Option Addr) (m cp : Nat) (zl zp : List Int) (w : World) (hat : IntsAt w oa n cl zl) :
    Calls Tryz.prog 101 #[evval id kd sn us mb dp (.slice oa n cl) (.slice ob m cp) tx] w fun e w' => e = .returned (.bool (lvsOk (⟨id, kd, sn, us, mb, zl, tx, zp, dp⟩ : EvV))) ∧ Below w.heap.size w w' := by
  have HB := hide ((Below.refl w.heap.size w).alloc (Nat.le_refl _) (.cells #[.int .i64 id, .int .i64 kd, .int .i64 sn, .int .i64 us, .int .i64 mb, .slice oa n cl, .string ⟨tx.toArray⟩, .slice ob m cp, .int .i64 dp] 29))
  have HAT := hide (hat.below HB.out)
  have hn := hat.len
  have hmx := Nat.le_trans hat.room hat.most
  unfold maxLen at hmx
  by_cases c : kd = 3
  · subst c
    by_cases d : n = 5
    · subst d
      have hL : lvsOk (⟨id, 3, sn, us, mb, zl, tx, zp, dp⟩ : EvV) = lvAll zl := lvsOk_power rfl hn
      rw [hL]
      have HN := hide hn
      clear hL hat hn
      go_enter Tryz.func101, Tryz.ntmps101
      go_wp2_with fail
      go_loop [19] (fun i => ∃ (j : Nat), i = .int .i64 (j : Int) ∧ j ≤ 5 ∧ lvAll (zl.drop j) = lvAll zl) (fun i => 5 - (intOf i).toNat)
      case atStart => exact ⟨0, rfl, Nat.zero_le _, rfl⟩
      case round =>
        obtain ⟨j, rfl, hj, hrest⟩ := hrel
        by_cases hlt : j < 5
        · have j0 : (j : Int) < 5 := by omega
          obtain ⟨z, b, q, hz, hidx, hb, c0, hwf⟩ := HAT.out.get Tryz.underlying22 infoI j hlt
          rw [lvAll_at hz] at hrest
          by_cases hzr : 0 ≤ z ∧ z ≤ 100
          · obtain ⟨hz1, hz4⟩ := hzr
            have HR := hide (show lvAll (zl.drop (j + 1)) = lvAll zl by rw [← hrest, inR_iff.2 ⟨hz1, hz4⟩, Bool.true_and])
            clear hrest hz
            go_wp2_with (go_at_call 24; refine (within_yes _ _ _ hz1 hz4 _).mono ?_; rintro e w' ⟨rfl, rfl⟩)
            go_round
            case rel => exact ⟨j + 1, by go_num, by omega, HR.out⟩
            case measure => simp [intOf]; omega
          · have hnin : inR z 0 100 = false := by (simp [inR]; omega)
            have HR := hide (show lvAll zl = false by rw [← hrest, hnin, Bool.false_and])
            clear hnin
            clear hrest hz
            go_wp2_with (go_at_call 24; refine (within_no _ _ _ (by omega) _).mono ?_; rintro e w' ⟨rfl, rfl⟩)
            go_ret
            exact ⟨by rw [HR.out]; rfl, HB.out⟩
        · have hjn : j = 5 := by omega
          have HR := hide (show lvAll zl = true by rw [← hrest, hjn, ← HN.out, List.drop_length]; rfl)
          clear hrest
          go_wp2_with fail
          go_ret
          exact ⟨by rw [HR.out]; rfl, HB.out⟩
    · have hL : lvsOk (⟨id, 3, sn, us, mb, zl, tx, zp, dp⟩ : EvV) = false := lvsOk_few rfl (by rw [hn]; exact d)
      rw [hL]
      have d' : ((n : Int) == 5) = false := by simp; omega
      have d2 : ¬ (n : Int) = 5 := by omega
      clear hL hat hn
      go_enter Tryz.func101, Tryz.ntmps101
      go_wp2_with fail
      go_ret
      exact ⟨rfl, HB.out⟩
  · have hL : lvsOk (⟨id, kd, sn, us, mb, zl, tx, zp, dp⟩ : EvV) = decide (n = 0) := by rw [← hn]; exact lvsOk_other c
    rw [hL]
    have c' : (kd == 3) = false := by simpa using c
    clear hL hat hn
    by_cases d : n = 0
    · subst d
      go_enter Tryz.func101, Tryz.ntmps101
      go_wp2_with fail
      go_ret
      exact ⟨rfl, HB.out⟩
    · have d' : ((n : Int) == 0) = false := by simp; omega
      have d2 : ¬ (n : Int) = 0 := by omega
      rw [decide_eq_false d]
      go_enter Tryz.func101, Tryz.ntmps101
      go_wp2_with fail
      go_ret
      exact ⟨by simp [d, d2], HB.out⟩

set_option maxHeartbeats 1000000 in
theorem textOk_any (id kd sn us mb dp : Int) (oa : Option Addr) (n cl : Nat) (tx : List UInt8) (ob : Option Addr) (m cp : Nat) (zl zp : List Int) (hx : tx.length ≤ 1048576) (w : World) :
    Calls Tryz.prog 102 #[evval id kd sn us mb dp (.slice oa n cl) (.slice ob m cp) tx] w fun e w' => e = .returned (.bool (txOk (⟨id, kd, sn, us, mb, zl, tx, zp, dp⟩ : EvV))) ∧ Below w.heap.size w w' := by
  have HB := hide ((Below.refl w.heap.size w).alloc (Nat.le_refl _) (.cells #[.int .i64 id, .int .i64 kd, .int .i64 sn, .int .i64 us, .int .i64 mb, .slice oa n cl, .string ⟨tx.toArray⟩, .slice ob m cp, .int .i64 dp] 29))
  by_cases c4 : kd = 4
  · subst c4
    rw [txOk_word (Or.inl rfl)]
    go_enter Tryz.func102, Tryz.ntmps102
    go_wp2_with fail
    go_ret
    exact ⟨by first | rfl | (simp; omega), HB.out⟩
  · by_cases c5 : kd = 5
    · subst c5
      rw [txOk_word (Or.inr rfl)]
      go_enter Tryz.func102, Tryz.ntmps102
      go_wp2_with fail
      go_ret
      exact ⟨by first | rfl | (simp; omega), HB.out⟩
    · have g4 : (kd == 4) = false := by simpa using c4
      have g5 : (kd == 5) = false := by simpa using c5
      rw [txOk_none (by simp [c4, c5])]
      go_enter Tryz.func102, Tryz.ntmps102
      go_wp2_with fail
      go_ret
      exact ⟨by cases tx <;> simp, HB.out⟩

set_option maxHeartbeats 1000000 in
theorem implPrevOk_any (id kd sn us mb dp : Int) (oa : Option Addr) (n cl : Nat) (tx : List UInt8) (ob : Option Addr) (m cp : Nat) (zl zp : List Int) (w : World) (hat : IntsAt w ob m cp zp) :
    Calls Tryz.prog 103 #[evval id kd sn us mb dp (.slice oa n cl) (.slice ob m cp) tx] w fun e w' => e = .returned (.bool (prevOk (⟨id, kd, sn, us, mb, zl, tx, zp, dp⟩ : EvV))) ∧ Below w.heap.size w w' := by
  have HB := hide ((Below.refl w.heap.size w).alloc (Nat.le_refl _) (.cells #[.int .i64 id, .int .i64 kd, .int .i64 sn, .int .i64 us, .int .i64 mb, .slice oa n cl, .string ⟨tx.toArray⟩, .slice ob m cp, .int .i64 dp] 29))
  have HAT := hide (hat.below HB.out)
  have hn := hat.len
  have hmx := Nat.le_trans hat.room hat.most
  unfold maxLen at hmx
  by_cases c : kd = 1
  · subst c
    have hL : prevOk (⟨id, 1, sn, us, mb, zl, tx, zp, dp⟩ : EvV) = decide (m = 0) := by rw [← hn]; exact prevOk_create rfl
    rw [hL]
    clear hL hat hn
    by_cases d : m = 0
    · subst d
      go_enter Tryz.func103, Tryz.ntmps103
      go_wp2_with fail
      go_ret
      exact ⟨rfl, HB.out⟩
    · have d' : ((m : Int) == 0) = false := by simp; omega
      have d2 : ¬ (m : Int) = 0 := by omega
      rw [decide_eq_false d]
      go_enter Tryz.func103, Tryz.ntmps103
      go_wp2_with fail
      go_ret
      exact ⟨by simp [d, d2], HB.out⟩
  · have c' : (kd == 1) = false := by simpa using c
    by_cases d : 1 ≤ m ∧ m ≤ 3
    · obtain ⟨d1, d3⟩ := d
      have hL : prevOk (⟨id, kd, sn, us, mb, zl, tx, zp, dp⟩ : EvV) = pvOk id none zp := prevOk_in c ⟨by rw [hn]; exact d1, by rw [hn]; exact d3⟩
      rw [hL]
      have HN := hide hn
      clear hL hat hn
      go_enter Tryz.func103, Tryz.ntmps103
      go_wp2_with (go_at_call 24; refine (within_yes _ _ _ (by omega) (by omega) _).mono ?_; rintro e w' ⟨rfl, rfl⟩)
      go_loop [3, 21] (fun la i => ∃ (j : Nat), i = .int .i64 (j : Int) ∧ j ≤ m ∧ la = .int .i64 (lastI (pv zp j)) ∧ 0 ≤ lastI (pv zp j) ∧ lastI (pv zp j) ≤ 1000000 ∧ pvOk id (pv zp j) (zp.drop j) = pvOk id none zp) (fun _ i => m - (intOf i).toNat)
      case atStart => exact ⟨0, rfl, Nat.zero_le _, rfl, by simp [pv, lastI], by simp [pv, lastI], rfl⟩
      case round =>
        obtain ⟨j, rfl, hj, rfl, hl0, hl1, hrest⟩ := hrel
        by_cases hlt : j < m
        · have j0 : (j : Int) < (m : Int) := by omega
          obtain ⟨z, b, q, hz, hidx, hb, c0, hwf⟩ := HAT.out.get Tryz.underlying22 infoI j hlt
          rw [pvOk_at hz] at hrest
          have hnext : lastI (pv zp (j + 1)) = z := by simp [pv, hz, lastI]
          have hal := after_last (z := z) hl0
          generalize lastI (pv zp j) = la at hl0 hl1 hal ⊢
          by_cases hzr : la + 1 ≤ z ∧ z ≤ 1000000
          · obtain ⟨hz1, hz4⟩ := hzr
            by_cases hid : z = id
            · have HR := hide (show pvOk id none zp = false by rw [← hrest]; simp [hid])
              subst hid
              clear hrest hz hnext hal
              go_wp2_with (go_at_call 24; refine (within_yes _ _ _ hz1 hz4 _).mono ?_; rintro e w' ⟨rfl, rfl⟩)
              go_ret
              exact ⟨by rw [HR.out]; rfl, HB.out⟩
            · have gid : (z == id) = false := by simpa using hid
              have HR := hide (show pvOk id (pv zp (j + 1)) (zp.drop (j + 1)) = pvOk id none zp by
                rw [← hrest, Bool.and_left_comm, hal, decide_eq_true hid, inR_iff.2 ⟨hz1, hz4⟩]
                rfl)
              have HX := hide hnext
              clear hrest hz hnext hal
              go_wp2_with (go_at_call 24; refine (within_yes _ _ _ hz1 hz4 _).mono ?_; rintro e w' ⟨rfl, rfl⟩)
              go_round
              case rel => exact ⟨j + 1, by go_num, by omega, by rw [HX.out], by rw [HX.out]; omega, by rw [HX.out]; omega, HR.out⟩
              case measure => simp [intOf]; omega
          · have HR := hide (show pvOk id none zp = false by
              rw [← hrest, Bool.and_left_comm, hal]
              have : inR z (la + 1) 1000000 = false := by (simp [inR]; omega)
              rw [this, Bool.and_false, Bool.false_and])
            clear hrest hz hnext hal
            go_wp2_with (go_at_call 24; refine (within_no _ _ _ (by omega) _).mono ?_; rintro e w' ⟨rfl, rfl⟩)
            go_ret
            exact ⟨by rw [HR.out]; rfl, HB.out⟩
        · have hjn : j = m := by omega
          have HR := hide (show pvOk id none zp = true by rw [← hrest, hjn, ← HN.out, List.drop_length]; exact pvOk_end _ _)
          clear hrest
          go_wp2_with fail
          go_ret
          exact ⟨by rw [HR.out]; rfl, HB.out⟩
    · have hL : prevOk (⟨id, kd, sn, us, mb, zl, tx, zp, dp⟩ : EvV) = false := prevOk_off c (by rw [hn]; exact d)
      rw [hL]
      clear hL hat hn
      go_enter Tryz.func103, Tryz.ntmps103
      go_wp2_with (go_at_call 24; refine (within_no _ _ _ (by omega) _).mono ?_; rintro e w' ⟨rfl, rfl⟩)
      go_ret
      exact ⟨rfl, HB.out⟩

end Go.Proofs.YtckkfjmjcknjdaaGreatDoor

namespace Go.Proofs.YtckkfjmjcknjdaaGreatDoor
open Go.RowKit P1 P3 P9 P11 P12 K
set_option linter.unusedVariables false
set_option linter.unusedSimpArgs false
attribute [local go_sem ↓] Go.wp_at_zero Go.wp_at_succ

theorem inw_more {w2 : World} (m : InW (fun w' => Below w2.heap.size w2 w')) {w3 : World} (h : Below m.w.heap.size m.w w3) : Below w2.heap.size w2 w3 := m.h.trans (h.mono m.h.size)

theorem fieldsN : Tryz.prog.fieldsOf 131 = #[⟨ "id", 3, 0, false, "", "loop.example/g00127/impl", 0⟩, ⟨ "kind", 3, 1, false, "", "loop.example/g00127/impl", 8⟩, ⟨ "sender", 3, 2, false, "", "loop.example/g00127/impl", 16⟩, ⟨ "user", 3, 3, false, "", "loop.example/g00127/impl", 24⟩, ⟨ "member", 3, 4, false, "", "loop.example/g00127/impl", 32⟩, ⟨ "depth", 3, 5, false, "", "loop.example/g00127/impl", 40⟩] := by kernel_rfl

theorem underN : Tryz.prog.underlying 131 = some (.struct (Tryz.prog.fieldsOf 131)) := by kernel_rfl

theorem nv_eql (a0 a1 a2 a3 a4 a5 b0 b1 b2 b3 b4 b5 : Int) (wx : World) : (binOp .eql 131 (nval a0 a1 a2 a3 a4 a5) (nval b0 b1 b2 b3 b4 b5)).run Tryz.prog wx = .ok (.bool (decide (a0 = b0) && (decide (a1 = b1) && (decide (a2 = b2) && (decide (a3 = b3) && (decide (a4 = b4) && decide (a5 = b5))))))) wx := by
  have hu := Tryz.underlying3
  rw [run_eql_struct, run_equalIn_agg wx 9999 _ _ _ underN (by kernel_rfl), fieldsN]
  simp [go_sem, hu]
  by_cases c0 : a0 = b0
  · by_cases c1 : a1 = b1
    · by_cases c2 : a2 = b2
      · by_cases c3 : a3 = b3
        · by_cases c4 : a4 = b4
          · by_cases c5 : a5 = b5
            · simp [c0, c1, c2, c3, c4, c5]
            · simp [c0, c1, c2, c3, c4, c5]
          · simp [c0, c1, c2, c3, c4]
        · simp [c0, c1, c2, c3]
      · simp [c0, c1, c2]
    · simp [c0, c1]
  · simp [c0]

def numOk (id kd sn us mb dp : Int) : Bool := inR id 1 1000000 && (inR kd 1 5 && (inR sn 1 5 && (decide (us = if kd = 2 then nearI us 1 5 else 0) && (decide (mb = if kd = 2 then nearI mb 0 3 else 0) && inR dp 0 1000000))))

theorem nv_lim (id kd sn us mb dp : Int) (wx : World) : (binOp .eql 131 (nval id kd sn us mb dp) (limI id kd sn us mb dp)).run Tryz.prog wx = .ok (.bool (numOk id kd sn us mb dp)) wx := by
  unfold limI
  rw [nv_eql, nearI_eq (by decide), nearI_eq (by decide), nearI_eq (by decide), nearI_eq (by decide)]
  rfl

theorem nv_guard (id kd sn us mb dp : Int) (x y : Operand) (wx : World) : (eqGuard .eql 131 x y (nval id kd sn us mb dp) (limI id kd sn us mb dp)).run Tryz.prog wx = .ok () wx :=
  run_eqGuard_agg wx .eql _ x y _ _ (by kernel_rfl)

theorem evOk_num (id kd sn us mb dp : Int) (zl zp : List Int) (tx : List UInt8) : evOk (⟨id, kd, sn, us, mb, zl, tx, zp, dp⟩ : EvV) = (numOk id kd sn us mb dp && (lvsOk (⟨id, kd, sn, us, mb, zl, tx, zp, dp⟩ : EvV) && (txOk (⟨id, kd, sn, us, mb, zl, tx, zp, dp⟩ : EvV) && prevOk (⟨id, kd, sn, us, mb, zl, tx, zp, dp⟩ : EvV)))) := by
  have hm : memOk (⟨id, kd, sn, us, mb, zl, tx, zp, dp⟩ : EvV) = (decide (us = if kd = 2 then nearI us 1 5 else 0) && decide (mb = if kd = 2 then nearI mb 0 3 else 0)) := by
    unfold memOk
    simp only
    by_cases c : kd = 2
    · simp only [if_pos c]
      rw [nearI_eq (by decide), nearI_eq (by decide)]
    · simp only [if_neg c]
  unfold evOk bodyOk numOk
  rw [hm]
  simp only
  cases inR id 1 1000000 <;> cases inR kd 1 5 <;> cases inR sn 1 5 <;> cases decide (us = if kd = 2 then nearI us 1 5 else 0) <;> cases decide (mb = if kd = 2 then nearI mb 0 3 else 0) <;> cases inR dp 0 1000000 <;> simp [Bool.and_assoc]

theorem inw_from {w w2 : World} (hb : Below w.heap.size w w2) (m : InW (fun w' => Below w2.heap.size w2 w')) : Below w.heap.size w m.w := hb.trans (m.h.mono hb.size)

structure NC (w : World) (b : Nat) (id kd sn us mb dp : Int) : Prop where
  c0 : w.cell? ⟨b, 0, none⟩ = some (.int .i64 id)
  c1 : w.cell? ⟨b, 1, none⟩ = some (.int .i64 kd)
  c2 : w.cell? ⟨b, 2, none⟩ = some (.int .i64 sn)
  c3 : w.cell? ⟨b, 3, none⟩ = some (.int .i64 us)
  c4 : w.cell? ⟨b, 4, none⟩ = some (.int .i64 mb)
  c5 : w.cell? ⟨b, 5, none⟩ = some (.int .i64 dp)

theorem NbS.nc {b : Nat} {id kd sn us mb dp : Int} {w : World} (h : NbS b id kd sn us mb dp w) : NC w b id kd sn us mb dp :=
  ⟨blk_cell h 0 rfl, blk_cell h 1 rfl, blk_cell h 2 rfl, blk_cell h 3 rfl, blk_cell h 4 rfl, blk_cell h 5 rfl⟩

set_option maxHeartbeats 1000000 in
theorem implEventOk_any (id kd sn us mb dp : Int) (oa : Option Addr) (n cl : Nat) (tx : List UInt8) (ob : Option Addr) (m cp : Nat) (zl zp : List Int) (hx : tx.length ≤ 1048576) (w : World) (hat : IntsAt w oa n cl zl) (hbt : IntsAt w ob m cp zp) :
    Calls Tryz.prog 76 #[evval id kd sn us mb dp (.slice oa n cl) (.slice ob m cp) tx] w fun e w' => e = .returned (.bool (evOk (⟨id, kd, sn, us, mb, zl, tx, zp, dp⟩ : EvV))) ∧ Below w.heap.size w w' := by
  have hb0 := (Below.refl w.heap.size w).alloc (Nat.le_refl _) (.cells #[.int .i64 id, .int .i64 kd, .int .i64 sn, .int .i64 us, .int .i64 mb, .slice oa n cl, .string ⟨tx.toArray⟩, .slice ob m cp, .int .i64 dp] 29)
  have HNU := hide (fun w => numbers_any id kd sn us mb dp oa n cl tx ob m cp w)
  have HLI := hide (fun w => limited_any id kd sn us mb dp w)
  have HE0 := hide (EB.new w id kd sn us mb dp (.slice oa n cl) (.slice ob m cp) tx)
  have HB0 := hide hb0
  have HAT := hide hat
  have HBT := hide hbt
  clear hb0 hat hbt
  rw [evOk_num]
  have HLV := hide (fun w hat => levelsOk_any id kd sn us mb dp oa n cl tx ob m cp zl zp w hat)
  have HTX := hide (fun w => textOk_any id kd sn us mb dp oa n cl tx ob m cp zl zp hx w)
  have HPV := hide (fun w hat => implPrevOk_any id kd sn us mb dp oa n cl tx ob m cp zl zp w hat)
  have hEq := nv_lim id kd sn us mb dp
  have hGd := nv_guard id kd sn us mb dp
  generalize numOk id kd sn us mb dp = nb at hEq ⊢
  generalize lvsOk (⟨id, kd, sn, us, mb, zl, tx, zp, dp⟩ : EvV) = lb at HLV ⊢
  generalize txOk (⟨id, kd, sn, us, mb, zl, tx, zp, dp⟩ : EvV) = tb at HTX ⊢
  generalize prevOk (⟨id, kd, sn, us, mb, zl, tx, zp, dp⟩ : EvV) = pb at HPV ⊢
  cases nb with
  | false =>
    go_enter Tryz.func76, Tryz.ntmps76
    go_wp2_with fail
    refine (HNU.out _).mono ?_
    rintro e w1 ⟨rfl, hb1⟩
    have HE1 := hide (HE0.out.on hb1 (by simp))
    have HB1 := hide (HB0.out.trans (hb1.mono (by simp)))
    clear hb1 HE0 HB0
    go_wp2_with fail
    have hbA := (Below.refl w1.heap.size w1).alloc (Nat.le_refl _) (.cells #[.int .i64 id, .int .i64 kd, .int .i64 sn, .int .i64 us, .int .i64 mb, .int .i64 dp] 131)
    have HE2 := hide (HE1.out.on hbA HE1.out.lt)
    have HN2 := hide (show NbS w1.heap.size id kd sn us mb dp (w1.alloc (.cells #[.int .i64 id, .int .i64 kd, .int .i64 sn, .int .i64 us, .int .i64 mb, .int .i64 dp] 131)) from heap_alloc_new _ _)
    have HB2 := hide (HB1.out.trans (hbA.mono HB1.out.size))
    clear hbA HE1 HB1
    generalize w1.alloc (.cells #[.int .i64 id, .int .i64 kd, .int .i64 sn, .int .i64 us, .int .i64 mb, .int .i64 dp] 131) = w2 at HE2 HN2 HB2 ⊢
    refine wp_region_in (F := fun w' => Below w2.heap.size w2 w') (by kernel_rfl) (by kernel_rfl) (Below.refl _ _).drew ?_
    have hne : Nonempty (InW (fun w' => Below w2.heap.size w2 w')) := ⟨⟨_, Below.refl _ _⟩⟩
    have hev := fun m : InW (fun w' => Below w2.heap.size w2 w') => (HE2.out.on m.h HE2.out.lt).ev
    have k0 := fun m => (hev m).c0
    have k1 := fun m => (hev m).c1
    have k2 := fun m => (hev m).c2
    have k3 := fun m => (hev m).c3
    have k4 := fun m => (hev m).c4
    have k5 := fun m => (hev m).c5
    have k6 := fun m => (hev m).c6
    have k7 := fun m => (hev m).c7
    have k8 := fun m => (hev m).c8
    have hnb := fun m : InW (fun w' => Below w2.heap.size w2 w') => NbS.nc ((m.h.block _ (blk_lt HN2.out)).trans HN2.out)
    have j0 := fun m => (hnb m).c0
    have j1 := fun m => (hnb m).c1
    have j2 := fun m => (hnb m).c2
    have j3 := fun m => (hnb m).c3
    have j4 := fun m => (hnb m).c4
    have j5 := fun m => (hnb m).c5
    clear hev hnb
    repeat (go_big_quiet_step (first
      | (go_at_call 100; refine (HLI.out _).mono ?_; rintro e w3 ⟨rfl, hb3⟩; exact ⟨rfl, ⟨w3, inw_more _ hb3⟩, rfl⟩)
      | (go_at_call 101; refine (HLV.out _ (HAT.out.below (inw_from HB2.out _))).mono ?_; rintro e w3 ⟨rfl, hb3⟩; exact ⟨rfl, ⟨w3, inw_more _ hb3⟩, rfl⟩)
      | (go_at_call 102; refine (HTX.out _).mono ?_; rintro e w3 ⟨rfl, hb3⟩; exact ⟨rfl, ⟨w3, inw_more _ hb3⟩, rfl⟩)
      | (go_at_call 103; refine (HPV.out _ (HBT.out.below (inw_from HB2.out _))).mono ?_; rintro e w3 ⟨rfl, hb3⟩; exact ⟨rfl, ⟨w3, inw_more _ hb3⟩, rfl⟩)))
    refine wpQuiet_nil ?_
    intro _ hw'
    obtain ⟨nq, hw''⟩ := hw'
    subst hw''
    have hb4 := inw_from HB2.out nq
    clear hne k0 k1 k2 k3 k4 k5 k6 k7 k8 j0 j1 j2 j3 j4 j5
    generalize nq.w = w5 at hb4 ⊢
    go_wp2_with fail
    go_ret
    exact ⟨rfl, hb4⟩
  | true =>
    cases lb with
    | false =>
      go_enter Tryz.func76, Tryz.ntmps76
      go_wp2_with fail
      refine (HNU.out _).mono ?_
      rintro e w1 ⟨rfl, hb1⟩
      have HE1 := hide (HE0.out.on hb1 (by simp))
      have HB1 := hide (HB0.out.trans (hb1.mono (by simp)))
      clear hb1 HE0 HB0
      go_wp2_with fail
      have hbA := (Below.refl w1.heap.size w1).alloc (Nat.le_refl _) (.cells #[.int .i64 id, .int .i64 kd, .int .i64 sn, .int .i64 us, .int .i64 mb, .int .i64 dp] 131)
      have HE2 := hide (HE1.out.on hbA HE1.out.lt)
      have HN2 := hide (show NbS w1.heap.size id kd sn us mb dp (w1.alloc (.cells #[.int .i64 id, .int .i64 kd, .int .i64 sn, .int .i64 us, .int .i64 mb, .int .i64 dp] 131)) from heap_alloc_new _ _)
      have HB2 := hide (HB1.out.trans (hbA.mono HB1.out.size))
      clear hbA HE1 HB1
      generalize w1.alloc (.cells #[.int .i64 id, .int .i64 kd, .int .i64 sn, .int .i64 us, .int .i64 mb, .int .i64 dp] 131) = w2 at HE2 HN2 HB2 ⊢
      refine wp_region_in (F := fun w' => Below w2.heap.size w2 w') (by kernel_rfl) (by kernel_rfl) (Below.refl _ _).drew ?_
      have hne : Nonempty (InW (fun w' => Below w2.heap.size w2 w')) := ⟨⟨_, Below.refl _ _⟩⟩
      have hev := fun m : InW (fun w' => Below w2.heap.size w2 w') => (HE2.out.on m.h HE2.out.lt).ev
      have k0 := fun m => (hev m).c0
      have k1 := fun m => (hev m).c1
      have k2 := fun m => (hev m).c2
      have k3 := fun m => (hev m).c3
      have k4 := fun m => (hev m).c4
      have k5 := fun m => (hev m).c5
      have k6 := fun m => (hev m).c6
      have k7 := fun m => (hev m).c7
      have k8 := fun m => (hev m).c8
      have hnb := fun m : InW (fun w' => Below w2.heap.size w2 w') => NbS.nc ((m.h.block _ (blk_lt HN2.out)).trans HN2.out)
      have j0 := fun m => (hnb m).c0
      have j1 := fun m => (hnb m).c1
      have j2 := fun m => (hnb m).c2
      have j3 := fun m => (hnb m).c3
      have j4 := fun m => (hnb m).c4
      have j5 := fun m => (hnb m).c5
      clear hev hnb
      repeat (go_big_quiet_step (first
        | (go_at_call 100; refine (HLI.out _).mono ?_; rintro e w3 ⟨rfl, hb3⟩; exact ⟨rfl, ⟨w3, inw_more _ hb3⟩, rfl⟩)
        | (go_at_call 101; refine (HLV.out _ (HAT.out.below (inw_from HB2.out _))).mono ?_; rintro e w3 ⟨rfl, hb3⟩; exact ⟨rfl, ⟨w3, inw_more _ hb3⟩, rfl⟩)
        | (go_at_call 102; refine (HTX.out _).mono ?_; rintro e w3 ⟨rfl, hb3⟩; exact ⟨rfl, ⟨w3, inw_more _ hb3⟩, rfl⟩)
        | (go_at_call 103; refine (HPV.out _ (HBT.out.below (inw_from HB2.out _))).mono ?_; rintro e w3 ⟨rfl, hb3⟩; exact ⟨rfl, ⟨w3, inw_more _ hb3⟩, rfl⟩)))
      refine wpQuiet_nil ?_
      intro _ hw'
      obtain ⟨nq, hw''⟩ := hw'
      subst hw''
      have hb4 := inw_from HB2.out nq
      clear hne k0 k1 k2 k3 k4 k5 k6 k7 k8 j0 j1 j2 j3 j4 j5
      generalize nq.w = w5 at hb4 ⊢
      go_wp2_with fail
      go_ret
      exact ⟨rfl, hb4⟩
    | true =>
      cases tb with
      | false =>
        go_enter Tryz.func76, Tryz.ntmps76
        go_wp2_with fail
        refine (HNU.out _).mono ?_
        rintro e w1 ⟨rfl, hb1⟩
        have HE1 := hide (HE0.out.on hb1 (by simp))
        have HB1 := hide (HB0.out.trans (hb1.mono (by simp)))
        clear hb1 HE0 HB0
        go_wp2_with fail
        have hbA := (Below.refl w1.heap.size w1).alloc (Nat.le_refl _) (.cells #[.int .i64 id, .int .i64 kd, .int .i64 sn, .int .i64 us, .int .i64 mb, .int .i64 dp] 131)
        have HE2 := hide (HE1.out.on hbA HE1.out.lt)
        have HN2 := hide (show NbS w1.heap.size id kd sn us mb dp (w1.alloc (.cells #[.int .i64 id, .int .i64 kd, .int .i64 sn, .int .i64 us, .int .i64 mb, .int .i64 dp] 131)) from heap_alloc_new _ _)
        have HB2 := hide (HB1.out.trans (hbA.mono HB1.out.size))
        clear hbA HE1 HB1
        generalize w1.alloc (.cells #[.int .i64 id, .int .i64 kd, .int .i64 sn, .int .i64 us, .int .i64 mb, .int .i64 dp] 131) = w2 at HE2 HN2 HB2 ⊢
        refine wp_region_in (F := fun w' => Below w2.heap.size w2 w') (by kernel_rfl) (by kernel_rfl) (Below.refl _ _).drew ?_
        have hne : Nonempty (InW (fun w' => Below w2.heap.size w2 w')) := ⟨⟨_, Below.refl _ _⟩⟩
        have hev := fun m : InW (fun w' => Below w2.heap.size w2 w') => (HE2.out.on m.h HE2.out.lt).ev
        have k0 := fun m => (hev m).c0
        have k1 := fun m => (hev m).c1
        have k2 := fun m => (hev m).c2
        have k3 := fun m => (hev m).c3
        have k4 := fun m => (hev m).c4
        have k5 := fun m => (hev m).c5
        have k6 := fun m => (hev m).c6
        have k7 := fun m => (hev m).c7
        have k8 := fun m => (hev m).c8
        have hnb := fun m : InW (fun w' => Below w2.heap.size w2 w') => NbS.nc ((m.h.block _ (blk_lt HN2.out)).trans HN2.out)
        have j0 := fun m => (hnb m).c0
        have j1 := fun m => (hnb m).c1
        have j2 := fun m => (hnb m).c2
        have j3 := fun m => (hnb m).c3
        have j4 := fun m => (hnb m).c4
        have j5 := fun m => (hnb m).c5
        clear hev hnb
        repeat (go_big_quiet_step (first
          | (go_at_call 100; refine (HLI.out _).mono ?_; rintro e w3 ⟨rfl, hb3⟩; exact ⟨rfl, ⟨w3, inw_more _ hb3⟩, rfl⟩)
          | (go_at_call 101; refine (HLV.out _ (HAT.out.below (inw_from HB2.out _))).mono ?_; rintro e w3 ⟨rfl, hb3⟩; exact ⟨rfl, ⟨w3, inw_more _ hb3⟩, rfl⟩)
          | (go_at_call 102; refine (HTX.out _).mono ?_; rintro e w3 ⟨rfl, hb3⟩; exact ⟨rfl, ⟨w3, inw_more _ hb3⟩, rfl⟩)
          | (go_at_call 103; refine (HPV.out _ (HBT.out.below (inw_from HB2.out _))).mono ?_; rintro e w3 ⟨rfl, hb3⟩; exact ⟨rfl, ⟨w3, inw_more _ hb3⟩, rfl⟩)))
        refine wpQuiet_nil ?_
        intro _ hw'
        obtain ⟨nq, hw''⟩ := hw'
        subst hw''
        have hb4 := inw_from HB2.out nq
        clear hne k0 k1 k2 k3 k4 k5 k6 k7 k8 j0 j1 j2 j3 j4 j5
        generalize nq.w = w5 at hb4 ⊢
        go_wp2_with fail
        go_ret
        exact ⟨rfl, hb4⟩
      | true =>
        cases pb with
        | false =>
          go_enter Tryz.func76, Tryz.ntmps76
          go_wp2_with fail
          refine (HNU.out _).mono ?_
          rintro e w1 ⟨rfl, hb1⟩
          have HE1 := hide (HE0.out.on hb1 (by simp))
          have HB1 := hide (HB0.out.trans (hb1.mono (by simp)))
          clear hb1 HE0 HB0
          go_wp2_with fail
          have hbA := (Below.refl w1.heap.size w1).alloc (Nat.le_refl _) (.cells #[.int .i64 id, .int .i64 kd, .int .i64 sn, .int .i64 us, .int .i64 mb, .int .i64 dp] 131)
          have HE2 := hide (HE1.out.on hbA HE1.out.lt)
          have HN2 := hide (show NbS w1.heap.size id kd sn us mb dp (w1.alloc (.cells #[.int .i64 id, .int .i64 kd, .int .i64 sn, .int .i64 us, .int .i64 mb, .int .i64 dp] 131)) from heap_alloc_new _ _)
          have HB2 := hide (HB1.out.trans (hbA.mono HB1.out.size))
          clear hbA HE1 HB1
          generalize w1.alloc (.cells #[.int .i64 id, .int .i64 kd, .int .i64 sn, .int .i64 us, .int .i64 mb, .int .i64 dp] 131) = w2 at HE2 HN2 HB2 ⊢
          refine wp_region_in (F := fun w' => Below w2.heap.size w2 w') (by kernel_rfl) (by kernel_rfl) (Below.refl _ _).drew ?_
          have hne : Nonempty (InW (fun w' => Below w2.heap.size w2 w')) := ⟨⟨_, Below.refl _ _⟩⟩
          have hev := fun m : InW (fun w' => Below w2.heap.size w2 w') => (HE2.out.on m.h HE2.out.lt).ev
          have k0 := fun m => (hev m).c0
          have k1 := fun m => (hev m).c1
          have k2 := fun m => (hev m).c2
          have k3 := fun m => (hev m).c3
          have k4 := fun m => (hev m).c4
          have k5 := fun m => (hev m).c5
          have k6 := fun m => (hev m).c6
          have k7 := fun m => (hev m).c7
          have k8 := fun m => (hev m).c8
          have hnb := fun m : InW (fun w' => Below w2.heap.size w2 w') => NbS.nc ((m.h.block _ (blk_lt HN2.out)).trans HN2.out)
          have j0 := fun m => (hnb m).c0
          have j1 := fun m => (hnb m).c1
          have j2 := fun m => (hnb m).c2
          have j3 := fun m => (hnb m).c3
          have j4 := fun m => (hnb m).c4
          have j5 := fun m => (hnb m).c5
          clear hev hnb
          repeat (go_big_quiet_step (first
            | (go_at_call 100; refine (HLI.out _).mono ?_; rintro e w3 ⟨rfl, hb3⟩; exact ⟨rfl, ⟨w3, inw_more _ hb3⟩, rfl⟩)
            | (go_at_call 101; refine (HLV.out _ (HAT.out.below (inw_from HB2.out _))).mono ?_; rintro e w3 ⟨rfl, hb3⟩; exact ⟨rfl, ⟨w3, inw_more _ hb3⟩, rfl⟩)
            | (go_at_call 102; refine (HTX.out _).mono ?_; rintro e w3 ⟨rfl, hb3⟩; exact ⟨rfl, ⟨w3, inw_more _ hb3⟩, rfl⟩)
            | (go_at_call 103; refine (HPV.out _ (HBT.out.below (inw_from HB2.out _))).mono ?_; rintro e w3 ⟨rfl, hb3⟩; exact ⟨rfl, ⟨w3, inw_more _ hb3⟩, rfl⟩)))
          refine wpQuiet_nil ?_
          intro _ hw'
          obtain ⟨nq, hw''⟩ := hw'
          subst hw''
          have hb4 := inw_from HB2.out nq
          clear hne k0 k1 k2 k3 k4 k5 k6 k7 k8 j0 j1 j2 j3 j4 j5
          generalize nq.w = w5 at hb4 ⊢
          go_wp2_with fail
          go_ret
          exact ⟨rfl, hb4⟩
        | true =>
          go_enter Tryz.func76, Tryz.ntmps76
          go_wp2_with fail
          refine (HNU.out _).mono ?_
          rintro e w1 ⟨rfl, hb1⟩
          have HE1 := hide (HE0.out.on hb1 (by simp))
          have HB1 := hide (HB0.out.trans (hb1.mono (by simp)))
          clear hb1 HE0 HB0
          go_wp2_with fail
          have hbA := (Below.refl w1.heap.size w1).alloc (Nat.le_refl _) (.cells #[.int .i64 id, .int .i64 kd, .int .i64 sn, .int .i64 us, .int .i64 mb, .int .i64 dp] 131)
          have HE2 := hide (HE1.out.on hbA HE1.out.lt)
          have HN2 := hide (show NbS w1.heap.size id kd sn us mb dp (w1.alloc (.cells #[.int .i64 id, .int .i64 kd, .int .i64 sn, .int .i64 us, .int .i64 mb, .int .i64 dp] 131)) from heap_alloc_new _ _)
          have HB2 := hide (HB1.out.trans (hbA.mono HB1.out.size))
          clear hbA HE1 HB1
          generalize w1.alloc (.cells #[.int .i64 id, .int .i64 kd, .int .i64 sn, .int .i64 us, .int .i64 mb, .int .i64 dp] 131) = w2 at HE2 HN2 HB2 ⊢
          refine wp_region_in (F := fun w' => Below w2.heap.size w2 w') (by kernel_rfl) (by kernel_rfl) (Below.refl _ _).drew ?_
          have hne : Nonempty (InW (fun w' => Below w2.heap.size w2 w')) := ⟨⟨_, Below.refl _ _⟩⟩
          have hev := fun m : InW (fun w' => Below w2.heap.size w2 w') => (HE2.out.on m.h HE2.out.lt).ev
          have k0 := fun m => (hev m).c0
          have k1 := fun m => (hev m).c1
          have k2 := fun m => (hev m).c2
          have k3 := fun m => (hev m).c3
          have k4 := fun m => (hev m).c4
          have k5 := fun m => (hev m).c5
          have k6 := fun m => (hev m).c6
          have k7 := fun m => (hev m).c7
          have k8 := fun m => (hev m).c8
          have hnb := fun m : InW (fun w' => Below w2.heap.size w2 w') => NbS.nc ((m.h.block _ (blk_lt HN2.out)).trans HN2.out)
          have j0 := fun m => (hnb m).c0
          have j1 := fun m => (hnb m).c1
          have j2 := fun m => (hnb m).c2
          have j3 := fun m => (hnb m).c3
          have j4 := fun m => (hnb m).c4
          have j5 := fun m => (hnb m).c5
          clear hev hnb
          repeat (go_big_quiet_step (first
            | (go_at_call 100; refine (HLI.out _).mono ?_; rintro e w3 ⟨rfl, hb3⟩; exact ⟨rfl, ⟨w3, inw_more _ hb3⟩, rfl⟩)
            | (go_at_call 101; refine (HLV.out _ (HAT.out.below (inw_from HB2.out _))).mono ?_; rintro e w3 ⟨rfl, hb3⟩; exact ⟨rfl, ⟨w3, inw_more _ hb3⟩, rfl⟩)
            | (go_at_call 102; refine (HTX.out _).mono ?_; rintro e w3 ⟨rfl, hb3⟩; exact ⟨rfl, ⟨w3, inw_more _ hb3⟩, rfl⟩)
            | (go_at_call 103; refine (HPV.out _ (HBT.out.below (inw_from HB2.out _))).mono ?_; rintro e w3 ⟨rfl, hb3⟩; exact ⟨rfl, ⟨w3, inw_more _ hb3⟩, rfl⟩)))
          refine wpQuiet_nil ?_
          intro _ hw'
          obtain ⟨nq, hw''⟩ := hw'
          subst hw''
          have hb4 := inw_from HB2.out nq
          clear hne k0 k1 k2 k3 k4 k5 k6 k7 k8 j0 j1 j2 j3 j4 j5
          generalize nq.w = w5 at hb4 ⊢
          go_wp2_with fail
          go_ret
          exact ⟨rfl, hb4⟩

end Go.Proofs.YtckkfjmjcknjdaaGreatDoor
