/-
  The texts of bare events and of commands with them, as they are drawn for entries: short ones.
-/
import Derived.Test.YtdollofmjpgppaaPack23
namespace Go.Proofs.Ytdollofmjpgppaa
open Go.RowKit P1 P9 K
attribute [local go_sem ↓] Go.wp_at_zero Go.wp_at_succ
set_option linter.unusedVariables false
set_option linter.unusedSimpArgs false

/-- Two texts put together, under a name. -/
theorem cat_named (P : Program) (x y : ByteArray) (h : x.size + y.size ≤ 1000000) : ∃ z : ByteArray, z.size = x.size + y.size ∧ ∀ wx, (Op.stringOp .add x y).run P wx = .ok (.string z) wx :=
  ⟨x ++ y, ByteArray.size_append, fun wx => run_string_add_sum _ _ _ (by omega)⟩

/-- The byte of a number, and the bytes of a number, under names. -/
theorem byte_named (n : Nat) (hn : n < 256) : ∃ z : ByteArray, z.size = 1 ∧ ∀ w, Calls Try.prog 39 #[.int .i64 (n : Int)] w fun e w' => e = .returned (.string z) ∧ Below w.heap.size w w' :=
  ⟨_, rfl, fun w => l09Byte_any n hn w⟩
theorem var_named (n : Nat) (hn : n ≤ 1000000000) : ∃ z : ByteArray, z.size ≤ 10 ∧ ∀ w, Calls Try.prog 40 #[.int .i64 (n : Int)] w fun e w' => e = .returned (.string z) ∧ Below w.heap.size w w' :=
  ⟨⟨(varB n).toArray⟩, varB_length n, fun w => l01Var_any n hn w⟩
theorem short_named (s : ByteArray) (hs : s.size ≤ 100000) : ∃ z : ByteArray, z.size ≤ 10 + s.size ∧ ∀ w, Calls Try.prog 43 #[.string s] w fun e w' => e = .returned (.string z) ∧ Below w.heap.size w w' :=
  ⟨_, by rw [ByteArray.size_append]; have := varB_length s.size; show (varB s.size).length + s.size ≤ _; omega, fun w => l05Short_any s hs w⟩

/-- Some short text. -/
def TextPost (m : Nat) (w : World) (e : Ending) (w' : World) : Prop := ∃ z : ByteArray, z.size ≤ m ∧ e = .returned (.string z) ∧ Below w.heap.size w w'

set_option maxHeartbeats 4000000 in
theorem l09BodyText_create (id : Int) (op : Option Addr) (cp : Nat) (w : World) :
    Calls Try.prog 41 #[evV id 1 1 op cp] w fun e w' => TextPost 30 w e w' := by
  obtain ⟨K1, s1, k1⟩ := byte_named 1 (by omega)
  obtain ⟨K0, s0, k0⟩ := byte_named 0 (by omega)
  obtain ⟨V0, sv, v0⟩ := var_named 0 (by omega)
  obtain ⟨H0, sh, h0⟩ := short_named ⟨#[]⟩ (by decide)
  have she : (⟨#[]⟩ : ByteArray).size = 0 := rfl
  rw [she] at sh
  obtain ⟨A1, a1, f1⟩ := cat_named Try.prog K1 K1 (by omega)
  obtain ⟨A2, a2, f2⟩ := cat_named Try.prog A1 K0 (by omega)
  obtain ⟨A3, a3, f3⟩ := cat_named Try.prog A2 K0 (by omega)
  obtain ⟨A4, a4, f4⟩ := cat_named Try.prog A3 V0 (by omega)
  obtain ⟨A5, a5, f5⟩ := cat_named Try.prog A4 H0 (by omega)
  have HK1 := hide k1
  have HK0 := hide k0
  have HV0 := hide v0
  have HH0 := hide h0
  have HS := hide (show A5.size ≤ 30 by omega)
  have HX := hide (BoxS.new w #[.int .i64 id, .int .i64 1, .int .i64 1, .int .i64 0, .int .i64 0, .slice none 0 0, .string ⟨#[]⟩, .slice op 0 cp, .int .i64 0] 58)
  clear k1 k0 v0 h0 s1 s0 sv sh she a1 a2 a3 a4 a5
  unfold evV
  go_enter Try.func41, Try.ntmps41
  go_wp2_with fail
  refine wp_region_held_drew (S := BoxS w #[.int .i64 id, .int .i64 1, .int .i64 1, .int .i64 0, .int .i64 0, .slice none 0 0, .string ⟨#[]⟩, .slice op 0 cp, .int .i64 0] 58) (by kernel_rfl) HX.out.drew (fun hHeld => ?_)
  refine wpAnyH_take (i := 0) (v := ?_) rfl (by kernel_rfl) (by kernel_rfl) (by kernel_rfl) (fun _ _ _ h => h) (Or.inl ⟨by rfl, ?_⟩) (by assumption) ?_; rotate_left
  · (intro wz hSw; have z1 := BoxS.cell hSw 1 rfl; have z2 := BoxS.cell hSw 2 rfl; have z3 := BoxS.cell hSw 3 rfl; have z4 := BoxS.cell hSw 4 rfl; have z5 := BoxS.cell hSw 5 rfl; clear hSw; go_simp; first | done | with_reducible rfl)
  try simp only [Act.put, List.setIfInBounds_toArray, List.set_cons_zero, List.set_cons_succ]
  refine wpAnyH_take (i := 1) (v := ?_) rfl (by kernel_rfl) (by kernel_rfl) (by kernel_rfl) (fun _ _ _ h => h) (Or.inl ⟨by rfl, ?_⟩) (by assumption) ?_; rotate_left
  · (intro wz hSw; have z1 := BoxS.cell hSw 1 rfl; have z2 := BoxS.cell hSw 2 rfl; have z3 := BoxS.cell hSw 3 rfl; have z4 := BoxS.cell hSw 4 rfl; have z5 := BoxS.cell hSw 5 rfl; clear hSw; go_simp; first | done | with_reducible rfl)
  try simp only [Act.put, List.setIfInBounds_toArray, List.set_cons_zero, List.set_cons_succ]
  refine wpAnyH_take (i := 3) (v := ?_) rfl (by kernel_rfl) (by kernel_rfl) (by kernel_rfl) (fun _ _ _ h => h) (Or.inl ⟨by rfl, ?_⟩) (by assumption) ?_; rotate_left
  · (intro wz hSw; have z1 := BoxS.cell hSw 1 rfl; have z2 := BoxS.cell hSw 2 rfl; have z3 := BoxS.cell hSw 3 rfl; have z4 := BoxS.cell hSw 4 rfl; have z5 := BoxS.cell hSw 5 rfl; clear hSw; go_simp; first | done | with_reducible rfl)
  try simp only [Act.put, List.setIfInBounds_toArray, List.set_cons_zero, List.set_cons_succ]
  refine wpAnyH_take (i := 4) (v := ?_) rfl (by kernel_rfl) (by kernel_rfl) (by kernel_rfl) (fun _ _ _ h => h) (Or.inl ⟨by rfl, ?_⟩) (by assumption) ?_; rotate_left
  · (intro wz hSw; have z1 := BoxS.cell hSw 1 rfl; have z2 := BoxS.cell hSw 2 rfl; have z3 := BoxS.cell hSw 3 rfl; have z4 := BoxS.cell hSw 4 rfl; have z5 := BoxS.cell hSw 5 rfl; clear hSw; go_simp; first | done | with_reducible rfl)
  try simp only [Act.put, List.setIfInBounds_toArray, List.set_cons_zero, List.set_cons_succ]
  refine wpAnyH_take (i := 7) (v := ?_) rfl (by kernel_rfl) (by kernel_rfl) (by kernel_rfl) (fun _ _ _ h => h) (Or.inl ⟨by rfl, ?_⟩) (by assumption) ?_; rotate_left
  · (intro wz hSw; have z1 := BoxS.cell hSw 1 rfl; have z2 := BoxS.cell hSw 2 rfl; have z3 := BoxS.cell hSw 3 rfl; have z4 := BoxS.cell hSw 4 rfl; have z5 := BoxS.cell hSw 5 rfl; clear hSw; go_simp; first | done | with_reducible rfl)
  try simp only [Act.put, List.setIfInBounds_toArray, List.set_cons_zero, List.set_cons_succ]
  refine wpAnyH_take (i := 8) (v := ?_) rfl (by kernel_rfl) (by kernel_rfl) (by kernel_rfl) (fun _ _ _ h => h) (Or.inl ⟨by rfl, ?_⟩) (by assumption) ?_; rotate_left
  · (intro wz hSw; have z1 := BoxS.cell hSw 1 rfl; have z2 := BoxS.cell hSw 2 rfl; have z3 := BoxS.cell hSw 3 rfl; have z4 := BoxS.cell hSw 4 rfl; have z5 := BoxS.cell hSw 5 rfl; clear hSw; go_simp; first | done | with_reducible rfl)
  try simp only [Act.put, List.setIfInBounds_toArray, List.set_cons_zero, List.set_cons_succ]
  refine wpAnyH_take (i := 11) (v := ?_) rfl (by kernel_rfl) (by kernel_rfl) (by kernel_rfl) (fun _ _ _ h => h) (Or.inl ⟨by rfl, ?_⟩) (by assumption) ?_; rotate_left
  · (intro wz hSw; have z1 := BoxS.cell hSw 1 rfl; have z2 := BoxS.cell hSw 2 rfl; have z3 := BoxS.cell hSw 3 rfl; have z4 := BoxS.cell hSw 4 rfl; have z5 := BoxS.cell hSw 5 rfl; clear hSw; go_simp; first | done | with_reducible rfl)
  try simp only [Act.put, List.setIfInBounds_toArray, List.set_cons_zero, List.set_cons_succ]
  refine wpAnyH_take (i := 12) (v := ?_) rfl (by kernel_rfl) (by kernel_rfl) (by kernel_rfl) (fun _ _ _ h => h) (Or.inl ⟨by rfl, ?_⟩) (by assumption) ?_; rotate_left
  · (intro wz hSw; have z1 := BoxS.cell hSw 1 rfl; have z2 := BoxS.cell hSw 2 rfl; have z3 := BoxS.cell hSw 3 rfl; have z4 := BoxS.cell hSw 4 rfl; have z5 := BoxS.cell hSw 5 rfl; clear hSw; go_simp; first | done | with_reducible rfl)
  try simp only [Act.put, List.setIfInBounds_toArray, List.set_cons_zero, List.set_cons_succ]
  refine wpAnyH_take (i := 15) (v := ?_) rfl (by kernel_rfl) (by kernel_rfl) (by kernel_rfl) (fun _ _ _ h => h) (Or.inl ⟨by rfl, ?_⟩) (by assumption) ?_; rotate_left
  · (intro wz hSw; have z1 := BoxS.cell hSw 1 rfl; have z2 := BoxS.cell hSw 2 rfl; have z3 := BoxS.cell hSw 3 rfl; have z4 := BoxS.cell hSw 4 rfl; have z5 := BoxS.cell hSw 5 rfl; clear hSw; go_simp; first | done | with_reducible rfl)
  try simp only [Act.put, List.setIfInBounds_toArray, List.set_cons_zero, List.set_cons_succ]
  refine wpAnyH_take (i := 16) (v := ?_) rfl (by kernel_rfl) (by kernel_rfl) (by kernel_rfl) (fun _ _ _ h => h) (Or.inl ⟨by rfl, ?_⟩) (by assumption) ?_; rotate_left
  · (intro wz hSw; have z1 := BoxS.cell hSw 1 rfl; have z2 := BoxS.cell hSw 2 rfl; have z3 := BoxS.cell hSw 3 rfl; have z4 := BoxS.cell hSw 4 rfl; have z5 := BoxS.cell hSw 5 rfl; clear hSw; go_simp; first | done | with_reducible rfl)
  try simp only [Act.put, List.setIfInBounds_toArray, List.set_cons_zero, List.set_cons_succ]
  refine wpAnyH_take (i := 17) (v := ?_) rfl (by kernel_rfl) (by kernel_rfl) (by kernel_rfl) (fun _ _ _ h => h) (Or.inl ⟨by rfl, ?_⟩) (by assumption) ?_; rotate_left
  · (intro wz hSw; have z1 := BoxS.cell hSw 1 rfl; have z2 := BoxS.cell hSw 2 rfl; have z3 := BoxS.cell hSw 3 rfl; have z4 := BoxS.cell hSw 4 rfl; have z5 := BoxS.cell hSw 5 rfl; clear hSw; go_simp; first | done | with_reducible rfl)
  try simp only [Act.put, List.setIfInBounds_toArray, List.set_cons_zero, List.set_cons_succ]
  refine wpAnyH_ready (rs := [2]) (by kernel_rfl) (by simp) ?_
  refine AllReadyH.cons rfl (fun K hK => ?_) ?_
  · rw [if_pos (by rfl)]
    go_simp
    go_at_call 39
    refine (HK1.out _).mono ?_
    rintro r w92 ⟨rfl, hb92⟩
    try go_simp
    refine hK.out _ _ ?_ (fun hHeld => ?_)
    · exact BoxS.call hHeld hb92
    clear hK K
    try simp only [Act.put, List.setIfInBounds_toArray, List.set_cons_zero, List.set_cons_succ]
    clear hb92
    refine wpAnyH_ready (rs := [5]) (by kernel_rfl) (by simp) ?_
    refine AllReadyH.cons rfl (fun K hK => ?_) ?_
    · rw [if_pos (by rfl)]
      go_simp
      go_at_call 39
      refine (HK1.out _).mono ?_
      rintro r w95 ⟨rfl, hb95⟩
      try go_simp
      refine hK.out _ _ ?_ (fun hHeld => ?_)
      · exact BoxS.call hHeld hb95
      clear hK K
      try simp only [Act.put, List.setIfInBounds_toArray, List.set_cons_zero, List.set_cons_succ]
      clear hb95
      refine wpAnyH_take (i := 6) (v := ?_) rfl (by kernel_rfl) (by kernel_rfl) (by kernel_rfl) (fun _ _ _ h => h) (Or.inl ⟨by rfl, ?_⟩) (by assumption) ?_; rotate_left
      · (intro wz hSw; have z1 := BoxS.cell hSw 1 rfl; have z2 := BoxS.cell hSw 2 rfl; have z3 := BoxS.cell hSw 3 rfl; have z4 := BoxS.cell hSw 4 rfl; have z5 := BoxS.cell hSw 5 rfl; clear hSw; go_simp; first | done | with_reducible rfl)
      try simp only [Act.put, List.setIfInBounds_toArray, List.set_cons_zero, List.set_cons_succ]
      refine wpAnyH_ready (rs := [9]) (by kernel_rfl) (by simp) ?_
      refine AllReadyH.cons rfl (fun K hK => ?_) ?_
      · rw [if_pos (by rfl)]
        go_simp
        go_at_call 39
        refine (HK0.out _).mono ?_
        rintro r w99 ⟨rfl, hb99⟩
        try go_simp
        refine hK.out _ _ ?_ (fun hHeld => ?_)
        · exact BoxS.call hHeld hb99
        clear hK K
        try simp only [Act.put, List.setIfInBounds_toArray, List.set_cons_zero, List.set_cons_succ]
        clear hb99
        refine wpAnyH_take (i := 10) (v := ?_) rfl (by kernel_rfl) (by kernel_rfl) (by kernel_rfl) (fun _ _ _ h => h) (Or.inl ⟨by rfl, ?_⟩) (by assumption) ?_; rotate_left
        · (intro wz hSw; have z1 := BoxS.cell hSw 1 rfl; have z2 := BoxS.cell hSw 2 rfl; have z3 := BoxS.cell hSw 3 rfl; have z4 := BoxS.cell hSw 4 rfl; have z5 := BoxS.cell hSw 5 rfl; clear hSw; go_simp; first | done | with_reducible rfl)
        try simp only [Act.put, List.setIfInBounds_toArray, List.set_cons_zero, List.set_cons_succ]
        refine wpAnyH_ready (rs := [13]) (by kernel_rfl) (by simp) ?_
        refine AllReadyH.cons rfl (fun K hK => ?_) ?_
        · rw [if_pos (by rfl)]
          go_simp
          go_at_call 39
          refine (HK0.out _).mono ?_
          rintro r w103 ⟨rfl, hb103⟩
          try go_simp
          refine hK.out _ _ ?_ (fun hHeld => ?_)
          · exact BoxS.call hHeld hb103
          clear hK K
          try simp only [Act.put, List.setIfInBounds_toArray, List.set_cons_zero, List.set_cons_succ]
          clear hb103
          refine wpAnyH_take (i := 14) (v := ?_) rfl (by kernel_rfl) (by kernel_rfl) (by kernel_rfl) (fun _ _ _ h => h) (Or.inl ⟨by rfl, ?_⟩) (by assumption) ?_; rotate_left
          · (intro wz hSw; have z1 := BoxS.cell hSw 1 rfl; have z2 := BoxS.cell hSw 2 rfl; have z3 := BoxS.cell hSw 3 rfl; have z4 := BoxS.cell hSw 4 rfl; have z5 := BoxS.cell hSw 5 rfl; clear hSw; go_simp; first | done | with_reducible rfl)
          try simp only [Act.put, List.setIfInBounds_toArray, List.set_cons_zero, List.set_cons_succ]
          refine wpAnyH_ready (rs := [18]) (by kernel_rfl) (by simp) ?_
          refine AllReadyH.cons rfl (fun K hK => ?_) ?_
          · rw [if_pos (by rfl)]
            go_simp
            go_at_call 40
            refine (HV0.out _).mono ?_
            rintro r w108 ⟨rfl, hb108⟩
            try go_simp
            refine hK.out _ _ ?_ (fun hHeld => ?_)
            · exact BoxS.call hHeld hb108
            clear hK K
            try simp only [Act.put, List.setIfInBounds_toArray, List.set_cons_zero, List.set_cons_succ]
            clear hb108
            refine wpAnyH_take (i := 19) (v := ?_) rfl (by kernel_rfl) (by kernel_rfl) (by kernel_rfl) (fun _ _ _ h => h) (Or.inl ⟨by rfl, ?_⟩) (by assumption) ?_; rotate_left
            · (intro wz hSw; have z1 := BoxS.cell hSw 1 rfl; have z2 := BoxS.cell hSw 2 rfl; have z3 := BoxS.cell hSw 3 rfl; have z4 := BoxS.cell hSw 4 rfl; have z5 := BoxS.cell hSw 5 rfl; clear hSw; go_simp; first | done | with_reducible rfl)
            try simp only [Act.put, List.setIfInBounds_toArray, List.set_cons_zero, List.set_cons_succ]
            refine wpAnyH_take (i := 20) (v := ?_) rfl (by kernel_rfl) (by kernel_rfl) (by kernel_rfl) (fun _ _ _ h => h) (Or.inl ⟨by rfl, ?_⟩) (by assumption) ?_; rotate_left
            · (intro wz hSw; have z1 := BoxS.cell hSw 1 rfl; have z2 := BoxS.cell hSw 2 rfl; have z3 := BoxS.cell hSw 3 rfl; have z4 := BoxS.cell hSw 4 rfl; have z5 := BoxS.cell hSw 5 rfl; clear hSw; go_simp; first | done | with_reducible rfl)
            try simp only [Act.put, List.setIfInBounds_toArray, List.set_cons_zero, List.set_cons_succ]
            refine wpAnyH_done (by kernel_rfl) ?_ _
            have HX2 := hide hHeld
            have c5 := hHeld.cell 5 rfl
            have c6 := hHeld.cell 6 rfl
            clear hHeld
            go_wp2_with fail
            go_loop [3, 4] (fun s i => s = .string A4 ∧ i = .int .i64 0) (fun _ _ => 0)
            case atStart => exact ⟨rfl, rfl⟩
            case round =>
              obtain ⟨rfl, rfl⟩ := hrel
              go_wp2_with fail
              refine (HH0.out _).mono ?_
              rintro r w99 ⟨rfl, hb99⟩
              go_wp2_with fail
              exact bodyPost_ret (v := .string A5) (by simp [results, Try.results41, go_sem]) rfl ⟨_, HS.out, rfl, (HX2.out.call hb99).1⟩
          exact AllReadyH.nil
        exact AllReadyH.nil
      exact AllReadyH.nil
    exact AllReadyH.nil
  exact AllReadyH.nil

set_option maxHeartbeats 4000000 in
theorem eventText_create (id : Nat) (hi1 : 1 ≤ id) (hi2 : id ≤ 1000000) (op : Option Addr) (cp : Nat) (w : World) :
    Calls Try.prog 42 #[evV (id : Int) 1 1 op cp] w fun e w' => ∃ z : ByteArray, z.size ≤ 70 ∧ e = .returned (.tuple #[.string z, .bool true]) ∧ Below w.heap.size w w' := by
  obtain ⟨VI, si, vi⟩ := var_named id (by omega)
  obtain ⟨V0, sv, v0⟩ := var_named 0 (by omega)
  have HVI := hide vi
  have HV0 := hide v0
  have HX := hide (BoxS.new w #[.int .i64 (id : Int), .int .i64 1, .int .i64 1, .int .i64 0, .int .i64 0, .slice none 0 0, .string ⟨#[]⟩, .slice op 0 cp, .int .i64 0] 58)
  clear vi v0
  unfold evV
  go_enter Try.func42, Try.ntmps42
  go_wp2_with fail
  refine (eventOk_create (id : Int) (by omega) (by omega) op cp _).mono ?_
  rintro e w1 ⟨rfl, hb1⟩
  have HX1 := hide (HX.out.call hb1)
  clear hb1
  go_wp2_with fail
  refine wp_region_held_drew (S := BoxS w #[.int .i64 (id : Int), .int .i64 1, .int .i64 1, .int .i64 0, .int .i64 0, .slice none 0 0, .string ⟨#[]⟩, .slice op 0 cp, .int .i64 0] 58) (by kernel_rfl) HX1.out.drew (fun hHeld => ?_)
  refine wpAnyH_take (i := 0) (v := ?_) rfl (by kernel_rfl) (by kernel_rfl) (by kernel_rfl) (fun _ _ _ h => h) (Or.inl ⟨by rfl, ?_⟩) (by assumption) ?_; rotate_left
  · (intro wz hSw; have z0 := BoxS.cell hSw 0 rfl; have z1 := BoxS.cell hSw 1 rfl; have z2 := BoxS.cell hSw 2 rfl; have z3 := BoxS.cell hSw 3 rfl; have z4 := BoxS.cell hSw 4 rfl; have z5 := BoxS.cell hSw 5 rfl; have z6 := BoxS.cell hSw 6 rfl; have z7 := BoxS.cell hSw 7 rfl; have z8 := BoxS.cell hSw 8 rfl; clear hSw; go_simp; first | done | with_reducible rfl)
  try simp only [Act.put, List.setIfInBounds_toArray, List.set_cons_zero, List.set_cons_succ]
  refine wpAnyH_take (i := 1) (v := ?_) rfl (by kernel_rfl) (by kernel_rfl) (by kernel_rfl) (fun _ _ _ h => h) (Or.inl ⟨by rfl, ?_⟩) (by assumption) ?_; rotate_left
  · (intro wz hSw; have z0 := BoxS.cell hSw 0 rfl; have z1 := BoxS.cell hSw 1 rfl; have z2 := BoxS.cell hSw 2 rfl; have z3 := BoxS.cell hSw 3 rfl; have z4 := BoxS.cell hSw 4 rfl; have z5 := BoxS.cell hSw 5 rfl; have z6 := BoxS.cell hSw 6 rfl; have z7 := BoxS.cell hSw 7 rfl; have z8 := BoxS.cell hSw 8 rfl; clear hSw; go_simp; first | done | with_reducible rfl)
  try simp only [Act.put, List.setIfInBounds_toArray, List.set_cons_zero, List.set_cons_succ]
  refine wpAnyH_take (i := 3) (v := ?_) rfl (by kernel_rfl) (by kernel_rfl) (by kernel_rfl) (fun _ _ _ h => h) (Or.inl ⟨by rfl, ?_⟩) (by assumption) ?_; rotate_left
  · (intro wz hSw; have z0 := BoxS.cell hSw 0 rfl; have z1 := BoxS.cell hSw 1 rfl; have z2 := BoxS.cell hSw 2 rfl; have z3 := BoxS.cell hSw 3 rfl; have z4 := BoxS.cell hSw 4 rfl; have z5 := BoxS.cell hSw 5 rfl; have z6 := BoxS.cell hSw 6 rfl; have z7 := BoxS.cell hSw 7 rfl; have z8 := BoxS.cell hSw 8 rfl; clear hSw; go_simp; first | done | with_reducible rfl)
  try simp only [Act.put, List.setIfInBounds_toArray, List.set_cons_zero, List.set_cons_succ]
  refine wpAnyH_take (i := 6) (v := ?_) rfl (by kernel_rfl) (by kernel_rfl) (by kernel_rfl) (fun _ _ _ h => h) (Or.inl ⟨by rfl, ?_⟩) (by assumption) ?_; rotate_left
  · (intro wz hSw; have z0 := BoxS.cell hSw 0 rfl; have z1 := BoxS.cell hSw 1 rfl; have z2 := BoxS.cell hSw 2 rfl; have z3 := BoxS.cell hSw 3 rfl; have z4 := BoxS.cell hSw 4 rfl; have z5 := BoxS.cell hSw 5 rfl; have z6 := BoxS.cell hSw 6 rfl; have z7 := BoxS.cell hSw 7 rfl; have z8 := BoxS.cell hSw 8 rfl; clear hSw; go_simp; first | done | with_reducible rfl)
  try simp only [Act.put, List.setIfInBounds_toArray, List.set_cons_zero, List.set_cons_succ]
  refine wpAnyH_take (i := 7) (v := ?_) rfl (by kernel_rfl) (by kernel_rfl) (by kernel_rfl) (fun _ _ _ h => h) (Or.inl ⟨by rfl, ?_⟩) (by assumption) ?_; rotate_left
  · (intro wz hSw; have z0 := BoxS.cell hSw 0 rfl; have z1 := BoxS.cell hSw 1 rfl; have z2 := BoxS.cell hSw 2 rfl; have z3 := BoxS.cell hSw 3 rfl; have z4 := BoxS.cell hSw 4 rfl; have z5 := BoxS.cell hSw 5 rfl; have z6 := BoxS.cell hSw 6 rfl; have z7 := BoxS.cell hSw 7 rfl; have z8 := BoxS.cell hSw 8 rfl; clear hSw; go_simp; first | done | with_reducible rfl)
  try simp only [Act.put, List.setIfInBounds_toArray, List.set_cons_zero, List.set_cons_succ]
  refine wpAnyH_take (i := 8) (v := ?_) rfl (by kernel_rfl) (by kernel_rfl) (by kernel_rfl) (fun _ _ _ h => h) (Or.inl ⟨by rfl, ?_⟩) (by assumption) ?_; rotate_left
  · (intro wz hSw; have z0 := BoxS.cell hSw 0 rfl; have z1 := BoxS.cell hSw 1 rfl; have z2 := BoxS.cell hSw 2 rfl; have z3 := BoxS.cell hSw 3 rfl; have z4 := BoxS.cell hSw 4 rfl; have z5 := BoxS.cell hSw 5 rfl; have z6 := BoxS.cell hSw 6 rfl; have z7 := BoxS.cell hSw 7 rfl; have z8 := BoxS.cell hSw 8 rfl; clear hSw; go_simp; first | done | with_reducible rfl)
  try simp only [Act.put, List.setIfInBounds_toArray, List.set_cons_zero, List.set_cons_succ]
  refine wpAnyH_ready (rs := [2]) (by kernel_rfl) (by simp) ?_
  refine AllReadyH.cons rfl (fun K hK => ?_) ?_
  · rw [if_pos (by rfl)]
    go_simp
    go_at_call 40
    refine (HVI.out _).mono ?_
    rintro r w92 ⟨rfl, hb92⟩
    try go_simp
    refine hK.out _ _ ?_ (fun hHeld => ?_)
    · exact BoxS.call hHeld hb92
    clear hK K
    try simp only [Act.put, List.setIfInBounds_toArray, List.set_cons_zero, List.set_cons_succ]
    clear hb92
    refine wpAnyH_ready (rs := [4]) (by kernel_rfl) (by simp) ?_
    refine AllReadyH.cons rfl (fun K hK => ?_) ?_
    · rw [if_pos (by rfl)]
      go_simp
      go_at_call 41
      refine (l09BodyText_create (id : Int) op cp _).mono ?_
      rintro r w94 ⟨Z, hZ, rfl, hb94⟩
      obtain ⟨A1, a1, f1⟩ := cat_named Try.prog VI Z (by omega)
      obtain ⟨A2, a2, f2⟩ := cat_named Try.prog A1 V0 (by omega)
      obtain ⟨A3, a3, f3⟩ := cat_named Try.prog A2 V0 (by omega)
      have HS := hide (show A3.size ≤ 70 by omega)
      clear a1 a2 a3 hZ
      try go_simp
      refine hK.out _ _ ?_ (fun hHeld => ?_)
      · exact BoxS.call hHeld hb94
      clear hK K
      try simp only [Act.put, List.setIfInBounds_toArray, List.set_cons_zero, List.set_cons_succ]
      clear hb94
      refine wpAnyH_take (i := 5) (v := ?_) rfl (by kernel_rfl) (by kernel_rfl) (by kernel_rfl) (fun _ _ _ h => h) (Or.inl ⟨by rfl, ?_⟩) (by assumption) ?_; rotate_left
      · (intro wz hSw; have z0 := BoxS.cell hSw 0 rfl; have z1 := BoxS.cell hSw 1 rfl; have z2 := BoxS.cell hSw 2 rfl; have z3 := BoxS.cell hSw 3 rfl; have z4 := BoxS.cell hSw 4 rfl; have z5 := BoxS.cell hSw 5 rfl; have z6 := BoxS.cell hSw 6 rfl; have z7 := BoxS.cell hSw 7 rfl; have z8 := BoxS.cell hSw 8 rfl; clear hSw; go_simp; first | done | with_reducible rfl)
      try simp only [Act.put, List.setIfInBounds_toArray, List.set_cons_zero, List.set_cons_succ]
      refine wpAnyH_ready (rs := [9]) (by kernel_rfl) (by simp) ?_
      refine AllReadyH.cons rfl (fun K hK => ?_) ?_
      · rw [if_pos (by rfl)]
        go_simp
        go_at_call 40
        refine (HV0.out _).mono ?_
        rintro r w99 ⟨rfl, hb99⟩
        try go_simp
        refine hK.out _ _ ?_ (fun hHeld => ?_)
        · exact BoxS.call hHeld hb99
        clear hK K
        try simp only [Act.put, List.setIfInBounds_toArray, List.set_cons_zero, List.set_cons_succ]
        clear hb99
        refine wpAnyH_take (i := 10) (v := ?_) rfl (by kernel_rfl) (by kernel_rfl) (by kernel_rfl) (fun _ _ _ h => h) (Or.inl ⟨by rfl, ?_⟩) (by assumption) ?_; rotate_left
        · (intro wz hSw; have z0 := BoxS.cell hSw 0 rfl; have z1 := BoxS.cell hSw 1 rfl; have z2 := BoxS.cell hSw 2 rfl; have z3 := BoxS.cell hSw 3 rfl; have z4 := BoxS.cell hSw 4 rfl; have z5 := BoxS.cell hSw 5 rfl; have z6 := BoxS.cell hSw 6 rfl; have z7 := BoxS.cell hSw 7 rfl; have z8 := BoxS.cell hSw 8 rfl; clear hSw; go_simp; first | done | with_reducible rfl)
        try simp only [Act.put, List.setIfInBounds_toArray, List.set_cons_zero, List.set_cons_succ]
        refine wpAnyH_take (i := 11) (v := ?_) rfl (by kernel_rfl) (by kernel_rfl) (by kernel_rfl) (fun _ _ _ h => h) (Or.inl ⟨by rfl, ?_⟩) (by assumption) ?_; rotate_left
        · (intro wz hSw; have z0 := BoxS.cell hSw 0 rfl; have z1 := BoxS.cell hSw 1 rfl; have z2 := BoxS.cell hSw 2 rfl; have z3 := BoxS.cell hSw 3 rfl; have z4 := BoxS.cell hSw 4 rfl; have z5 := BoxS.cell hSw 5 rfl; have z6 := BoxS.cell hSw 6 rfl; have z7 := BoxS.cell hSw 7 rfl; have z8 := BoxS.cell hSw 8 rfl; clear hSw; go_simp; first | done | with_reducible rfl)
        try simp only [Act.put, List.setIfInBounds_toArray, List.set_cons_zero, List.set_cons_succ]
        refine wpAnyH_done (by kernel_rfl) ?_ _
        have HX2 := hide hHeld
        have c7 := hHeld.cell 7 rfl
        have c8 := hHeld.cell 8 rfl
        clear hHeld
        go_wp2_with fail
        go_loop [4, 5] (fun s i => s = .string A2 ∧ i = .int .i64 0) (fun _ _ => 0)
        case atStart => exact ⟨rfl, rfl⟩
        case round =>
          obtain ⟨rfl, rfl⟩ := hrel
          go_wp2_with fail
          refine (HV0.out _).mono ?_
          rintro r w99 ⟨rfl, hb99⟩
          go_wp2_with fail
          exact bodyPost_ret (v := .tuple #[.string A3, .bool true]) (by simp [results, Try.results42, go_sem]) rfl ⟨_, HS.out, rfl, (HX2.out.call hb99).1⟩
      exact AllReadyH.nil
    exact AllReadyH.nil
  exact AllReadyH.nil

end Go.Proofs.Ytdollofmjpgppaa
