/-
  Walks and mathematics of Cmd1, Cmd2, Cmd3, Cmd4.
-/
import Derived.Test.YtmllcomppjkhhaaGreatDoorRHeldMore
import Derived.Test.YtmllcomppjkhhaaGreatDoorRBase
namespace Go.Proofs.YtmllcomppjkhhaaGreatDoor
open Go.RowKit P1 P9 K
set_option linter.unusedVariables false
set_option linter.unusedSimpArgs false

def evV (id kd sd : Int) (op : Option Addr) (cp : Nat) : Value := .agg #[.int .i64 id, .int .i64 kd, .int .i64 sd, .int .i64 0, .int .i64 0, .slice none 0 0, .string ⟨#[]⟩, .slice op 0 cp, .int .i64 0]

def cmdV (o t s id kd sd : Int) (op : Option Addr) (cp : Nat) (d u : Int) : Value :=
  .agg #[.int .i64 o, .int .i64 t, .int .i64 s, .int .i64 id, .int .i64 kd, .int .i64 sd, .int .i64 0, .int .i64 0, .slice none 0 0, .string ⟨#[]⟩, .slice op 0 cp, .int .i64 0, .int .i64 d, .int .i64 u]

theorem l05SameInts_none (oa ob : Option Addr) (ca cb : Nat) (w : World) :
    Calls Tryz.prog 112 #[.slice oa 0 ca, .slice ob 0 cb] w fun e w' => e = .returned (.bool true) ∧ w = w' := by
  go_enter Tryz.func112, Tryz.ntmps112
  go_wp2_with fail
  go_loop [5] (fun i => i = .int .i64 0) (fun _ => 0)
  case atStart => rfl
  case round =>
    subst hrel
    go_wp2_with fail
    go_ret
    exact ⟨rfl, rfl⟩

set_option maxHeartbeats 1000000 in
theorem l09Same_bare (id kd sd : Int) (op oq : Option Addr) (cp cq : Nat) (w : World) :
    Calls Tryz.prog 105 #[evV id kd sd op cp, evV id kd sd oq cq] w fun e w' => e = .returned (.bool true) ∧ Below w.heap.size w w' := by
  unfold evV
  have HB := hide ((((Below.refl w.heap.size w).alloc (Nat.le_refl _) (.cells #[.int .i64 id, .int .i64 kd, .int .i64 sd, .int .i64 0, .int .i64 0, .slice none 0 0, .string ⟨#[]⟩, .slice op 0 cp, .int .i64 0] 120)).alloc (by simp) (.cells #[.int .i64 id, .int .i64 kd, .int .i64 sd, .int .i64 0, .int .i64 0, .slice none 0 0, .string ⟨#[]⟩, .slice oq 0 cq, .int .i64 0] 120)))
  go_enter Tryz.func105, Tryz.ntmps105
  go_wp2_with (go_at_call 112; refine (l05SameInts_none _ _ _ _ _).mono ?_; rintro e w' ⟨rfl, rfl⟩)
  go_ret
  exact ⟨rfl, HB.out⟩

theorem l13Blank_zero (w : World) :
    Calls Tryz.prog 100 #[evV 0 0 0 none 0] w fun e w' => e = .returned (.bool true) ∧ Below w.heap.size w w' := by
  unfold evV
  have HB := hide ((Below.refl w.heap.size w).alloc (Nat.le_refl _) (.cells #[.int .i64 0, .int .i64 0, .int .i64 0, .int .i64 0, .int .i64 0, .slice none 0 0, .string ⟨#[]⟩, .slice none 0 0, .int .i64 0] 120))
  go_enter Tryz.func100, Tryz.ntmps100
  go_wp2_with fail
  refine (l09Same_bare 0 0 0 none none 0 0 _).mono ?_
  rintro e w1 ⟨rfl, hb1⟩
  go_wp2_with fail
  go_ret
  exact ⟨rfl, HB.out.trans (hb1.mono (by simp))⟩

set_option maxHeartbeats 1000000 in
theorem l09Body_create (id : Int) (op : Option Addr) (cp : Nat) (w : World) :
    Calls Tryz.prog 101 #[evV id 1 1 op cp] w fun e w' => e = .returned (.bool true) ∧ Below w.heap.size w w' := by
  unfold evV
  have HB := hide ((Below.refl w.heap.size w).alloc (Nat.le_refl _) (.cells #[.int .i64 id, .int .i64 1, .int .i64 1, .int .i64 0, .int .i64 0, .slice none 0 0, .string ⟨#[]⟩, .slice op 0 cp, .int .i64 0] 120))
  go_enter Tryz.func101, Tryz.ntmps101
  go_wp2_with (go_at_call 19; refine (l01In_yes _ _ _ (by omega) (by omega) _).mono ?_; rintro e w' ⟨rfl, rfl⟩)
  go_ret
  exact ⟨rfl, HB.out⟩

set_option maxHeartbeats 1000000 in
theorem eventOk_create (id : Int) (h1 : 1 ≤ id) (h2 : id ≤ 1000000) (op : Option Addr) (cp : Nat) (w : World) :
    Calls Tryz.prog 102 #[evV id 1 1 op cp] w fun e w' => e = .returned (.bool true) ∧ Below w.heap.size w w' := by
  have hX := BoxS.new w #[.int .i64 id, .int .i64 1, .int .i64 1, .int .i64 0, .int .i64 0, .slice none 0 0, .string ⟨#[]⟩, .slice op 0 cp, .int .i64 0] 120
  have HX := hide hX
  clear hX
  unfold evV
  go_enter Tryz.func102, Tryz.ntmps102
  go_wp2_with fail
  refine (l09Body_create id op cp _).mono ?_
  rintro e w1 ⟨rfl, hb1⟩
  have HX1 := hide (HX.out.call hb1)
  have c0 := HX1.out.cell 0 rfl
  have c1 := HX1.out.cell 1 rfl
  have c7 := HX1.out.cell 7 rfl
  have c8 := HX1.out.cell 8 rfl
  clear hb1
  go_wp2_with (go_at_call 19; refine (l01In_yes _ _ _ (by omega) (by omega) _).mono ?_; rintro e w' ⟨rfl, rfl⟩)
  go_loop [3] (fun i => i = .int .i64 0) (fun _ => 0)
  case atStart => rfl
  case round =>
    subst hrel
    go_wp2_with fail
    go_ret
    exact ⟨rfl, HX1.out.1⟩

theorem l09Byte_any (n : Nat) (hn : n < 256) (w : World) :
    Calls Tryz.prog 92 #[.int .i64 (n : Int)] w fun e w' => e = .returned (.string ⟨#[UInt8.ofNat n]⟩) ∧ Below w.heap.size w w' := by
  have hw : IntKind.u8.wrap (n : Int) = (n : Int) := by rw [IntKind.wrap_u8]; omega
  have hconv : (convert 22 9 (.slice (some ⟨w.heap.size, 0, none⟩) 1 1)).run Tryz.prog (w.alloc (.cells #[.int .u8 (n : Int)] 5)) = .ok (.string ⟨#[UInt8.ofNat n]⟩) (w.alloc (.cells #[.int .u8 (n : Int)] 5)) := by
    have := run_string_one (P := Tryz.prog) w Tryz.underlying22 Tryz.underlying5 Tryz.underlying9 (UInt8.ofNat n)
    rw [toNat_ofNat_small _ hn] at this
    exact this
  go_enter Tryz.func92, Tryz.ntmps92
  go_wp2_with fail
  go_ret
  exact ⟨rfl, (Below.refl _ _).alloc (Nat.le_refl _) _⟩

theorem l05Short_cmd (s : ByteArray) (hs : s.size ≤ 100000) (w : World) :
    Calls Tryz.prog 62 #[.string s] w fun e w' => e = .returned (.string (⟨(varB s.size).toArray⟩ ++ s)) ∧ Below w.heap.size w w' := by
  have hl := varB_length s.size
  go_enter Tryz.func62, Tryz.ntmps62
  go_wp2_with (go_at_call 59; refine (l01Var_any s.size (by omega) _).mono ?_; rintro e w1 ⟨rfl, hb1⟩)
  go_ret
  exact ⟨rfl, hb1⟩

end Go.Proofs.YtmllcomppjkhhaaGreatDoor

namespace Go.Proofs.YtmllcomppjkhhaaGreatDoor
open Go.RowKit P1 P9 K
attribute [local go_sem ↓] Go.wp_at_zero Go.wp_at_succ
set_option linter.unusedVariables false
set_option linter.unusedSimpArgs false

theorem cat_named (P : Program) (x y : ByteArray) (h : x.size + y.size ≤ 1000000) : ∃ z : ByteArray, z.size = x.size + y.size ∧ ∀ wx, (Op.stringOp .add x y).run P wx = .ok (.string z) wx :=
  ⟨x ++ y, ByteArray.size_append, fun wx => run_string_add_sum _ _ _ (by omega)⟩

theorem byte_named (n : Nat) (hn : n < 256) : ∃ z : ByteArray, z.size = 1 ∧ ∀ w, Calls Tryz.prog 92 #[.int .i64 (n : Int)] w fun e w' => e = .returned (.string z) ∧ Below w.heap.size w w' :=
  ⟨_, rfl, fun w => l09Byte_any n hn w⟩

theorem var_named (n : Nat) (hn : n ≤ 1000000000) : ∃ z : ByteArray, z.size ≤ 10 ∧ ∀ w, Calls Tryz.prog 59 #[.int .i64 (n : Int)] w fun e w' => e = .returned (.string z) ∧ Below w.heap.size w w' :=
  ⟨⟨(varB n).toArray⟩, varB_length n, fun w => l01Var_any n hn w⟩

theorem short_named (s : ByteArray) (hs : s.size ≤ 100000) : ∃ z : ByteArray, z.size ≤ 10 + s.size ∧ ∀ w, Calls Tryz.prog 62 #[.string s] w fun e w' => e = .returned (.string z) ∧ Below w.heap.size w w' :=
  ⟨_, by rw [ByteArray.size_append]; have := varB_length s.size; show (varB s.size).length + s.size ≤ _; omega, fun w => l05Short_cmd s hs w⟩

def TextPost (m : Nat) (w : World) (e : Ending) (w' : World) : Prop := ∃ z : ByteArray, z.size ≤ m ∧ e = .returned (.string z) ∧ Below w.heap.size w w'

set_option maxHeartbeats 4000000 in
theorem l09BodyText_create (id : Int) (op : Option Addr) (cp : Nat) (w : World) :
    Calls Tryz.prog 93 #[evV id 1 1 op cp] w fun e w' => TextPost 30 w e w' := by
  obtain ⟨K1, s1, k1⟩ := byte_named 1 (by omega)
  obtain ⟨K0, s0, k0⟩ := byte_named 0 (by omega)
  obtain ⟨V0, sv, v0⟩ := var_named 0 (by omega)
  obtain ⟨H0, sh, h0⟩ := short_named ⟨#[]⟩ (by decide)
  have she : (⟨#[]⟩ : ByteArray).size = 0 := rfl
  rw [she] at sh
  obtain ⟨A1, a1, f1⟩ := cat_named Tryz.prog K1 K1 (by omega)
  obtain ⟨A2, a2, f2⟩ := cat_named Tryz.prog A1 K0 (by omega)
  obtain ⟨A3, a3, f3⟩ := cat_named Tryz.prog A2 K0 (by omega)
  obtain ⟨A4, a4, f4⟩ := cat_named Tryz.prog A3 V0 (by omega)
  obtain ⟨A5, a5, f5⟩ := cat_named Tryz.prog A4 H0 (by omega)
  have HK1 := hide k1
  have HK0 := hide k0
  have HV0 := hide v0
  have HH0 := hide h0
  have HS := hide (show A5.size ≤ 30 by omega)
  have HX := hide (BoxS.new w #[.int .i64 id, .int .i64 1, .int .i64 1, .int .i64 0, .int .i64 0, .slice none 0 0, .string ⟨#[]⟩, .slice op 0 cp, .int .i64 0] 120)
  clear k1 k0 v0 h0 s1 s0 sv sh she a1 a2 a3 a4 a5
  unfold evV
  go_enter Tryz.func93, Tryz.ntmps93
  go_wp2_with fail
  refine wp_region_held_drew (S := BoxS w #[.int .i64 id, .int .i64 1, .int .i64 1, .int .i64 0, .int .i64 0, .slice none 0 0, .string ⟨#[]⟩, .slice op 0 cp, .int .i64 0] 120) (by kernel_rfl) HX.out.drew (fun hHeld => ?_)
  refine wpAnyH_take (i := 0) (v := ?_) rfl (by kernel_rfl) (by kernel_rfl) (by kernel_rfl) (fun _ _ _ h => h) (Or.inl ⟨by rfl, ?_⟩) (by assumption) ?_; rotate_left
  · (intro wz hSw; have z1 := BoxS.cell hSw 1 rfl; have z2 := BoxS.cell hSw 2 rfl; have z3 := BoxS.cell hSw 3 rfl; have z4 := BoxS.cell hSw 4 rfl; have z5 := BoxS.cell hSw 5 rfl; clear hSw; go_simp; first | done | with_reducible rfl)
  try simp only [Act.put, List.setIfInBounds_toArray, List.set_cons_zero, List.set_cons_succ]
  refine wpAnyH_take (i := 1) (v := ?_) rfl (by kernel_rfl) (by kernel_rfl) (by kernel_rfl) (fun _ _ _ h => h) (Or.inl ⟨by rfl, ?_⟩) (by assumption) ?_; rotate_left
  · (intro wz hSw; have z1 := BoxS.cell hSw 1 rfl; have z2 := BoxS.cell hSw 2 rfl; have z3 := BoxS.cell hSw 3 rfl; have z4 := BoxS.cell hSw 4 rfl; have z5 := BoxS.cell hSw 5 rfl; clear hSw; go_simp; first | done | with_reducible rfl)
  try simp only [Act.put, List.setIfInBounds_toArray, List.set_cons_zero, List.set_cons_succ]
  refine wpAnyH_take (i := 3) (v := ?_) rfl (by kernel_rfl) (by kernel_rfl) (by kernel_rfl) (fun _ _ _ h => h) (Or.inl ⟨by rfl, ?_⟩) (by assumption) ?_; rotate_left
  · (intro wz hSw; have z1 := BoxS.cell hSw 1 rfl; have z2 := BoxS.cell hSw 2 rfl; have z3 := BoxS.cell hSw 3 rfl; have z4 := BoxS.cell hSw 4 rfl; have z5 := BoxS.cell hSw 5 rfl; clear hSw; go_simp; first | done | with_reducible rfl)
  try simp only [Act.put, List.setIfInBounds_toArray, List.set_cons_zero, List.set_cons_succ]
  refine wpAnyH_take (i := 4) (v := ?_) rfl (by kernel_rfl) (by kernel_rfl) (by kernel_rfl) (fun _ _ _ h => h) (Or.inl ⟨by rfl, ?_⟩) (by assumption) ?_; rotate_left
  · (intro wz hSw; have z1 := BoxS.cell hSw 1 rfl; have z2 := BoxS.cell hSw 2 rfl; have z3 := BoxS.cell hSw 3 rfl; have z4 := BoxS.cell hSw 4 rfl; have z5 := BoxS.cell hSw 5 rfl; clear hSw; go_simp; first | done | with_reducible rfl)
  try simp only [Act.put, List.setIfInBounds_toArray, List.set_cons_zero, List.set_cons_succ]
  refine wpAnyH_take (i := 7) (v := ?_) rfl (by kernel_rfl) (by kernel_rfl) (by kernel_rfl) (fun _ _ _ h => h) (Or.inl ⟨by rfl, ?_⟩) (by assumption) ?_; rotate_left
  · (intro wz hSw; have z1 := BoxS.cell hSw 1 rfl; have z2 := BoxS.cell hSw 2 rfl; have z3 := BoxS.cell hSw 3 rfl; have z4 := BoxS.cell hSw 4 rfl; have z5 := BoxS.cell hSw 5 rfl; clear hSw; go_simp; first | done | with_reducible rfl)
  try simp only [Act.put, List.setIfInBounds_toArray, List.set_cons_zero, List.set_cons_succ]
  refine wpAnyH_take (i := 8) (v := ?_) rfl (by kernel_rfl) (by kernel_rfl) (by kernel_rfl) (fun _ _ _ h => h) (Or.inl ⟨by rfl, ?_⟩) (by assumption) ?_; rotate_left
  · (intro wz hSw; have z1 := BoxS.cell hSw 1 rfl; have z2 := BoxS.cell hSw 2 rfl; have z3 := BoxS.cell hSw 3 rfl; have z4 := BoxS.cell hSw 4 rfl; have z5 := BoxS.cell hSw 5 rfl; clear hSw; go_simp; first | done | with_reducible rfl)
  try simp only [Act.put, List.setIfInBounds_toArray, List.set_cons_zero, List.set_cons_succ]
  refine wpAnyH_take (i := 11) (v := ?_) rfl (by kernel_rfl) (by kernel_rfl) (by kernel_rfl) (fun _ _ _ h => h) (Or.inl ⟨by rfl, ?_⟩) (by assumption) ?_; rotate_left
  · (intro wz hSw; have z1 := BoxS.cell hSw 1 rfl; have z2 := BoxS.cell hSw 2 rfl; have z3 := BoxS.cell hSw 3 rfl; have z4 := BoxS.cell hSw 4 rfl; have z5 := BoxS.cell hSw 5 rfl; clear hSw; go_simp; first | done | with_reducible rfl)
  try simp only [Act.put, List.setIfInBounds_toArray, List.set_cons_zero, List.set_cons_succ]
  refine wpAnyH_take (i := 12) (v := ?_) rfl (by kernel_rfl) (by kernel_rfl) (by kernel_rfl) (fun _ _ _ h => h) (Or.inl ⟨by rfl, ?_⟩) (by assumption) ?_; rotate_left
  · (intro wz hSw; have z1 := BoxS.cell hSw 1 rfl; have z2 := BoxS.cell hSw 2 rfl; have z3 := BoxS.cell hSw 3 rfl; have z4 := BoxS.cell hSw 4 rfl; have z5 := BoxS.cell hSw 5 rfl; clear hSw; go_simp; first | done | with_reducible rfl)
  try simp only [Act.put, List.setIfInBounds_toArray, List.set_cons_zero, List.set_cons_succ]
  refine wpAnyH_take (i := 15) (v := ?_) rfl (by kernel_rfl) (by kernel_rfl) (by kernel_rfl) (fun _ _ _ h => h) (Or.inl ⟨by rfl, ?_⟩) (by assumption) ?_; rotate_left
  · (intro wz hSw; have z1 := BoxS.cell hSw 1 rfl; have z2 := BoxS.cell hSw 2 rfl; have z3 := BoxS.cell hSw 3 rfl; have z4 := BoxS.cell hSw 4 rfl; have z5 := BoxS.cell hSw 5 rfl; clear hSw; go_simp; first | done | with_reducible rfl)
  try simp only [Act.put, List.setIfInBounds_toArray, List.set_cons_zero, List.set_cons_succ]
  refine wpAnyH_take (i := 16) (v := ?_) rfl (by kernel_rfl) (by kernel_rfl) (by kernel_rfl) (fun _ _ _ h => h) (Or.inl ⟨by rfl, ?_⟩) (by assumption) ?_; rotate_left
  · (intro wz hSw; have z1 := BoxS.cell hSw 1 rfl; have z2 := BoxS.cell hSw 2 rfl; have z3 := BoxS.cell hSw 3 rfl; have z4 := BoxS.cell hSw 4 rfl; have z5 := BoxS.cell hSw 5 rfl; clear hSw; go_simp; first | done | with_reducible rfl)
  try simp only [Act.put, List.setIfInBounds_toArray, List.set_cons_zero, List.set_cons_succ]
  refine wpAnyH_take (i := 17) (v := ?_) rfl (by kernel_rfl) (by kernel_rfl) (by kernel_rfl) (fun _ _ _ h => h) (Or.inl ⟨by rfl, ?_⟩) (by assumption) ?_; rotate_left
  · (intro wz hSw; have z1 := BoxS.cell hSw 1 rfl; have z2 := BoxS.cell hSw 2 rfl; have z3 := BoxS.cell hSw 3 rfl; have z4 := BoxS.cell hSw 4 rfl; have z5 := BoxS.cell hSw 5 rfl; clear hSw; go_simp; first | done | with_reducible rfl)
  try simp only [Act.put, List.setIfInBounds_toArray, List.set_cons_zero, List.set_cons_succ]
  refine wpAnyH_ready (rs := [2]) (by kernel_rfl) (by simp) ?_
  refine AllReadyH.cons rfl (fun K hK => ?_) ?_
  · rw [if_pos (by rfl)]
    go_simp
    go_at_call 92
    refine (HK1.out _).mono ?_
    rintro r w92 ⟨rfl, hb92⟩
    try go_simp
    refine hK.out _ _ ?_ (fun hHeld => ?_)
    · exact BoxS.call hHeld hb92
    clear hK K
    try simp only [Act.put, List.setIfInBounds_toArray, List.set_cons_zero, List.set_cons_succ]
    clear hb92
    refine wpAnyH_ready (rs := [5]) (by kernel_rfl) (by simp) ?_
    refine AllReadyH.cons rfl (fun K hK => ?_) ?_
    · rw [if_pos (by rfl)]
      go_simp
      go_at_call 92
      refine (HK1.out _).mono ?_
      rintro r w95 ⟨rfl, hb95⟩
      try go_simp
      refine hK.out _ _ ?_ (fun hHeld => ?_)
      · exact BoxS.call hHeld hb95
      clear hK K
      try simp only [Act.put, List.setIfInBounds_toArray, List.set_cons_zero, List.set_cons_succ]
      clear hb95
      refine wpAnyH_take (i := 6) (v := ?_) rfl (by kernel_rfl) (by kernel_rfl) (by kernel_rfl) (fun _ _ _ h => h) (Or.inl ⟨by rfl, ?_⟩) (by assumption) ?_; rotate_left
      · (intro wz hSw; have z1 := BoxS.cell hSw 1 rfl; have z2 := BoxS.cell hSw 2 rfl; have z3 := BoxS.cell hSw 3 rfl; have z4 := BoxS.cell hSw 4 rfl; have z5 := BoxS.cell hSw 5 rfl; clear hSw; go_simp; first | done | with_reducible rfl)
      try simp only [Act.put, List.setIfInBounds_toArray, List.set_cons_zero, List.set_cons_succ]
      refine wpAnyH_ready (rs := [9]) (by kernel_rfl) (by simp) ?_
      refine AllReadyH.cons rfl (fun K hK => ?_) ?_
      · rw [if_pos (by rfl)]
        go_simp
        go_at_call 92
        refine (HK0.out _).mono ?_
        rintro r w99 ⟨rfl, hb99⟩
        try go_simp
        refine hK.out _ _ ?_ (fun hHeld => ?_)
        · exact BoxS.call hHeld hb99
        clear hK K
        try simp only [Act.put, List.setIfInBounds_toArray, List.set_cons_zero, List.set_cons_succ]
        clear hb99
        refine wpAnyH_take (i := 10) (v := ?_) rfl (by kernel_rfl) (by kernel_rfl) (by kernel_rfl) (fun _ _ _ h => h) (Or.inl ⟨by rfl, ?_⟩) (by assumption) ?_; rotate_left
        · (intro wz hSw; have z1 := BoxS.cell hSw 1 rfl; have z2 := BoxS.cell hSw 2 rfl; have z3 := BoxS.cell hSw 3 rfl; have z4 := BoxS.cell hSw 4 rfl; have z5 := BoxS.cell hSw 5 rfl; clear hSw; go_simp; first | done | with_reducible rfl)
        try simp only [Act.put, List.setIfInBounds_toArray, List.set_cons_zero, List.set_cons_succ]
        refine wpAnyH_ready (rs := [13]) (by kernel_rfl) (by simp) ?_
        refine AllReadyH.cons rfl (fun K hK => ?_) ?_
        · rw [if_pos (by rfl)]
          go_simp
          go_at_call 92
          refine (HK0.out _).mono ?_
          rintro r w103 ⟨rfl, hb103⟩
          try go_simp
          refine hK.out _ _ ?_ (fun hHeld => ?_)
          · exact BoxS.call hHeld hb103
          clear hK K
          try simp only [Act.put, List.setIfInBounds_toArray, List.set_cons_zero, List.set_cons_succ]
          clear hb103
          refine wpAnyH_take (i := 14) (v := ?_) rfl (by kernel_rfl) (by kernel_rfl) (by kernel_rfl) (fun _ _ _ h => h) (Or.inl ⟨by rfl, ?_⟩) (by assumption) ?_; rotate_left
          · (intro wz hSw; have z1 := BoxS.cell hSw 1 rfl; have z2 := BoxS.cell hSw 2 rfl; have z3 := BoxS.cell hSw 3 rfl; have z4 := BoxS.cell hSw 4 rfl; have z5 := BoxS.cell hSw 5 rfl; clear hSw; go_simp; first | done | with_reducible rfl)
          try simp only [Act.put, List.setIfInBounds_toArray, List.set_cons_zero, List.set_cons_succ]
          refine wpAnyH_ready (rs := [18]) (by kernel_rfl) (by simp) ?_
          refine AllReadyH.cons rfl (fun K hK => ?_) ?_
          · rw [if_pos (by rfl)]
            go_simp
            go_at_call 59
            refine (HV0.out _).mono ?_
            rintro r w108 ⟨rfl, hb108⟩
            try go_simp
            refine hK.out _ _ ?_ (fun hHeld => ?_)
            · exact BoxS.call hHeld hb108
            clear hK K
            try simp only [Act.put, List.setIfInBounds_toArray, List.set_cons_zero, List.set_cons_succ]
            clear hb108
            refine wpAnyH_take (i := 19) (v := ?_) rfl (by kernel_rfl) (by kernel_rfl) (by kernel_rfl) (fun _ _ _ h => h) (Or.inl ⟨by rfl, ?_⟩) (by assumption) ?_; rotate_left
            · (intro wz hSw; have z1 := BoxS.cell hSw 1 rfl; have z2 := BoxS.cell hSw 2 rfl; have z3 := BoxS.cell hSw 3 rfl; have z4 := BoxS.cell hSw 4 rfl; have z5 := BoxS.cell hSw 5 rfl; clear hSw; go_simp; first | done | with_reducible rfl)
            try simp only [Act.put, List.setIfInBounds_toArray, List.set_cons_zero, List.set_cons_succ]
            refine wpAnyH_take (i := 20) (v := ?_) rfl (by kernel_rfl) (by kernel_rfl) (by kernel_rfl) (fun _ _ _ h => h) (Or.inl ⟨by rfl, ?_⟩) (by assumption) ?_; rotate_left
            · (intro wz hSw; have z1 := BoxS.cell hSw 1 rfl; have z2 := BoxS.cell hSw 2 rfl; have z3 := BoxS.cell hSw 3 rfl; have z4 := BoxS.cell hSw 4 rfl; have z5 := BoxS.cell hSw 5 rfl; clear hSw; go_simp; first | done | with_reducible rfl)
            try simp only [Act.put, List.setIfInBounds_toArray, List.set_cons_zero, List.set_cons_succ]
            refine wpAnyH_done (by kernel_rfl) ?_ _
            have HX2 := hide hHeld
            have c5 := hHeld.cell 5 rfl
            have c6 := hHeld.cell 6 rfl
            clear hHeld
            go_wp2_with fail
            go_loop [3, 4] (fun s i => s = .string A4 ∧ i = .int .i64 0) (fun _ _ => 0)
            case atStart => exact ⟨rfl, rfl⟩
            case round =>
              obtain ⟨rfl, rfl⟩ := hrel
              go_wp2_with fail
              refine (HH0.out _).mono ?_
              rintro r w99 ⟨rfl, hb99⟩
              go_wp2_with fail
              exact bodyPost_ret (v := .string A5) (by simp [results, Tryz.results93, go_sem]) rfl ⟨_, HS.out, rfl, (HX2.out.call hb99).1⟩
          exact AllReadyH.nil
        exact AllReadyH.nil
      exact AllReadyH.nil
    exact AllReadyH.nil
  exact AllReadyH.nil

set_option maxHeartbeats 4000000 in
theorem eventText_create (id : Nat) (hi1 : 1 ≤ id) (hi2 : id ≤ 1000000) (op : Option Addr) (cp : Nat) (w : World) :
    Calls Tryz.prog 94 #[evV (id : Int) 1 1 op cp] w fun e w' => ∃ z : ByteArray, z.size ≤ 70 ∧ e = .returned (.tuple #[.string z, .bool true]) ∧ Below w.heap.size w w' := by
  obtain ⟨VI, si, vi⟩ := var_named id (by omega)
  obtain ⟨V0, sv, v0⟩ := var_named 0 (by omega)
  have HVI := hide vi
  have HV0 := hide v0
  have HX := hide (BoxS.new w #[.int .i64 (id : Int), .int .i64 1, .int .i64 1, .int .i64 0, .int .i64 0, .slice none 0 0, .string ⟨#[]⟩, .slice op 0 cp, .int .i64 0] 120)
  clear vi v0
  unfold evV
  go_enter Tryz.func94, Tryz.ntmps94
  go_wp2_with fail
  refine (eventOk_create (id : Int) (by omega) (by omega) op cp _).mono ?_
  rintro e w1 ⟨rfl, hb1⟩
  have HX1 := hide (HX.out.call hb1)
  clear hb1
  go_wp2_with fail
  refine wp_region_held_drew (S := BoxS w #[.int .i64 (id : Int), .int .i64 1, .int .i64 1, .int .i64 0, .int .i64 0, .slice none 0 0, .string ⟨#[]⟩, .slice op 0 cp, .int .i64 0] 120) (by kernel_rfl) HX1.out.drew (fun hHeld => ?_)
  refine wpAnyH_take (i := 0) (v := ?_) rfl (by kernel_rfl) (by kernel_rfl) (by kernel_rfl) (fun _ _ _ h => h) (Or.inl ⟨by rfl, ?_⟩) (by assumption) ?_; rotate_left
  · (intro wz hSw; have z0 := BoxS.cell hSw 0 rfl; have z1 := BoxS.cell hSw 1 rfl; have z2 := BoxS.cell hSw 2 rfl; have z3 := BoxS.cell hSw 3 rfl; have z4 := BoxS.cell hSw 4 rfl; have z5 := BoxS.cell hSw 5 rfl; have z6 := BoxS.cell hSw 6 rfl; have z7 := BoxS.cell hSw 7 rfl; have z8 := BoxS.cell hSw 8 rfl; clear hSw; go_simp; first | done | with_reducible rfl)
  try simp only [Act.put, List.setIfInBounds_toArray, List.set_cons_zero, List.set_cons_succ]
  refine wpAnyH_take (i := 1) (v := ?_) rfl (by kernel_rfl) (by kernel_rfl) (by kernel_rfl) (fun _ _ _ h => h) (Or.inl ⟨by rfl, ?_⟩) (by assumption) ?_; rotate_left
  · (intro wz hSw; have z0 := BoxS.cell hSw 0 rfl; have z1 := BoxS.cell hSw 1 rfl; have z2 := BoxS.cell hSw 2 rfl; have z3 := BoxS.cell hSw 3 rfl; have z4 := BoxS.cell hSw 4 rfl; have z5 := BoxS.cell hSw 5 rfl; have z6 := BoxS.cell hSw 6 rfl; have z7 := BoxS.cell hSw 7 rfl; have z8 := BoxS.cell hSw 8 rfl; clear hSw; go_simp; first | done | with_reducible rfl)
  try simp only [Act.put, List.setIfInBounds_toArray, List.set_cons_zero, List.set_cons_succ]
  refine wpAnyH_take (i := 3) (v := ?_) rfl (by kernel_rfl) (by kernel_rfl) (by kernel_rfl) (fun _ _ _ h => h) (Or.inl ⟨by rfl, ?_⟩) (by assumption) ?_; rotate_left
  · (intro wz hSw; have z0 := BoxS.cell hSw 0 rfl; have z1 := BoxS.cell hSw 1 rfl; have z2 := BoxS.cell hSw 2 rfl; have z3 := BoxS.cell hSw 3 rfl; have z4 := BoxS.cell hSw 4 rfl; have z5 := BoxS.cell hSw 5 rfl; have z6 := BoxS.cell hSw 6 rfl; have z7 := BoxS.cell hSw 7 rfl; have z8 := BoxS.cell hSw 8 rfl; clear hSw; go_simp; first | done | with_reducible rfl)
  try simp only [Act.put, List.setIfInBounds_toArray, List.set_cons_zero, List.set_cons_succ]
  refine wpAnyH_take (i := 6) (v := ?_) rfl (by kernel_rfl) (by kernel_rfl) (by kernel_rfl) (fun _ _ _ h => h) (Or.inl ⟨by rfl, ?_⟩) (by assumption) ?_; rotate_left
  · (intro wz hSw; have z0 := BoxS.cell hSw 0 rfl; have z1 := BoxS.cell hSw 1 rfl; have z2 := BoxS.cell hSw 2 rfl; have z3 := BoxS.cell hSw 3 rfl; have z4 := BoxS.cell hSw 4 rfl; have z5 := BoxS.cell hSw 5 rfl; have z6 := BoxS.cell hSw 6 rfl; have z7 := BoxS.cell hSw 7 rfl; have z8 := BoxS.cell hSw 8 rfl; clear hSw; go_simp; first | done | with_reducible rfl)
  try simp only [Act.put, List.setIfInBounds_toArray, List.set_cons_zero, List.set_cons_succ]
  refine wpAnyH_take (i := 7) (v := ?_) rfl (by kernel_rfl) (by kernel_rfl) (by kernel_rfl) (fun _ _ _ h => h) (Or.inl ⟨by rfl, ?_⟩) (by assumption) ?_; rotate_left
  · (intro wz hSw; have z0 := BoxS.cell hSw 0 rfl; have z1 := BoxS.cell hSw 1 rfl; have z2 := BoxS.cell hSw 2 rfl; have z3 := BoxS.cell hSw 3 rfl; have z4 := BoxS.cell hSw 4 rfl; have z5 := BoxS.cell hSw 5 rfl; have z6 := BoxS.cell hSw 6 rfl; have z7 := BoxS.cell hSw 7 rfl; have z8 := BoxS.cell hSw 8 rfl; clear hSw; go_simp; first | done | with_reducible rfl)
  try simp only [Act.put, List.setIfInBounds_toArray, List.set_cons_zero, List.set_cons_succ]
  refine wpAnyH_take (i := 8) (v := ?_) rfl (by kernel_rfl) (by kernel_rfl) (by kernel_rfl) (fun _ _ _ h => h) (Or.inl ⟨by rfl, ?_⟩) (by assumption) ?_; rotate_left
  · (intro wz hSw; have z0 := BoxS.cell hSw 0 rfl; have z1 := BoxS.cell hSw 1 rfl; have z2 := BoxS.cell hSw 2 rfl; have z3 := BoxS.cell hSw 3 rfl; have z4 := BoxS.cell hSw 4 rfl; have z5 := BoxS.cell hSw 5 rfl; have z6 := BoxS.cell hSw 6 rfl; have z7 := BoxS.cell hSw 7 rfl; have z8 := BoxS.cell hSw 8 rfl; clear hSw; go_simp; first | done | with_reducible rfl)
  try simp only [Act.put, List.setIfInBounds_toArray, List.set_cons_zero, List.set_cons_succ]
  refine wpAnyH_ready (rs := [2]) (by kernel_rfl) (by simp) ?_
  refine AllReadyH.cons rfl (fun K hK => ?_) ?_
  · rw [if_pos (by rfl)]
    go_simp
    go_at_call 59
    refine (HVI.out _).mono ?_
    rintro r w92 ⟨rfl, hb92⟩
    try go_simp
    refine hK.out _ _ ?_ (fun hHeld => ?_)
    · exact BoxS.call hHeld hb92
    clear hK K
    try simp only [Act.put, List.setIfInBounds_toArray, List.set_cons_zero, List.set_cons_succ]
    clear hb92
    refine wpAnyH_ready (rs := [4]) (by kernel_rfl) (by simp) ?_
    refine AllReadyH.cons rfl (fun K hK => ?_) ?_
    · rw [if_pos (by rfl)]
      go_simp
      go_at_call 93
      refine (l09BodyText_create (id : Int) op cp _).mono ?_
      rintro r w94 ⟨Z, hZ, rfl, hb94⟩
      obtain ⟨A1, a1, f1⟩ := cat_named Tryz.prog VI Z (by omega)
      obtain ⟨A2, a2, f2⟩ := cat_named Tryz.prog A1 V0 (by omega)
      obtain ⟨A3, a3, f3⟩ := cat_named Tryz.prog A2 V0 (by omega)
      have HS := hide (show A3.size ≤ 70 by omega)
      clear a1 a2 a3 hZ
      try go_simp
      refine hK.out _ _ ?_ (fun hHeld => ?_)
      · exact BoxS.call hHeld hb94
      clear hK K
      try simp only [Act.put, List.setIfInBounds_toArray, List.set_cons_zero, List.set_cons_succ]
      clear hb94
      refine wpAnyH_take (i := 5) (v := ?_) rfl (by kernel_rfl) (by kernel_rfl) (by kernel_rfl) (fun _ _ _ h => h) (Or.inl ⟨by rfl, ?_⟩) (by assumption) ?_; rotate_left
      · (intro wz hSw; have z0 := BoxS.cell hSw 0 rfl; have z1 := BoxS.cell hSw 1 rfl; have z2 := BoxS.cell hSw 2 rfl; have z3 := BoxS.cell hSw 3 rfl; have z4 := BoxS.cell hSw 4 rfl; have z5 := BoxS.cell hSw 5 rfl; have z6 := BoxS.cell hSw 6 rfl; have z7 := BoxS.cell hSw 7 rfl; have z8 := BoxS.cell hSw 8 rfl; clear hSw; go_simp; first | done | with_reducible rfl)
      try simp only [Act.put, List.setIfInBounds_toArray, List.set_cons_zero, List.set_cons_succ]
      refine wpAnyH_ready (rs := [9]) (by kernel_rfl) (by simp) ?_
      refine AllReadyH.cons rfl (fun K hK => ?_) ?_
      · rw [if_pos (by rfl)]
        go_simp
        go_at_call 59
        refine (HV0.out _).mono ?_
        rintro r w99 ⟨rfl, hb99⟩
        try go_simp
        refine hK.out _ _ ?_ (fun hHeld => ?_)
        · exact BoxS.call hHeld hb99
        clear hK K
        try simp only [Act.put, List.setIfInBounds_toArray, List.set_cons_zero, List.set_cons_succ]
        clear hb99
        refine wpAnyH_take (i := 10) (v := ?_) rfl (by kernel_rfl) (by kernel_rfl) (by kernel_rfl) (fun _ _ _ h => h) (Or.inl ⟨by rfl, ?_⟩) (by assumption) ?_; rotate_left
        · (intro wz hSw; have z0 := BoxS.cell hSw 0 rfl; have z1 := BoxS.cell hSw 1 rfl; have z2 := BoxS.cell hSw 2 rfl; have z3 := BoxS.cell hSw 3 rfl; have z4 := BoxS.cell hSw 4 rfl; have z5 := BoxS.cell hSw 5 rfl; have z6 := BoxS.cell hSw 6 rfl; have z7 := BoxS.cell hSw 7 rfl; have z8 := BoxS.cell hSw 8 rfl; clear hSw; go_simp; first | done | with_reducible rfl)
        try simp only [Act.put, List.setIfInBounds_toArray, List.set_cons_zero, List.set_cons_succ]
        refine wpAnyH_take (i := 11) (v := ?_) rfl (by kernel_rfl) (by kernel_rfl) (by kernel_rfl) (fun _ _ _ h => h) (Or.inl ⟨by rfl, ?_⟩) (by assumption) ?_; rotate_left
        · (intro wz hSw; have z0 := BoxS.cell hSw 0 rfl; have z1 := BoxS.cell hSw 1 rfl; have z2 := BoxS.cell hSw 2 rfl; have z3 := BoxS.cell hSw 3 rfl; have z4 := BoxS.cell hSw 4 rfl; have z5 := BoxS.cell hSw 5 rfl; have z6 := BoxS.cell hSw 6 rfl; have z7 := BoxS.cell hSw 7 rfl; have z8 := BoxS.cell hSw 8 rfl; clear hSw; go_simp; first | done | with_reducible rfl)
        try simp only [Act.put, List.setIfInBounds_toArray, List.set_cons_zero, List.set_cons_succ]
        refine wpAnyH_done (by kernel_rfl) ?_ _
        have HX2 := hide hHeld
        have c7 := hHeld.cell 7 rfl
        have c8 := hHeld.cell 8 rfl
        clear hHeld
        go_wp2_with fail
        go_loop [4, 5] (fun s i => s = .string A2 ∧ i = .int .i64 0) (fun _ _ => 0)
        case atStart => exact ⟨rfl, rfl⟩
        case round =>
          obtain ⟨rfl, rfl⟩ := hrel
          go_wp2_with fail
          refine (HV0.out _).mono ?_
          rintro r w99 ⟨rfl, hb99⟩
          go_wp2_with fail
          exact bodyPost_ret (v := .tuple #[.string A3, .bool true]) (by simp [results, Tryz.results94, go_sem]) rfl ⟨_, HS.out, rfl, (HX2.out.call hb99).1⟩
      exact AllReadyH.nil
    exact AllReadyH.nil
  exact AllReadyH.nil

end Go.Proofs.YtmllcomppjkhhaaGreatDoor

namespace Go.Proofs.YtmllcomppjkhhaaGreatDoor
open Go.RowKit P1 P9 K
attribute [local go_sem ↓] Go.wp_at_zero Go.wp_at_succ
set_option linter.unusedVariables false
set_option linter.unusedSimpArgs false

inductive CmdIn : Int → Nat → Nat → Int → Int → Int → Option Addr → Nat → Int → Int → Prop
  | open_ : CmdIn 1 0 0 0 0 0 none 0 0 0
  | send (t s : Nat) (op : Option Addr) (cp : Nat) (ht : t ≤ 1000) (hs : s ≤ 1000) : CmdIn 2 t s 0 1 1 op cp 0 0
  | receive (t s n : Nat) (ht : t ≤ 1000) (hs : s ≤ 1000) (hn : n ≤ 1000) : CmdIn 3 t s (2 * (n : Int) + 1) 1 1 none 0 0 0
  | acked (t s d u : Nat) (ht : t ≤ 1000) (hs : s ≤ 1000) (hd : 1 ≤ d) (hd2 : d ≤ 2) (hu : u ≤ 1000) : CmdIn 4 t s 0 0 0 none 0 (d : Int) (u : Int)
  | members (t s : Nat) (ht : t ≤ 1000) (hs : s ≤ 1000) : CmdIn 5 t s 0 0 0 none 0 0 0

theorem CmdIn.bounds {o : Int} {t s : Nat} {id kd sd : Int} {op : Option Addr} {cp : Nat} {d u : Int} (h : CmdIn o t s id kd sd op cp d u) : 1 ≤ o ∧ o ≤ 5 ∧ t ≤ 1000 ∧ s ≤ 1000 := by
  cases h <;> omega

set_option maxHeartbeats 4000000 in
theorem commandOk_in (o : Int) (t s : Nat) (id kd sd : Int) (op : Option Addr) (cp : Nat) (d u : Int) (h : CmdIn o t s id kd sd op cp d u) (w : World) :
    Calls Tryz.prog 91 #[cmdV o t s id kd sd op cp d u] w fun e w' => e = .returned (.bool true) ∧ Below w.heap.size w w' := by
  have HX := hide (BoxS.new w #[.int .i64 o, .int .i64 t, .int .i64 s, .int .i64 id, .int .i64 kd, .int .i64 sd, .int .i64 0, .int .i64 0, .slice none 0 0, .string ⟨#[]⟩, .slice op 0 cp, .int .i64 0, .int .i64 d, .int .i64 u] 122)
  unfold cmdV
  cases h with
  | open_ =>
    go_enter Tryz.func91, Tryz.ntmps91
    go_wp2_with (go_at_call 19; refine (l01In_yes _ _ _ (by omega) (by omega) _).mono ?_; rintro e w' ⟨rfl, rfl⟩)
    refine (l13Blank_zero _).mono ?_
    rintro e w1 ⟨rfl, hb1⟩
    have HX1 := hide (HX.out.call hb1)
    have c0 := HX1.out.cell 0 rfl
    have c1 := HX1.out.cell 1 rfl
    have c2 := HX1.out.cell 2 rfl
    have c12 := HX1.out.cell 12 rfl
    have c13 := HX1.out.cell 13 rfl
    clear hb1
    go_wp2_with fail
    go_ret
    exact ⟨rfl, HX1.out.1⟩
  | send _ _ _ _ ht hs =>
    go_enter Tryz.func91, Tryz.ntmps91
    go_wp2_with (go_at_call 19; refine (l01In_yes _ _ _ (by omega) (by omega) _).mono ?_; rintro e w' ⟨rfl, rfl⟩)
    refine (l09Body_create 0 op cp _).mono ?_
    rintro e w1 ⟨rfl, hb1⟩
    have HX1 := hide (HX.out.call hb1)
    have c3 := HX1.out.cell 3 rfl
    have c10 := HX1.out.cell 10 rfl
    have c11 := HX1.out.cell 11 rfl
    clear hb1
    go_wp2_with fail
    go_ret
    exact ⟨rfl, HX1.out.1⟩
  | receive _ _ n ht hs hn =>
    have hmod : (2 * (n : Int) + 1).tmod 2 = 1 := by rw [Int.tmod_eq_emod_of_nonneg (by omega)]; omega
    have hmod2 : (2 * (n : Int) + 1) % 2 = 1 := by omega
    go_enter Tryz.func91, Tryz.ntmps91
    go_wp2_with (go_at_call 19; refine (l01In_yes _ _ _ (by omega) (by omega) _).mono ?_; rintro e w' ⟨rfl, rfl⟩)
    refine (eventOk_create (2 * (n : Int) + 1) (by omega) (by omega) none 0 _).mono ?_
    rintro e w1 ⟨rfl, hb1⟩
    have HX1 := hide (HX.out.call hb1)
    have c3 := HX1.out.cell 3 rfl
    clear hb1
    go_wp2_with fail
    go_ret
    exact ⟨rfl, HX1.out.1⟩
  | acked _ _ dn un ht hs hd hd2 hu =>
    go_enter Tryz.func91, Tryz.ntmps91
    go_wp2_with (go_at_call 19; refine (l01In_yes _ _ _ (by omega) (by omega) _).mono ?_; rintro e w' ⟨rfl, rfl⟩)
    refine (l13Blank_zero _).mono ?_
    rintro e w1 ⟨rfl, hb1⟩
    have HX1 := hide (HX.out.call hb1)
    have c0 := HX1.out.cell 0 rfl
    have c12 := HX1.out.cell 12 rfl
    have c13 := HX1.out.cell 13 rfl
    clear hb1
    go_wp2_with (go_at_call 19; refine (l01In_yes _ _ _ (by omega) (by omega) _).mono ?_; rintro e w' ⟨rfl, rfl⟩)
    go_ret
    exact ⟨rfl, HX1.out.1⟩
  | members _ _ ht hs =>
    go_enter Tryz.func91, Tryz.ntmps91
    go_wp2_with (go_at_call 19; refine (l01In_yes _ _ _ (by omega) (by omega) _).mono ?_; rintro e w' ⟨rfl, rfl⟩)
    refine (l13Blank_zero _).mono ?_
    rintro e w1 ⟨rfl, hb1⟩
    have HX1 := hide (HX.out.call hb1)
    have c0 := HX1.out.cell 0 rfl
    have c12 := HX1.out.cell 12 rfl
    have c13 := HX1.out.cell 13 rfl
    clear hb1
    go_wp2_with fail
    go_ret
    exact ⟨rfl, HX1.out.1⟩

def CtxPost (w : World) (e : Ending) (w' : World) : Prop := ∃ z : ByteArray, z.size ≤ 120 ∧ e = .returned (.tuple #[.string z, .bool true]) ∧ Below w.heap.size w w'

set_option maxHeartbeats 4000000 in
theorem commandText_in (o : Nat) (t s : Nat) (id kd sd : Int) (op : Option Addr) (cp : Nat) (d u : Int) (h : CmdIn (o : Int) t s id kd sd op cp d u) (w : World) :
    Calls Tryz.prog 82 #[cmdV (o : Int) t s id kd sd op cp d u] w fun e w' => CtxPost w e w' := by
  have hb : o ≤ 5 ∧ t ≤ 1000 ∧ s ≤ 1000 := by have := h.bounds; omega
  obtain ⟨ho, ht, hs⟩ := hb
  obtain ⟨KO, so, ko⟩ := byte_named o (by omega)
  obtain ⟨VT, st, vt⟩ := var_named t (by omega)
  obtain ⟨VS, ss, vs⟩ := var_named s (by omega)
  obtain ⟨A1, a1, f1⟩ := cat_named Tryz.prog KO VT (by omega)
  obtain ⟨A2, a2, f2⟩ := cat_named Tryz.prog A1 VS (by omega)
  have HKO := hide ko
  have HVT := hide vt
  have HVS := hide vs
  have hs2 : A2.size ≤ 21 := by omega
  have HX := hide (BoxS.new w #[.int .i64 (o : Int), .int .i64 t, .int .i64 s, .int .i64 id, .int .i64 kd, .int .i64 sd, .int .i64 0, .int .i64 0, .slice none 0 0, .string ⟨#[]⟩, .slice op 0 cp, .int .i64 0, .int .i64 d, .int .i64 u] 122)
  have HOK := hide (fun w => commandOk_in (o : Int) t s id kd sd op cp d u h w)
  have HIN := hide h
  unfold cmdV at HOK ⊢
  clear ko vt vs a1 a2 h so st ss
  go_enter Tryz.func82, Tryz.ntmps82
  go_wp2_with fail
  refine (HOK.out _).mono ?_
  rintro e w1 ⟨rfl, hb1⟩
  have HX1 := hide (HX.out.call hb1)
  clear hb1
  go_wp2_with fail
  refine wp_region_held_drew (S := BoxS w #[.int .i64 (o : Int), .int .i64 t, .int .i64 s, .int .i64 id, .int .i64 kd, .int .i64 sd, .int .i64 0, .int .i64 0, .slice none 0 0, .string ⟨#[]⟩, .slice op 0 cp, .int .i64 0, .int .i64 d, .int .i64 u] 122) (by kernel_rfl) HX1.out.drew (fun hHeld => ?_)
  refine wpAnyH_take (i := 0) (v := ?_) rfl (by kernel_rfl) (by kernel_rfl) (by kernel_rfl) (fun _ _ _ h => h) (Or.inl ⟨by rfl, ?_⟩) (by assumption) ?_; rotate_left
  · (intro wz hSw; have z0 := BoxS.cell hSw 0 rfl; have z1 := BoxS.cell hSw 1 rfl; have z2 := BoxS.cell hSw 2 rfl; clear hSw; go_simp; first | done | with_reducible rfl)
  try simp only [Act.put, List.getElem_toArray, List.getElem_cons_zero, List.getElem_cons_succ, List.setIfInBounds_toArray, List.set_cons_zero, List.set_cons_succ]
  refine wpAnyH_take (i := 1) (v := ?_) rfl (by kernel_rfl) (by kernel_rfl) (by kernel_rfl) (fun _ _ _ h => h) (Or.inl ⟨by rfl, ?_⟩) (by assumption) ?_; rotate_left
  · (intro wz hSw; have z0 := BoxS.cell hSw 0 rfl; have z1 := BoxS.cell hSw 1 rfl; have z2 := BoxS.cell hSw 2 rfl; clear hSw; go_simp; first | done | with_reducible rfl)
  try simp only [Act.put, List.getElem_toArray, List.getElem_cons_zero, List.getElem_cons_succ, List.setIfInBounds_toArray, List.set_cons_zero, List.set_cons_succ]
  refine wpAnyH_take (i := 3) (v := ?_) rfl (by kernel_rfl) (by kernel_rfl) (by kernel_rfl) (fun _ _ _ h => h) (Or.inl ⟨by rfl, ?_⟩) (by assumption) ?_; rotate_left
  · (intro wz hSw; have z0 := BoxS.cell hSw 0 rfl; have z1 := BoxS.cell hSw 1 rfl; have z2 := BoxS.cell hSw 2 rfl; clear hSw; go_simp; first | done | with_reducible rfl)
  try simp only [Act.put, List.getElem_toArray, List.getElem_cons_zero, List.getElem_cons_succ, List.setIfInBounds_toArray, List.set_cons_zero, List.set_cons_succ]
  refine wpAnyH_take (i := 4) (v := ?_) rfl (by kernel_rfl) (by kernel_rfl) (by kernel_rfl) (fun _ _ _ h => h) (Or.inl ⟨by rfl, ?_⟩) (by assumption) ?_; rotate_left
  · (intro wz hSw; have z0 := BoxS.cell hSw 0 rfl; have z1 := BoxS.cell hSw 1 rfl; have z2 := BoxS.cell hSw 2 rfl; clear hSw; go_simp; first | done | with_reducible rfl)
  try simp only [Act.put, List.getElem_toArray, List.getElem_cons_zero, List.getElem_cons_succ, List.setIfInBounds_toArray, List.set_cons_zero, List.set_cons_succ]
  refine wpAnyH_take (i := 7) (v := ?_) rfl (by kernel_rfl) (by kernel_rfl) (by kernel_rfl) (fun _ _ _ h => h) (Or.inl ⟨by rfl, ?_⟩) (by assumption) ?_; rotate_left
  · (intro wz hSw; have z0 := BoxS.cell hSw 0 rfl; have z1 := BoxS.cell hSw 1 rfl; have z2 := BoxS.cell hSw 2 rfl; clear hSw; go_simp; first | done | with_reducible rfl)
  try simp only [Act.put, List.getElem_toArray, List.getElem_cons_zero, List.getElem_cons_succ, List.setIfInBounds_toArray, List.set_cons_zero, List.set_cons_succ]
  refine wpAnyH_take (i := 8) (v := ?_) rfl (by kernel_rfl) (by kernel_rfl) (by kernel_rfl) (fun _ _ _ h => h) (Or.inl ⟨by rfl, ?_⟩) (by assumption) ?_; rotate_left
  · (intro wz hSw; have z0 := BoxS.cell hSw 0 rfl; have z1 := BoxS.cell hSw 1 rfl; have z2 := BoxS.cell hSw 2 rfl; clear hSw; go_simp; first | done | with_reducible rfl)
  try simp only [Act.put, List.getElem_toArray, List.getElem_cons_zero, List.getElem_cons_succ, List.setIfInBounds_toArray, List.set_cons_zero, List.set_cons_succ]
  refine wpAnyH_ready (rs := [2]) (by kernel_rfl) (by simp) ?_
  refine AllReadyH.cons rfl (fun K hK => ?_) ?_
  · rw [if_pos (by rfl)]
    go_simp
    go_at_call 92
    refine (HKO.out _).mono ?_
    rintro r w92 ⟨rfl, hb92⟩
    try go_simp
    refine hK.out _ _ ?_ (fun hHeld => ?_)
    · exact BoxS.call hHeld hb92
    clear hK K
    try simp only [Act.put, List.getElem_toArray, List.getElem_cons_zero, List.getElem_cons_succ, List.setIfInBounds_toArray, List.set_cons_zero, List.set_cons_succ]
    clear hb92
    refine wpAnyH_ready (rs := [5]) (by kernel_rfl) (by simp) ?_
    refine AllReadyH.cons rfl (fun K hK => ?_) ?_
    · rw [if_pos (by rfl)]
      go_simp
      go_at_call 59
      refine (HVT.out _).mono ?_
      rintro r w95 ⟨rfl, hb95⟩
      try go_simp
      refine hK.out _ _ ?_ (fun hHeld => ?_)
      · exact BoxS.call hHeld hb95
      clear hK K
      try simp only [Act.put, List.getElem_toArray, List.getElem_cons_zero, List.getElem_cons_succ, List.setIfInBounds_toArray, List.set_cons_zero, List.set_cons_succ]
      clear hb95
      refine wpAnyH_take (i := 6) (v := ?_) rfl (by kernel_rfl) (by kernel_rfl) (by kernel_rfl) (fun _ _ _ h => h) (Or.inl ⟨by rfl, ?_⟩) (by assumption) ?_; rotate_left
      · (intro wz hSw; have z0 := BoxS.cell hSw 0 rfl; have z1 := BoxS.cell hSw 1 rfl; have z2 := BoxS.cell hSw 2 rfl; clear hSw; go_simp; first | done | with_reducible rfl)
      try simp only [Act.put, List.getElem_toArray, List.getElem_cons_zero, List.getElem_cons_succ, List.setIfInBounds_toArray, List.set_cons_zero, List.set_cons_succ]
      refine wpAnyH_ready (rs := [9]) (by kernel_rfl) (by simp) ?_
      refine AllReadyH.cons rfl (fun K hK => ?_) ?_
      · rw [if_pos (by rfl)]
        go_simp
        go_at_call 59
        refine (HVS.out _).mono ?_
        rintro r w99 ⟨rfl, hb99⟩
        try go_simp
        refine hK.out _ _ ?_ (fun hHeld => ?_)
        · exact BoxS.call hHeld hb99
        clear hK K
        try simp only [Act.put, List.getElem_toArray, List.getElem_cons_zero, List.getElem_cons_succ, List.setIfInBounds_toArray, List.set_cons_zero, List.set_cons_succ]
        clear hb99
        refine wpAnyH_take (i := 10) (v := ?_) rfl (by kernel_rfl) (by kernel_rfl) (by kernel_rfl) (fun _ _ _ h => h) (Or.inl ⟨by rfl, ?_⟩) (by assumption) ?_; rotate_left
        · (intro wz hSw; have z0 := BoxS.cell hSw 0 rfl; have z1 := BoxS.cell hSw 1 rfl; have z2 := BoxS.cell hSw 2 rfl; clear hSw; go_simp; first | done | with_reducible rfl)
        try simp only [Act.put, List.getElem_toArray, List.getElem_cons_zero, List.getElem_cons_succ, List.setIfInBounds_toArray, List.set_cons_zero, List.set_cons_succ]
        refine wpAnyH_take (i := 11) (v := ?_) rfl (by kernel_rfl) (by kernel_rfl) (by kernel_rfl) (fun _ _ _ h => h) (Or.inl ⟨by rfl, ?_⟩) (by assumption) ?_; rotate_left
        · (intro wz hSw; have z0 := BoxS.cell hSw 0 rfl; have z1 := BoxS.cell hSw 1 rfl; have z2 := BoxS.cell hSw 2 rfl; clear hSw; go_simp; first | done | with_reducible rfl)
        try simp only [Act.put, List.getElem_toArray, List.getElem_cons_zero, List.getElem_cons_succ, List.setIfInBounds_toArray, List.set_cons_zero, List.set_cons_succ]
        refine wpAnyH_done (by kernel_rfl) ?_ _
        have HX2 := hide hHeld
        clear hHeld
        have hin := HIN.out
        generalize hoo : (o : Int) = oo at hin
        cases hin with
        | open_ =>
          obtain rfl : o = 1 := by omega
          have c0 := HX2.out.cell 0 rfl
          clear hoo
          go_wp2_with fail
          exact bodyPost_ret (v := .tuple #[.string A2, .bool true]) (by simp [results, Tryz.results82, go_sem]) rfl ⟨_, by omega, rfl, HX2.out.1⟩
        | send _ _ _ _ _ _ =>
          obtain rfl : o = 2 := by omega
          have c0 := HX2.out.cell 0 rfl
          have c3 := HX2.out.cell 3 rfl
          have c4 := HX2.out.cell 4 rfl
          have c5 := HX2.out.cell 5 rfl
          have c6 := HX2.out.cell 6 rfl
          have c7 := HX2.out.cell 7 rfl
          have c8 := HX2.out.cell 8 rfl
          have c9 := HX2.out.cell 9 rfl
          have c10 := HX2.out.cell 10 rfl
          have c11 := HX2.out.cell 11 rfl
          clear hoo
          go_wp2_with fail
          refine (l09BodyText_create 0 op cp _).mono ?_
          rintro r w98 ⟨Z, hZ, rfl, hb98⟩
          obtain ⟨B1, b1, g1⟩ := cat_named Tryz.prog A2 Z (by omega)
          have HX3 := hide (HX2.out.call hb98)
          clear hb98
          go_wp2_with fail
          exact bodyPost_ret (v := .tuple #[.string B1, .bool true]) (by simp [results, Tryz.results82, go_sem]) rfl ⟨_, by omega, rfl, HX3.out.1⟩
        | receive _ _ n _ _ hn =>
          obtain rfl : o = 3 := by omega
          have c0 := HX2.out.cell 0 rfl
          have c3 := HX2.out.cell 3 rfl
          have c4 := HX2.out.cell 4 rfl
          have c5 := HX2.out.cell 5 rfl
          have c6 := HX2.out.cell 6 rfl
          have c7 := HX2.out.cell 7 rfl
          have c8 := HX2.out.cell 8 rfl
          have c9 := HX2.out.cell 9 rfl
          have c10 := HX2.out.cell 10 rfl
          have c11 := HX2.out.cell 11 rfl
          have het := fun w => eventText_create (2 * n + 1) (by omega) (by omega) none 0 w
          have ecast : ((2 * n + 1 : Nat) : Int) = 2 * (n : Int) + 1 := by omega
          rw [ecast] at het
          have HET := hide het
          clear hoo het ecast
          go_wp2_with fail
          refine (HET.out _).mono ?_
          rintro r w98 ⟨Z, hZ, rfl, hb98⟩
          obtain ⟨H0, sh, h0⟩ := short_named Z (by omega)
          obtain ⟨B1, b1, g1⟩ := cat_named Tryz.prog A2 H0 (by omega)
          have HX3 := hide (HX2.out.call hb98)
          have HH0 := hide h0
          clear hb98 h0
          go_wp2_with fail
          refine (HH0.out _).mono ?_
          rintro r w97 ⟨rfl, hb97⟩
          have HX4 := hide (HX3.out.call hb97)
          clear hb97
          go_wp2_with fail
          exact bodyPost_ret (v := .tuple #[.string B1, .bool true]) (by simp [results, Tryz.results82, go_sem]) rfl ⟨_, by omega, rfl, HX4.out.1⟩
        | acked _ _ dn un _ _ hd hd2 hu =>
          obtain rfl : o = 4 := by omega
          have c0 := HX2.out.cell 0 rfl
          obtain ⟨VD, sd1, vd⟩ := var_named dn (by omega)
          obtain ⟨VU, su1, vu⟩ := var_named un (by omega)
          obtain ⟨B1, b1, g1⟩ := cat_named Tryz.prog A2 VD (by omega)
          obtain ⟨B2, b2, g2⟩ := cat_named Tryz.prog B1 VU (by omega)
          have HVD := hide vd
          have HVU := hide vu
          clear hoo vd vu
          go_wp2_with fail
          refine wp_region_held_drew (S := BoxS w #[.int .i64 ((4 : Nat) : Int), .int .i64 t, .int .i64 s, .int .i64 0, .int .i64 0, .int .i64 0, .int .i64 0, .int .i64 0, .slice none 0 0, .string ⟨#[]⟩, .slice none 0 0, .int .i64 0, .int .i64 (dn : Int), .int .i64 (un : Int)] 122) (by kernel_rfl) HX2.out.drew (fun hHeld => ?_)
          refine wpAnyH_take (i := 0) (v := ?_) rfl (by kernel_rfl) (by kernel_rfl) (by kernel_rfl) (fun _ _ _ h => h) (Or.inl ⟨by rfl, ?_⟩) (by assumption) ?_; rotate_left
          · (intro wz hSw; have z12 := BoxS.cell hSw 12 rfl; have z13 := BoxS.cell hSw 13 rfl; clear hSw; go_simp; first | done | with_reducible rfl)
          try simp only [Act.put, List.getElem_toArray, List.getElem_cons_zero, List.getElem_cons_succ, List.setIfInBounds_toArray, List.set_cons_zero, List.set_cons_succ]
          refine wpAnyH_take (i := 1) (v := ?_) rfl (by kernel_rfl) (by kernel_rfl) (by kernel_rfl) (fun _ _ _ h => h) (Or.inl ⟨by rfl, ?_⟩) (by assumption) ?_; rotate_left
          · (intro wz hSw; have z12 := BoxS.cell hSw 12 rfl; have z13 := BoxS.cell hSw 13 rfl; clear hSw; go_simp; first | done | with_reducible rfl)
          try simp only [Act.put, List.getElem_toArray, List.getElem_cons_zero, List.getElem_cons_succ, List.setIfInBounds_toArray, List.set_cons_zero, List.set_cons_succ]
          refine wpAnyH_take (i := 2) (v := ?_) rfl (by kernel_rfl) (by kernel_rfl) (by kernel_rfl) (fun _ _ _ h => h) (Or.inl ⟨by rfl, ?_⟩) (by assumption) ?_; rotate_left
          · (intro wz hSw; have z12 := BoxS.cell hSw 12 rfl; have z13 := BoxS.cell hSw 13 rfl; clear hSw; go_simp; first | done | with_reducible rfl)
          try simp only [Act.put, List.getElem_toArray, List.getElem_cons_zero, List.getElem_cons_succ, List.setIfInBounds_toArray, List.set_cons_zero, List.set_cons_succ]
          refine wpAnyH_take (i := 5) (v := ?_) rfl (by kernel_rfl) (by kernel_rfl) (by kernel_rfl) (fun _ _ _ h => h) (Or.inl ⟨by rfl, ?_⟩) (by assumption) ?_; rotate_left
          · (intro wz hSw; have z12 := BoxS.cell hSw 12 rfl; have z13 := BoxS.cell hSw 13 rfl; clear hSw; go_simp; first | done | with_reducible rfl)
          try simp only [Act.put, List.getElem_toArray, List.getElem_cons_zero, List.getElem_cons_succ, List.setIfInBounds_toArray, List.set_cons_zero, List.set_cons_succ]
          refine wpAnyH_take (i := 6) (v := ?_) rfl (by kernel_rfl) (by kernel_rfl) (by kernel_rfl) (fun _ _ _ h => h) (Or.inl ⟨by rfl, ?_⟩) (by assumption) ?_; rotate_left
          · (intro wz hSw; have z12 := BoxS.cell hSw 12 rfl; have z13 := BoxS.cell hSw 13 rfl; clear hSw; go_simp; first | done | with_reducible rfl)
          try simp only [Act.put, List.getElem_toArray, List.getElem_cons_zero, List.getElem_cons_succ, List.setIfInBounds_toArray, List.set_cons_zero, List.set_cons_succ]
          refine wpAnyH_ready (rs := [3]) (by kernel_rfl) (by simp) ?_
          refine AllReadyH.cons rfl (fun K hK => ?_) ?_
          · rw [if_pos (by rfl)]
            go_simp
            go_at_call 59
            refine (HVD.out _).mono ?_
            rintro r w93 ⟨rfl, hb93⟩
            try go_simp
            refine hK.out _ _ ?_ (fun hHeld => ?_)
            · exact BoxS.call hHeld hb93
            clear hK K
            try simp only [Act.put, List.getElem_toArray, List.getElem_cons_zero, List.getElem_cons_succ, List.setIfInBounds_toArray, List.set_cons_zero, List.set_cons_succ]
            clear hb93
            refine wpAnyH_take (i := 4) (v := ?_) rfl (by kernel_rfl) (by kernel_rfl) (by kernel_rfl) (fun _ _ _ h => h) (Or.inl ⟨by rfl, ?_⟩) (by assumption) ?_; rotate_left
            · (intro wz hSw; have z12 := BoxS.cell hSw 12 rfl; have z13 := BoxS.cell hSw 13 rfl; clear hSw; go_simp; first | done | with_reducible rfl)
            try simp only [Act.put, List.getElem_toArray, List.getElem_cons_zero, List.getElem_cons_succ, List.setIfInBounds_toArray, List.set_cons_zero, List.set_cons_succ]
            refine wpAnyH_ready (rs := [7]) (by kernel_rfl) (by simp) ?_
            refine AllReadyH.cons rfl (fun K hK => ?_) ?_
            · rw [if_pos (by rfl)]
              go_simp
              go_at_call 59
              refine (HVU.out _).mono ?_
              rintro r w97 ⟨rfl, hb97⟩
              try go_simp
              refine hK.out _ _ ?_ (fun hHeld => ?_)
              · exact BoxS.call hHeld hb97
              clear hK K
              try simp only [Act.put, List.getElem_toArray, List.getElem_cons_zero, List.getElem_cons_succ, List.setIfInBounds_toArray, List.set_cons_zero, List.set_cons_succ]
              clear hb97
              refine wpAnyH_take (i := 8) (v := ?_) rfl (by kernel_rfl) (by kernel_rfl) (by kernel_rfl) (fun _ _ _ h => h) (Or.inl ⟨by rfl, ?_⟩) (by assumption) ?_; rotate_left
              · (intro wz hSw; have z12 := BoxS.cell hSw 12 rfl; have z13 := BoxS.cell hSw 13 rfl; clear hSw; go_simp; first | done | with_reducible rfl)
              try simp only [Act.put, List.getElem_toArray, List.getElem_cons_zero, List.getElem_cons_succ, List.setIfInBounds_toArray, List.set_cons_zero, List.set_cons_succ]
              refine wpAnyH_take (i := 9) (v := ?_) rfl (by kernel_rfl) (by kernel_rfl) (by kernel_rfl) (fun _ _ _ h => h) (Or.inl ⟨by rfl, ?_⟩) (by assumption) ?_; rotate_left
              · (intro wz hSw; have z12 := BoxS.cell hSw 12 rfl; have z13 := BoxS.cell hSw 13 rfl; clear hSw; go_simp; first | done | with_reducible rfl)
              try simp only [Act.put, List.getElem_toArray, List.getElem_cons_zero, List.getElem_cons_succ, List.setIfInBounds_toArray, List.set_cons_zero, List.set_cons_succ]
              refine wpAnyH_take (i := 10) (v := ?_) rfl (by kernel_rfl) (by kernel_rfl) (by kernel_rfl) (fun _ _ _ h => h) (Or.inl ⟨by rfl, ?_⟩) (by assumption) ?_; rotate_left
              · (intro wz hSw; have z12 := BoxS.cell hSw 12 rfl; have z13 := BoxS.cell hSw 13 rfl; clear hSw; go_simp; first | done | with_reducible rfl)
              try simp only [Act.put, List.getElem_toArray, List.getElem_cons_zero, List.getElem_cons_succ, List.setIfInBounds_toArray, List.set_cons_zero, List.set_cons_succ]
              refine wpAnyH_done (by kernel_rfl) ?_ _
              have HX3 := hide hHeld
              clear hHeld
              go_wp2_with fail
              exact bodyPost_ret (v := .tuple #[.string B2, .bool true]) (by simp [results, Tryz.results82, go_sem]) rfl ⟨_, by omega, rfl, HX3.out.1⟩
            exact AllReadyH.nil
          exact AllReadyH.nil
        | members _ _ _ _ =>
          obtain rfl : o = 5 := by omega
          have c0 := HX2.out.cell 0 rfl
          clear hoo
          go_wp2_with fail
          exact bodyPost_ret (v := .tuple #[.string A2, .bool true]) (by simp [results, Tryz.results82, go_sem]) rfl ⟨_, by omega, rfl, HX2.out.1⟩
      exact AllReadyH.nil
    exact AllReadyH.nil
  exact AllReadyH.nil

end Go.Proofs.YtmllcomppjkhhaaGreatDoor

namespace Go.Proofs.YtmllcomppjkhhaaGreatDoor
open Go.RowKit P1 P9 K
set_option linter.unusedVariables false
set_option linter.unusedSimpArgs false

def hallV (os : Option Addr) (ns cs : Nat) (oo : Option Addr) (no co : Nat) : Value := .agg #[.slice os ns cs, .slice none 0 0, .slice none 0 0, .slice none 0 0, .slice oo no co]

theorem infoOut : (Tryz.prog.info? 159).map (fun i => (i.zero, i.size, i.bytes)) = some (some (.agg #[.int .i64 0, .int .i64 0, .slice none 0 0]), 3, 40) := by kernel_rfl

structure HnRel (w : World) (j : Nat) (wr : World) : Prop where
  bel : Below w.heap.size w wr
  res : wr.heap[w.heap.size]? = some (.cells #[.slice none 0 0, .slice none 0 0, .slice none 0 0, .slice none 0 0, .slice none 0 0] 151 (0, 0))
  out : ∃ (oo : Option Addr) (co : Nat) (xs : List Value), wr.heap[w.heap.size + 1]? = some (.cells #[.slice none 0 0, .slice none 0 0, .slice none 0 0, .slice none 0 0, .slice oo j co] 151 (0, 0)) ∧ wr.ownsRow (w.heap.size + 2) 159 3 (.slice oo j co) j xs

set_option maxHeartbeats 2000000 in
theorem hallNew_any (w : World) :
    Calls Tryz.prog 95 #[] w fun e w' => ∃ (oo : Option Addr) (no co : Nat), e = .returned (hallV none 0 0 oo no co) ∧ Below w.heap.size w w' := by
  have K0 := ((Below.refl w.heap.size w).alloc (Nat.le_refl _) (.cells #[.slice none 0 0, .slice none 0 0, .slice none 0 0, .slice none 0 0, .slice none 0 0] 151)).alloc (by simp) (.cells #[.slice none 0 0, .slice none 0 0, .slice none 0 0, .slice none 0 0, .slice none 0 0] 151)
  have R0 : HnRel w 0 ((w.alloc (.cells #[.slice none 0 0, .slice none 0 0, .slice none 0 0, .slice none 0 0, .slice none 0 0] 151)).alloc (.cells #[.slice none 0 0, .slice none 0 0, .slice none 0 0, .slice none 0 0, .slice none 0 0] 151)) := by
    refine ⟨K0, ?_, none, 0, [], ?_, World.ownsRow_nil _ _ _ _⟩
    · exact (((Below.refl (w.heap.size + 1) (w.alloc (.cells #[.slice none 0 0, .slice none 0 0, .slice none 0 0, .slice none 0 0, .slice none 0 0] 151))).alloc (by simp) _).block _ (Nat.lt_succ_self _)).trans (heap_alloc_new _ _)
    · have := heap_alloc_new (w.alloc (.cells #[.slice none 0 0, .slice none 0 0, .slice none 0 0, .slice none 0 0, .slice none 0 0] 151)) (.cells #[.slice none 0 0, .slice none 0 0, .slice none 0 0, .slice none 0 0, .slice none 0 0] 151)
      simpa using this
  have HR0 := hide R0
  clear R0 K0
  go_enter Tryz.func95, Tryz.ntmps95
  go_wp2_with fail
  go_loopw [2] (fun i wr => ∃ j : Nat, i = .int .i64 ((j : Int) + 1) ∧ j ≤ 2 ∧ HnRel w j wr) (fun i _ => 3 - (intOf i).toNat)
  case atStart => exact ⟨0, rfl, by omega, HR0.out⟩
  case round =>
    obtain ⟨j, rfl, hj, hbel, hres, oo, co, xs, hout, hown⟩ := hrel
    have c4 := blk_cell hout 4 rfl
    have z4 := blk_free hout 4
    have hl1 := blk_lt hout
    have HOUT := hide hout
    have HRES := hide hres
    have HBEL := hide hbel
    by_cases hlt : j < 2
    · have j0 : (j : Int) + 1 ≤ 2 := by omega
      clear hout hres hbel
      go_wp2_with (at_builtin; refine wpList_pushK (W := wr) rfl _ _ 149 rfl (by decide) Tryz.underlying149 infoOut rfl rfl hown rfl rfl (by simp [Value.oneCell']) (Below.refl _ _) (by omega) (by unfold maxLen; omega) (by omega) ?_)
      intro v' w1 hown' hb1 hs1
      obtain ⟨o2, c2, rfl⟩ := row_form hown'
      have hout1 := (hb1.block (w.heap.size + 1) (by omega)).trans HOUT.out
      have hres1 := (hb1.block w.heap.size (by omega)).trans HRES.out
      have hz1 := blk_free hout1 4
      have hc1 := blk_cell hout1 4 rfl
      have hsz := HBEL.out.size
      have R2 : HnRel w (j + 1) (w1.setCell ⟨w.heap.size + 1, 4, none⟩ (.slice o2 (j + 1) c2)) := by
        have hg := blk_grown w1 (w.heap.size + 1) 4 (.slice o2 (j + 1) c2)
        refine ⟨(HBEL.out.trans (hb1.mono (by omega))).setCell (by simp) _, ?_, o2, c2, _, blk_set (k := 4) _ hout1, own_setCell hown' (by simp) _⟩
        exact (hg.block _ (by have := hb1.size; omega) (fun e => by have := Option.some.inj e; omega)).trans hres1
      have HR2 := hide R2
      clear R2 hown' hown hout1 hres1 c4 z4
      go_wp2_with fail
      go_roundw
      case rel => exact ⟨j + 1, by go_num, by omega, HR2.out⟩
      case measure => simp [intOf]; omega
    · have j0 : ¬ (j : Int) + 1 ≤ 2 := by omega
      have q0 := blk_cell hout 0 rfl
      have q1 := blk_cell hout 1 rfl
      have q2 := blk_cell hout 2 rfl
      have q3 := blk_cell hout 3 rfl
      have r0 := blk_cell hres 0 rfl
      have r1 := blk_cell hres 1 rfl
      have r2 := blk_cell hres 2 rfl
      have r3 := blk_cell hres 3 rfl
      have r4 := blk_cell hres 4 rfl
      have y0 := blk_free hres 0
      have y1 := blk_free hres 1
      have y2 := blk_free hres 2
      have y3 := blk_free hres 3
      have y4 := blk_free hres 4
      clear hout hres hbel hown
      go_wp2_with fail
      obtain ⟨w9, hw9⟩ : ∃ w9, ((((wr.setCell ⟨w.heap.size, 0, none⟩ (.slice none 0 0)).setCell ⟨w.heap.size, 1, none⟩ (.slice none 0 0)).setCell ⟨w.heap.size, 2, none⟩ (.slice none 0 0)).setCell ⟨w.heap.size, 3, none⟩ (.slice none 0 0)).setCell ⟨w.heap.size, 4, none⟩ (.slice oo j co) = w9 := ⟨_, rfl⟩
      have h9 := blk_setAll [.slice none 0 0, .slice none 0 0, .slice none 0 0, .slice none 0 0, .slice oo j co] wr _ 0 HRES.out
      rw [show wr.setCells w.heap.size 0 [.slice none 0 0, .slice none 0 0, .slice none 0 0, .slice none 0 0, .slice oo j co] = w9 from hw9] at h9
      have h91 : w9.heap[w.heap.size]? = some (.cells #[.slice none 0 0, .slice none 0 0, .slice none 0 0, .slice none 0 0, .slice oo j co] 151 (0, 0)) := h9.1
      have q0 := blk_cell h91 0 rfl
      have q1 := blk_cell h91 1 rfl
      have q2 := blk_cell h91 2 rfl
      have q3 := blk_cell h91 3 rfl
      have q4 := blk_cell h91 4 rfl
      rw [hw9]
      exact bodyPost_ret (v := hallV none 0 0 oo j co) (by simp [results, Tryz.results95, go_sem, hallV, q0, q1, q2, q3, q4]) rfl ⟨⟨oo, j, co, rfl⟩, HBEL.out.grown h9.2 HBEL.out.size (fun k hk => by cases hk; exact Nat.le_refl _)⟩

set_option maxHeartbeats 1000000 in
theorem l12Next_first (p : Nat) (id : Int) (w : World) :
    Calls Tryz.prog 103 #[.pointer (some ⟨p, 0, none⟩), .agg #[.slice none 0 0, .slice none 0 0, .slice none 0 0], .int .i64 id] w fun e w' => e = .returned (evV id 1 1 none 0) ∧ Below w.heap.size w w' := by
  have HB := hide (((Below.refl w.heap.size w).alloc (Nat.le_refl _) (.cells #[.slice none 0 0, .slice none 0 0, .slice none 0 0] 148)).alloc (by simp) (.cells #[.int .i64 id, .int .i64 1, .int .i64 1, .int .i64 0, .int .i64 0, .slice none 0 0, .string ⟨#[]⟩, .slice none 0 0, .int .i64 0] 120))
  go_enter Tryz.func103, Tryz.ntmps103
  go_wp2_with fail
  exact bodyPost_ret (v := evV id 1 1 none 0) (by simp [results, Tryz.results103, go_sem, evV]) rfl ⟨rfl, HB.out⟩

end Go.Proofs.YtmllcomppjkhhaaGreatDoor
