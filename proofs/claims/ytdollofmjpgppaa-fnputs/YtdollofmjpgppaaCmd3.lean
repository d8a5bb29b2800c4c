/-
  Commands as they are drawn for entries: they are right, and their texts are short.
-/
import Derived.Test.YtdollofmjpgppaaCmd2
namespace Go.Proofs.Ytdollofmjpgppaa
open Go.RowKit P1 P9 K
attribute [local go_sem ↓] Go.wp_at_zero Go.wp_at_succ
set_option linter.unusedVariables false
set_option linter.unusedSimpArgs false

/-- A command as it is drawn. -/
inductive CmdIn : Int → Nat → Nat → Int → Int → Int → Option Addr → Nat → Int → Int → Prop
  | open_ : CmdIn 1 0 0 0 0 0 none 0 0 0
  | send (t s : Nat) (op : Option Addr) (cp : Nat) (ht : t ≤ 1000) (hs : s ≤ 1000) : CmdIn 2 t s 0 1 1 op cp 0 0
  | receive (t s n : Nat) (ht : t ≤ 1000) (hs : s ≤ 1000) (hn : n ≤ 1000) : CmdIn 3 t s (2 * (n : Int) + 1) 1 1 none 0 0 0
  | acked (t s d u : Nat) (ht : t ≤ 1000) (hs : s ≤ 1000) (hd : 1 ≤ d) (hd2 : d ≤ 2) (hu : u ≤ 1000) : CmdIn 4 t s 0 0 0 none 0 (d : Int) (u : Int)
  | members (t s : Nat) (ht : t ≤ 1000) (hs : s ≤ 1000) : CmdIn 5 t s 0 0 0 none 0 0 0

theorem CmdIn.bounds {o : Int} {t s : Nat} {id kd sd : Int} {op : Option Addr} {cp : Nat} {d u : Int} (h : CmdIn o t s id kd sd op cp d u) : 1 ≤ o ∧ o ≤ 5 ∧ t ≤ 1000 ∧ s ≤ 1000 := by
  cases h <;> omega

set_option maxHeartbeats 4000000 in
theorem commandOk_in (o : Int) (t s : Nat) (id kd sd : Int) (op : Option Addr) (cp : Nat) (d u : Int) (h : CmdIn o t s id kd sd op cp d u) (w : World) :
    Calls Try.prog 38 #[cmdV o t s id kd sd op cp d u] w fun e w' => e = .returned (.bool true) ∧ Below w.heap.size w w' := by
  have HX := hide (BoxS.new w #[.int .i64 o, .int .i64 t, .int .i64 s, .int .i64 id, .int .i64 kd, .int .i64 sd, .int .i64 0, .int .i64 0, .slice none 0 0, .string ⟨#[]⟩, .slice op 0 cp, .int .i64 0, .int .i64 d, .int .i64 u] 60)
  unfold cmdV
  cases h with
  | open_ =>
    go_enter Try.func38, Try.ntmps38
    go_wp2_with (go_at_call 23; refine (l01In_yes _ _ _ (by omega) (by omega) _).mono ?_; rintro e w' ⟨rfl, rfl⟩)
    refine (l13Blank_zero _).mono ?_
    rintro e w1 ⟨rfl, hb1⟩
    have HX1 := hide (HX.out.call hb1)
    have c0 := HX1.out.cell 0 rfl
    have c1 := HX1.out.cell 1 rfl
    have c2 := HX1.out.cell 2 rfl
    have c12 := HX1.out.cell 12 rfl
    have c13 := HX1.out.cell 13 rfl
    clear hb1
    go_wp2_with fail
    go_ret
    exact ⟨rfl, HX1.out.1⟩
  | send _ _ _ _ ht hs =>
    go_enter Try.func38, Try.ntmps38
    go_wp2_with (go_at_call 23; refine (l01In_yes _ _ _ (by omega) (by omega) _).mono ?_; rintro e w' ⟨rfl, rfl⟩)
    refine (l09Body_create 0 op cp _).mono ?_
    rintro e w1 ⟨rfl, hb1⟩
    have HX1 := hide (HX.out.call hb1)
    have c3 := HX1.out.cell 3 rfl
    have c10 := HX1.out.cell 10 rfl
    have c11 := HX1.out.cell 11 rfl
    clear hb1
    go_wp2_with fail
    go_ret
    exact ⟨rfl, HX1.out.1⟩
  | receive _ _ n ht hs hn =>
    have hmod : (2 * (n : Int) + 1).tmod 2 = 1 := by rw [Int.tmod_eq_emod_of_nonneg (by omega)]; omega
    have hmod2 : (2 * (n : Int) + 1) % 2 = 1 := by omega
    go_enter Try.func38, Try.ntmps38
    go_wp2_with (go_at_call 23; refine (l01In_yes _ _ _ (by omega) (by omega) _).mono ?_; rintro e w' ⟨rfl, rfl⟩)
    refine (eventOk_create (2 * (n : Int) + 1) (by omega) (by omega) none 0 _).mono ?_
    rintro e w1 ⟨rfl, hb1⟩
    have HX1 := hide (HX.out.call hb1)
    have c3 := HX1.out.cell 3 rfl
    clear hb1
    go_wp2_with fail
    go_ret
    exact ⟨rfl, HX1.out.1⟩
  | acked _ _ dn un ht hs hd hd2 hu =>
    go_enter Try.func38, Try.ntmps38
    go_wp2_with (go_at_call 23; refine (l01In_yes _ _ _ (by omega) (by omega) _).mono ?_; rintro e w' ⟨rfl, rfl⟩)
    refine (l13Blank_zero _).mono ?_
    rintro e w1 ⟨rfl, hb1⟩
    have HX1 := hide (HX.out.call hb1)
    have c0 := HX1.out.cell 0 rfl
    have c12 := HX1.out.cell 12 rfl
    have c13 := HX1.out.cell 13 rfl
    clear hb1
    go_wp2_with (go_at_call 23; refine (l01In_yes _ _ _ (by omega) (by omega) _).mono ?_; rintro e w' ⟨rfl, rfl⟩)
    go_ret
    exact ⟨rfl, HX1.out.1⟩
  | members _ _ ht hs =>
    go_enter Try.func38, Try.ntmps38
    go_wp2_with (go_at_call 23; refine (l01In_yes _ _ _ (by omega) (by omega) _).mono ?_; rintro e w' ⟨rfl, rfl⟩)
    refine (l13Blank_zero _).mono ?_
    rintro e w1 ⟨rfl, hb1⟩
    have HX1 := hide (HX.out.call hb1)
    have c0 := HX1.out.cell 0 rfl
    have c12 := HX1.out.cell 12 rfl
    have c13 := HX1.out.cell 13 rfl
    clear hb1
    go_wp2_with fail
    go_ret
    exact ⟨rfl, HX1.out.1⟩

/-- The result of CommandText: a short text, and true. -/
def CtxPost (w : World) (e : Ending) (w' : World) : Prop := ∃ z : ByteArray, z.size ≤ 120 ∧ e = .returned (.tuple #[.string z, .bool true]) ∧ Below w.heap.size w w'

set_option maxHeartbeats 4000000 in
theorem commandText_in (o : Nat) (t s : Nat) (id kd sd : Int) (op : Option Addr) (cp : Nat) (d u : Int) (h : CmdIn (o : Int) t s id kd sd op cp d u) (w : World) :
    Calls Try.prog 31 #[cmdV (o : Int) t s id kd sd op cp d u] w fun e w' => CtxPost w e w' := by
  have hb : o ≤ 5 ∧ t ≤ 1000 ∧ s ≤ 1000 := by have := h.bounds; omega
  obtain ⟨ho, ht, hs⟩ := hb
  obtain ⟨KO, so, ko⟩ := byte_named o (by omega)
  obtain ⟨VT, st, vt⟩ := var_named t (by omega)
  obtain ⟨VS, ss, vs⟩ := var_named s (by omega)
  obtain ⟨A1, a1, f1⟩ := cat_named Try.prog KO VT (by omega)
  obtain ⟨A2, a2, f2⟩ := cat_named Try.prog A1 VS (by omega)
  have HKO := hide ko
  have HVT := hide vt
  have HVS := hide vs
  have hs2 : A2.size ≤ 21 := by omega
  have HX := hide (BoxS.new w #[.int .i64 (o : Int), .int .i64 t, .int .i64 s, .int .i64 id, .int .i64 kd, .int .i64 sd, .int .i64 0, .int .i64 0, .slice none 0 0, .string ⟨#[]⟩, .slice op 0 cp, .int .i64 0, .int .i64 d, .int .i64 u] 60)
  have HOK := hide (fun w => commandOk_in (o : Int) t s id kd sd op cp d u h w)
  have HIN := hide h
  unfold cmdV at HOK ⊢
  clear ko vt vs a1 a2 h so st ss
  go_enter Try.func31, Try.ntmps31
  go_wp2_with fail
  refine (HOK.out _).mono ?_
  rintro e w1 ⟨rfl, hb1⟩
  have HX1 := hide (HX.out.call hb1)
  clear hb1
  go_wp2_with fail
  refine wp_region_held_drew (S := BoxS w #[.int .i64 (o : Int), .int .i64 t, .int .i64 s, .int .i64 id, .int .i64 kd, .int .i64 sd, .int .i64 0, .int .i64 0, .slice none 0 0, .string ⟨#[]⟩, .slice op 0 cp, .int .i64 0, .int .i64 d, .int .i64 u] 60) (by kernel_rfl) HX1.out.drew (fun hHeld => ?_)
  refine wpAnyH_take (i := 0) (v := ?_) rfl (by kernel_rfl) (by kernel_rfl) (by kernel_rfl) (fun _ _ _ h => h) (Or.inl ⟨by rfl, ?_⟩) (by assumption) ?_; rotate_left
  · (intro wz hSw; have z0 := BoxS.cell hSw 0 rfl; have z1 := BoxS.cell hSw 1 rfl; have z2 := BoxS.cell hSw 2 rfl; clear hSw; go_simp; first | done | with_reducible rfl)
  try simp only [Act.put, List.getElem_toArray, List.getElem_cons_zero, List.getElem_cons_succ, List.setIfInBounds_toArray, List.set_cons_zero, List.set_cons_succ]
  refine wpAnyH_take (i := 1) (v := ?_) rfl (by kernel_rfl) (by kernel_rfl) (by kernel_rfl) (fun _ _ _ h => h) (Or.inl ⟨by rfl, ?_⟩) (by assumption) ?_; rotate_left
  · (intro wz hSw; have z0 := BoxS.cell hSw 0 rfl; have z1 := BoxS.cell hSw 1 rfl; have z2 := BoxS.cell hSw 2 rfl; clear hSw; go_simp; first | done | with_reducible rfl)
  try simp only [Act.put, List.getElem_toArray, List.getElem_cons_zero, List.getElem_cons_succ, List.setIfInBounds_toArray, List.set_cons_zero, List.set_cons_succ]
  refine wpAnyH_take (i := 3) (v := ?_) rfl (by kernel_rfl) (by kernel_rfl) (by kernel_rfl) (fun _ _ _ h => h) (Or.inl ⟨by rfl, ?_⟩) (by assumption) ?_; rotate_left
  · (intro wz hSw; have z0 := BoxS.cell hSw 0 rfl; have z1 := BoxS.cell hSw 1 rfl; have z2 := BoxS.cell hSw 2 rfl; clear hSw; go_simp; first | done | with_reducible rfl)
  try simp only [Act.put, List.getElem_toArray, List.getElem_cons_zero, List.getElem_cons_succ, List.setIfInBounds_toArray, List.set_cons_zero, List.set_cons_succ]
  refine wpAnyH_take (i := 4) (v := ?_) rfl (by kernel_rfl) (by kernel_rfl) (by kernel_rfl) (fun _ _ _ h => h) (Or.inl ⟨by rfl, ?_⟩) (by assumption) ?_; rotate_left
  · (intro wz hSw; have z0 := BoxS.cell hSw 0 rfl; have z1 := BoxS.cell hSw 1 rfl; have z2 := BoxS.cell hSw 2 rfl; clear hSw; go_simp; first | done | with_reducible rfl)
  try simp only [Act.put, List.getElem_toArray, List.getElem_cons_zero, List.getElem_cons_succ, List.setIfInBounds_toArray, List.set_cons_zero, List.set_cons_succ]
  refine wpAnyH_take (i := 7) (v := ?_) rfl (by kernel_rfl) (by kernel_rfl) (by kernel_rfl) (fun _ _ _ h => h) (Or.inl ⟨by rfl, ?_⟩) (by assumption) ?_; rotate_left
  · (intro wz hSw; have z0 := BoxS.cell hSw 0 rfl; have z1 := BoxS.cell hSw 1 rfl; have z2 := BoxS.cell hSw 2 rfl; clear hSw; go_simp; first | done | with_reducible rfl)
  try simp only [Act.put, List.getElem_toArray, List.getElem_cons_zero, List.getElem_cons_succ, List.setIfInBounds_toArray, List.set_cons_zero, List.set_cons_succ]
  refine wpAnyH_take (i := 8) (v := ?_) rfl (by kernel_rfl) (by kernel_rfl) (by kernel_rfl) (fun _ _ _ h => h) (Or.inl ⟨by rfl, ?_⟩) (by assumption) ?_; rotate_left
  · (intro wz hSw; have z0 := BoxS.cell hSw 0 rfl; have z1 := BoxS.cell hSw 1 rfl; have z2 := BoxS.cell hSw 2 rfl; clear hSw; go_simp; first | done | with_reducible rfl)
  try simp only [Act.put, List.getElem_toArray, List.getElem_cons_zero, List.getElem_cons_succ, List.setIfInBounds_toArray, List.set_cons_zero, List.set_cons_succ]
  refine wpAnyH_ready (rs := [2]) (by kernel_rfl) (by simp) ?_
  refine AllReadyH.cons rfl (fun K hK => ?_) ?_
  · rw [if_pos (by rfl)]
    go_simp
    go_at_call 39
    refine (HKO.out _).mono ?_
    rintro r w92 ⟨rfl, hb92⟩
    try go_simp
    refine hK.out _ _ ?_ (fun hHeld => ?_)
    · exact BoxS.call hHeld hb92
    clear hK K
    try simp only [Act.put, List.getElem_toArray, List.getElem_cons_zero, List.getElem_cons_succ, List.setIfInBounds_toArray, List.set_cons_zero, List.set_cons_succ]
    clear hb92
    refine wpAnyH_ready (rs := [5]) (by kernel_rfl) (by simp) ?_
    refine AllReadyH.cons rfl (fun K hK => ?_) ?_
    · rw [if_pos (by rfl)]
      go_simp
      go_at_call 40
      refine (HVT.out _).mono ?_
      rintro r w95 ⟨rfl, hb95⟩
      try go_simp
      refine hK.out _ _ ?_ (fun hHeld => ?_)
      · exact BoxS.call hHeld hb95
      clear hK K
      try simp only [Act.put, List.getElem_toArray, List.getElem_cons_zero, List.getElem_cons_succ, List.setIfInBounds_toArray, List.set_cons_zero, List.set_cons_succ]
      clear hb95
      refine wpAnyH_take (i := 6) (v := ?_) rfl (by kernel_rfl) (by kernel_rfl) (by kernel_rfl) (fun _ _ _ h => h) (Or.inl ⟨by rfl, ?_⟩) (by assumption) ?_; rotate_left
      · (intro wz hSw; have z0 := BoxS.cell hSw 0 rfl; have z1 := BoxS.cell hSw 1 rfl; have z2 := BoxS.cell hSw 2 rfl; clear hSw; go_simp; first | done | with_reducible rfl)
      try simp only [Act.put, List.getElem_toArray, List.getElem_cons_zero, List.getElem_cons_succ, List.setIfInBounds_toArray, List.set_cons_zero, List.set_cons_succ]
      refine wpAnyH_ready (rs := [9]) (by kernel_rfl) (by simp) ?_
      refine AllReadyH.cons rfl (fun K hK => ?_) ?_
      · rw [if_pos (by rfl)]
        go_simp
        go_at_call 40
        refine (HVS.out _).mono ?_
        rintro r w99 ⟨rfl, hb99⟩
        try go_simp
        refine hK.out _ _ ?_ (fun hHeld => ?_)
        · exact BoxS.call hHeld hb99
        clear hK K
        try simp only [Act.put, List.getElem_toArray, List.getElem_cons_zero, List.getElem_cons_succ, List.setIfInBounds_toArray, List.set_cons_zero, List.set_cons_succ]
        clear hb99
        refine wpAnyH_take (i := 10) (v := ?_) rfl (by kernel_rfl) (by kernel_rfl) (by kernel_rfl) (fun _ _ _ h => h) (Or.inl ⟨by rfl, ?_⟩) (by assumption) ?_; rotate_left
        · (intro wz hSw; have z0 := BoxS.cell hSw 0 rfl; have z1 := BoxS.cell hSw 1 rfl; have z2 := BoxS.cell hSw 2 rfl; clear hSw; go_simp; first | done | with_reducible rfl)
        try simp only [Act.put, List.getElem_toArray, List.getElem_cons_zero, List.getElem_cons_succ, List.setIfInBounds_toArray, List.set_cons_zero, List.set_cons_succ]
        refine wpAnyH_take (i := 11) (v := ?_) rfl (by kernel_rfl) (by kernel_rfl) (by kernel_rfl) (fun _ _ _ h => h) (Or.inl ⟨by rfl, ?_⟩) (by assumption) ?_; rotate_left
        · (intro wz hSw; have z0 := BoxS.cell hSw 0 rfl; have z1 := BoxS.cell hSw 1 rfl; have z2 := BoxS.cell hSw 2 rfl; clear hSw; go_simp; first | done | with_reducible rfl)
        try simp only [Act.put, List.getElem_toArray, List.getElem_cons_zero, List.getElem_cons_succ, List.setIfInBounds_toArray, List.set_cons_zero, List.set_cons_succ]
        refine wpAnyH_done (by kernel_rfl) ?_ _
        have HX2 := hide hHeld
        clear hHeld
        have hin := HIN.out
        generalize hoo : (o : Int) = oo at hin
        cases hin with
        | open_ =>
          obtain rfl : o = 1 := by omega
          have c0 := HX2.out.cell 0 rfl
          clear hoo
          go_wp2_with fail
          exact bodyPost_ret (v := .tuple #[.string A2, .bool true]) (by simp [results, Try.results31, go_sem]) rfl ⟨_, by omega, rfl, HX2.out.1⟩
        | send _ _ _ _ _ _ =>
          obtain rfl : o = 2 := by omega
          have c0 := HX2.out.cell 0 rfl
          have c3 := HX2.out.cell 3 rfl
          have c4 := HX2.out.cell 4 rfl
          have c5 := HX2.out.cell 5 rfl
          have c6 := HX2.out.cell 6 rfl
          have c7 := HX2.out.cell 7 rfl
          have c8 := HX2.out.cell 8 rfl
          have c9 := HX2.out.cell 9 rfl
          have c10 := HX2.out.cell 10 rfl
          have c11 := HX2.out.cell 11 rfl
          clear hoo
          go_wp2_with fail
          refine (l09BodyText_create 0 op cp _).mono ?_
          rintro r w98 ⟨Z, hZ, rfl, hb98⟩
          obtain ⟨B1, b1, g1⟩ := cat_named Try.prog A2 Z (by omega)
          have HX3 := hide (HX2.out.call hb98)
          clear hb98
          go_wp2_with fail
          exact bodyPost_ret (v := .tuple #[.string B1, .bool true]) (by simp [results, Try.results31, go_sem]) rfl ⟨_, by omega, rfl, HX3.out.1⟩
        | receive _ _ n _ _ hn =>
          obtain rfl : o = 3 := by omega
          have c0 := HX2.out.cell 0 rfl
          have c3 := HX2.out.cell 3 rfl
          have c4 := HX2.out.cell 4 rfl
          have c5 := HX2.out.cell 5 rfl
          have c6 := HX2.out.cell 6 rfl
          have c7 := HX2.out.cell 7 rfl
          have c8 := HX2.out.cell 8 rfl
          have c9 := HX2.out.cell 9 rfl
          have c10 := HX2.out.cell 10 rfl
          have c11 := HX2.out.cell 11 rfl
          have het := fun w => eventText_create (2 * n + 1) (by omega) (by omega) none 0 w
          have ecast : ((2 * n + 1 : Nat) : Int) = 2 * (n : Int) + 1 := by omega
          rw [ecast] at het
          have HET := hide het
          clear hoo het ecast
          go_wp2_with fail
          refine (HET.out _).mono ?_
          rintro r w98 ⟨Z, hZ, rfl, hb98⟩
          obtain ⟨H0, sh, h0⟩ := short_named Z (by omega)
          obtain ⟨B1, b1, g1⟩ := cat_named Try.prog A2 H0 (by omega)
          have HX3 := hide (HX2.out.call hb98)
          have HH0 := hide h0
          clear hb98 h0
          go_wp2_with fail
          refine (HH0.out _).mono ?_
          rintro r w97 ⟨rfl, hb97⟩
          have HX4 := hide (HX3.out.call hb97)
          clear hb97
          go_wp2_with fail
          exact bodyPost_ret (v := .tuple #[.string B1, .bool true]) (by simp [results, Try.results31, go_sem]) rfl ⟨_, by omega, rfl, HX4.out.1⟩
        | acked _ _ dn un _ _ hd hd2 hu =>
          obtain rfl : o = 4 := by omega
          have c0 := HX2.out.cell 0 rfl
          obtain ⟨VD, sd1, vd⟩ := var_named dn (by omega)
          obtain ⟨VU, su1, vu⟩ := var_named un (by omega)
          obtain ⟨B1, b1, g1⟩ := cat_named Try.prog A2 VD (by omega)
          obtain ⟨B2, b2, g2⟩ := cat_named Try.prog B1 VU (by omega)
          have HVD := hide vd
          have HVU := hide vu
          clear hoo vd vu
          go_wp2_with fail
          refine wp_region_held_drew (S := BoxS w #[.int .i64 ((4 : Nat) : Int), .int .i64 t, .int .i64 s, .int .i64 0, .int .i64 0, .int .i64 0, .int .i64 0, .int .i64 0, .slice none 0 0, .string ⟨#[]⟩, .slice none 0 0, .int .i64 0, .int .i64 (dn : Int), .int .i64 (un : Int)] 60) (by kernel_rfl) HX2.out.drew (fun hHeld => ?_)
          refine wpAnyH_take (i := 0) (v := ?_) rfl (by kernel_rfl) (by kernel_rfl) (by kernel_rfl) (fun _ _ _ h => h) (Or.inl ⟨by rfl, ?_⟩) (by assumption) ?_; rotate_left
          · (intro wz hSw; have z12 := BoxS.cell hSw 12 rfl; have z13 := BoxS.cell hSw 13 rfl; clear hSw; go_simp; first | done | with_reducible rfl)
          try simp only [Act.put, List.getElem_toArray, List.getElem_cons_zero, List.getElem_cons_succ, List.setIfInBounds_toArray, List.set_cons_zero, List.set_cons_succ]
          refine wpAnyH_take (i := 1) (v := ?_) rfl (by kernel_rfl) (by kernel_rfl) (by kernel_rfl) (fun _ _ _ h => h) (Or.inl ⟨by rfl, ?_⟩) (by assumption) ?_; rotate_left
          · (intro wz hSw; have z12 := BoxS.cell hSw 12 rfl; have z13 := BoxS.cell hSw 13 rfl; clear hSw; go_simp; first | done | with_reducible rfl)
          try simp only [Act.put, List.getElem_toArray, List.getElem_cons_zero, List.getElem_cons_succ, List.setIfInBounds_toArray, List.set_cons_zero, List.set_cons_succ]
          refine wpAnyH_take (i := 2) (v := ?_) rfl (by kernel_rfl) (by kernel_rfl) (by kernel_rfl) (fun _ _ _ h => h) (Or.inl ⟨by rfl, ?_⟩) (by assumption) ?_; rotate_left
          · (intro wz hSw; have z12 := BoxS.cell hSw 12 rfl; have z13 := BoxS.cell hSw 13 rfl; clear hSw; go_simp; first | done | with_reducible rfl)
          try simp only [Act.put, List.getElem_toArray, List.getElem_cons_zero, List.getElem_cons_succ, List.setIfInBounds_toArray, List.set_cons_zero, List.set_cons_succ]
          refine wpAnyH_take (i := 5) (v := ?_) rfl (by kernel_rfl) (by kernel_rfl) (by kernel_rfl) (fun _ _ _ h => h) (Or.inl ⟨by rfl, ?_⟩) (by assumption) ?_; rotate_left
          · (intro wz hSw; have z12 := BoxS.cell hSw 12 rfl; have z13 := BoxS.cell hSw 13 rfl; clear hSw; go_simp; first | done | with_reducible rfl)
          try simp only [Act.put, List.getElem_toArray, List.getElem_cons_zero, List.getElem_cons_succ, List.setIfInBounds_toArray, List.set_cons_zero, List.set_cons_succ]
          refine wpAnyH_take (i := 6) (v := ?_) rfl (by kernel_rfl) (by kernel_rfl) (by kernel_rfl) (fun _ _ _ h => h) (Or.inl ⟨by rfl, ?_⟩) (by assumption) ?_; rotate_left
          · (intro wz hSw; have z12 := BoxS.cell hSw 12 rfl; have z13 := BoxS.cell hSw 13 rfl; clear hSw; go_simp; first | done | with_reducible rfl)
          try simp only [Act.put, List.getElem_toArray, List.getElem_cons_zero, List.getElem_cons_succ, List.setIfInBounds_toArray, List.set_cons_zero, List.set_cons_succ]
          refine wpAnyH_ready (rs := [3]) (by kernel_rfl) (by simp) ?_
          refine AllReadyH.cons rfl (fun K hK => ?_) ?_
          · rw [if_pos (by rfl)]
            go_simp
            go_at_call 40
            refine (HVD.out _).mono ?_
            rintro r w93 ⟨rfl, hb93⟩
            try go_simp
            refine hK.out _ _ ?_ (fun hHeld => ?_)
            · exact BoxS.call hHeld hb93
            clear hK K
            try simp only [Act.put, List.getElem_toArray, List.getElem_cons_zero, List.getElem_cons_succ, List.setIfInBounds_toArray, List.set_cons_zero, List.set_cons_succ]
            clear hb93
            refine wpAnyH_take (i := 4) (v := ?_) rfl (by kernel_rfl) (by kernel_rfl) (by kernel_rfl) (fun _ _ _ h => h) (Or.inl ⟨by rfl, ?_⟩) (by assumption) ?_; rotate_left
            · (intro wz hSw; have z12 := BoxS.cell hSw 12 rfl; have z13 := BoxS.cell hSw 13 rfl; clear hSw; go_simp; first | done | with_reducible rfl)
            try simp only [Act.put, List.getElem_toArray, List.getElem_cons_zero, List.getElem_cons_succ, List.setIfInBounds_toArray, List.set_cons_zero, List.set_cons_succ]
            refine wpAnyH_ready (rs := [7]) (by kernel_rfl) (by simp) ?_
            refine AllReadyH.cons rfl (fun K hK => ?_) ?_
            · rw [if_pos (by rfl)]
              go_simp
              go_at_call 40
              refine (HVU.out _).mono ?_
              rintro r w97 ⟨rfl, hb97⟩
              try go_simp
              refine hK.out _ _ ?_ (fun hHeld => ?_)
              · exact BoxS.call hHeld hb97
              clear hK K
              try simp only [Act.put, List.getElem_toArray, List.getElem_cons_zero, List.getElem_cons_succ, List.setIfInBounds_toArray, List.set_cons_zero, List.set_cons_succ]
              clear hb97
              refine wpAnyH_take (i := 8) (v := ?_) rfl (by kernel_rfl) (by kernel_rfl) (by kernel_rfl) (fun _ _ _ h => h) (Or.inl ⟨by rfl, ?_⟩) (by assumption) ?_; rotate_left
              · (intro wz hSw; have z12 := BoxS.cell hSw 12 rfl; have z13 := BoxS.cell hSw 13 rfl; clear hSw; go_simp; first | done | with_reducible rfl)
              try simp only [Act.put, List.getElem_toArray, List.getElem_cons_zero, List.getElem_cons_succ, List.setIfInBounds_toArray, List.set_cons_zero, List.set_cons_succ]
              refine wpAnyH_take (i := 9) (v := ?_) rfl (by kernel_rfl) (by kernel_rfl) (by kernel_rfl) (fun _ _ _ h => h) (Or.inl ⟨by rfl, ?_⟩) (by assumption) ?_; rotate_left
              · (intro wz hSw; have z12 := BoxS.cell hSw 12 rfl; have z13 := BoxS.cell hSw 13 rfl; clear hSw; go_simp; first | done | with_reducible rfl)
              try simp only [Act.put, List.getElem_toArray, List.getElem_cons_zero, List.getElem_cons_succ, List.setIfInBounds_toArray, List.set_cons_zero, List.set_cons_succ]
              refine wpAnyH_take (i := 10) (v := ?_) rfl (by kernel_rfl) (by kernel_rfl) (by kernel_rfl) (fun _ _ _ h => h) (Or.inl ⟨by rfl, ?_⟩) (by assumption) ?_; rotate_left
              · (intro wz hSw; have z12 := BoxS.cell hSw 12 rfl; have z13 := BoxS.cell hSw 13 rfl; clear hSw; go_simp; first | done | with_reducible rfl)
              try simp only [Act.put, List.getElem_toArray, List.getElem_cons_zero, List.getElem_cons_succ, List.setIfInBounds_toArray, List.set_cons_zero, List.set_cons_succ]
              refine wpAnyH_done (by kernel_rfl) ?_ _
              have HX3 := hide hHeld
              clear hHeld
              go_wp2_with fail
              exact bodyPost_ret (v := .tuple #[.string B2, .bool true]) (by simp [results, Try.results31, go_sem]) rfl ⟨_, by omega, rfl, HX3.out.1⟩
            exact AllReadyH.nil
          exact AllReadyH.nil
        | members _ _ _ _ =>
          obtain rfl : o = 5 := by omega
          have c0 := HX2.out.cell 0 rfl
          clear hoo
          go_wp2_with fail
          exact bodyPost_ret (v := .tuple #[.string A2, .bool true]) (by simp [results, Try.results31, go_sem]) rfl ⟨_, by omega, rfl, HX2.out.1⟩
      exact AllReadyH.nil
    exact AllReadyH.nil
  exact AllReadyH.nil

end Go.Proofs.Ytdollofmjpgppaa
