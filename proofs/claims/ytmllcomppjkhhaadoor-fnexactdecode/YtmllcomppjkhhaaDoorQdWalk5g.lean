/-
  Walks and mathematics of Walk5g.
-/
import Derived.Test.YtmllcomppjkhhaaDoorQdWalk5f
import Derived.Test.YtmllcomppjkhhaaDoorQdHeldMore
namespace Go.Proofs.YtmllcomppjkhhaaDoor
open Go.RowKit P1 P9 K
attribute [local go_sem ↓] Go.wp_at_zero Go.wp_at_succ
set_option linter.unusedVariables false
set_option linter.unusedSimpArgs false

def EtS (w : World) (T kn : Nat) (s : ByteArray) (w' : World) : Prop :=
  Below w.heap.size w w' ∧ w.heap.size < w'.heap.size ∧ w'.cell? ⟨w.heap.size, 0, none⟩ = some (.int .i64 (T : Int)) ∧ w'.cell? ⟨w.heap.size, 1, none⟩ = some (.int .i64 (kn : Int)) ∧ w'.cell? ⟨w.heap.size, 2, none⟩ = some (.string s)

theorem EtS.cells {w : World} {T kn : Nat} {s : ByteArray} {w' : World} (h : EtS w T kn s w') : w'.cell? ⟨w.heap.size, 0, none⟩ = some (.int .i64 (T : Int)) ∧ w'.cell? ⟨w.heap.size, 1, none⟩ = some (.int .i64 (kn : Int)) ∧ w'.cell? ⟨w.heap.size, 2, none⟩ = some (.string s) := h.2.2

theorem EtS.call {w : World} {T kn : Nat} {s : ByteArray} {w' w'' : World} (h : EtS w T kn s w') (hb : Below w'.heap.size w' w'') : EtS w T kn s w'' :=
  ⟨h.1.trans (hb.mono (Nat.le_of_lt h.2.1)), Nat.lt_of_lt_of_le h.2.1 hb.size, (hb.cell (p := ⟨w.heap.size, 0, none⟩) h.2.1).trans h.2.2.1, (hb.cell (p := ⟨w.heap.size, 1, none⟩) h.2.1).trans h.2.2.2.1, (hb.cell (p := ⟨w.heap.size, 2, none⟩) h.2.1).trans h.2.2.2.2⟩

theorem EtS.alloc {w : World} {T kn : Nat} {s : ByteArray} {w' : World} (h : EtS w T kn s w') (o : Obj) : EtS w T kn s (w'.alloc o) := h.call ((Below.refl _ _).alloc (Nat.le_refl _) _)

theorem EtS.drew {w : World} {T kn : Nat} {s : ByteArray} {w' : World} (h : EtS w T kn s w') : EtS w T kn s w'.drew := h.call (Below.refl _ _).drew

set_option maxHeartbeats 4000000 in
theorem specEntryText_any (i : Int) (e : EntV) (hs : e.data.size ≤ 1048576) (w : World) :
    Calls Tryd.prog 34 #[.int .i64 i, eval e] w fun r w' => r = .returned (etVal i e) ∧ Below w.heap.size w w' := by
  cases hok : e.ok with
  | false =>
    rw [etVal_no (by rw [hok]; rfl)]
    have HOK := hide hok
    clear hok
    obtain ⟨t, k, s⟩ := e
    simp only [eval] at hs ⊢
    have HB0 := hide ((Below.refl w.heap.size w).alloc (Nat.le_refl _) (.cells #[.int .i64 t, .int .i64 k, .string s] 45))
    go_enter Tryd.func34, Tryd.ntmps34
    go_wp2_with fail
    refine (specEntryOk_any ⟨t, k, s⟩ hs _).mono ?_
    rw [HOK.out]
    rintro r w1 ⟨rfl, hb1⟩
    go_wp2_with fail
    go_ret2
    exact ⟨rfl, HB0.out.trans (hb1.mono (by simp))⟩
  | true =>
    by_cases hi : 1 ≤ i ∧ i ≤ 1000000
    · obtain ⟨hi1, hi2⟩ := hi
      rw [etVal_yes (by rw [hok]; simp [indexOk, hi1, hi2])]
      obtain ⟨t, k, s⟩ := e
      simp only [eval] at hs ⊢
      obtain ⟨I, rfl⟩ := Int.eq_ofNat_of_zero_le (show 0 ≤ i by omega)
      have hok' := hok
      simp only [EntV.ok, entryOk, termOk, Bool.and_eq_true, decide_eq_true_eq] at hok'
      obtain ⟨hck, ht0, ht1⟩ := hok'
      obtain ⟨T, rfl⟩ := Int.eq_ofNat_of_zero_le ht0
      obtain ⟨hk0, hk1, hk2⟩ := contOk_len hck
      obtain ⟨kn, rfl⟩ := Int.eq_ofNat_of_zero_le (show 0 ≤ k by omega)
      have HB0 := hide ((Below.refl w.heap.size w).alloc (Nat.le_refl _) (.cells #[.int .i64 T, .int .i64 kn, .string s] 45))
      have hwk : IntKind.u8.wrap (kn : Int) = (kn : Int) := by rw [IntKind.wrap_u8]; omega
      have HOK := hide hok
      clear hok hck hk0
      have hI : I ≤ 1000000000 := by omega
      have hT : T ≤ 1000000000 := by omega
      obtain ⟨A1, A2, A3, A4, f1, f2, f3, f4, hA⟩ := cat_facts Tryd.prog I T (UInt8.ofNat kn) s hs
      have HA := hide hA
      clear hA
      have fc : ∀ (wx : World) (g : Nat), wx.cell? ⟨g, 0, none⟩ = some (.int .u8 (kn : Int)) → (convert 59 9 (.slice (some ⟨g, 0, none⟩) 1 1)).run Tryd.prog wx = .ok (.string ⟨#[UInt8.ofNat kn]⟩) wx := fun wx g hg => conv_one wx g (UInt8.ofNat kn) (by rw [toNat_ofNat_small _ (by omega)]; exact hg)
      go_enter Tryd.func34, Tryd.ntmps34
      go_wp2_with fail
      refine (specEntryOk_any ⟨T, kn, s⟩ hs _).mono ?_
      rw [HOK.out]
      rintro r w1 ⟨rfl, hb1⟩
      have hE : EtS w T kn s w1 := ⟨HB0.out.trans (hb1.mono (by simp)), by have := hb1.size; simp at this; omega, (hb1.cell (by simp)).trans (by simp), (hb1.cell (by simp)).trans (by simp), (hb1.cell (by simp)).trans (by simp)⟩
      have HE := hide hE
      clear hb1 hE
      go_wp2_with (go_at_call 19; refine (l01In_yes _ _ _ (by omega) (by omega) _).mono ?_; rintro e w' ⟨rfl, rfl⟩)
      refine wp_region_held_drew (S := EtS w T kn s) (by kernel_rfl) HE.out.drew (fun hHeld => ?_)
      refine wpAnyH_take (i := 0) (v := ?_) rfl (by kernel_rfl) (by kernel_rfl) (by kernel_rfl) (fun _ _ _ h => h) (Or.inl ⟨by rfl, ?_⟩) (by assumption) ?_; rotate_left
      · (intro wz hSw; have hSc := EtS.cells hSw; obtain ⟨z0, z1, z2⟩ := hSc; clear hSw; go_simp; first | done | with_reducible rfl)
      try simp only [Act.put, List.setIfInBounds_toArray, List.set_cons_zero, List.set_cons_succ]
      refine wpAnyH_take (i := 3) (v := ?_) rfl (by kernel_rfl) (by kernel_rfl) (by kernel_rfl) (fun _ _ _ h => h) (Or.inl ⟨by rfl, ?_⟩) (by assumption) ?_; rotate_left
      · (intro wz hSw; have hSc := EtS.cells hSw; obtain ⟨z0, z1, z2⟩ := hSc; clear hSw; go_simp; first | done | with_reducible rfl)
      try simp only [Act.put, List.setIfInBounds_toArray, List.set_cons_zero, List.set_cons_succ]
      refine wpAnyH_take (i := 4) (v := ?_) rfl (by kernel_rfl) (by kernel_rfl) (by kernel_rfl) (fun _ _ _ h => h) (Or.inl ⟨by rfl, ?_⟩) (by assumption) ?_; rotate_left
      · (intro wz hSw; have hSc := EtS.cells hSw; obtain ⟨z0, z1, z2⟩ := hSc; clear hSw; go_simp; first | done | with_reducible rfl)
      try simp only [Act.put, List.setIfInBounds_toArray, List.set_cons_zero, List.set_cons_succ]
      refine wpAnyH_take (i := 7) (v := ?_) rfl (by kernel_rfl) (by kernel_rfl) (by kernel_rfl) (fun _ _ _ h => h) (Or.inl ⟨by rfl, ?_⟩) (by assumption) ?_; rotate_left
      · (intro wz hSw; have hSc := EtS.cells hSw; obtain ⟨z0, z1, z2⟩ := hSc; clear hSw; go_simp; first | done | with_reducible rfl)
      try simp only [Act.put, List.setIfInBounds_toArray, List.set_cons_zero, List.set_cons_succ]
      refine wpAnyH_take (i := 8) (v := ?_) rfl (by kernel_rfl) (by kernel_rfl) (by kernel_rfl) (fun _ _ _ h => h) (Or.inl ⟨by rfl, ?_⟩) (by assumption) ?_; rotate_left
      · (intro wz hSw; have hSc := EtS.cells hSw; obtain ⟨z0, z1, z2⟩ := hSc; clear hSw; go_simp; first | done | with_reducible rfl)
      try simp only [Act.put, List.setIfInBounds_toArray, List.set_cons_zero, List.set_cons_succ]
      refine wpAnyH_take (i := 9) (v := ?_) rfl (by kernel_rfl) (by kernel_rfl) (by kernel_rfl) (fun _ _ _ h => h) (Or.inl ⟨by rfl, ?_⟩) (by assumption) ?_; rotate_left
      · (intro wz hSw; have hSc := EtS.cells hSw; obtain ⟨z0, z1, z2⟩ := hSc; clear hSw; go_simp; first | done | with_reducible rfl)
      try simp only [Act.put, List.setIfInBounds_toArray, List.set_cons_zero, List.set_cons_succ]
      refine wpAnyH_take (i := 13) (v := ?_) rfl (by kernel_rfl) (by kernel_rfl) (by kernel_rfl) (fun _ _ _ h => h) (Or.inl ⟨by rfl, ?_⟩) (by assumption) ?_; rotate_left
      · (intro wz hSw; have hSc := EtS.cells hSw; obtain ⟨z0, z1, z2⟩ := hSc; clear hSw; go_simp; first | done | with_reducible rfl)
      try simp only [Act.put, List.setIfInBounds_toArray, List.set_cons_zero, List.set_cons_succ]
      refine wpAnyH_take (i := 14) (v := ?_) rfl (by kernel_rfl) (by kernel_rfl) (by kernel_rfl) (fun _ _ _ h => h) (Or.inl ⟨by rfl, ?_⟩) (by assumption) ?_; rotate_left
      · (intro wz hSw; have hSc := EtS.cells hSw; obtain ⟨z0, z1, z2⟩ := hSc; clear hSw; go_simp; first | done | with_reducible rfl)
      try simp only [Act.put, List.setIfInBounds_toArray, List.set_cons_zero, List.set_cons_succ]
      refine wpAnyH_ready (rs := [1, 10]) (by kernel_rfl) (by simp) ?_
      refine AllReadyH.cons rfl (fun K hK => ?_) ?_
      · rw [if_pos (by rfl)]
        go_simp
        go_at_call 32
        refine (l01Var_any I hI _).mono ?_
        rintro r w11 ⟨rfl, hb11⟩
        try go_simp
        refine hK.out _ _ ?_ (fun hHeld => ?_)
        · exact EtS.call hHeld hb11
        clear hK K
        try simp only [Act.put, List.setIfInBounds_toArray, List.set_cons_zero, List.set_cons_succ]
        clear hb11
        refine wpAnyH_take (i := 2) (v := ?_) rfl (by kernel_rfl) (by kernel_rfl) (by kernel_rfl) (fun _ _ _ h => h) (Or.inl ⟨by rfl, ?_⟩) (by assumption) ?_; rotate_left
        · (intro wz hSw; have hSc := EtS.cells hSw; obtain ⟨z0, z1, z2⟩ := hSc; clear hSw; go_simp; first | done | with_reducible rfl)
        try simp only [Act.put, List.setIfInBounds_toArray, List.set_cons_zero, List.set_cons_succ]
        refine wpAnyH_ready (rs := [5, 10]) (by kernel_rfl) (by simp) ?_
        refine AllReadyH.cons rfl (fun K hK => ?_) ?_
        · rw [if_pos (by rfl)]
          go_simp
          go_at_call 32
          refine (l01Var_any T hT _).mono ?_
          rintro r w15 ⟨rfl, hb15⟩
          try go_simp
          refine hK.out _ _ ?_ (fun hHeld => ?_)
          · exact EtS.call hHeld hb15
          clear hK K
          try simp only [Act.put, List.setIfInBounds_toArray, List.set_cons_zero, List.set_cons_succ]
          clear hb15
          refine wpAnyH_take (i := 6) (v := ?_) rfl (by kernel_rfl) (by kernel_rfl) (by kernel_rfl) (fun _ _ _ h => h) (Or.inl ⟨by rfl, ?_⟩) (by assumption) ?_; rotate_left
          · (intro wz hSw; have hSc := EtS.cells hSw; obtain ⟨z0, z1, z2⟩ := hSc; clear hSw; go_simp; first | done | with_reducible rfl)
          try simp only [Act.put, List.setIfInBounds_toArray, List.set_cons_zero, List.set_cons_succ]
          refine wpAnyH_ready (rs := [10]) (by kernel_rfl) (by simp) ?_
          refine AllReadyH.cons rfl (fun K hK => ?_) ?_
          · rw [if_pos (by rfl)]
            go_simp
            refine hK.out _ _ ?_ (fun hHeld => ?_)
            · exact EtS.alloc hHeld _
            clear hK K
            try simp only [Act.put, List.setIfInBounds_toArray, List.set_cons_zero, List.set_cons_succ]
            refine held_more (S' := fun w' => EtS w T kn s w' ∧ w'.cell? ⟨w15.heap.size, 0, none⟩ = some (.int .u8 (kn : Int))) (fun _ h => h.1) _ _ _ _ ?_
            replace hHeld : (fun w' => EtS w T kn s w' ∧ w'.cell? ⟨w15.heap.size, 0, none⟩ = some (.int .u8 (kn : Int))) _ := ⟨hHeld, by simp [hwk]⟩
            refine wpAnyH_take (i := 11) (v := ?_) rfl (by kernel_rfl) (by kernel_rfl) (by kernel_rfl) (fun _ _ _ h => h) (Or.inl ⟨by rfl, ?_⟩) (by assumption) ?_; rotate_left
            · (intro wz hSw; have hSc := EtS.cells hSw.1; have z3 := hSw.2; obtain ⟨z0, z1, z2⟩ := hSc; clear hSw; go_simp; first | done | with_reducible rfl)
            try simp only [Act.put, List.setIfInBounds_toArray, List.set_cons_zero, List.set_cons_succ]
            refine wpAnyH_take (i := 12) (v := ?_) rfl (by kernel_rfl) (by kernel_rfl) (by kernel_rfl) (fun _ _ _ h => h) (Or.inl ⟨by rfl, ?_⟩) (by assumption) ?_; rotate_left
            · (intro wz hSw; have hSc := EtS.cells hSw.1; have z3 := hSw.2; obtain ⟨z0, z1, z2⟩ := hSc; clear hSw; go_simp; first | done | with_reducible rfl)
            try simp only [Act.put, List.setIfInBounds_toArray, List.set_cons_zero, List.set_cons_succ]
            refine wpAnyH_take (i := 15) (v := ?_) rfl (by kernel_rfl) (by kernel_rfl) (by kernel_rfl) (fun _ _ _ h => h) (Or.inl ⟨by rfl, ?_⟩) (by assumption) ?_; rotate_left
            · (intro wz hSw; have hSc := EtS.cells hSw.1; have z3 := hSw.2; obtain ⟨z0, z1, z2⟩ := hSc; clear hSw; go_simp; first | done | with_reducible rfl)
            try simp only [Act.put, List.setIfInBounds_toArray, List.set_cons_zero, List.set_cons_succ]
            refine wpAnyH_take (i := 16) (v := ?_) rfl (by kernel_rfl) (by kernel_rfl) (by kernel_rfl) (fun _ _ _ h => h) (Or.inl ⟨by rfl, ?_⟩) (by assumption) ?_; rotate_left
            · (intro wz hSw; have hSc := EtS.cells hSw.1; have z3 := hSw.2; obtain ⟨z0, z1, z2⟩ := hSc; clear hSw; go_simp; first | done | with_reducible rfl)
            try simp only [Act.put, List.setIfInBounds_toArray, List.set_cons_zero, List.set_cons_succ]
            refine wpAnyH_take (i := 17) (v := ?_) rfl (by kernel_rfl) (by kernel_rfl) (by kernel_rfl) (fun _ _ _ h => h) (Or.inl ⟨by rfl, ?_⟩) (by assumption) ?_; rotate_left
            · (intro wz hSw; have hSc := EtS.cells hSw.1; have z3 := hSw.2; obtain ⟨z0, z1, z2⟩ := hSc; clear hSw; go_simp; first | done | with_reducible rfl)
            try simp only [Act.put, List.setIfInBounds_toArray, List.set_cons_zero, List.set_cons_succ]
            refine wpAnyH_done (by kernel_rfl) ?_ _
            go_wp2_with fail
            go_ret2
            exact ⟨by rw [HA.out]; rfl, hHeld.1.1⟩
          exact AllReadyH.nil
        refine AllReadyH.cons rfl (fun K hK => ?_) ?_
        · rw [if_pos (by rfl)]
          go_simp
          refine hK.out _ _ ?_ (fun hHeld => ?_)
          · exact EtS.alloc hHeld _
          clear hK K
          try simp only [Act.put, List.setIfInBounds_toArray, List.set_cons_zero, List.set_cons_succ]
          refine held_more (S' := fun w' => EtS w T kn s w' ∧ w'.cell? ⟨w11.heap.size, 0, none⟩ = some (.int .u8 (kn : Int))) (fun _ h => h.1) _ _ _ _ ?_
          replace hHeld : (fun w' => EtS w T kn s w' ∧ w'.cell? ⟨w11.heap.size, 0, none⟩ = some (.int .u8 (kn : Int))) _ := ⟨hHeld, by simp [hwk]⟩
          refine wpAnyH_take (i := 11) (v := ?_) rfl (by kernel_rfl) (by kernel_rfl) (by kernel_rfl) (fun _ _ _ h => h) (Or.inl ⟨by rfl, ?_⟩) (by assumption) ?_; rotate_left
          · (intro wz hSw; have hSc := EtS.cells hSw.1; have z3 := hSw.2; obtain ⟨z0, z1, z2⟩ := hSc; clear hSw; go_simp; first | done | with_reducible rfl)
          try simp only [Act.put, List.setIfInBounds_toArray, List.set_cons_zero, List.set_cons_succ]
          refine wpAnyH_ready (rs := [5]) (by kernel_rfl) (by simp) ?_
          refine AllReadyH.cons rfl (fun K hK => ?_) ?_
          · rw [if_pos (by rfl)]
            go_simp
            go_at_call 32
            refine (l01Var_any T hT _).mono ?_
            rintro r w15 ⟨rfl, hb15⟩
            try go_simp
            refine hK.out _ _ ?_ (fun hHeld => ?_)
            · exact ⟨EtS.call hHeld.1 hb15, (hb15.cell (cell_lt hHeld.2)).trans hHeld.2⟩
            clear hK K
            try simp only [Act.put, List.setIfInBounds_toArray, List.set_cons_zero, List.set_cons_succ]
            clear hb15
            refine wpAnyH_take (i := 6) (v := ?_) rfl (by kernel_rfl) (by kernel_rfl) (by kernel_rfl) (fun _ _ _ h => h) (Or.inl ⟨by rfl, ?_⟩) (by assumption) ?_; rotate_left
            · (intro wz hSw; have hSc := EtS.cells hSw.1; have z3 := hSw.2; obtain ⟨z0, z1, z2⟩ := hSc; clear hSw; go_simp; first | done | with_reducible rfl)
            try simp only [Act.put, List.setIfInBounds_toArray, List.set_cons_zero, List.set_cons_succ]
            refine wpAnyH_take (i := 12) (v := ?_) rfl (by kernel_rfl) (by kernel_rfl) (by kernel_rfl) (fun _ _ _ h => h) (Or.inl ⟨by rfl, ?_⟩) (by assumption) ?_; rotate_left
            · (intro wz hSw; have hSc := EtS.cells hSw.1; have z3 := hSw.2; obtain ⟨z0, z1, z2⟩ := hSc; clear hSw; go_simp; first | done | with_reducible rfl)
            try simp only [Act.put, List.setIfInBounds_toArray, List.set_cons_zero, List.set_cons_succ]
            refine wpAnyH_take (i := 15) (v := ?_) rfl (by kernel_rfl) (by kernel_rfl) (by kernel_rfl) (fun _ _ _ h => h) (Or.inl ⟨by rfl, ?_⟩) (by assumption) ?_; rotate_left
            · (intro wz hSw; have hSc := EtS.cells hSw.1; have z3 := hSw.2; obtain ⟨z0, z1, z2⟩ := hSc; clear hSw; go_simp; first | done | with_reducible rfl)
            try simp only [Act.put, List.setIfInBounds_toArray, List.set_cons_zero, List.set_cons_succ]
            refine wpAnyH_take (i := 16) (v := ?_) rfl (by kernel_rfl) (by kernel_rfl) (by kernel_rfl) (fun _ _ _ h => h) (Or.inl ⟨by rfl, ?_⟩) (by assumption) ?_; rotate_left
            · (intro wz hSw; have hSc := EtS.cells hSw.1; have z3 := hSw.2; obtain ⟨z0, z1, z2⟩ := hSc; clear hSw; go_simp; first | done | with_reducible rfl)
            try simp only [Act.put, List.setIfInBounds_toArray, List.set_cons_zero, List.set_cons_succ]
            refine wpAnyH_take (i := 17) (v := ?_) rfl (by kernel_rfl) (by kernel_rfl) (by kernel_rfl) (fun _ _ _ h => h) (Or.inl ⟨by rfl, ?_⟩) (by assumption) ?_; rotate_left
            · (intro wz hSw; have hSc := EtS.cells hSw.1; have z3 := hSw.2; obtain ⟨z0, z1, z2⟩ := hSc; clear hSw; go_simp; first | done | with_reducible rfl)
            try simp only [Act.put, List.setIfInBounds_toArray, List.set_cons_zero, List.set_cons_succ]
            refine wpAnyH_done (by kernel_rfl) ?_ _
            go_wp2_with fail
            go_ret2
            exact ⟨by rw [HA.out]; rfl, hHeld.1.1⟩
          exact AllReadyH.nil
        exact AllReadyH.nil
      refine AllReadyH.cons rfl (fun K hK => ?_) ?_
      · rw [if_pos (by rfl)]
        go_simp
        refine hK.out _ _ ?_ (fun hHeld => ?_)
        · exact EtS.alloc hHeld _
        clear hK K
        try simp only [Act.put, List.setIfInBounds_toArray, List.set_cons_zero, List.set_cons_succ]
        refine held_more (S' := fun w' => EtS w T kn s w' ∧ w'.cell? ⟨w1.heap.size, 0, none⟩ = some (.int .u8 (kn : Int))) (fun _ h => h.1) _ _ _ _ ?_
        replace hHeld : (fun w' => EtS w T kn s w' ∧ w'.cell? ⟨w1.heap.size, 0, none⟩ = some (.int .u8 (kn : Int))) _ := ⟨hHeld, by simp [hwk]⟩
        refine wpAnyH_take (i := 11) (v := ?_) rfl (by kernel_rfl) (by kernel_rfl) (by kernel_rfl) (fun _ _ _ h => h) (Or.inl ⟨by rfl, ?_⟩) (by assumption) ?_; rotate_left
        · (intro wz hSw; have hSc := EtS.cells hSw.1; have z3 := hSw.2; obtain ⟨z0, z1, z2⟩ := hSc; clear hSw; go_simp; first | done | with_reducible rfl)
        try simp only [Act.put, List.setIfInBounds_toArray, List.set_cons_zero, List.set_cons_succ]
        refine wpAnyH_ready (rs := [1]) (by kernel_rfl) (by simp) ?_
        refine AllReadyH.cons rfl (fun K hK => ?_) ?_
        · rw [if_pos (by rfl)]
          go_simp
          go_at_call 32
          refine (l01Var_any I hI _).mono ?_
          rintro r w11 ⟨rfl, hb11⟩
          try go_simp
          refine hK.out _ _ ?_ (fun hHeld => ?_)
          · exact ⟨EtS.call hHeld.1 hb11, (hb11.cell (cell_lt hHeld.2)).trans hHeld.2⟩
          clear hK K
          try simp only [Act.put, List.setIfInBounds_toArray, List.set_cons_zero, List.set_cons_succ]
          clear hb11
          refine wpAnyH_take (i := 2) (v := ?_) rfl (by kernel_rfl) (by kernel_rfl) (by kernel_rfl) (fun _ _ _ h => h) (Or.inl ⟨by rfl, ?_⟩) (by assumption) ?_; rotate_left
          · (intro wz hSw; have hSc := EtS.cells hSw.1; have z3 := hSw.2; obtain ⟨z0, z1, z2⟩ := hSc; clear hSw; go_simp; first | done | with_reducible rfl)
          try simp only [Act.put, List.setIfInBounds_toArray, List.set_cons_zero, List.set_cons_succ]
          refine wpAnyH_ready (rs := [5]) (by kernel_rfl) (by simp) ?_
          refine AllReadyH.cons rfl (fun K hK => ?_) ?_
          · rw [if_pos (by rfl)]
            go_simp
            go_at_call 32
            refine (l01Var_any T hT _).mono ?_
            rintro r w15 ⟨rfl, hb15⟩
            try go_simp
            refine hK.out _ _ ?_ (fun hHeld => ?_)
            · exact ⟨EtS.call hHeld.1 hb15, (hb15.cell (cell_lt hHeld.2)).trans hHeld.2⟩
            clear hK K
            try simp only [Act.put, List.setIfInBounds_toArray, List.set_cons_zero, List.set_cons_succ]
            clear hb15
            refine wpAnyH_take (i := 6) (v := ?_) rfl (by kernel_rfl) (by kernel_rfl) (by kernel_rfl) (fun _ _ _ h => h) (Or.inl ⟨by rfl, ?_⟩) (by assumption) ?_; rotate_left
            · (intro wz hSw; have hSc := EtS.cells hSw.1; have z3 := hSw.2; obtain ⟨z0, z1, z2⟩ := hSc; clear hSw; go_simp; first | done | with_reducible rfl)
            try simp only [Act.put, List.setIfInBounds_toArray, List.set_cons_zero, List.set_cons_succ]
            refine wpAnyH_take (i := 12) (v := ?_) rfl (by kernel_rfl) (by kernel_rfl) (by kernel_rfl) (fun _ _ _ h => h) (Or.inl ⟨by rfl, ?_⟩) (by assumption) ?_; rotate_left
            · (intro wz hSw; have hSc := EtS.cells hSw.1; have z3 := hSw.2; obtain ⟨z0, z1, z2⟩ := hSc; clear hSw; go_simp; first | done | with_reducible rfl)
            try simp only [Act.put, List.setIfInBounds_toArray, List.set_cons_zero, List.set_cons_succ]
            refine wpAnyH_take (i := 15) (v := ?_) rfl (by kernel_rfl) (by kernel_rfl) (by kernel_rfl) (fun _ _ _ h => h) (Or.inl ⟨by rfl, ?_⟩) (by assumption) ?_; rotate_left
            · (intro wz hSw; have hSc := EtS.cells hSw.1; have z3 := hSw.2; obtain ⟨z0, z1, z2⟩ := hSc; clear hSw; go_simp; first | done | with_reducible rfl)
            try simp only [Act.put, List.setIfInBounds_toArray, List.set_cons_zero, List.set_cons_succ]
            refine wpAnyH_take (i := 16) (v := ?_) rfl (by kernel_rfl) (by kernel_rfl) (by kernel_rfl) (fun _ _ _ h => h) (Or.inl ⟨by rfl, ?_⟩) (by assumption) ?_; rotate_left
            · (intro wz hSw; have hSc := EtS.cells hSw.1; have z3 := hSw.2; obtain ⟨z0, z1, z2⟩ := hSc; clear hSw; go_simp; first | done | with_reducible rfl)
            try simp only [Act.put, List.setIfInBounds_toArray, List.set_cons_zero, List.set_cons_succ]
            refine wpAnyH_take (i := 17) (v := ?_) rfl (by kernel_rfl) (by kernel_rfl) (by kernel_rfl) (fun _ _ _ h => h) (Or.inl ⟨by rfl, ?_⟩) (by assumption) ?_; rotate_left
            · (intro wz hSw; have hSc := EtS.cells hSw.1; have z3 := hSw.2; obtain ⟨z0, z1, z2⟩ := hSc; clear hSw; go_simp; first | done | with_reducible rfl)
            try simp only [Act.put, List.setIfInBounds_toArray, List.set_cons_zero, List.set_cons_succ]
            refine wpAnyH_done (by kernel_rfl) ?_ _
            go_wp2_with fail
            go_ret2
            exact ⟨by rw [HA.out]; rfl, hHeld.1.1⟩
          exact AllReadyH.nil
        exact AllReadyH.nil
      exact AllReadyH.nil
    · rw [etVal_no (by rw [hok]; simp [indexOk]; omega)]
      have HOK := hide hok
      clear hok
      obtain ⟨t, k, s⟩ := e
      simp only [eval] at hs ⊢
      have HB0 := hide ((Below.refl w.heap.size w).alloc (Nat.le_refl _) (.cells #[.int .i64 t, .int .i64 k, .string s] 45))
      go_enter Tryd.func34, Tryd.ntmps34
      go_wp2_with fail
      refine (specEntryOk_any ⟨t, k, s⟩ hs _).mono ?_
      rw [HOK.out]
      rintro r w1 ⟨rfl, hb1⟩
      go_wp2_with (go_at_call 19; refine (l01In_no _ _ _ (by omega) _).mono ?_; rintro e w' ⟨rfl, rfl⟩)
      go_ret2
      exact ⟨rfl, HB0.out.trans (hb1.mono (by simp))⟩

end Go.Proofs.YtmllcomppjkhhaaDoor
