/-
  Walks and mathematics of Walk5f, Walk5g.
-/
import Derived.Test.YtmllcomppjkhhaaGreatDoorRWalk5e
import Derived.Deep.RegionHeld3
import Derived.Deep.RegionLaw
import Derived.Deep.DrawnRows
import Derived.Test.YtmllcomppjkhhaaGreatDoorRHeldMore
namespace Go.Proofs.YtmllcomppjkhhaaGreatDoor
open Go.RowKit P1 P9 K
attribute [local go_sem ↓] Go.wp_at_zero Go.wp_at_succ
set_option linter.unusedVariables false
set_option linter.unusedSimpArgs false

def etVal (i : Int) (e : EntV) : Value :=
  if (e.ok && indexOk i) = true then .tuple #[.string ⟨(entryB i.toNat e.term.toNat e.kind.toNat (bl e.data)).toArray⟩, .bool true] else .tuple #[.string ⟨#[]⟩, .bool false]

theorem etVal_no {i : Int} {e : EntV} (h : (e.ok && indexOk i) = false) : etVal i e = .tuple #[.string ⟨#[]⟩, .bool false] := by simp [etVal, h]

theorem etVal_yes {i : Int} {e : EntV} (h : (e.ok && indexOk i) = true) : etVal i e = .tuple #[.string ⟨(entryB i.toNat e.term.toNat e.kind.toNat (bl e.data)).toArray⟩, .bool true] := by simp [etVal, h]

theorem cat_facts (P : Program) (I T : Nat) (kb : UInt8) (s : ByteArray) (hs : s.size ≤ 1048576) : ∃ A1 A2 A3 A4 : ByteArray,
    (∀ wx, (Op.stringOp .add (⟨#[69]⟩ : ByteArray) ⟨(varB I).toArray⟩).run P wx = .ok (.string A1) wx) ∧ (∀ wx, (Op.stringOp .add A1 ⟨(varB T).toArray⟩).run P wx = .ok (.string A2) wx) ∧
    (∀ wx, (Op.stringOp .add A2 ⟨#[kb]⟩).run P wx = .ok (.string A3) wx) ∧ (∀ wx, (Op.stringOp .add A3 s).run P wx = .ok (.string A4) wx) ∧
    A4 = ⟨(69 :: (varB I ++ (varB T ++ (kb :: bl s)))).toArray⟩ := by
  have hl1 : (⟨(varB I).toArray⟩ : ByteArray).size ≤ 10 := varB_length I
  have hl2 : (⟨(varB T).toArray⟩ : ByteArray).size ≤ 10 := varB_length T
  have h0 : (⟨#[69]⟩ : ByteArray).size = 1 := rfl
  have h3 : (⟨#[kb]⟩ : ByteArray).size = 1 := rfl
  refine ⟨_, _, _, _, fun wx => run_string_add_sum _ _ _ (by omega), fun wx => run_string_add_sum _ _ _ (by rw [ByteArray.size_append]; omega), fun wx => run_string_add_sum _ _ _ (by rw [ByteArray.size_append, ByteArray.size_append]; omega), fun wx => run_string_add_sum _ _ _ (by rw [ByteArray.size_append, ByteArray.size_append, ByteArray.size_append]; omega), ?_⟩
  apply ByteArray.ext
  simp [bl]

theorem m_no (wx : World) : (method 308 137 (.agg #[]) "loop.example/g00127/impl.data").run Tryz.prog wx = .ok (157, .agg #[]) wx := by kernel_rfl

theorem m_conf (g n cap : Nat) (wx : World) : (method 308 138 (.slice (some ⟨g, 0, none⟩) n cap) "loop.example/g00127/impl.data").run Tryz.prog wx = .ok (158, .slice (some ⟨g, 0, none⟩) n cap) wx := by kernel_rfl

theorem m_command (s : ByteArray) (wx : World) : (method 308 139 (.string s) "loop.example/g00127/impl.data").run Tryz.prog wx = .ok (160, .string s) wx := by kernel_rfl

theorem one_cell {w w' : World} {u : Value} {t : TypeId} (hb : Below (w.alloc (.cells #[u] t)).drew.heap.size (w.alloc (.cells #[u] t)).drew w') : w'.cell? ⟨w.heap.size, 0, none⟩ = some u :=
  (hb.cell (by simp)).trans (by simp)

theorem conv_one (wx : World) (g : Nat) (b : UInt8) (hg : wx.cell? ⟨g, 0, none⟩ = some (.int .u8 (b.toNat : Int))) :
    (convert 22 9 (.slice (some ⟨g, 0, none⟩) 1 1)).run Tryz.prog wx = .ok (.string ⟨#[b]⟩) wx := by
  refine run_convert_bytes_back wx 22 9 5 ⟨g, 0, none⟩ 1 [b] Tryz.underlying22 Tryz.underlying5 Tryz.underlying9 ?_
  intro j hj
  simp at hj
  subst hj
  simpa [Addr.add] using hg

theorem confData_bl (g cap : Nat) (s : ByteArray) (w : World) (hat : IntsAt w (some ⟨g, 0, none⟩) s.size cap (confZ (bl s))) (hok : confOk (confZ (bl s)) = true) :
    Calls Tryz.prog 158 #[.slice (some ⟨g, 0, none⟩) s.size cap] w fun e w' => e = .returned (.string s) ∧ Below w.heap.size w w' := by
  have := confData_any (some ⟨g, 0, none⟩) s.size cap (confZ (bl s)) w hat hok
  rw [confB_confZ] at this
  exact this

set_option maxHeartbeats 4000000 in
theorem implEntryText_any (i : Int) (e : EntV) (hs : e.data.size ≤ 1048576) (w : World) :
    Calls Tryz.prog 71 #[.int .i64 i, eval e] w fun r w' => r = .returned (etVal i e) ∧ Below w.heap.size w w' := by
  cases hok : e.ok with
  | false =>
    rw [etVal_no (by rw [hok]; rfl)]
    have HOK := hide hok
    clear hok
    obtain ⟨t, k, s⟩ := e
    simp only [eval] at hs ⊢
    have HB0 := hide ((Below.refl w.heap.size w).alloc (Nat.le_refl _) (.cells #[.int .i64 t, .int .i64 k, .string s] 56))
    go_enter Tryz.func71, Tryz.ntmps71
    go_wp2_with fail
    refine (implEntryOk_any ⟨t, k, s⟩ hs _).mono ?_
    rw [HOK.out]
    rintro r w1 ⟨rfl, hb1⟩
    go_wp2_with fail
    go_ret2
    exact ⟨rfl, HB0.out.trans (hb1.mono (by simp))⟩
  | true =>
    by_cases hi : 1 ≤ i ∧ i ≤ 1000000
    · obtain ⟨hi1, hi2⟩ := hi
      rw [etVal_yes (by rw [hok]; simp [indexOk, hi1, hi2])]
      obtain ⟨t, k, s⟩ := e
      simp only [eval] at hs ⊢
      have HB0 := hide ((Below.refl w.heap.size w).alloc (Nat.le_refl _) (.cells #[.int .i64 t, .int .i64 k, .string s] 56))
      obtain ⟨I, rfl⟩ := Int.eq_ofNat_of_zero_le (show 0 ≤ i by omega)
      have hok' := hok
      simp only [EntV.ok, entryOk, termOk, Bool.and_eq_true, decide_eq_true_eq] at hok'
      obtain ⟨hck, ht0, ht1⟩ := hok'
      obtain ⟨T, rfl⟩ := Int.eq_ofNat_of_zero_le ht0
      have HOK := hide hok
      have HCK := hide hck
      clear hok hck
      have hI : I ≤ 1000000000 := by omega
      have hT : T ≤ 1000000000 := by omega
      go_enter Tryz.func71, Tryz.ntmps71
      go_wp2_with fail
      refine (implEntryOk_any ⟨T, k, s⟩ hs _).mono ?_
      rw [HOK.out]
      rintro r w1 ⟨rfl, hb1⟩
      have c0 : w1.cell? ⟨w.heap.size, 0, none⟩ = some (.int .i64 T) := (hb1.cell (by simp)).trans (by simp)
      have c1 : w1.cell? ⟨w.heap.size, 1, none⟩ = some (.int .i64 k) := (hb1.cell (by simp)).trans (by simp)
      have c2 : w1.cell? ⟨w.heap.size, 2, none⟩ = some (.string s) := (hb1.cell (by simp)).trans (by simp)
      have s1 : w.heap.size < w1.heap.size := by have := hb1.size; simp at this; omega
      have B1 := hide (HB0.out.trans (hb1.mono (by simp)))
      clear hb1
      go_wp2_with (go_at_call 57; refine (within_yes _ _ _ (by omega) (by omega) _).mono ?_; rintro e w' ⟨rfl, rfl⟩)
      refine (contentOf_any k s hs _).mono ?_
      rw [HCK.out]
      rintro r w2 ⟨v, rfl, hv, hb2⟩
      have hv := hv rfl
      have d0 := (hb2.cell (p := ⟨w.heap.size, 0, none⟩) s1).trans c0
      have s2 : w.heap.size < w2.heap.size := by have := hb2.size; omega
      have B2 := hide (B1.out.trans (hb2.mono (by omega)))
      have HV := hide hv
      clear hb2 hv c0 c1 c2
      go_wp2_with fail
      refine (implVarText_yes I hI _).mono ?_
      rintro r w3 ⟨rfl, hb3⟩
      have e0 := (hb3.cell (p := ⟨w.heap.size, 0, none⟩) s2).trans d0
      have B3 := hide (B2.out.trans (hb3.mono (by omega)))
      have HV3 := hide (HV.out.below hb3)
      clear hb3 d0
      go_wp2_with fail
      refine (implVarText_yes T hT _).mono ?_
      rintro r w4 ⟨rfl, hb4⟩
      have B4 := hide (B3.out.trans (hb4.mono (by have := B3.out.size; omega)))
      have hv4 := HV3.out.below hb4
      clear hb4 e0 HV HV3
      have hvk := hv4
      rcases hv4 with ⟨rfl, rfl, rfl⟩ | ⟨rfl, hcf, g, cap, rfl, hat⟩ | ⟨rfl, h120, rfl⟩
      · have HVK := hide hvk
        have h4 := B4.out.size
        clear hvk
        obtain ⟨A1, A2, A3, A4, f1, f2, f3, f4, hA⟩ := cat_facts Tryz.prog I T 1 ⟨#[]⟩ hs
        have HA := hide hA
        clear hA
        have fc := fun wx g hg => conv_one wx g 1 hg
        have fm := m_no
        go_wp2_with fail
        go_region_law (first
          | (rw [if_pos (by rfl)]; go_simp; go_at_call 87; refine (kindOf_any 1 ⟨#[]⟩ _ _ (HVK.out.below (Below.refl _ _).drew)).mono ?_; rintro r w5 ⟨rfl, rfl⟩)
          | (rw [if_pos (by rfl)]; go_simp; go_at_call 157; refine (noData_any _).mono ?_; rintro r w6 ⟨rfl, hb6⟩; try (have k6 := one_cell hb6)))
        all_goals
          go_wp2_with fail
          go_ret2
          refine ⟨by rw [HA.out]; rfl, ?_⟩
          first
            | exact (B4.out.alloc h4 _).drew.trans (hb6.mono (by simp; omega))
            | exact (B4.out.drew.trans (hb6.mono (by simp; omega))).alloc (by have := hb6.size; simp at this; omega) _
      · have HVK := hide hvk
        have HAT := hide hat
        have h4 := B4.out.size
        clear hvk hat
        obtain ⟨A1, A2, A3, A4, f1, f2, f3, f4, hA⟩ := cat_facts Tryz.prog I T 2 s hs
        have HA := hide hA
        clear hA
        have fc := fun wx g hg => conv_one wx g 2 hg
        have fm := m_conf g s.size cap
        go_wp2_with fail
        go_region_law (first
          | (rw [if_pos (by rfl)]; go_simp; go_at_call 87; refine (kindOf_any 2 s _ _ (HVK.out.below (Below.refl _ _).drew)).mono ?_; rintro r w5 ⟨rfl, rfl⟩)
          | (rw [if_pos (by rfl)]; go_simp; go_at_call 158; (first | (refine (confData_bl g cap s _ (HAT.out.below (Below.refl _ _).drew) hcf).mono ?_) | (refine (confData_bl g cap s _ (HAT.out.below ((Below.refl _ _).alloc (Nat.le_refl _) _).drew) hcf).mono ?_)); rintro r w6 ⟨rfl, hb6⟩; try (have k6 := one_cell hb6)))
        all_goals
          go_wp2_with fail
          go_ret2
          refine ⟨by rw [HA.out]; rfl, ?_⟩
          first
            | exact (B4.out.alloc h4 _).drew.trans (hb6.mono (by simp; omega))
            | exact (B4.out.drew.trans (hb6.mono (by simp; omega))).alloc (by have := hb6.size; simp at this; omega) _
      · have HVK := hide hvk
        have h4 := B4.out.size
        clear hvk
        obtain ⟨A1, A2, A3, A4, f1, f2, f3, f4, hA⟩ := cat_facts Tryz.prog I T 3 s hs
        have HA := hide hA
        clear hA
        have fc := fun wx g hg => conv_one wx g 3 hg
        have fm := m_command s
        go_wp2_with fail
        go_region_law (first
          | (rw [if_pos (by rfl)]; go_simp; go_at_call 87; refine (kindOf_any 3 s _ _ (HVK.out.below (Below.refl _ _).drew)).mono ?_; rintro r w5 ⟨rfl, rfl⟩)
          | (rw [if_pos (by rfl)]; go_simp; go_at_call 160; refine (commandData_any s hs _).mono ?_; rintro r w6 ⟨rfl, hb6⟩; try (have k6 := one_cell hb6)))
        all_goals
          go_wp2_with fail
          go_ret2
          refine ⟨by rw [HA.out]; rfl, ?_⟩
          first
            | exact (B4.out.alloc h4 _).drew.trans (hb6.mono (by simp; omega))
            | exact (B4.out.drew.trans (hb6.mono (by simp; omega))).alloc (by have := hb6.size; simp at this; omega) _
    · rw [etVal_no (by rw [hok]; simp [indexOk]; omega)]
      have HOK := hide hok
      clear hok
      obtain ⟨t, k, s⟩ := e
      simp only [eval] at hs ⊢
      have HB0 := hide ((Below.refl w.heap.size w).alloc (Nat.le_refl _) (.cells #[.int .i64 t, .int .i64 k, .string s] 56))
      go_enter Tryz.func71, Tryz.ntmps71
      go_wp2_with fail
      refine (implEntryOk_any ⟨t, k, s⟩ hs _).mono ?_
      rw [HOK.out]
      rintro r w1 ⟨rfl, hb1⟩
      go_wp2_with (go_at_call 57; refine (within_no _ _ _ (by omega) _).mono ?_; rintro e w' ⟨rfl, rfl⟩)
      go_ret2
      exact ⟨rfl, HB0.out.trans (hb1.mono (by simp))⟩

end Go.Proofs.YtmllcomppjkhhaaGreatDoor

namespace Go.Proofs.YtmllcomppjkhhaaGreatDoor
open Go.RowKit P1 P9 K
attribute [local go_sem ↓] Go.wp_at_zero Go.wp_at_succ
set_option linter.unusedVariables false
set_option linter.unusedSimpArgs false

def EtS (w : World) (T kn : Nat) (s : ByteArray) (w' : World) : Prop :=
  Below w.heap.size w w' ∧ w.heap.size < w'.heap.size ∧ w'.cell? ⟨w.heap.size, 0, none⟩ = some (.int .i64 (T : Int)) ∧ w'.cell? ⟨w.heap.size, 1, none⟩ = some (.int .i64 (kn : Int)) ∧ w'.cell? ⟨w.heap.size, 2, none⟩ = some (.string s)

theorem EtS.cells {w : World} {T kn : Nat} {s : ByteArray} {w' : World} (h : EtS w T kn s w') : w'.cell? ⟨w.heap.size, 0, none⟩ = some (.int .i64 (T : Int)) ∧ w'.cell? ⟨w.heap.size, 1, none⟩ = some (.int .i64 (kn : Int)) ∧ w'.cell? ⟨w.heap.size, 2, none⟩ = some (.string s) := h.2.2

theorem EtS.call {w : World} {T kn : Nat} {s : ByteArray} {w' w'' : World} (h : EtS w T kn s w') (hb : Below w'.heap.size w' w'') : EtS w T kn s w'' :=
  ⟨h.1.trans (hb.mono (Nat.le_of_lt h.2.1)), Nat.lt_of_lt_of_le h.2.1 hb.size, (hb.cell (p := ⟨w.heap.size, 0, none⟩) h.2.1).trans h.2.2.1, (hb.cell (p := ⟨w.heap.size, 1, none⟩) h.2.1).trans h.2.2.2.1, (hb.cell (p := ⟨w.heap.size, 2, none⟩) h.2.1).trans h.2.2.2.2⟩

theorem EtS.alloc {w : World} {T kn : Nat} {s : ByteArray} {w' : World} (h : EtS w T kn s w') (o : Obj) : EtS w T kn s (w'.alloc o) := h.call ((Below.refl _ _).alloc (Nat.le_refl _) _)

theorem EtS.drew {w : World} {T kn : Nat} {s : ByteArray} {w' : World} (h : EtS w T kn s w') : EtS w T kn s w'.drew := h.call (Below.refl _ _).drew

set_option maxHeartbeats 4000000 in
theorem specEntryText_any (i : Int) (e : EntV) (hs : e.data.size ≤ 1048576) (w : World) :
    Calls Tryz.prog 61 #[.int .i64 i, eval e] w fun r w' => r = .returned (etVal i e) ∧ Below w.heap.size w w' := by
  cases hok : e.ok with
  | false =>
    rw [etVal_no (by rw [hok]; rfl)]
    have HOK := hide hok
    clear hok
    obtain ⟨t, k, s⟩ := e
    simp only [eval] at hs ⊢
    have HB0 := hide ((Below.refl w.heap.size w).alloc (Nat.le_refl _) (.cells #[.int .i64 t, .int .i64 k, .string s] 56))
    go_enter Tryz.func61, Tryz.ntmps61
    go_wp2_with fail
    refine (specEntryOk_any ⟨t, k, s⟩ hs _).mono ?_
    rw [HOK.out]
    rintro r w1 ⟨rfl, hb1⟩
    go_wp2_with fail
    go_ret2
    exact ⟨rfl, HB0.out.trans (hb1.mono (by simp))⟩
  | true =>
    by_cases hi : 1 ≤ i ∧ i ≤ 1000000
    · obtain ⟨hi1, hi2⟩ := hi
      rw [etVal_yes (by rw [hok]; simp [indexOk, hi1, hi2])]
      obtain ⟨t, k, s⟩ := e
      simp only [eval] at hs ⊢
      obtain ⟨I, rfl⟩ := Int.eq_ofNat_of_zero_le (show 0 ≤ i by omega)
      have hok' := hok
      simp only [EntV.ok, entryOk, termOk, Bool.and_eq_true, decide_eq_true_eq] at hok'
      obtain ⟨hck, ht0, ht1⟩ := hok'
      obtain ⟨T, rfl⟩ := Int.eq_ofNat_of_zero_le ht0
      obtain ⟨hk0, hk1, hk2⟩ := contOk_len hck
      obtain ⟨kn, rfl⟩ := Int.eq_ofNat_of_zero_le (show 0 ≤ k by omega)
      have HB0 := hide ((Below.refl w.heap.size w).alloc (Nat.le_refl _) (.cells #[.int .i64 T, .int .i64 kn, .string s] 56))
      have hwk : IntKind.u8.wrap (kn : Int) = (kn : Int) := by rw [IntKind.wrap_u8]; omega
      have HOK := hide hok
      clear hok hck hk0
      have hI : I ≤ 1000000000 := by omega
      have hT : T ≤ 1000000000 := by omega
      obtain ⟨A1, A2, A3, A4, f1, f2, f3, f4, hA⟩ := cat_facts Tryz.prog I T (UInt8.ofNat kn) s hs
      have HA := hide hA
      clear hA
      have fc : ∀ (wx : World) (g : Nat), wx.cell? ⟨g, 0, none⟩ = some (.int .u8 (kn : Int)) → (convert 22 9 (.slice (some ⟨g, 0, none⟩) 1 1)).run Tryz.prog wx = .ok (.string ⟨#[UInt8.ofNat kn]⟩) wx := fun wx g hg => conv_one wx g (UInt8.ofNat kn) (by rw [toNat_ofNat_small _ (by omega)]; exact hg)
      go_enter Tryz.func61, Tryz.ntmps61
      go_wp2_with fail
      refine (specEntryOk_any ⟨T, kn, s⟩ hs _).mono ?_
      rw [HOK.out]
      rintro r w1 ⟨rfl, hb1⟩
      have hE : EtS w T kn s w1 := ⟨HB0.out.trans (hb1.mono (by simp)), by have := hb1.size; simp at this; omega, (hb1.cell (by simp)).trans (by simp), (hb1.cell (by simp)).trans (by simp), (hb1.cell (by simp)).trans (by simp)⟩
      have HE := hide hE
      clear hb1 hE
      go_wp2_with (go_at_call 19; refine (l01In_yes _ _ _ (by omega) (by omega) _).mono ?_; rintro e w' ⟨rfl, rfl⟩)
      refine wp_region_held_drew (S := EtS w T kn s) (by kernel_rfl) HE.out.drew (fun hHeld => ?_)
      refine wpAnyH_take (i := 0) (v := ?_) rfl (by kernel_rfl) (by kernel_rfl) (by kernel_rfl) (fun _ _ _ h => h) (Or.inl ⟨by rfl, ?_⟩) (by assumption) ?_; rotate_left
      · (intro wz hSw; have hSc := EtS.cells hSw; obtain ⟨z0, z1, z2⟩ := hSc; clear hSw; go_simp; first | done | with_reducible rfl)
      try simp only [Act.put, List.setIfInBounds_toArray, List.set_cons_zero, List.set_cons_succ]
      refine wpAnyH_take (i := 3) (v := ?_) rfl (by kernel_rfl) (by kernel_rfl) (by kernel_rfl) (fun _ _ _ h => h) (Or.inl ⟨by rfl, ?_⟩) (by assumption) ?_; rotate_left
      · (intro wz hSw; have hSc := EtS.cells hSw; obtain ⟨z0, z1, z2⟩ := hSc; clear hSw; go_simp; first | done | with_reducible rfl)
      try simp only [Act.put, List.setIfInBounds_toArray, List.set_cons_zero, List.set_cons_succ]
      refine wpAnyH_take (i := 4) (v := ?_) rfl (by kernel_rfl) (by kernel_rfl) (by kernel_rfl) (fun _ _ _ h => h) (Or.inl ⟨by rfl, ?_⟩) (by assumption) ?_; rotate_left
      · (intro wz hSw; have hSc := EtS.cells hSw; obtain ⟨z0, z1, z2⟩ := hSc; clear hSw; go_simp; first | done | with_reducible rfl)
      try simp only [Act.put, List.setIfInBounds_toArray, List.set_cons_zero, List.set_cons_succ]
      refine wpAnyH_take (i := 7) (v := ?_) rfl (by kernel_rfl) (by kernel_rfl) (by kernel_rfl) (fun _ _ _ h => h) (Or.inl ⟨by rfl, ?_⟩) (by assumption) ?_; rotate_left
      · (intro wz hSw; have hSc := EtS.cells hSw; obtain ⟨z0, z1, z2⟩ := hSc; clear hSw; go_simp; first | done | with_reducible rfl)
      try simp only [Act.put, List.setIfInBounds_toArray, List.set_cons_zero, List.set_cons_succ]
      refine wpAnyH_take (i := 8) (v := ?_) rfl (by kernel_rfl) (by kernel_rfl) (by kernel_rfl) (fun _ _ _ h => h) (Or.inl ⟨by rfl, ?_⟩) (by assumption) ?_; rotate_left
      · (intro wz hSw; have hSc := EtS.cells hSw; obtain ⟨z0, z1, z2⟩ := hSc; clear hSw; go_simp; first | done | with_reducible rfl)
      try simp only [Act.put, List.setIfInBounds_toArray, List.set_cons_zero, List.set_cons_succ]
      refine wpAnyH_take (i := 9) (v := ?_) rfl (by kernel_rfl) (by kernel_rfl) (by kernel_rfl) (fun _ _ _ h => h) (Or.inl ⟨by rfl, ?_⟩) (by assumption) ?_; rotate_left
      · (intro wz hSw; have hSc := EtS.cells hSw; obtain ⟨z0, z1, z2⟩ := hSc; clear hSw; go_simp; first | done | with_reducible rfl)
      try simp only [Act.put, List.setIfInBounds_toArray, List.set_cons_zero, List.set_cons_succ]
      refine wpAnyH_take (i := 13) (v := ?_) rfl (by kernel_rfl) (by kernel_rfl) (by kernel_rfl) (fun _ _ _ h => h) (Or.inl ⟨by rfl, ?_⟩) (by assumption) ?_; rotate_left
      · (intro wz hSw; have hSc := EtS.cells hSw; obtain ⟨z0, z1, z2⟩ := hSc; clear hSw; go_simp; first | done | with_reducible rfl)
      try simp only [Act.put, List.setIfInBounds_toArray, List.set_cons_zero, List.set_cons_succ]
      refine wpAnyH_take (i := 14) (v := ?_) rfl (by kernel_rfl) (by kernel_rfl) (by kernel_rfl) (fun _ _ _ h => h) (Or.inl ⟨by rfl, ?_⟩) (by assumption) ?_; rotate_left
      · (intro wz hSw; have hSc := EtS.cells hSw; obtain ⟨z0, z1, z2⟩ := hSc; clear hSw; go_simp; first | done | with_reducible rfl)
      try simp only [Act.put, List.setIfInBounds_toArray, List.set_cons_zero, List.set_cons_succ]
      refine wpAnyH_ready (rs := [1, 10]) (by kernel_rfl) (by simp) ?_
      refine AllReadyH.cons rfl (fun K hK => ?_) ?_
      · rw [if_pos (by rfl)]
        go_simp
        go_at_call 59
        refine (l01Var_any I hI _).mono ?_
        rintro r w11 ⟨rfl, hb11⟩
        try go_simp
        refine hK.out _ _ ?_ (fun hHeld => ?_)
        · exact EtS.call hHeld hb11
        clear hK K
        try simp only [Act.put, List.setIfInBounds_toArray, List.set_cons_zero, List.set_cons_succ]
        clear hb11
        refine wpAnyH_take (i := 2) (v := ?_) rfl (by kernel_rfl) (by kernel_rfl) (by kernel_rfl) (fun _ _ _ h => h) (Or.inl ⟨by rfl, ?_⟩) (by assumption) ?_; rotate_left
        · (intro wz hSw; have hSc := EtS.cells hSw; obtain ⟨z0, z1, z2⟩ := hSc; clear hSw; go_simp; first | done | with_reducible rfl)
        try simp only [Act.put, List.setIfInBounds_toArray, List.set_cons_zero, List.set_cons_succ]
        refine wpAnyH_ready (rs := [5, 10]) (by kernel_rfl) (by simp) ?_
        refine AllReadyH.cons rfl (fun K hK => ?_) ?_
        · rw [if_pos (by rfl)]
          go_simp
          go_at_call 59
          refine (l01Var_any T hT _).mono ?_
          rintro r w15 ⟨rfl, hb15⟩
          try go_simp
          refine hK.out _ _ ?_ (fun hHeld => ?_)
          · exact EtS.call hHeld hb15
          clear hK K
          try simp only [Act.put, List.setIfInBounds_toArray, List.set_cons_zero, List.set_cons_succ]
          clear hb15
          refine wpAnyH_take (i := 6) (v := ?_) rfl (by kernel_rfl) (by kernel_rfl) (by kernel_rfl) (fun _ _ _ h => h) (Or.inl ⟨by rfl, ?_⟩) (by assumption) ?_; rotate_left
          · (intro wz hSw; have hSc := EtS.cells hSw; obtain ⟨z0, z1, z2⟩ := hSc; clear hSw; go_simp; first | done | with_reducible rfl)
          try simp only [Act.put, List.setIfInBounds_toArray, List.set_cons_zero, List.set_cons_succ]
          refine wpAnyH_ready (rs := [10]) (by kernel_rfl) (by simp) ?_
          refine AllReadyH.cons rfl (fun K hK => ?_) ?_
          · rw [if_pos (by rfl)]
            go_simp
            refine hK.out _ _ ?_ (fun hHeld => ?_)
            · exact EtS.alloc hHeld _
            clear hK K
            try simp only [Act.put, List.setIfInBounds_toArray, List.set_cons_zero, List.set_cons_succ]
            refine held_more (S' := fun w' => EtS w T kn s w' ∧ w'.cell? ⟨w15.heap.size, 0, none⟩ = some (.int .u8 (kn : Int))) (fun _ h => h.1) _ _ _ _ ?_
            replace hHeld : (fun w' => EtS w T kn s w' ∧ w'.cell? ⟨w15.heap.size, 0, none⟩ = some (.int .u8 (kn : Int))) _ := ⟨hHeld, by simp [hwk]⟩
            refine wpAnyH_take (i := 11) (v := ?_) rfl (by kernel_rfl) (by kernel_rfl) (by kernel_rfl) (fun _ _ _ h => h) (Or.inl ⟨by rfl, ?_⟩) (by assumption) ?_; rotate_left
            · (intro wz hSw; have hSc := EtS.cells hSw.1; have z3 := hSw.2; obtain ⟨z0, z1, z2⟩ := hSc; clear hSw; go_simp; first | done | with_reducible rfl)
            try simp only [Act.put, List.setIfInBounds_toArray, List.set_cons_zero, List.set_cons_succ]
            refine wpAnyH_take (i := 12) (v := ?_) rfl (by kernel_rfl) (by kernel_rfl) (by kernel_rfl) (fun _ _ _ h => h) (Or.inl ⟨by rfl, ?_⟩) (by assumption) ?_; rotate_left
            · (intro wz hSw; have hSc := EtS.cells hSw.1; have z3 := hSw.2; obtain ⟨z0, z1, z2⟩ := hSc; clear hSw; go_simp; first | done | with_reducible rfl)
            try simp only [Act.put, List.setIfInBounds_toArray, List.set_cons_zero, List.set_cons_succ]
            refine wpAnyH_take (i := 15) (v := ?_) rfl (by kernel_rfl) (by kernel_rfl) (by kernel_rfl) (fun _ _ _ h => h) (Or.inl ⟨by rfl, ?_⟩) (by assumption) ?_; rotate_left
            · (intro wz hSw; have hSc := EtS.cells hSw.1; have z3 := hSw.2; obtain ⟨z0, z1, z2⟩ := hSc; clear hSw; go_simp; first | done | with_reducible rfl)
            try simp only [Act.put, List.setIfInBounds_toArray, List.set_cons_zero, List.set_cons_succ]
            refine wpAnyH_take (i := 16) (v := ?_) rfl (by kernel_rfl) (by kernel_rfl) (by kernel_rfl) (fun _ _ _ h => h) (Or.inl ⟨by rfl, ?_⟩) (by assumption) ?_; rotate_left
            · (intro wz hSw; have hSc := EtS.cells hSw.1; have z3 := hSw.2; obtain ⟨z0, z1, z2⟩ := hSc; clear hSw; go_simp; first | done | with_reducible rfl)
            try simp only [Act.put, List.setIfInBounds_toArray, List.set_cons_zero, List.set_cons_succ]
            refine wpAnyH_take (i := 17) (v := ?_) rfl (by kernel_rfl) (by kernel_rfl) (by kernel_rfl) (fun _ _ _ h => h) (Or.inl ⟨by rfl, ?_⟩) (by assumption) ?_; rotate_left
            · (intro wz hSw; have hSc := EtS.cells hSw.1; have z3 := hSw.2; obtain ⟨z0, z1, z2⟩ := hSc; clear hSw; go_simp; first | done | with_reducible rfl)
            try simp only [Act.put, List.setIfInBounds_toArray, List.set_cons_zero, List.set_cons_succ]
            refine wpAnyH_done (by kernel_rfl) ?_ _
            go_wp2_with fail
            go_ret2
            exact ⟨by rw [HA.out]; rfl, hHeld.1.1⟩
          exact AllReadyH.nil
        refine AllReadyH.cons rfl (fun K hK => ?_) ?_
        · rw [if_pos (by rfl)]
          go_simp
          refine hK.out _ _ ?_ (fun hHeld => ?_)
          · exact EtS.alloc hHeld _
          clear hK K
          try simp only [Act.put, List.setIfInBounds_toArray, List.set_cons_zero, List.set_cons_succ]
          refine held_more (S' := fun w' => EtS w T kn s w' ∧ w'.cell? ⟨w11.heap.size, 0, none⟩ = some (.int .u8 (kn : Int))) (fun _ h => h.1) _ _ _ _ ?_
          replace hHeld : (fun w' => EtS w T kn s w' ∧ w'.cell? ⟨w11.heap.size, 0, none⟩ = some (.int .u8 (kn : Int))) _ := ⟨hHeld, by simp [hwk]⟩
          refine wpAnyH_take (i := 11) (v := ?_) rfl (by kernel_rfl) (by kernel_rfl) (by kernel_rfl) (fun _ _ _ h => h) (Or.inl ⟨by rfl, ?_⟩) (by assumption) ?_; rotate_left
          · (intro wz hSw; have hSc := EtS.cells hSw.1; have z3 := hSw.2; obtain ⟨z0, z1, z2⟩ := hSc; clear hSw; go_simp; first | done | with_reducible rfl)
          try simp only [Act.put, List.setIfInBounds_toArray, List.set_cons_zero, List.set_cons_succ]
          refine wpAnyH_ready (rs := [5]) (by kernel_rfl) (by simp) ?_
          refine AllReadyH.cons rfl (fun K hK => ?_) ?_
          · rw [if_pos (by rfl)]
            go_simp
            go_at_call 59
            refine (l01Var_any T hT _).mono ?_
            rintro r w15 ⟨rfl, hb15⟩
            try go_simp
            refine hK.out _ _ ?_ (fun hHeld => ?_)
            · exact ⟨EtS.call hHeld.1 hb15, (hb15.cell (cell_lt hHeld.2)).trans hHeld.2⟩
            clear hK K
            try simp only [Act.put, List.setIfInBounds_toArray, List.set_cons_zero, List.set_cons_succ]
            clear hb15
            refine wpAnyH_take (i := 6) (v := ?_) rfl (by kernel_rfl) (by kernel_rfl) (by kernel_rfl) (fun _ _ _ h => h) (Or.inl ⟨by rfl, ?_⟩) (by assumption) ?_; rotate_left
            · (intro wz hSw; have hSc := EtS.cells hSw.1; have z3 := hSw.2; obtain ⟨z0, z1, z2⟩ := hSc; clear hSw; go_simp; first | done | with_reducible rfl)
            try simp only [Act.put, List.setIfInBounds_toArray, List.set_cons_zero, List.set_cons_succ]
            refine wpAnyH_take (i := 12) (v := ?_) rfl (by kernel_rfl) (by kernel_rfl) (by kernel_rfl) (fun _ _ _ h => h) (Or.inl ⟨by rfl, ?_⟩) (by assumption) ?_; rotate_left
            · (intro wz hSw; have hSc := EtS.cells hSw.1; have z3 := hSw.2; obtain ⟨z0, z1, z2⟩ := hSc; clear hSw; go_simp; first | done | with_reducible rfl)
            try simp only [Act.put, List.setIfInBounds_toArray, List.set_cons_zero, List.set_cons_succ]
            refine wpAnyH_take (i := 15) (v := ?_) rfl (by kernel_rfl) (by kernel_rfl) (by kernel_rfl) (fun _ _ _ h => h) (Or.inl ⟨by rfl, ?_⟩) (by assumption) ?_; rotate_left
            · (intro wz hSw; have hSc := EtS.cells hSw.1; have z3 := hSw.2; obtain ⟨z0, z1, z2⟩ := hSc; clear hSw; go_simp; first | done | with_reducible rfl)
            try simp only [Act.put, List.setIfInBounds_toArray, List.set_cons_zero, List.set_cons_succ]
            refine wpAnyH_take (i := 16) (v := ?_) rfl (by kernel_rfl) (by kernel_rfl) (by kernel_rfl) (fun _ _ _ h => h) (Or.inl ⟨by rfl, ?_⟩) (by assumption) ?_; rotate_left
            · (intro wz hSw; have hSc := EtS.cells hSw.1; have z3 := hSw.2; obtain ⟨z0, z1, z2⟩ := hSc; clear hSw; go_simp; first | done | with_reducible rfl)
            try simp only [Act.put, List.setIfInBounds_toArray, List.set_cons_zero, List.set_cons_succ]
            refine wpAnyH_take (i := 17) (v := ?_) rfl (by kernel_rfl) (by kernel_rfl) (by kernel_rfl) (fun _ _ _ h => h) (Or.inl ⟨by rfl, ?_⟩) (by assumption) ?_; rotate_left
            · (intro wz hSw; have hSc := EtS.cells hSw.1; have z3 := hSw.2; obtain ⟨z0, z1, z2⟩ := hSc; clear hSw; go_simp; first | done | with_reducible rfl)
            try simp only [Act.put, List.setIfInBounds_toArray, List.set_cons_zero, List.set_cons_succ]
            refine wpAnyH_done (by kernel_rfl) ?_ _
            go_wp2_with fail
            go_ret2
            exact ⟨by rw [HA.out]; rfl, hHeld.1.1⟩
          exact AllReadyH.nil
        exact AllReadyH.nil
      refine AllReadyH.cons rfl (fun K hK => ?_) ?_
      · rw [if_pos (by rfl)]
        go_simp
        refine hK.out _ _ ?_ (fun hHeld => ?_)
        · exact EtS.alloc hHeld _
        clear hK K
        try simp only [Act.put, List.setIfInBounds_toArray, List.set_cons_zero, List.set_cons_succ]
        refine held_more (S' := fun w' => EtS w T kn s w' ∧ w'.cell? ⟨w1.heap.size, 0, none⟩ = some (.int .u8 (kn : Int))) (fun _ h => h.1) _ _ _ _ ?_
        replace hHeld : (fun w' => EtS w T kn s w' ∧ w'.cell? ⟨w1.heap.size, 0, none⟩ = some (.int .u8 (kn : Int))) _ := ⟨hHeld, by simp [hwk]⟩
        refine wpAnyH_take (i := 11) (v := ?_) rfl (by kernel_rfl) (by kernel_rfl) (by kernel_rfl) (fun _ _ _ h => h) (Or.inl ⟨by rfl, ?_⟩) (by assumption) ?_; rotate_left
        · (intro wz hSw; have hSc := EtS.cells hSw.1; have z3 := hSw.2; obtain ⟨z0, z1, z2⟩ := hSc; clear hSw; go_simp; first | done | with_reducible rfl)
        try simp only [Act.put, List.setIfInBounds_toArray, List.set_cons_zero, List.set_cons_succ]
        refine wpAnyH_ready (rs := [1]) (by kernel_rfl) (by simp) ?_
        refine AllReadyH.cons rfl (fun K hK => ?_) ?_
        · rw [if_pos (by rfl)]
          go_simp
          go_at_call 59
          refine (l01Var_any I hI _).mono ?_
          rintro r w11 ⟨rfl, hb11⟩
          try go_simp
          refine hK.out _ _ ?_ (fun hHeld => ?_)
          · exact ⟨EtS.call hHeld.1 hb11, (hb11.cell (cell_lt hHeld.2)).trans hHeld.2⟩
          clear hK K
          try simp only [Act.put, List.setIfInBounds_toArray, List.set_cons_zero, List.set_cons_succ]
          clear hb11
          refine wpAnyH_take (i := 2) (v := ?_) rfl (by kernel_rfl) (by kernel_rfl) (by kernel_rfl) (fun _ _ _ h => h) (Or.inl ⟨by rfl, ?_⟩) (by assumption) ?_; rotate_left
          · (intro wz hSw; have hSc := EtS.cells hSw.1; have z3 := hSw.2; obtain ⟨z0, z1, z2⟩ := hSc; clear hSw; go_simp; first | done | with_reducible rfl)
          try simp only [Act.put, List.setIfInBounds_toArray, List.set_cons_zero, List.set_cons_succ]
          refine wpAnyH_ready (rs := [5]) (by kernel_rfl) (by simp) ?_
          refine AllReadyH.cons rfl (fun K hK => ?_) ?_
          · rw [if_pos (by rfl)]
            go_simp
            go_at_call 59
            refine (l01Var_any T hT _).mono ?_
            rintro r w15 ⟨rfl, hb15⟩
            try go_simp
            refine hK.out _ _ ?_ (fun hHeld => ?_)
            · exact ⟨EtS.call hHeld.1 hb15, (hb15.cell (cell_lt hHeld.2)).trans hHeld.2⟩
            clear hK K
            try simp only [Act.put, List.setIfInBounds_toArray, List.set_cons_zero, List.set_cons_succ]
            clear hb15
            refine wpAnyH_take (i := 6) (v := ?_) rfl (by kernel_rfl) (by kernel_rfl) (by kernel_rfl) (fun _ _ _ h => h) (Or.inl ⟨by rfl, ?_⟩) (by assumption) ?_; rotate_left
            · (intro wz hSw; have hSc := EtS.cells hSw.1; have z3 := hSw.2; obtain ⟨z0, z1, z2⟩ := hSc; clear hSw; go_simp; first | done | with_reducible rfl)
            try simp only [Act.put, List.setIfInBounds_toArray, List.set_cons_zero, List.set_cons_succ]
            refine wpAnyH_take (i := 12) (v := ?_) rfl (by kernel_rfl) (by kernel_rfl) (by kernel_rfl) (fun _ _ _ h => h) (Or.inl ⟨by rfl, ?_⟩) (by assumption) ?_; rotate_left
            · (intro wz hSw; have hSc := EtS.cells hSw.1; have z3 := hSw.2; obtain ⟨z0, z1, z2⟩ := hSc; clear hSw; go_simp; first | done | with_reducible rfl)
            try simp only [Act.put, List.setIfInBounds_toArray, List.set_cons_zero, List.set_cons_succ]
            refine wpAnyH_take (i := 15) (v := ?_) rfl (by kernel_rfl) (by kernel_rfl) (by kernel_rfl) (fun _ _ _ h => h) (Or.inl ⟨by rfl, ?_⟩) (by assumption) ?_; rotate_left
            · (intro wz hSw; have hSc := EtS.cells hSw.1; have z3 := hSw.2; obtain ⟨z0, z1, z2⟩ := hSc; clear hSw; go_simp; first | done | with_reducible rfl)
            try simp only [Act.put, List.setIfInBounds_toArray, List.set_cons_zero, List.set_cons_succ]
            refine wpAnyH_take (i := 16) (v := ?_) rfl (by kernel_rfl) (by kernel_rfl) (by kernel_rfl) (fun _ _ _ h => h) (Or.inl ⟨by rfl, ?_⟩) (by assumption) ?_; rotate_left
            · (intro wz hSw; have hSc := EtS.cells hSw.1; have z3 := hSw.2; obtain ⟨z0, z1, z2⟩ := hSc; clear hSw; go_simp; first | done | with_reducible rfl)
            try simp only [Act.put, List.setIfInBounds_toArray, List.set_cons_zero, List.set_cons_succ]
            refine wpAnyH_take (i := 17) (v := ?_) rfl (by kernel_rfl) (by kernel_rfl) (by kernel_rfl) (fun _ _ _ h => h) (Or.inl ⟨by rfl, ?_⟩) (by assumption) ?_; rotate_left
            · (intro wz hSw; have hSc := EtS.cells hSw.1; have z3 := hSw.2; obtain ⟨z0, z1, z2⟩ := hSc; clear hSw; go_simp; first | done | with_reducible rfl)
            try simp only [Act.put, List.setIfInBounds_toArray, List.set_cons_zero, List.set_cons_succ]
            refine wpAnyH_done (by kernel_rfl) ?_ _
            go_wp2_with fail
            go_ret2
            exact ⟨by rw [HA.out]; rfl, hHeld.1.1⟩
          exact AllReadyH.nil
        exact AllReadyH.nil
      exact AllReadyH.nil
    · rw [etVal_no (by rw [hok]; simp [indexOk]; omega)]
      have HOK := hide hok
      clear hok
      obtain ⟨t, k, s⟩ := e
      simp only [eval] at hs ⊢
      have HB0 := hide ((Below.refl w.heap.size w).alloc (Nat.le_refl _) (.cells #[.int .i64 t, .int .i64 k, .string s] 56))
      go_enter Tryz.func61, Tryz.ntmps61
      go_wp2_with fail
      refine (specEntryOk_any ⟨t, k, s⟩ hs _).mono ?_
      rw [HOK.out]
      rintro r w1 ⟨rfl, hb1⟩
      go_wp2_with (go_at_call 19; refine (l01In_no _ _ _ (by omega) _).mono ?_; rintro e w' ⟨rfl, rfl⟩)
      go_ret2
      exact ⟨rfl, HB0.out.trans (hb1.mono (by simp))⟩

end Go.Proofs.YtmllcomppjkhhaaGreatDoor
