/-
  Walks and mathematics of Walk6d.
-/
import Derived.Test.YtoalbeiinlcgpaaKPiece
import Derived.Test.YtoalbeiinlcgpaaKBox
namespace Go.Proofs.Ytoalbeiinlcgpaa
open Go.RowKit P1 P9 K
set_option linter.unusedVariables false
set_option linter.unusedSimpArgs false

theorem lgOk_hd {s u : Int} {es : List EntV} (h : lgOk s u es = true) : 0 ≤ s ∧ s ≤ 1000000 ∧ 0 ≤ u ∧ u ≤ 100000 ∧ es.length ≤ 60 ∧ s + es.length ≤ 1000000 ∧ upE u es = true := by
  unfold lgOk lgHd at h
  simp only [Bool.and_eq_true, decide_eq_true_eq] at h
  exact ⟨h.1.1, h.1.2.1, h.1.2.2.1, h.1.2.2.2.1, h.1.2.2.2.2.1, h.1.2.2.2.2.2, h.2⟩

theorem lastI_in {s : Int} {n : Nat} (h0 : 0 ≤ s) (h1 : s ≤ 1000000) (hn : n ≤ 60) : lastI s n = s + n := by
  unfold lastI
  split
  · omega
  · unfold wrap64
    omega

theorem blk_new2 (w : World) (X Y : Obj) : ((w.alloc X).alloc Y).heap[w.heap.size + 1]? = some Y := by
  have h := heap_alloc_new (w.alloc X) Y
  rwa [show (w.alloc X).heap.size = w.heap.size + 1 by simp] at h

def bhOk (s u : Int) (es : List EntV) (b t : Int) : Bool := lgOk s u es && ((decide (s ≤ b) && decide (b ≤ s + es.length)) && decide (lastT u (es.take (b - s).toNat) = t))

def bhL (s u : Int) (es : List EntV) (b t : Int) : List EntV := if bhOk s u es b t = true then es.drop (b - s).toNat else []

set_option maxHeartbeats 4000000 in
theorem implLogBehind_any (s u : Int) (oa : Option Addr) (n cap : Nat) (es : List EntV) (b t : Int) (w : World) (hat : EntsAt w oa n cap es) (hw : ∀ f ∈ es, f.data.size ≤ 1048576) :
    Calls Try.prog 51 #[lgv s u (.slice oa n cap), .int .i64 b, .int .i64 t] w fun e w' => LogRes w b t (bhL s u es b t) e w' := by
  have hb0 := ((Below.refl w.heap.size w).alloc (Nat.le_refl _) (.cells #[.int .i64 s, .int .i64 u, .slice oa n cap] 33)).alloc (by simp) (.cells #[.int .i64 0, .int .i64 0, .slice none 0 0] 33)
  have HLL := hide (fun w hat => implLogLast_any s u oa n cap es w hat)
  have HLO := hide (fun w hat => implLogOk_any s u oa n cap es w hat hw)
  have HN := hide hat.len
  have HRM := hide hat.room
  have HAT := hide hat
  have HW := hide hw
  have HB0 := hide hb0
  clear hat hw hb0
  go_enter Try.func51, Try.ntmps51
  go_wp2_with fail
  refine (HLL.out _ (HAT.out.below HB0.out)).mono ?_
  rintro e w1 ⟨rfl, hb1⟩
  have B1 := hide (HB0.out.trans (hb1.mono (by simp; omega)))
  have L1 := hide (((LV.new w s u (.slice oa n cap) 33).on ((Below.refl _ _).alloc (Nat.le_refl _) (.cells #[.int .i64 0, .int .i64 0, .slice none 0 0] 33))).on hb1)
  have R1 := hide (show w1.heap[w.heap.size + 1]? = some (.cells #[.int .i64 0, .int .i64 0, .slice none 0 0] 33 (0, 0)) from (hb1.block _ (by simp)).trans (blk_new2 _ _ _))
  have l0 : w.heap.size < w1.heap.size := L1.out.lt
  have l1 : w.heap.size + 1 < w1.heap.size := (Array.getElem?_eq_some_iff.1 R1.out).1
  have lw1 := l1
  obtain ⟨c0, c1, c2⟩ := L1.out
  clear hb1
  go_wp2_with fail
  have hb2 := (Below.refl w1.heap.size w1).alloc (Nat.le_refl _) (.cells #[.int .i64 b, .int .i64 t, .slice none 0 0] 33)
  refine (HLO.out _ (HAT.out.below (B1.out.trans (hb2.mono B1.out.size)))).mono ?_
  rintro e w3 ⟨rfl, hb3⟩
  have B3 := hide (B1.out.trans ((hb2.trans (hb3.mono (by simp))).mono B1.out.size))
  have L3 := hide (L1.out.on (hb2.trans (hb3.mono (by simp))))
  have R3 := hide (((hb2.trans (hb3.mono (by simp))).block _ l1).trans R1.out)
  have X3 := hide ((LV.new w1 b t (.slice none 0 0) 33).on hb3)
  have z3 : w3.frozen? ⟨w1.heap.size, 2, none⟩ = false := (hb3.frozen (by simp)).trans (by simp)
  clear hb2 hb3 c0 c1 c2
  have l0 := L3.out.lt
  have l1 := (Array.getElem?_eq_some_iff.1 R3.out).1
  have l2 := X3.out.lt
  obtain ⟨c0, c1, c2⟩ := L3.out
  obtain ⟨x0, x1, x2⟩ := X3.out
  cases hok : lgOk s u es with
  | false =>
    have hbh : bhL s u es b t = [] := by simp [bhL, bhOk, hok]
    have HBH := hide hbh
    clear hbh hok
    go_wp2_with fail
    refine (copied6_any b t none 0 0 [] (by omega) _ (RowsAt.nil _ _ _ (by unfold maxLen; omega)) (by simp)).mono ?_
    rintro e w7 ⟨v, rfl, ho7, hb7⟩
    obtain ⟨o7, c7, rfl⟩ := own_form3 ho7
    have R7 := (hb7.block _ (by simpa [World.setCell] using l1)).trans R3.out
    have r0 := blk_cell R7 0 rfl
    have r1 := blk_cell R7 1 rfl
    have r2 := blk_cell R7 2 rfl
    have t0 := blk_free R7 0
    have t1 := blk_free R7 1
    have t2 := blk_free R7 2
    have HO7 := hide ho7
    have B7 := hide (B3.out.trans (hb7.mono B3.out.size))
    clear hb7 ho7 R7
    go_wp2_with fail
    refine bodyPost_ret (v := lgv b t (.slice o7 0 c7)) (by simp [results, Try.results51, go_sem, r0, r1, r2, t0, t1, t2]) rfl ?_
    rw [HBH.out]
    refine ⟨_, rfl, ?_, ?_⟩
    · have h7 := own_base HO7.out (base' := w.heap.size + 2) (by first | omega | (simp [World.setCell]; omega))
      refine own_base (base := w.heap.size + 2) ?_ (by omega)
      repeat (refine own_setCell ?_ (by simp <;> omega) _)
      first | exact h7 | (simpa using h7)
    · repeat (refine Below.setCell ?_ (by simp <;> omega) _)
      exact B7.out
  | true =>
    obtain ⟨s0, s1, u0, u1, hn60, hsn, hup⟩ := lgOk_hd hok
    rw [HN.out] at hn60 hsn
    have hli := lastI_in s0 s1 hn60
    rw [hli]
    by_cases hin : s ≤ b ∧ b ≤ s + n
    · obtain ⟨b0, b1⟩ := hin
      obtain ⟨k, rfl⟩ : ∃ k : Nat, b = s + k := ⟨(b - s).toNat, by omega⟩
      have ek : (s + (k : Int) - s).toNat = k := by omega
      have hkn : k ≤ n := by omega
      by_cases ht : lastT u (es.take k) = t
      · have hbh : bhL s u es (s + k) t = es.drop k := by
          have h1 : bhOk s u es (s + k) t = true := by
            simp only [bhOk, hok, ek, ht, HN.out, Bool.true_and, decide_true, Bool.and_true, Bool.and_eq_true, decide_eq_true_eq]
            omega
          rw [bhL, if_pos h1, ek]
        have HBH := hide hbh
        have HT := hide ht
        clear hbh hok hup ek hli
        go_wp2_with (go_at_call 32; refine (within_yes _ _ _ (by omega) (by omega) _).mono ?_; rintro e w1 ⟨rfl, rfl⟩)
        refine (implLogTerm_in s u oa n cap es _ (HAT.out.below B3.out) s0 s1 hn60 _ k rfl hkn).mono ?_
        rw [HT.out]
        rintro e w4 ⟨rfl, hb4⟩
        have B4 := hide (B3.out.trans (hb4.mono B3.out.size))
        have L4 := hide (L3.out.on hb4)
        have R4 := hide ((hb4.block _ l1).trans R3.out)
        have X4 := hide (X3.out.on hb4)
        have z4 : w4.frozen? ⟨w1.heap.size, 2, none⟩ = false := (hb4.frozen (by simpa using l2)).trans z3
        clear hb4 c0 c1 c2 x0 x1 x2 z3
        have l0 := L4.out.lt
        have l1 := (Array.getElem?_eq_some_iff.1 R4.out).1
        have l2 := X4.out.lt
        obtain ⟨c0, c1, c2⟩ := L4.out
        obtain ⟨x0, x1, x2⟩ := X4.out
        go_wp2_with fail
        refine (between_any s u oa n cap HRM.out _ _ k n rfl rfl s0 s1 hkn (Nat.le_refl _) hn60 _).mono ?_
        rintro e w5 ⟨rfl, hb5⟩
        have hlw : w.heap.size + 1 < w1.heap.size := lw1
        have y0 := (hb5.cell (p := ⟨w1.heap.size, 0, none⟩) (by simpa using l2)).trans x0
        have y1 := (hb5.cell (p := ⟨w1.heap.size, 1, none⟩) (by simpa using l2)).trans x1
        have y2 := (hb5.cell (p := ⟨w1.heap.size, 2, none⟩) (by simpa using l2)).trans x2
        have z5 := (hb5.frozen (p := ⟨w1.heap.size, 2, none⟩) (by simpa using l2)).trans z4
        have B5 := B4.out.trans (hb5.mono B4.out.size)
        have B6 := hide (B5.setCell (p := ⟨w1.heap.size, 2, none⟩) (by simp; omega) (.slice (partA oa k n) (n - k) (n - k)))
        have R6 := hide (show (w5.setCell ⟨w1.heap.size, 2, none⟩ (.slice (partA oa k n) (n - k) (n - k))).heap[w.heap.size + 1]? = some (.cells #[.int .i64 0, .int .i64 0, .slice none 0 0] 33 (0, 0)) from (Below.heap_setCell _ _ _ _ (by simp; omega)).trans ((hb5.block _ l1).trans R4.out))
        have A6 := (HAT.out.below B6.out).piece k n n hkn (Nat.le_refl _) (Nat.le_refl _) HRM.out
        rw [List.take_of_length_le (by rw [HN.out]; exact Nat.le_refl _)] at A6
        have A6 := hide A6
        have F6 := hide (show ∀ f ∈ es.drop k, f.data.size ≤ 1048576 from fun f hf => HW.out f (List.mem_of_mem_drop hf))
        have l5 : w.heap.size + 1 < w5.heap.size := Nat.lt_of_lt_of_le l1 hb5.size
        obtain ⟨DK, hDK⟩ : ∃ DK, es.drop k = DK := ⟨_, rfl⟩
        rw [hDK] at A6 F6 HBH
        clear hDK
        clear hb5 B5 c0 c1 c2 x0 x1 x2 z4
        go_wp2_with fail
        refine (copied6_any (s + k) t (partA oa k n) (n - k) (n - k) DK (by omega) _ A6.out F6.out).mono ?_
        rintro e w7 ⟨v, rfl, ho7, hb7⟩
        obtain ⟨o7, c7, rfl⟩ := own_form3 ho7
        have R7 := (hb7.block _ (by simpa [World.setCell] using l5)).trans R6.out
        have r0 := blk_cell R7 0 rfl
        have r1 := blk_cell R7 1 rfl
        have r2 := blk_cell R7 2 rfl
        have t0 := blk_free R7 0
        have t1 := blk_free R7 1
        have t2 := blk_free R7 2
        have HO7 := hide ho7
        have B7 := hide (B6.out.trans (hb7.mono B6.out.size))
        clear hb7 ho7 R7
        go_wp2_with fail
        refine bodyPost_ret (v := lgv (s + k) t (.slice o7 DK.length c7)) (by simp [results, Try.results51, go_sem, r0, r1, r2, t0, t1, t2]) rfl ?_
        rw [HBH.out]
        refine ⟨_, rfl, ?_, ?_⟩
        · have h7 := own_base HO7.out (base' := w.heap.size + 2) (by first | omega | (simp [World.setCell]; omega))
          refine own_base (base := w.heap.size + 2) ?_ (by omega)
          repeat (refine own_setCell ?_ (by simp <;> omega) _)
          first | exact h7 | (simpa using h7)
        · repeat (refine Below.setCell ?_ (by simp <;> omega) _)
          exact B7.out
      · have hbh : bhL s u es (s + k) t = [] := by
          have h1 : bhOk s u es (s + k) t = false := by
            simp only [bhOk, hok, ek, Bool.true_and]
            simp [ht]
          rw [bhL, if_neg (by rw [h1]; simp)]
        have HBH := hide hbh
        have g : (lastT u (es.take k) == t) = false := by simpa using ht
        clear hbh hok hup ek hli ht
        go_wp2_with (go_at_call 32; refine (within_yes _ _ _ (by omega) (by omega) _).mono ?_; rintro e w1 ⟨rfl, rfl⟩)
        refine (implLogTerm_in s u oa n cap es _ (HAT.out.below B3.out) s0 s1 hn60 _ k rfl hkn).mono ?_
        rintro e w4 ⟨rfl, hb4⟩
        have B4 := hide (B3.out.trans (hb4.mono B3.out.size))
        have R4 := hide ((hb4.block _ l1).trans R3.out)
        have X4 := hide (X3.out.on hb4)
        clear hb4 c0 c1 c2 x0 x1 x2 z3
        have l1 := (Array.getElem?_eq_some_iff.1 R4.out).1
        have l2 := X4.out.lt
        obtain ⟨x0, x1, x2⟩ := X4.out
        go_wp2_with fail
        refine (copied6_any (s + k) t none 0 0 [] (by omega) _ (RowsAt.nil _ _ _ (by unfold maxLen; omega)) (by simp)).mono ?_
        rintro e w7 ⟨v, rfl, ho7, hb7⟩
        obtain ⟨o7, c7, rfl⟩ := own_form3 ho7
        have R7 := (hb7.block _ (by simpa [World.setCell] using l1)).trans R4.out
        have r0 := blk_cell R7 0 rfl
        have r1 := blk_cell R7 1 rfl
        have r2 := blk_cell R7 2 rfl
        have t0 := blk_free R7 0
        have t1 := blk_free R7 1
        have t2 := blk_free R7 2
        have HO7 := hide ho7
        have B7 := hide (B4.out.trans (hb7.mono B4.out.size))
        clear hb7 ho7 R7
        go_wp2_with fail
        refine bodyPost_ret (v := lgv (s + k) t (.slice o7 0 c7)) (by simp [results, Try.results51, go_sem, r0, r1, r2, t0, t1, t2]) rfl ?_
        rw [HBH.out]
        refine ⟨_, rfl, ?_, ?_⟩
        · have h7 := own_base HO7.out (base' := w.heap.size + 2) (by first | omega | (simp [World.setCell]; omega))
          refine own_base (base := w.heap.size + 2) ?_ (by omega)
          repeat (refine own_setCell ?_ (by simp <;> omega) _)
          first | exact h7 | (simpa using h7)
        · repeat (refine Below.setCell ?_ (by simp <;> omega) _)
          exact B7.out
    · have hbh : bhL s u es b t = [] := by
        have h1 : bhOk s u es b t = false := by
          simp only [bhOk, hok, HN.out, Bool.true_and]
          have : (decide (s ≤ b) && decide (b ≤ s + n)) = false := by simp; omega
          rw [this, Bool.false_and]
        rw [bhL, if_neg (by rw [h1]; simp)]
      have HBH := hide hbh
      clear hbh hok hup hli
      go_wp2_with (go_at_call 32; refine (within_no _ _ _ (by omega) _).mono ?_; rintro e w1 ⟨rfl, rfl⟩)
      refine (copied6_any b t none 0 0 [] (by omega) _ (RowsAt.nil _ _ _ (by unfold maxLen; omega)) (by simp)).mono ?_
      rintro e w7 ⟨v, rfl, ho7, hb7⟩
      obtain ⟨o7, c7, rfl⟩ := own_form3 ho7
      have R7 := (hb7.block _ (by simpa [World.setCell] using l1)).trans R3.out
      have r0 := blk_cell R7 0 rfl
      have r1 := blk_cell R7 1 rfl
      have r2 := blk_cell R7 2 rfl
      have t0 := blk_free R7 0
      have t1 := blk_free R7 1
      have t2 := blk_free R7 2
      have HO7 := hide ho7
      have B7 := hide (B3.out.trans (hb7.mono B3.out.size))
      clear hb7 ho7 R7
      go_wp2_with fail
      refine bodyPost_ret (v := lgv b t (.slice o7 0 c7)) (by simp [results, Try.results51, go_sem, r0, r1, r2, t0, t1, t2]) rfl ?_
      rw [HBH.out]
      refine ⟨_, rfl, ?_, ?_⟩
      · have h7 := own_base HO7.out (base' := w.heap.size + 2) (by first | omega | (simp [World.setCell]; omega))
        refine own_base (base := w.heap.size + 2) ?_ (by omega)
        repeat (refine own_setCell ?_ (by simp <;> omega) _)
        first | exact h7 | (simpa using h7)
      · repeat (refine Below.setCell ?_ (by simp <;> omega) _)
        exact B7.out

end Go.Proofs.Ytoalbeiinlcgpaa
