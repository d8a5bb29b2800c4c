/-
  Walks and mathematics of Walk5j.
-/
import Derived.Test.YtmllcomppjkhhaaDoorQdWalk5i
namespace Go.Proofs.YtmllcomppjkhhaaDoor
open Go.RowKit P1 P9 K
set_option linter.unusedVariables false
set_option linter.unusedSimpArgs false

theorem store3 {w : World} {p : Nat} {x0 x1 x2 : Value} {e : TypeId} (h : w.heap[p]? = some (.cells #[x0, x1, x2] e (0, 0))) (v0 v1 v2 : Value) :
    ∃ w', ((w.setCell ⟨p, 0, none⟩ v0).setCell ⟨p, 1, none⟩ v1).setCell ⟨p, 2, none⟩ v2 = w' ∧ w'.heap[p]? = some (.cells #[v0, v1, v2] e (0, 0)) ∧ w.grownBy w' (some p) :=
  ⟨_, rfl, rdc_set (k := 2) v2 (rdc_set (k := 1) v1 (rdc_set (k := 0) v0 h)), grown_trans (grown_trans (rdc_grown _ _ _ _) (rdc_grown _ _ _ _)) (rdc_grown _ _ _ _)⟩

set_option maxHeartbeats 2000000 in
theorem specReadEntry_any (s : ByteArray) (hs : s.size ≤ 1048576) (w : World) :
    Calls Tryd.prog 41 #[.string s] w fun r w' => r = .returned (reVal (rdEntry (bl s))) ∧ Below w.heap.size w w' := by
  obtain ⟨x1, a1, b1, h1⟩ : ∃ x1 a1 b1, takeV s 0 false 1 = (x1, a1, b1) := ⟨_, _, _, rfl⟩
  obtain ⟨i, a2, b2, h2⟩ : ∃ i a2 b2, varV s a1 b1 = (i, a2, b2) := ⟨_, _, _, rfl⟩
  obtain ⟨t, a3, b3, h3⟩ : ∃ t a3 b3, varV s a2 b2 = (t, a3, b3) := ⟨_, _, _, rfl⟩
  obtain ⟨x4, a4, b4, h4⟩ : ∃ x4 a4 b4, takeV s a3 b3 1 = (x4, a4, b4) := ⟨_, _, _, rfl⟩
  obtain ⟨R, hR⟩ : ∃ R, rdEntry (bl s) = R := ⟨_, rfl⟩
  rw [hR]
  have HR := hide hR
  have H1 := hide h1
  have H2 := hide h2
  have H3 := hide h3
  have H4 := hide h4
  clear h1 h2 h3 h4 hR
  have HT1 := hide (fun g w => l05Take_one g s hs 0 false w)
  have HV2 := hide (fun g w => l05Var_any g s hs a1 b1 w)
  have HV3 := hide (fun g w => l05Var_any g s hs a2 b2 w)
  have HT4 := hide (fun g w => l05Take_one g s hs a3 b3 w)
  go_enter Tryd.func41, Tryd.ntmps41
  go_wp2_with fail
  have B0 := hide (((Below.refl w.heap.size w).alloc (Nat.le_refl _) (.cells #[.int .i64 0, .int .i64 0, .string ⟨#[]⟩] 45)).alloc (by simp) (.cells #[.string s, .int .i64 0, .bool false] 73))
  have hC0 : RdC ((w.alloc (.cells #[.int .i64 0, .int .i64 0, .string ⟨#[]⟩] 45)).alloc (.cells #[.string s, .int .i64 0, .bool false] 73)) (w.heap.size + 1) s 0 false :=
    ⟨Nat.zero_le _, by have := heap_alloc_new (w.alloc (.cells #[.int .i64 0, .int .i64 0, .string ⟨#[]⟩] 45)) (.cells #[.string s, .int .i64 0, .bool false] 73); simpa using this⟩
  have hR0 : ((w.alloc (.cells #[.int .i64 0, .int .i64 0, .string ⟨#[]⟩] 45)).alloc (.cells #[.string s, .int .i64 0, .bool false] 73)).heap[w.heap.size]? = some (.cells #[.int .i64 0, .int .i64 0, .string ⟨#[]⟩] 45 (0, 0)) :=
    (((Below.refl (w.heap.size + 1) (w.alloc (.cells #[.int .i64 0, .int .i64 0, .string ⟨#[]⟩] 45))).alloc (by simp) _).block _ (Nat.lt_succ_self _)).trans (heap_alloc_new _ _)
  refine (HT1.out _ _ hC0).mono ?_
  rw [H1.out]
  rintro r w1 ⟨rfl, hC1, hg1⟩
  have hR1 := keep_blk hg1 hR0 (by simp; omega) (by omega)
  have s1 : w.heap.size + 2 ≤ w1.heap.size := by have := hg1.size; simpa using this
  have B1 := hide (B0.out.grown hg1 (by simp; omega) (fun k hk => by cases hk; omega))
  clear hC0 hR0 hg1
  go_wp2_with fail
  refine (HV2.out _ _ hC1).mono ?_
  rw [H2.out]
  rintro r w2 ⟨rfl, hC2, hg2⟩
  have hR2 := keep_blk hg2 hR1 (by omega) (by omega)
  have s2 : w.heap.size + 2 ≤ w2.heap.size := by have := hg2.size; omega
  have B2 := hide (B1.out.grown hg2 (by omega) (fun k hk => by cases hk; omega))
  clear hC1 hR1 hg2
  go_wp2_with fail
  have K3 := (Below.refl w2.heap.size w2).alloc (Nat.le_refl _) (.cells #[.int .i64 0, .int .i64 0, .string ⟨#[]⟩] 45)
  have B3 := hide (B2.out.alloc (by omega) (.cells #[.int .i64 0, .int .i64 0, .string ⟨#[]⟩] 45))
  have hC3 := hC2.kept (K3.block _ (by omega))
  have hR3 := (K3.block w.heap.size (by omega)).trans hR2
  have hE3 := heap_alloc_new w2 (.cells #[.int .i64 0, .int .i64 0, .string ⟨#[]⟩] 45)
  obtain ⟨w3, hw3⟩ : ∃ w3, w2.alloc (.cells #[.int .i64 0, .int .i64 0, .string ⟨#[]⟩] 45) = w3 := ⟨_, rfl⟩
  have s3 : w3.heap.size = w2.heap.size + 1 := by rw [← hw3]; simp
  rw [hw3] at hC3 hR3 hE3 B3 ⊢
  clear hw3 K3 hC2 hR2
  refine (HV3.out _ _ hC3).mono ?_
  rw [H3.out]
  rintro r w4 ⟨rfl, hC4, hg4⟩
  have hR4 := keep_blk hg4 hR3 (by omega) (by omega)
  have hE4 := keep_blk hg4 hE3 (by omega) (by omega)
  have s4 : w2.heap.size + 1 ≤ w4.heap.size := by have := hg4.size; omega
  have B4 := hide (B3.out.grown hg4 (by omega) (fun k hk => by cases hk; omega))
  clear hC3 hR3 hE3 hg4
  obtain ⟨e0, e1, e2, y0, y1, y2⟩ := rdc_cells hE4
  go_wp2_with fail
  have hE5 := rdc_set (k := 0) (.int .i64 (t : Int)) hE4
  have hg5 := rdc_grown w4 w2.heap.size 0 (.int .i64 (t : Int))
  obtain ⟨w5, hw5⟩ : ∃ w5, w4.setCell ⟨w2.heap.size, 0, none⟩ (.int .i64 (t : Int)) = w5 := ⟨_, rfl⟩
  rw [hw5] at hE5 hg5 ⊢
  have hE5' : w5.heap[w2.heap.size]? = some (.cells #[.int .i64 (t : Int), .int .i64 0, .string ⟨#[]⟩] 45 (0, 0)) := hE5
  have hR5 := keep_blk hg5 hR4 (by omega) (by omega)
  have hC5 : RdC w5 (w.heap.size + 1) s a3 b3 := hC4.kept (hg5.block _ (by omega) (fun e => by have := Option.some.inj e; omega))
  have s5 : w2.heap.size + 1 ≤ w5.heap.size := by have := hg5.size; omega
  have B5 := hide (B4.out.grown hg5 (by omega) (fun k hk => by cases hk; omega))
  clear hw5 hE5 hg5 hE4 hR4 hC4 e0 e1 e2 y0 y1 y2
  refine (HT4.out _ _ hC5).mono ?_
  rw [H4.out]
  rintro r w6 ⟨rfl, hC6, hg6⟩
  have hR6 := keep_blk hg6 hR5 (by omega) (by omega)
  have hE6 := keep_blk hg6 hE5' (by omega) (by omega)
  have s6 : w2.heap.size + 1 ≤ w6.heap.size := by have := hg6.size; omega
  have B6 := hide (B5.out.grown hg6 (by omega) (fun k hk => by cases hk; omega))
  clear hC5 hR5 hE5' hg6
  obtain ⟨c0, c1, c2, z0, z1, z2⟩ := rdc_cells hC6.2
  obtain ⟨e0, e1, e2, y0, y1, y2⟩ := rdc_cells hE6
  obtain ⟨q0, q1, q2, p0, p1, p2⟩ := rdc_cells hR6
  have HC6 := hide hC6
  have HE6 := hide hE6
  have HR6 := hide hR6
  clear hC6 hE6 hR6
  cases b4 with
  | true =>
    have HN := reader_bad H1.out H2.out H3.out H4.out
    obtain rfl : R = none := HR.out.symm.trans HN
    clear HN
    go_wp2_with fail
    obtain ⟨w7, hw7, hR7, hg7⟩ := store3 HR6.out (.int .i64 0) (.int .i64 0) (.string ⟨#[]⟩)
    rw [hw7]
    obtain ⟨q0, q1, q2, -, -, -⟩ := rdc_cells hR7
    refine bodyPost_ret (v := .tuple #[.int .i64 0, .agg #[.int .i64 0, .int .i64 0, .string ⟨#[]⟩], .bool false]) (by simp [results, Tryd.results41, go_sem, q0, q1, q2]) rfl ⟨rfl, ?_⟩
    exact B6.out.grown hg7 (by omega) (fun k hk => by cases hk; omega)
  | false =>
    obtain ⟨k, d, n1, n2, r1, r2, r3, hx4, ha4, hd, hi, ht⟩ := reader_good H1.out H2.out H3.out H4.out
    subst hx4
    have hkl := k.toNat_lt
    have hidx : ∀ wx, (Instr.index 9 (.string ⟨#[k]⟩) (.int .i64 0)).run Tryd.prog wx = .ok (.int .u8 (k.toNat : Int)) wx := fun wx => idx_any ⟨#[k]⟩ .i64 0 (by show 0 < 1; omega) wx
    have hsl : ∀ wx, (Instr.slice 9 (.string s) (some (.int .i64 (a4 : Int))) none none).run Tryd.prog wx = .ok (.string ⟨d.toArray⟩) wx := fun wx => by
      rw [← hd]
      have hu := Tryd.underlying9
      have g0 : (0 : Int) ≤ (a4 : Int) := by omega
      have g1 : (a4 : Int) ≤ (s.size : Int) := by omega
      simp [go_sem, hu, g0, g1]
    have HRD := hide (And.intro r1 (And.intro r2 r3))
    have HD := hide hd
    have hds : (⟨d.toArray⟩ : ByteArray).size ≤ 1048576 := by rw [← hd, ByteArray.size_extract]; omega
    clear r1 r2 r3 hd
    go_wp2_with fail
    have hE7 := rdc_set (k := 2) (.string ⟨d.toArray⟩) (rdc_set (k := 1) (.int .i64 (k.toNat : Int)) HE6.out)
    have hg7 := grown_trans (rdc_grown w6 w2.heap.size 1 (.int .i64 (k.toNat : Int))) (rdc_grown _ w2.heap.size 2 (.string ⟨d.toArray⟩))
    obtain ⟨w7, hw7⟩ : ∃ w7, (w6.setCell ⟨w2.heap.size, 1, none⟩ (.int .i64 (k.toNat : Int))).setCell ⟨w2.heap.size, 2, none⟩ (.string ⟨d.toArray⟩) = w7 := ⟨_, rfl⟩
    rw [hw7] at hE7 hg7 ⊢
    have hE7' : w7.heap[w2.heap.size]? = some (.cells #[.int .i64 (t : Int), .int .i64 (k.toNat : Int), .string ⟨d.toArray⟩] 45 (0, 0)) := hE7
    have hR7 := keep_blk hg7 HR6.out (by omega) (by omega)
    have s7 : w2.heap.size + 1 ≤ w7.heap.size := by have := hg7.size; omega
    have B7 := hide (B6.out.grown hg7 (by omega) (fun k hk => by cases hk; omega))
    clear hw7 hE7 hg7 c0 c1 c2 z0 z1 z2 e0 e1 e2 y0 y1 y2 q0 q1 q2 p0 p1 p2
    have HALL := hide (rdEntry_all HRD.out.1 HRD.out.2.1 HRD.out.2.2)
    have HTX := hide (entryB_all HRD.out.1 HRD.out.2.1 HRD.out.2.2)
    refine (specEntryText_any (i : Int) ⟨(t : Int), (k.toNat : Int), ⟨d.toArray⟩⟩ hds _).mono ?_
    cases hok : (EntV.ok ⟨(t : Int), (k.toNat : Int), ⟨d.toArray⟩⟩ && indexOk (i : Int)) with
    | false =>
      rw [etVal_no hok]
      rintro r w8 ⟨rfl, hb8⟩
      have hR8 := (hb8.block w.heap.size (by omega)).trans hR7
      have B8 := hide (B7.out.trans (hb8.mono (by omega)))
      obtain ⟨q0, q1, q2, p0, p1, p2⟩ := rdc_cells hR8
      have HNO : R = none := by
        rw [← HR.out, HALL.out, if_neg]
        intro hh
        have : (EntV.ok ⟨(t : Int), (k.toNat : Int), ⟨d.toArray⟩⟩ && indexOk (i : Int)) = true := by
          simp only [EntV.ok, Bool.and_eq_true]
          exact ⟨hh.2.2, hh.2.1⟩
        rw [hok] at this
        cases this
      subst HNO
      clear hok
      go_wp2_with fail
      obtain ⟨w9, hw9, hR9, hg9⟩ := store3 hR8 (.int .i64 0) (.int .i64 0) (.string ⟨#[]⟩)
      rw [hw9]
      obtain ⟨q0, q1, q2, -, -, -⟩ := rdc_cells hR9
      have s8 := hb8.size
      refine bodyPost_ret (v := .tuple #[.int .i64 0, .agg #[.int .i64 0, .int .i64 0, .string ⟨#[]⟩], .bool false]) (by simp [results, Tryd.results41, go_sem, q0, q1, q2]) rfl ⟨rfl, ?_⟩
      exact B8.out.grown hg9 (by omega) (fun k hk => by cases hk; omega)
    | true =>
      rw [etVal_yes hok]
      have hok2 := hok
      simp only [EntV.ok, Bool.and_eq_true] at hok2
      have hbt : bl (⟨d.toArray⟩ : ByteArray) = d := by simp [bl]
      have hZ : (entryB ((i : Int)).toNat ((t : Int)).toNat ((k.toNat : Int)).toNat (bl ⟨d.toArray⟩)) = entryB i t k.toNat d := by rw [hbt]; rfl
      by_cases hh : (bl s).head? = some 69
      · have hZs : (⟨(entryB ((i : Int)).toNat ((t : Int)).toNat ((k.toNat : Int)).toNat (bl ⟨d.toArray⟩)).toArray⟩ : ByteArray) = s := by
          rw [hZ, HTX.out.2 hh]
        rw [hZs]
        have HYES : R = some (i, t, k.toNat, d) := by
          rw [← HR.out, HALL.out, if_pos]
          refine ⟨hh, hok2.2, ?_⟩
          have := hok2.1
          rw [hbt] at this
          exact this
        subst HYES
        clear hok hok2 hZ hZs hbt hh
        rintro r w8 ⟨rfl, hb8⟩
        have hR8 := (hb8.block w.heap.size (by omega)).trans hR7
        have hE8 := (hb8.block w2.heap.size (by omega)).trans hE7'
        have B8 := hide (B7.out.trans (hb8.mono (by omega)))
        obtain ⟨q0, q1, q2, p0, p1, p2⟩ := rdc_cells hR8
        obtain ⟨e0, e1, e2, y0, y1, y2⟩ := rdc_cells hE8
        have hne : w.heap.size ≠ w2.heap.size := by omega
        have hne' : w2.heap.size ≠ w.heap.size := by omega
        have HR8 := hide hR8
        have HE8 := hide hE8
        have s8 := hb8.size
        clear hR8 hE8 hb8 hR7 hE7'
        go_wp2_with fail
        go_region_held3 (fun w' => w'.cell? ⟨w2.heap.size, 0, none⟩ = some (.int .i64 (t : Int)) ∧ w'.cell? ⟨w2.heap.size, 1, none⟩ = some (.int .i64 (k.toNat : Int)) ∧ w'.cell? ⟨w2.heap.size, 2, none⟩ = some (.string ⟨d.toArray⟩)) (go_keep) (fail)
        obtain ⟨w9, hw9, hR9, hg9⟩ := store3 HR8.out (.int .i64 (t : Int)) (.int .i64 (k.toNat : Int)) (.string ⟨d.toArray⟩)
        rw [hw9]
        obtain ⟨q0, q1, q2, -, -, -⟩ := rdc_cells hR9
        clear hw9 e0 e1 e2 y0 y1 y2 p0 p1 p2
        go_wp2_with fail
        refine bodyPost_ret (v := .tuple #[.int .i64 (i : Int), .agg #[.int .i64 (t : Int), .int .i64 (k.toNat : Int), .string ⟨d.toArray⟩], .bool true]) (by simp [results, Tryd.results41, go_sem, q0, q1, q2]) rfl ⟨rfl, ?_⟩
        exact (B8.out.grown hg9 (by omega) (fun k hk => by cases hk; omega)).drew
      · have HNO : R = none := by
          rw [← HR.out, HALL.out, if_neg (fun q => hh q.1)]
        subst HNO
        have hZs : ¬ entryB i t k.toNat d = bl s := fun q => hh (HTX.out.1 q)
        rw [hZ]
        obtain ⟨Z, hZ'⟩ : ∃ Z, (⟨(entryB i t k.toNat d).toArray⟩ : ByteArray) = Z := ⟨_, rfl⟩
        have hne2 : (Z.toList == s.toList) = false := by
          rw [Lib.toList_data, Lib.toList_data, beq_eq_false_iff_ne]
          intro q
          apply hZs
          rw [← hZ'] at q
          simpa using q
        rw [hZ']
        clear hok hok2 hZ hZs hbt hh hZ'
        rintro r w8 ⟨rfl, hb8⟩
        have hR8 := (hb8.block w.heap.size (by omega)).trans hR7
        have B8 := hide (B7.out.trans (hb8.mono (by omega)))
        obtain ⟨q0, q1, q2, p0, p1, p2⟩ := rdc_cells hR8
        have s8 := hb8.size
        have HR8 := hide hR8
        clear hR8 hb8 hR7 hE7'
        go_wp2_with fail
        obtain ⟨w9, hw9, hR9, hg9⟩ := store3 HR8.out (.int .i64 0) (.int .i64 0) (.string ⟨#[]⟩)
        rw [hw9]
        obtain ⟨q0, q1, q2, -, -, -⟩ := rdc_cells hR9
        refine bodyPost_ret (v := .tuple #[.int .i64 0, .agg #[.int .i64 0, .int .i64 0, .string ⟨#[]⟩], .bool false]) (by simp [results, Tryd.results41, go_sem, q0, q1, q2]) rfl ⟨rfl, ?_⟩
        exact B8.out.grown hg9 (by omega) (fun k hk => by cases hk; omega)

end Go.Proofs.YtmllcomppjkhhaaDoor
