/-
  Walks and mathematics of Walk5i, Walk5j, Walk5k.
-/
import Derived.Test.YtmllcomppjkhhaaGreatDoorRWalk1b
import Derived.Test.YtmllcomppjkhhaaGreatDoorRWalk5f
import Derived.Test.YtmllcomppjkhhaaGreatDoorRPlain1
import Derived.Test.YtmllcomppjkhhaaGreatDoorRWalk1c
namespace Go.Proofs.YtmllcomppjkhhaaGreatDoor
open Go.RowKit P1 P9 K
set_option linter.unusedVariables false
set_option linter.unusedSimpArgs false

def reVal : Option (Nat × Nat × Nat × List UInt8) → Value
  | none => .tuple #[.int .i64 0, .agg #[.int .i64 0, .int .i64 0, .string ⟨#[]⟩], .bool false]
  | some (i, t, k, d) => .tuple #[.int .i64 (i : Int), .agg #[.int .i64 (t : Int), .int .i64 (k : Int), .string ⟨d.toArray⟩], .bool true]

theorem l05Take_one (g : Nat) (s : ByteArray) (hs : s.size ≤ 1048576) (a : Nat) (b : Bool) (w : World) (hc : RdC w g s a b) :
    Calls Tryz.prog 31 #[.pointer (some ⟨g, 0, none⟩), .int .i64 1] w fun e w' =>
      e = .returned (.string (takeV s a b 1).1) ∧ RdC w' g s (takeV s a b 1).2.1 (takeV s a b 1).2.2 ∧ w.grownBy w' (some g) :=
  l05Take_any g s hs a b 1 (by omega) w hc

theorem keep_blk {w w' : World} {C B : Nat} {x : Option Obj} (h : w.grownBy w' (some C)) (hb : w.heap[B]? = x) (hlt : B < w.heap.size) (hne : C ≠ B) : w'.heap[B]? = x :=
  (h.block B hlt (fun e => hne (Option.some.inj e).symm)).trans hb

theorem reader_bad {s : ByteArray} {x1 : ByteArray} {a1 : Nat} {b1 : Bool} {i a2 : Nat} {b2 : Bool} {t a3 : Nat} {b3 : Bool} {x4 : ByteArray} {a4 : Nat}
    (h1 : takeV s 0 false 1 = (x1, a1, b1)) (h2 : varV s a1 b1 = (i, a2, b2)) (h3 : varV s a2 b2 = (t, a3, b3)) (h4 : takeV s a3 b3 1 = (x4, a4, true)) : rdEntry (bl s) = none := by
  have hlen : (bl s).length = s.size := bl_length s
  by_cases hs0 : 1 ≤ s.size
  · have e1 : takeV s 0 false 1 = (s.extract 0 1, 1, false) := by simp [takeV, hs0]
    rw [e1] at h1
    cases h1
    cases hr1 : rdGo 5 [] ((bl s).drop 1) with
    | none => exact rdEntry_one hr1
    | some p =>
      obtain ⟨i', c1⟩ := p
      have e2 : varV s 1 false = (i', 1 + c1, false) := by unfold varV; rw [hr1]
      rw [e2] at h2
      cases h2
      cases hr2 : rdGo 5 [] ((bl s).drop (1 + c1)) with
      | none => exact rdEntry_two hr1 hr2
      | some q =>
        obtain ⟨t', c2⟩ := q
        have e3 : varV s (1 + c1) false = (t', 1 + c1 + c2, false) := by unfold varV; rw [hr2]
        rw [e3] at h3
        cases h3
        refine rdEntry_short hr1 hr2 (List.drop_eq_nil_of_le ?_)
        unfold takeV at h4
        split at h4
        · cases h4
        · rename_i hn
          simp at hn
          omega
  · have : bl s = [] := List.eq_nil_of_length_eq_zero (by omega)
    rw [this]
    rfl

theorem reader_good {s : ByteArray} {x1 : ByteArray} {a1 : Nat} {b1 : Bool} {i a2 : Nat} {b2 : Bool} {t a3 : Nat} {b3 : Bool} {x4 : ByteArray} {a4 : Nat}
    (h1 : takeV s 0 false 1 = (x1, a1, b1)) (h2 : varV s a1 b1 = (i, a2, b2)) (h3 : varV s a2 b2 = (t, a3, b3)) (h4 : takeV s a3 b3 1 = (x4, a4, false)) :
    ∃ (k : UInt8) (d : List UInt8) (c1 c2 : Nat), rdGo 5 [] ((bl s).drop 1) = some (i, c1) ∧ rdGo 5 [] ((bl s).drop (1 + c1)) = some (t, c2) ∧ (bl s).drop (1 + c1 + c2) = k :: d ∧ x4 = ⟨#[k]⟩ ∧ a4 ≤ s.size ∧ s.extract a4 s.size = ⟨d.toArray⟩ ∧ i ≤ 1000000000 ∧ t ≤ 1000000000 := by
  have hlen : (bl s).length = s.size := bl_length s
  have hb3 : b3 = false := by
    unfold takeV at h4
    split at h4
    · rename_i h; exact h.1
    · cases h4
  subst hb3
  have hb2 : b2 = false := by
    cases b2 with
    | false => rfl
    | true => unfold varV at h3; cases h3
  subst hb2
  have hb1 : b1 = false := by
    cases b1 with
    | false => rfl
    | true => unfold varV at h2; cases h2
  subst hb1
  have ha1 : a1 = 1 := by
    unfold takeV at h1
    split at h1
    · cases h1; rfl
    · cases h1
  subst ha1
  cases hr1 : rdGo 5 [] ((bl s).drop 1) with
  | none => unfold varV at h2; rw [hr1] at h2; cases h2
  | some p =>
    obtain ⟨i', c1⟩ := p
    unfold varV at h2
    rw [hr1] at h2
    cases h2
    cases hr2 : rdGo 5 [] ((bl s).drop (1 + c1)) with
    | none => unfold varV at h3; rw [hr2] at h3; cases h3
    | some q =>
      obtain ⟨t', c2⟩ := q
      unfold varV at h3
      rw [hr2] at h3
      cases h3
      unfold takeV at h4
      split at h4
      · rename_i hh
        cases h4
        have hlt : 1 + c1 + c2 < s.size := by omega
        refine ⟨s[1 + c1 + c2], (bl s).drop (1 + c1 + c2 + 1), c1, c2, rfl, hr2, bl_drop s _ hlt, ?_, hh.2, ?_, (rdGo_some 5 [] _ _ _ hr1).1, (rdGo_some 5 [] _ _ _ hr2).1⟩
        · apply ByteArray.ext
          rw [ByteArray.data_extract]
          apply Array.ext'
          rw [Array.toList_extract, List.extract_eq_take_drop]
          show List.take (1 + c1 + c2 + 1 - (1 + c1 + c2)) ((bl s).drop (1 + c1 + c2)) = _
          rw [bl_drop s _ hlt, show 1 + c1 + c2 + 1 - (1 + c1 + c2) = 1 by omega]
          rfl
        · apply ByteArray.ext
          rw [ByteArray.data_extract]
          apply Array.ext'
          rw [Array.toList_extract, List.extract_eq_take_drop]
          show List.take (s.size - (1 + c1 + c2 + 1)) ((bl s).drop (1 + c1 + c2 + 1)) = _
          rw [List.take_of_length_le (by rw [List.length_drop, bl_length]; exact Nat.le_refl _)]
      · cases h4

end Go.Proofs.YtmllcomppjkhhaaGreatDoor

namespace Go.Proofs.YtmllcomppjkhhaaGreatDoor
open Go.RowKit P1 P9 K
set_option linter.unusedVariables false
set_option linter.unusedSimpArgs false

theorem store3 {w : World} {p : Nat} {x0 x1 x2 : Value} {e : TypeId} (h : w.heap[p]? = some (.cells #[x0, x1, x2] e (0, 0))) (v0 v1 v2 : Value) :
    ∃ w', ((w.setCell ⟨p, 0, none⟩ v0).setCell ⟨p, 1, none⟩ v1).setCell ⟨p, 2, none⟩ v2 = w' ∧ w'.heap[p]? = some (.cells #[v0, v1, v2] e (0, 0)) ∧ w.grownBy w' (some p) :=
  ⟨_, rfl, rdc_set (k := 2) v2 (rdc_set (k := 1) v1 (rdc_set (k := 0) v0 h)), grown_trans (grown_trans (rdc_grown _ _ _ _) (rdc_grown _ _ _ _)) (rdc_grown _ _ _ _)⟩

set_option maxHeartbeats 2000000 in
theorem specReadEntry_any (s : ByteArray) (hs : s.size ≤ 1048576) (w : World) :
    Calls Tryz.prog 33 #[.string s] w fun r w' => r = .returned (reVal (rdEntry (bl s))) ∧ Below w.heap.size w w' := by
  obtain ⟨x1, a1, b1, h1⟩ : ∃ x1 a1 b1, takeV s 0 false 1 = (x1, a1, b1) := ⟨_, _, _, rfl⟩
  obtain ⟨i, a2, b2, h2⟩ : ∃ i a2 b2, varV s a1 b1 = (i, a2, b2) := ⟨_, _, _, rfl⟩
  obtain ⟨t, a3, b3, h3⟩ : ∃ t a3 b3, varV s a2 b2 = (t, a3, b3) := ⟨_, _, _, rfl⟩
  obtain ⟨x4, a4, b4, h4⟩ : ∃ x4 a4 b4, takeV s a3 b3 1 = (x4, a4, b4) := ⟨_, _, _, rfl⟩
  obtain ⟨R, hR⟩ : ∃ R, rdEntry (bl s) = R := ⟨_, rfl⟩
  rw [hR]
  have HR := hide hR
  have H1 := hide h1
  have H2 := hide h2
  have H3 := hide h3
  have H4 := hide h4
  clear h1 h2 h3 h4 hR
  have HT1 := hide (fun g w => l05Take_one g s hs 0 false w)
  have HV2 := hide (fun g w => l05Var_any g s hs a1 b1 w)
  have HV3 := hide (fun g w => l05Var_any g s hs a2 b2 w)
  have HT4 := hide (fun g w => l05Take_one g s hs a3 b3 w)
  go_enter Tryz.func33, Tryz.ntmps33
  go_wp2_with fail
  have B0 := hide (((Below.refl w.heap.size w).alloc (Nat.le_refl _) (.cells #[.int .i64 0, .int .i64 0, .string ⟨#[]⟩] 56)).alloc (by simp) (.cells #[.string s, .int .i64 0, .bool false] 69))
  have hC0 : RdC ((w.alloc (.cells #[.int .i64 0, .int .i64 0, .string ⟨#[]⟩] 56)).alloc (.cells #[.string s, .int .i64 0, .bool false] 69)) (w.heap.size + 1) s 0 false :=
    ⟨Nat.zero_le _, by have := heap_alloc_new (w.alloc (.cells #[.int .i64 0, .int .i64 0, .string ⟨#[]⟩] 56)) (.cells #[.string s, .int .i64 0, .bool false] 69); simpa using this⟩
  have hR0 : ((w.alloc (.cells #[.int .i64 0, .int .i64 0, .string ⟨#[]⟩] 56)).alloc (.cells #[.string s, .int .i64 0, .bool false] 69)).heap[w.heap.size]? = some (.cells #[.int .i64 0, .int .i64 0, .string ⟨#[]⟩] 56 (0, 0)) :=
    (((Below.refl (w.heap.size + 1) (w.alloc (.cells #[.int .i64 0, .int .i64 0, .string ⟨#[]⟩] 56))).alloc (by simp) _).block _ (Nat.lt_succ_self _)).trans (heap_alloc_new _ _)
  refine (HT1.out _ _ hC0).mono ?_
  rw [H1.out]
  rintro r w1 ⟨rfl, hC1, hg1⟩
  have hR1 := keep_blk hg1 hR0 (by simp; omega) (by omega)
  have s1 : w.heap.size + 2 ≤ w1.heap.size := by have := hg1.size; simpa using this
  have B1 := hide (B0.out.grown hg1 (by simp; omega) (fun k hk => by cases hk; omega))
  clear hC0 hR0 hg1
  go_wp2_with fail
  refine (HV2.out _ _ hC1).mono ?_
  rw [H2.out]
  rintro r w2 ⟨rfl, hC2, hg2⟩
  have hR2 := keep_blk hg2 hR1 (by omega) (by omega)
  have s2 : w.heap.size + 2 ≤ w2.heap.size := by have := hg2.size; omega
  have B2 := hide (B1.out.grown hg2 (by omega) (fun k hk => by cases hk; omega))
  clear hC1 hR1 hg2
  go_wp2_with fail
  have K3 := (Below.refl w2.heap.size w2).alloc (Nat.le_refl _) (.cells #[.int .i64 0, .int .i64 0, .string ⟨#[]⟩] 56)
  have B3 := hide (B2.out.alloc (by omega) (.cells #[.int .i64 0, .int .i64 0, .string ⟨#[]⟩] 56))
  have hC3 := hC2.kept (K3.block _ (by omega))
  have hR3 := (K3.block w.heap.size (by omega)).trans hR2
  have hE3 := heap_alloc_new w2 (.cells #[.int .i64 0, .int .i64 0, .string ⟨#[]⟩] 56)
  obtain ⟨w3, hw3⟩ : ∃ w3, w2.alloc (.cells #[.int .i64 0, .int .i64 0, .string ⟨#[]⟩] 56) = w3 := ⟨_, rfl⟩
  have s3 : w3.heap.size = w2.heap.size + 1 := by rw [← hw3]; simp
  rw [hw3] at hC3 hR3 hE3 B3 ⊢
  clear hw3 K3 hC2 hR2
  refine (HV3.out _ _ hC3).mono ?_
  rw [H3.out]
  rintro r w4 ⟨rfl, hC4, hg4⟩
  have hR4 := keep_blk hg4 hR3 (by omega) (by omega)
  have hE4 := keep_blk hg4 hE3 (by omega) (by omega)
  have s4 : w2.heap.size + 1 ≤ w4.heap.size := by have := hg4.size; omega
  have B4 := hide (B3.out.grown hg4 (by omega) (fun k hk => by cases hk; omega))
  clear hC3 hR3 hE3 hg4
  obtain ⟨e0, e1, e2, y0, y1, y2⟩ := rdc_cells hE4
  go_wp2_with fail
  have hE5 := rdc_set (k := 0) (.int .i64 (t : Int)) hE4
  have hg5 := rdc_grown w4 w2.heap.size 0 (.int .i64 (t : Int))
  obtain ⟨w5, hw5⟩ : ∃ w5, w4.setCell ⟨w2.heap.size, 0, none⟩ (.int .i64 (t : Int)) = w5 := ⟨_, rfl⟩
  rw [hw5] at hE5 hg5 ⊢
  have hE5' : w5.heap[w2.heap.size]? = some (.cells #[.int .i64 (t : Int), .int .i64 0, .string ⟨#[]⟩] 56 (0, 0)) := hE5
  have hR5 := keep_blk hg5 hR4 (by omega) (by omega)
  have hC5 : RdC w5 (w.heap.size + 1) s a3 b3 := hC4.kept (hg5.block _ (by omega) (fun e => by have := Option.some.inj e; omega))
  have s5 : w2.heap.size + 1 ≤ w5.heap.size := by have := hg5.size; omega
  have B5 := hide (B4.out.grown hg5 (by omega) (fun k hk => by cases hk; omega))
  clear hw5 hE5 hg5 hE4 hR4 hC4 e0 e1 e2 y0 y1 y2
  refine (HT4.out _ _ hC5).mono ?_
  rw [H4.out]
  rintro r w6 ⟨rfl, hC6, hg6⟩
  have hR6 := keep_blk hg6 hR5 (by omega) (by omega)
  have hE6 := keep_blk hg6 hE5' (by omega) (by omega)
  have s6 : w2.heap.size + 1 ≤ w6.heap.size := by have := hg6.size; omega
  have B6 := hide (B5.out.grown hg6 (by omega) (fun k hk => by cases hk; omega))
  clear hC5 hR5 hE5' hg6
  obtain ⟨c0, c1, c2, z0, z1, z2⟩ := rdc_cells hC6.2
  obtain ⟨e0, e1, e2, y0, y1, y2⟩ := rdc_cells hE6
  obtain ⟨q0, q1, q2, p0, p1, p2⟩ := rdc_cells hR6
  have HC6 := hide hC6
  have HE6 := hide hE6
  have HR6 := hide hR6
  clear hC6 hE6 hR6
  cases b4 with
  | true =>
    have HN := reader_bad H1.out H2.out H3.out H4.out
    obtain rfl : R = none := HR.out.symm.trans HN
    clear HN
    go_wp2_with fail
    obtain ⟨w7, hw7, hR7, hg7⟩ := store3 HR6.out (.int .i64 0) (.int .i64 0) (.string ⟨#[]⟩)
    rw [hw7]
    obtain ⟨q0, q1, q2, -, -, -⟩ := rdc_cells hR7
    refine bodyPost_ret (v := .tuple #[.int .i64 0, .agg #[.int .i64 0, .int .i64 0, .string ⟨#[]⟩], .bool false]) (by simp [results, Tryz.results33, go_sem, q0, q1, q2]) rfl ⟨rfl, ?_⟩
    exact B6.out.grown hg7 (by omega) (fun k hk => by cases hk; omega)
  | false =>
    obtain ⟨k, d, n1, n2, r1, r2, r3, hx4, ha4, hd, hi, ht⟩ := reader_good H1.out H2.out H3.out H4.out
    subst hx4
    have hkl := k.toNat_lt
    have hidx : ∀ wx, (Instr.index 9 (.string ⟨#[k]⟩) (.int .i64 0)).run Tryz.prog wx = .ok (.int .u8 (k.toNat : Int)) wx := fun wx => idx_any ⟨#[k]⟩ .i64 0 (by show 0 < 1; omega) wx
    have hsl : ∀ wx, (Instr.slice 9 (.string s) (some (.int .i64 (a4 : Int))) none none).run Tryz.prog wx = .ok (.string ⟨d.toArray⟩) wx := fun wx => by
      rw [← hd]
      have hu := Tryz.underlying9
      have g0 : (0 : Int) ≤ (a4 : Int) := by omega
      have g1 : (a4 : Int) ≤ (s.size : Int) := by omega
      simp [go_sem, hu, g0, g1]
    have HRD := hide (And.intro r1 (And.intro r2 r3))
    have HD := hide hd
    have hds : (⟨d.toArray⟩ : ByteArray).size ≤ 1048576 := by rw [← hd, ByteArray.size_extract]; omega
    clear r1 r2 r3 hd
    go_wp2_with fail
    have hE7 := rdc_set (k := 2) (.string ⟨d.toArray⟩) (rdc_set (k := 1) (.int .i64 (k.toNat : Int)) HE6.out)
    have hg7 := grown_trans (rdc_grown w6 w2.heap.size 1 (.int .i64 (k.toNat : Int))) (rdc_grown _ w2.heap.size 2 (.string ⟨d.toArray⟩))
    obtain ⟨w7, hw7⟩ : ∃ w7, (w6.setCell ⟨w2.heap.size, 1, none⟩ (.int .i64 (k.toNat : Int))).setCell ⟨w2.heap.size, 2, none⟩ (.string ⟨d.toArray⟩) = w7 := ⟨_, rfl⟩
    rw [hw7] at hE7 hg7 ⊢
    have hE7' : w7.heap[w2.heap.size]? = some (.cells #[.int .i64 (t : Int), .int .i64 (k.toNat : Int), .string ⟨d.toArray⟩] 56 (0, 0)) := hE7
    have hR7 := keep_blk hg7 HR6.out (by omega) (by omega)
    have s7 : w2.heap.size + 1 ≤ w7.heap.size := by have := hg7.size; omega
    have B7 := hide (B6.out.grown hg7 (by omega) (fun k hk => by cases hk; omega))
    clear hw7 hE7 hg7 c0 c1 c2 z0 z1 z2 e0 e1 e2 y0 y1 y2 q0 q1 q2 p0 p1 p2
    have HALL := hide (rdEntry_all HRD.out.1 HRD.out.2.1 HRD.out.2.2)
    have HTX := hide (entryB_all HRD.out.1 HRD.out.2.1 HRD.out.2.2)
    refine (specEntryText_any (i : Int) ⟨(t : Int), (k.toNat : Int), ⟨d.toArray⟩⟩ hds _).mono ?_
    cases hok : (EntV.ok ⟨(t : Int), (k.toNat : Int), ⟨d.toArray⟩⟩ && indexOk (i : Int)) with
    | false =>
      rw [etVal_no hok]
      rintro r w8 ⟨rfl, hb8⟩
      have hR8 := (hb8.block w.heap.size (by omega)).trans hR7
      have B8 := hide (B7.out.trans (hb8.mono (by omega)))
      obtain ⟨q0, q1, q2, p0, p1, p2⟩ := rdc_cells hR8
      have HNO : R = none := by
        rw [← HR.out, HALL.out, if_neg]
        intro hh
        have : (EntV.ok ⟨(t : Int), (k.toNat : Int), ⟨d.toArray⟩⟩ && indexOk (i : Int)) = true := by
          simp only [EntV.ok, Bool.and_eq_true]
          exact ⟨hh.2.2, hh.2.1⟩
        rw [hok] at this
        cases this
      subst HNO
      clear hok
      go_wp2_with fail
      obtain ⟨w9, hw9, hR9, hg9⟩ := store3 hR8 (.int .i64 0) (.int .i64 0) (.string ⟨#[]⟩)
      rw [hw9]
      obtain ⟨q0, q1, q2, -, -, -⟩ := rdc_cells hR9
      have s8 := hb8.size
      refine bodyPost_ret (v := .tuple #[.int .i64 0, .agg #[.int .i64 0, .int .i64 0, .string ⟨#[]⟩], .bool false]) (by simp [results, Tryz.results33, go_sem, q0, q1, q2]) rfl ⟨rfl, ?_⟩
      exact B8.out.grown hg9 (by omega) (fun k hk => by cases hk; omega)
    | true =>
      rw [etVal_yes hok]
      have hok2 := hok
      simp only [EntV.ok, Bool.and_eq_true] at hok2
      have hbt : bl (⟨d.toArray⟩ : ByteArray) = d := by simp [bl]
      have hZ : (entryB ((i : Int)).toNat ((t : Int)).toNat ((k.toNat : Int)).toNat (bl ⟨d.toArray⟩)) = entryB i t k.toNat d := by rw [hbt]; rfl
      by_cases hh : (bl s).head? = some 69
      · have hZs : (⟨(entryB ((i : Int)).toNat ((t : Int)).toNat ((k.toNat : Int)).toNat (bl ⟨d.toArray⟩)).toArray⟩ : ByteArray) = s := by
          rw [hZ, HTX.out.2 hh]
        rw [hZs]
        have HYES : R = some (i, t, k.toNat, d) := by
          rw [← HR.out, HALL.out, if_pos]
          refine ⟨hh, hok2.2, ?_⟩
          have := hok2.1
          rw [hbt] at this
          exact this
        subst HYES
        clear hok hok2 hZ hZs hbt hh
        rintro r w8 ⟨rfl, hb8⟩
        have hR8 := (hb8.block w.heap.size (by omega)).trans hR7
        have hE8 := (hb8.block w2.heap.size (by omega)).trans hE7'
        have B8 := hide (B7.out.trans (hb8.mono (by omega)))
        obtain ⟨q0, q1, q2, p0, p1, p2⟩ := rdc_cells hR8
        obtain ⟨e0, e1, e2, y0, y1, y2⟩ := rdc_cells hE8
        have hne : w.heap.size ≠ w2.heap.size := by omega
        have hne' : w2.heap.size ≠ w.heap.size := by omega
        have HR8 := hide hR8
        have HE8 := hide hE8
        have s8 := hb8.size
        clear hR8 hE8 hb8 hR7 hE7'
        go_wp2_with fail
        go_region_held3 (fun w' => w'.cell? ⟨w2.heap.size, 0, none⟩ = some (.int .i64 (t : Int)) ∧ w'.cell? ⟨w2.heap.size, 1, none⟩ = some (.int .i64 (k.toNat : Int)) ∧ w'.cell? ⟨w2.heap.size, 2, none⟩ = some (.string ⟨d.toArray⟩)) (go_keep) (fail)
        obtain ⟨w9, hw9, hR9, hg9⟩ := store3 HR8.out (.int .i64 (t : Int)) (.int .i64 (k.toNat : Int)) (.string ⟨d.toArray⟩)
        rw [hw9]
        obtain ⟨q0, q1, q2, -, -, -⟩ := rdc_cells hR9
        clear hw9 e0 e1 e2 y0 y1 y2 p0 p1 p2
        go_wp2_with fail
        refine bodyPost_ret (v := .tuple #[.int .i64 (i : Int), .agg #[.int .i64 (t : Int), .int .i64 (k.toNat : Int), .string ⟨d.toArray⟩], .bool true]) (by simp [results, Tryz.results33, go_sem, q0, q1, q2]) rfl ⟨rfl, ?_⟩
        exact (B8.out.grown hg9 (by omega) (fun k hk => by cases hk; omega)).drew
      · have HNO : R = none := by
          rw [← HR.out, HALL.out, if_neg (fun q => hh q.1)]
        subst HNO
        have hZs : ¬ entryB i t k.toNat d = bl s := fun q => hh (HTX.out.1 q)
        rw [hZ]
        obtain ⟨Z, hZ'⟩ : ∃ Z, (⟨(entryB i t k.toNat d).toArray⟩ : ByteArray) = Z := ⟨_, rfl⟩
        have hne2 : (Z.toList == s.toList) = false := by
          rw [Lib.toList_data, Lib.toList_data, beq_eq_false_iff_ne]
          intro q
          apply hZs
          rw [← hZ'] at q
          simpa using q
        rw [hZ']
        clear hok hok2 hZ hZs hbt hh hZ'
        rintro r w8 ⟨rfl, hb8⟩
        have hR8 := (hb8.block w.heap.size (by omega)).trans hR7
        have B8 := hide (B7.out.trans (hb8.mono (by omega)))
        obtain ⟨q0, q1, q2, p0, p1, p2⟩ := rdc_cells hR8
        have s8 := hb8.size
        have HR8 := hide hR8
        clear hR8 hb8 hR7 hE7'
        go_wp2_with fail
        obtain ⟨w9, hw9, hR9, hg9⟩ := store3 HR8.out (.int .i64 0) (.int .i64 0) (.string ⟨#[]⟩)
        rw [hw9]
        obtain ⟨q0, q1, q2, -, -, -⟩ := rdc_cells hR9
        refine bodyPost_ret (v := .tuple #[.int .i64 0, .agg #[.int .i64 0, .int .i64 0, .string ⟨#[]⟩], .bool false]) (by simp [results, Tryz.results33, go_sem, q0, q1, q2]) rfl ⟨rfl, ?_⟩
        exact B8.out.grown hg9 (by omega) (fun k hk => by cases hk; omega)

end Go.Proofs.YtmllcomppjkhhaaGreatDoor

namespace Go.Proofs.YtmllcomppjkhhaaGreatDoor
open Go.RowKit P1 P9 K
set_option linter.unusedVariables false
set_option linter.unusedSimpArgs false

theorem hasPrefix_E (l : List UInt8) : Lib.hasPrefix l [69] = decide (l.head? = some 69) := by
  cases l with
  | nil => rfl
  | cons b r =>
    simp only [Lib.hasPrefix, List.isPrefixOf, List.head?_cons, Bool.and_true]
    by_cases h : b = 69
    · subst h; rfl
    · have h1 : ((69 : UInt8) == b) = false := by rw [beq_eq_false_iff_ne]; exact fun e => h e.symm
      rw [h1]
      simp [h]

theorem implReadVar_at (s : ByteArray) (hs : s.size ≤ 1048576) (a : Nat) (x : Int) (hx : x = (a : Int)) (ha : a ≤ s.size) (w : World) :
    Calls Tryz.prog 88 #[.string s, .int .i64 x] w fun e w' => e = .returned (rvVal a (rdGo 5 [] ((bl s).drop a))) ∧ w = w' := by
  subst hx
  exact implReadVar_any s hs a ha w

theorem rvVal_some (a v c : Nat) : rvVal a (some (v, c)) = .tuple #[.int .i64 v, .int .i64 (a + c : Nat), .bool true] := rfl

theorem rvVal_none (a : Nat) : rvVal a none = .tuple #[.int .i64 0, .int .i64 0, .bool false] := rfl

theorem re_yes (i t k : Nat) (D : ByteArray) : Ending.returned (.tuple #[.int .i64 (i : Int), .agg #[.int .i64 (t : Int), .int .i64 (k : Int), .string D], .bool true]) = .returned (reVal (some (i, t, k, bl D))) := by
  simp only [reVal]

set_option maxHeartbeats 4000000 in
theorem implReadEntry_any (s : ByteArray) (hs : s.size ≤ 1048576) (w : World) :
    Calls Tryz.prog 77 #[.string s] w fun r w' => r = .returned (reVal (rdEntry (bl s))) ∧ Below w.heap.size w w' := by
  obtain ⟨R, hR⟩ : ∃ R, rdEntry (bl s) = R := ⟨_, rfl⟩
  rw [hR]
  have HR := hide hR
  clear hR
  have B0 := hide ((Below.refl w.heap.size w).alloc (Nat.le_refl _) (.cells #[.int .i64 0, .int .i64 0, .string ⟨#[]⟩] 56))
  have hlen : (bl s).length = s.size := bl_length s
  have HLEN := hide hlen
  clear hlen
  by_cases hh : (bl s).head? = some 69
  · have hpre : Lib.hasPrefix (bl s) [69] = true := by rw [hasPrefix_E]; simpa using hh
    have HPRE := hide hpre
    have h1s : 1 ≤ s.size := by
      rw [← HLEN.out]
      cases hb : bl s with
      | nil => rw [hb] at hh; cases hh
      | cons b r => simp
    clear hpre
    have HH := hide hh
    clear hh
    cases hr1 : rdGo 5 [] ((bl s).drop 1) with
    | none =>
      have HR1 := hide hr1
      have HNO := rdEntry_one hr1
      obtain rfl : R = none := HR.out.symm.trans HNO
      clear hr1 HNO
      go_enter Tryz.func77, Tryz.ntmps77
      go_wp2_with fail
      refine (Tryz.strings_HasPrefix _ _ _).mono ?_
      rw [show Lib.hasPrefix s.data.toList (⟨#[69]⟩ : ByteArray).data.toList = true from HPRE.out]
      rintro r w' ⟨rfl, rfl⟩
      go_wp2_with fail
      refine (implReadVar_at s hs 1 1 rfl h1s _).mono ?_
      rw [HR1.out, rvVal_none]
      rintro r w' ⟨rfl, rfl⟩
      go_wp2_with fail
      refine bodyPost_ret (v := .tuple #[.int .i64 0, .agg #[.int .i64 0, .int .i64 0, .string ⟨#[]⟩], .bool false]) (by simp [results, Tryz.results77, go_sem]) rfl ⟨rfl, B0.out⟩
    | some p =>
      obtain ⟨i, c1⟩ := p
      have hbd := rdGo_some 5 [] _ i c1 hr1
      rw [List.length_drop, HLEN.out] at hbd
      simp only [List.length_nil] at hbd
      obtain ⟨i1, i2, i3, i4⟩ := hbd
      have HR1 := hide hr1
      obtain ⟨p1, hp1⟩ : ∃ p1, 1 + c1 = p1 := ⟨_, rfl⟩
      have HP1 := hide hp1
      have hp1s : p1 ≤ s.size := by omega
      clear hr1 hp1
      by_cases hix : 1 ≤ i ∧ i ≤ 1000000
      · have HIX := hide (show indexOk (i : Int) = true by simp [indexOk]; omega)
        obtain ⟨hix1, hix2⟩ := hix
        cases hr2 : rdGo 5 [] ((bl s).drop p1) with
        | none =>
          have HR2 := hide hr2
          have HNO : R = none := HR.out.symm.trans (rdEntry_two HR1.out (by rw [HP1.out]; exact hr2))
          subst HNO
          clear hr2
          go_enter Tryz.func77, Tryz.ntmps77
          go_wp2_with fail
          refine (Tryz.strings_HasPrefix _ _ _).mono ?_
          rw [show Lib.hasPrefix s.data.toList (⟨#[69]⟩ : ByteArray).data.toList = true from HPRE.out]
          rintro r w' ⟨rfl, rfl⟩
          go_wp2_with fail
          refine (implReadVar_at s hs 1 1 rfl h1s _).mono ?_
          rw [HR1.out, rvVal_some, HP1.out]
          rintro r w' ⟨rfl, rfl⟩
          go_wp2_with fail
          refine (within_yes (i : Int) 1 1000000 (by omega) (by omega) _).mono ?_
          rintro e w' ⟨rfl, rfl⟩
          go_wp2_with fail
          refine (implReadVar_at s hs p1 _ rfl hp1s _).mono ?_
          rw [HR2.out, rvVal_none]
          rintro r w' ⟨rfl, rfl⟩
          go_wp2_with fail
          refine bodyPost_ret (v := .tuple #[.int .i64 0, .agg #[.int .i64 0, .int .i64 0, .string ⟨#[]⟩], .bool false]) (by simp [results, Tryz.results77, go_sem]) rfl ⟨rfl, B0.out⟩
        | some q =>
          obtain ⟨t, c2⟩ := q
          have hbd := rdGo_some 5 [] _ t c2 hr2
          rw [List.length_drop, HLEN.out] at hbd
          simp only [List.length_nil] at hbd
          obtain ⟨j1, j2, j3, j4⟩ := hbd
          have HR2 := hide hr2
          obtain ⟨p2, hp2⟩ : ∃ p2, p1 + c2 = p2 := ⟨_, rfl⟩
          have HP2 := hide hp2
          have HP12 := hide (show 1 + c1 + c2 = p2 by rw [HP1.out]; exact hp2)
          have HR2' := hide (show rdGo 5 [] ((bl s).drop (1 + c1)) = some (t, c2) by rw [HP1.out]; exact hr2)
          have hp2s : p2 ≤ s.size := by omega
          clear hr2 hp2
          by_cases hend : p2 = s.size
          · have HNO : R = none := HR.out.symm.trans (rdEntry_short HR1.out HR2'.out (List.drop_eq_nil_of_le (by rw [HP12.out, HLEN.out]; omega)))
            subst HNO
            have ge : ((p2 : Int) == (s.size : Int)) = true := by simp [hend]
            have HE := hide hend
            clear hend
            by_cases htk : t ≤ 100000
            · go_enter Tryz.func77, Tryz.ntmps77
              go_wp2_with fail
              refine (Tryz.strings_HasPrefix _ _ _).mono ?_
              rw [show Lib.hasPrefix s.data.toList (⟨#[69]⟩ : ByteArray).data.toList = true from HPRE.out]
              rintro r w' ⟨rfl, rfl⟩
              go_wp2_with fail
              refine (implReadVar_at s hs 1 1 rfl h1s _).mono ?_
              rw [HR1.out, rvVal_some, HP1.out]
              rintro r w' ⟨rfl, rfl⟩
              go_wp2_with fail
              refine (within_yes (i : Int) 1 1000000 (by omega) (by omega) _).mono ?_
              rintro e w' ⟨rfl, rfl⟩
              go_wp2_with fail
              refine (implReadVar_at s hs p1 _ rfl hp1s _).mono ?_
              rw [HR2.out, rvVal_some, HP2.out]
              rintro r w' ⟨rfl, rfl⟩
              go_wp2_with fail
              refine (within_yes (t : Int) 0 100000 (by omega) (by omega) _).mono ?_
              rintro e w' ⟨rfl, rfl⟩
              go_wp2_with fail
              refine bodyPost_ret (v := .tuple #[.int .i64 0, .agg #[.int .i64 0, .int .i64 0, .string ⟨#[]⟩], .bool false]) (by simp [results, Tryz.results77, go_sem]) rfl ⟨rfl, B0.out⟩
            · go_enter Tryz.func77, Tryz.ntmps77
              go_wp2_with fail
              refine (Tryz.strings_HasPrefix _ _ _).mono ?_
              rw [show Lib.hasPrefix s.data.toList (⟨#[69]⟩ : ByteArray).data.toList = true from HPRE.out]
              rintro r w' ⟨rfl, rfl⟩
              go_wp2_with fail
              refine (implReadVar_at s hs 1 1 rfl h1s _).mono ?_
              rw [HR1.out, rvVal_some, HP1.out]
              rintro r w' ⟨rfl, rfl⟩
              go_wp2_with fail
              refine (within_yes (i : Int) 1 1000000 (by omega) (by omega) _).mono ?_
              rintro e w' ⟨rfl, rfl⟩
              go_wp2_with fail
              refine (implReadVar_at s hs p1 _ rfl hp1s _).mono ?_
              rw [HR2.out, rvVal_some, HP2.out]
              rintro r w' ⟨rfl, rfl⟩
              go_wp2_with fail
              refine (within_no (t : Int) 0 100000 (by omega) _).mono ?_
              rintro e w' ⟨rfl, rfl⟩
              go_wp2_with fail
              refine bodyPost_ret (v := .tuple #[.int .i64 0, .agg #[.int .i64 0, .int .i64 0, .string ⟨#[]⟩], .bool false]) (by simp [results, Tryz.results77, go_sem]) rfl ⟨rfl, B0.out⟩
          · have ge : ((p2 : Int) == (s.size : Int)) = false := by simp; omega
            have hlt : p2 < s.size := by omega
            have HDR := hide (show (bl s).drop (1 + c1 + c2) = s[p2] :: (bl s).drop (p2 + 1) by rw [HP12.out]; exact bl_drop s p2 hlt)
            have HALL := hide (rdEntry_all HR1.out HR2'.out HDR.out)
            clear hend
            by_cases htk : t ≤ 100000
            · have HTK := hide (show termOk (t : Int) = true by simp [termOk]; omega)
              have hidx : ∀ wx, (Instr.index 9 (.string s) (.int .i64 (p2 : Int))).run Tryz.prog wx = .ok (.int .u8 (s[p2].toNat : Int)) wx := fun wx => idx_any s .i64 p2 hlt wx
              have hkl := s[p2].toNat_lt
              obtain ⟨kn, hkn⟩ : ∃ kn, s[p2].toNat = kn := ⟨_, rfl⟩
              have hw1 : IntKind.i64.wrap ((p2 : Int) + 1) = (p2 : Int) + 1 := by rw [IntKind.wrap_i64]; omega
              have hw2 : IntKind.i64.wrap (kn : Int) = (kn : Int) := by rw [IntKind.wrap_i64]; omega
              have hxd : s.extract (p2 + 1) s.size = ⟨((bl s).drop (p2 + 1)).toArray⟩ := by
                apply ByteArray.ext
                rw [ByteArray.data_extract]
                apply Array.ext'
                rw [Array.toList_extract, List.extract_eq_take_drop]
                show List.take (s.size - (p2 + 1)) ((bl s).drop (p2 + 1)) = _
                rw [List.take_of_length_le (by rw [List.length_drop, bl_length]; exact Nat.le_refl _)]
              obtain ⟨D, hD⟩ : ∃ D, (⟨((bl s).drop (p2 + 1)).toArray⟩ : ByteArray) = D := ⟨_, rfl⟩
              have hDs : D.size ≤ 1048576 := by rw [← hD, ← hxd, ByteArray.size_extract]; omega
              have HDL := hide (show (bl s).drop (p2 + 1) = bl D by rw [← hD])
              have hsl : ∀ wx, (Instr.slice 9 (.string s) (some (.int .i64 ((p2 : Int) + 1))) none none).run Tryz.prog wx = .ok (.string D) wx := fun wx => by
                rw [← hD, ← hxd]
                have hu := Tryz.underlying9
                have g0 : (0 : Int) ≤ (p2 : Int) + 1 := by omega
                have g1 : (p2 : Int) + 1 ≤ (s.size : Int) := by omega
                have g2 : ((p2 : Int) + 1).toNat = p2 + 1 := by omega
                simp [go_sem, hu, g0, g1, g2]
              have HHH := HH.out
              have HALL2 := hide (show rdEntry (bl s) = if contOk (kn : Int) (bl D) = true then some (i, t, kn, bl D) else none by
                rw [HALL.out, hkn, HDL.out]
                simp only [HHH, HIX.out, entryOk, HTK.out, Bool.and_true, true_and])
              rw [hkn] at hidx hkl
              clear hkn hxd hD HHH HALL
              cases hck : contOk (kn : Int) (bl D) with
              | false =>
                have HNO : R = none := HR.out.symm.trans (by rw [HALL2.out, hck]; simp)
                subst HNO
                have HCK := hide hck
                clear hck
                go_enter Tryz.func77, Tryz.ntmps77
                go_wp2_with fail
                refine (Tryz.strings_HasPrefix _ _ _).mono ?_
                rw [show Lib.hasPrefix s.data.toList (⟨#[69]⟩ : ByteArray).data.toList = true from HPRE.out]
                rintro r w' ⟨rfl, rfl⟩
                go_wp2_with fail
                refine (implReadVar_at s hs 1 1 rfl h1s _).mono ?_
                rw [HR1.out, rvVal_some, HP1.out]
                rintro r w' ⟨rfl, rfl⟩
                go_wp2_with fail
                refine (within_yes (i : Int) 1 1000000 (by omega) (by omega) _).mono ?_
                rintro e w' ⟨rfl, rfl⟩
                go_wp2_with fail
                refine (implReadVar_at s hs p1 _ rfl hp1s _).mono ?_
                rw [HR2.out, rvVal_some, HP2.out]
                rintro r w' ⟨rfl, rfl⟩
                go_wp2_with fail
                refine (within_yes (t : Int) 0 100000 (by omega) (by omega) _).mono ?_
                rintro e w' ⟨rfl, rfl⟩
                go_wp2_with fail
                go_region_held3 (fun _ => True) (trivial) (first
                  | (go_at_call 81; refine (contentOf_any (kn : Int) D hDs _).mono ?_; rw [HCK.out]; rintro r w2 ⟨v, rfl, -, hb2⟩))
                have hR2 : w2.heap[w.heap.size]? = some (.cells #[.int .i64 0, .int .i64 0, .string ⟨#[]⟩] 56 (0, 0)) := (hb2.block w.heap.size (by simp)).trans (heap_alloc_new _ _)
                have B2 := hide (B0.out.drew.trans (hb2.mono (by simp)))
                have s2 : w.heap.size < w2.heap.size := by have := hb2.size; simp at this; omega
                obtain ⟨q0, q1, q2, z0, z1, z2⟩ := rdc_cells hR2
                have HR2B := hide hR2
                clear hb2 hR2
                go_wp2_with fail
                obtain ⟨w9, hw9, hR9, hg9⟩ := store3 HR2B.out (.int .i64 0) (.int .i64 0) (.string ⟨#[]⟩)
                rw [hw9]
                obtain ⟨q0, q1, q2, -, -, -⟩ := rdc_cells hR9
                refine bodyPost_ret (v := .tuple #[.int .i64 0, .agg #[.int .i64 0, .int .i64 0, .string ⟨#[]⟩], .bool false]) (by simp [results, Tryz.results77, go_sem, q0, q1, q2]) rfl ⟨rfl, ?_⟩
                exact B2.out.grown hg9 (by omega) (fun k hk => by cases hk; omega)
              | true =>
                have HYES : R = some (i, t, kn, bl D) := HR.out.symm.trans (by rw [HALL2.out, hck, if_pos rfl])
                subst HYES
                have HCK := hide hck
                clear hck
                go_enter Tryz.func77, Tryz.ntmps77
                go_wp2_with fail
                refine (Tryz.strings_HasPrefix _ _ _).mono ?_
                rw [show Lib.hasPrefix s.data.toList (⟨#[69]⟩ : ByteArray).data.toList = true from HPRE.out]
                rintro r w' ⟨rfl, rfl⟩
                go_wp2_with fail
                refine (implReadVar_at s hs 1 1 rfl h1s _).mono ?_
                rw [HR1.out, rvVal_some, HP1.out]
                rintro r w' ⟨rfl, rfl⟩
                go_wp2_with fail
                refine (within_yes (i : Int) 1 1000000 (by omega) (by omega) _).mono ?_
                rintro e w' ⟨rfl, rfl⟩
                go_wp2_with fail
                refine (implReadVar_at s hs p1 _ rfl hp1s _).mono ?_
                rw [HR2.out, rvVal_some, HP2.out]
                rintro r w' ⟨rfl, rfl⟩
                go_wp2_with fail
                refine (within_yes (t : Int) 0 100000 (by omega) (by omega) _).mono ?_
                rintro e w' ⟨rfl, rfl⟩
                go_wp2_with fail
                go_region_held3 (fun _ => True) (trivial) (first
                  | (go_at_call 81; refine (contentOf_any (kn : Int) D hDs _).mono ?_; rw [HCK.out]; rintro r w2 ⟨v, rfl, hv0, hb2⟩; have hv := hide (hv0 rfl); clear hv0))
                have hvk := hv.out
                clear hv
                have hR2 : w2.heap[w.heap.size]? = some (.cells #[.int .i64 0, .int .i64 0, .string ⟨#[]⟩] 56 (0, 0)) := (hb2.block w.heap.size (by simp)).trans (heap_alloc_new _ _)
                have B2 := hide (B0.out.drew.trans (hb2.mono (by simp)))
                have s2 : w.heap.size < w2.heap.size := by have := hb2.size; simp at this; omega
                obtain ⟨q0, q1, q2, z0, z1, z2⟩ := rdc_cells hR2
                have HR2B := hide hR2
                clear hb2 hR2
                have hvc := hvk
                rcases hvc with ⟨hk, rfl, rfl⟩ | ⟨hk, hcf, g, cap, rfl, hat⟩ | ⟨hk, h120, rfl⟩
                · obtain rfl : kn = 1 := by omega
                  have HVK := hide hvk
                  have fm := m_no
                  clear hvk hk
                  go_wp2_with fail
                  refine (kindOf_any _ _ _ _ HVK.out).mono ?_
                  rintro r w3 ⟨rfl, rfl⟩
                  go_wp2_with fail
                  refine (noData_any _).mono ?_
                  rintro r w4 ⟨rfl, hb4⟩
                  have hR4 := (hb4.block w.heap.size s2).trans HR2B.out
                  have B4 := hide (B2.out.trans (hb4.mono (by omega)))
                  have s4 := hb4.size
                  clear q0 q1 q2 z0 z1 z2 hb4
                  obtain ⟨q0, q1, q2, z0, z1, z2⟩ := rdc_cells hR4
                  have HR4 := hide hR4
                  clear hR4
                  go_wp2_with fail
                  obtain ⟨w9, hw9, hR9, hg9⟩ := store3 HR4.out (.int .i64 (t : Int)) (.int .i64 1) (.string ⟨#[]⟩)
                  rw [hw9]
                  obtain ⟨q0, q1, q2, -, -, -⟩ := rdc_cells hR9
                  refine bodyPost_ret (v := .tuple #[.int .i64 (i : Int), .agg #[.int .i64 (t : Int), .int .i64 1, .string ⟨#[]⟩], .bool true]) (by simp [results, Tryz.results77, go_sem, q0, q1, q2]) rfl ⟨re_yes i t 1 ⟨#[]⟩, ?_⟩
                  exact B4.out.grown hg9 (by omega) (fun k hk => by cases hk; omega)
                · obtain rfl : kn = 2 := by omega
                  have HVK := hide hvk
                  have fm := m_conf g D.size cap
                  clear hvk hk
                  have HAT := hide hat
                  clear hat
                  go_wp2_with fail
                  refine (kindOf_any _ _ _ _ HVK.out).mono ?_
                  rintro r w3 ⟨rfl, rfl⟩
                  go_wp2_with fail
                  refine (confData_bl g cap D _ HAT.out hcf).mono ?_
                  rintro r w4 ⟨rfl, hb4⟩
                  have hR4 := (hb4.block w.heap.size s2).trans HR2B.out
                  have B4 := hide (B2.out.trans (hb4.mono (by omega)))
                  have s4 := hb4.size
                  clear q0 q1 q2 z0 z1 z2 hb4
                  obtain ⟨q0, q1, q2, z0, z1, z2⟩ := rdc_cells hR4
                  have HR4 := hide hR4
                  clear hR4
                  go_wp2_with fail
                  obtain ⟨w9, hw9, hR9, hg9⟩ := store3 HR4.out (.int .i64 (t : Int)) (.int .i64 2) (.string D)
                  rw [hw9]
                  obtain ⟨q0, q1, q2, -, -, -⟩ := rdc_cells hR9
                  refine bodyPost_ret (v := .tuple #[.int .i64 (i : Int), .agg #[.int .i64 (t : Int), .int .i64 2, .string D], .bool true]) (by simp [results, Tryz.results77, go_sem, q0, q1, q2]) rfl ⟨re_yes i t 2 D, ?_⟩
                  exact B4.out.grown hg9 (by omega) (fun k hk => by cases hk; omega)
                · obtain rfl : kn = 3 := by omega
                  have HVK := hide hvk
                  have fm := m_command D
                  clear hvk hk
                  go_wp2_with fail
                  refine (kindOf_any _ _ _ _ HVK.out).mono ?_
                  rintro r w3 ⟨rfl, rfl⟩
                  go_wp2_with fail
                  refine (commandData_any D hDs _).mono ?_
                  rintro r w4 ⟨rfl, hb4⟩
                  have hR4 := (hb4.block w.heap.size s2).trans HR2B.out
                  have B4 := hide (B2.out.trans (hb4.mono (by omega)))
                  have s4 := hb4.size
                  clear q0 q1 q2 z0 z1 z2 hb4
                  obtain ⟨q0, q1, q2, z0, z1, z2⟩ := rdc_cells hR4
                  have HR4 := hide hR4
                  clear hR4
                  go_wp2_with fail
                  obtain ⟨w9, hw9, hR9, hg9⟩ := store3 HR4.out (.int .i64 (t : Int)) (.int .i64 3) (.string D)
                  rw [hw9]
                  obtain ⟨q0, q1, q2, -, -, -⟩ := rdc_cells hR9
                  refine bodyPost_ret (v := .tuple #[.int .i64 (i : Int), .agg #[.int .i64 (t : Int), .int .i64 3, .string D], .bool true]) (by simp [results, Tryz.results77, go_sem, q0, q1, q2]) rfl ⟨re_yes i t 3 D, ?_⟩
                  exact B4.out.grown hg9 (by omega) (fun k hk => by cases hk; omega)
            · have HNO : R = none := HR.out.symm.trans (by
                rw [HALL.out, if_neg]
                rintro ⟨_, _, q⟩
                simp [entryOk, termOk] at q
                omega)
              subst HNO
              go_enter Tryz.func77, Tryz.ntmps77
              go_wp2_with fail
              refine (Tryz.strings_HasPrefix _ _ _).mono ?_
              rw [show Lib.hasPrefix s.data.toList (⟨#[69]⟩ : ByteArray).data.toList = true from HPRE.out]
              rintro r w' ⟨rfl, rfl⟩
              go_wp2_with fail
              refine (implReadVar_at s hs 1 1 rfl h1s _).mono ?_
              rw [HR1.out, rvVal_some, HP1.out]
              rintro r w' ⟨rfl, rfl⟩
              go_wp2_with fail
              refine (within_yes (i : Int) 1 1000000 (by omega) (by omega) _).mono ?_
              rintro e w' ⟨rfl, rfl⟩
              go_wp2_with fail
              refine (implReadVar_at s hs p1 _ rfl hp1s _).mono ?_
              rw [HR2.out, rvVal_some, HP2.out]
              rintro r w' ⟨rfl, rfl⟩
              go_wp2_with fail
              refine (within_no (t : Int) 0 100000 (by omega) _).mono ?_
              rintro e w' ⟨rfl, rfl⟩
              go_wp2_with fail
              refine bodyPost_ret (v := .tuple #[.int .i64 0, .agg #[.int .i64 0, .int .i64 0, .string ⟨#[]⟩], .bool false]) (by simp [results, Tryz.results77, go_sem]) rfl ⟨rfl, B0.out⟩
      · have HNO : R = none := by
          rw [← HR.out]
          cases hr2 : rdGo 5 [] ((bl s).drop (1 + c1)) with
          | none => exact rdEntry_two HR1.out hr2
          | some q =>
            obtain ⟨t, c2⟩ := q
            cases hd : (bl s).drop (1 + c1 + c2) with
            | nil => exact rdEntry_short HR1.out hr2 hd
            | cons k d =>
              rw [rdEntry_all HR1.out hr2 hd, if_neg]
              rintro ⟨_, q, _⟩
              simp [indexOk] at q
              omega
        subst HNO
        go_enter Tryz.func77, Tryz.ntmps77
        go_wp2_with fail
        refine (Tryz.strings_HasPrefix _ _ _).mono ?_
        rw [show Lib.hasPrefix s.data.toList (⟨#[69]⟩ : ByteArray).data.toList = true from HPRE.out]
        rintro r w' ⟨rfl, rfl⟩
        go_wp2_with fail
        refine (implReadVar_at s hs 1 1 rfl h1s _).mono ?_
        rw [HR1.out, rvVal_some, HP1.out]
        rintro r w' ⟨rfl, rfl⟩
        go_wp2_with fail
        refine (within_no (i : Int) 1 1000000 (by omega) _).mono ?_
        rintro e w' ⟨rfl, rfl⟩
        go_wp2_with fail
        refine bodyPost_ret (v := .tuple #[.int .i64 0, .agg #[.int .i64 0, .int .i64 0, .string ⟨#[]⟩], .bool false]) (by simp [results, Tryz.results77, go_sem]) rfl ⟨rfl, B0.out⟩
  · have hpre : Lib.hasPrefix (bl s) [69] = false := by rw [hasPrefix_E]; simpa using hh
    have HPRE := hide hpre
    have HNO := rdEntry_head hh
    obtain rfl : R = none := HR.out.symm.trans HNO
    clear hpre hh HNO
    go_enter Tryz.func77, Tryz.ntmps77
    go_wp2_with (go_at_call 89; refine (Tryz.strings_HasPrefix _ _ _).mono ?_; rw [show Lib.hasPrefix s.data.toList (⟨#[69]⟩ : ByteArray).data.toList = false from HPRE.out]; rintro r w1 ⟨rfl, rfl⟩)
    refine bodyPost_ret (v := .tuple #[.int .i64 0, .agg #[.int .i64 0, .int .i64 0, .string ⟨#[]⟩], .bool false]) (by simp [results, Tryz.results77, go_sem]) rfl ⟨rfl, B0.out⟩

end Go.Proofs.YtmllcomppjkhhaaGreatDoor
