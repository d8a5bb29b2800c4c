/-
  Walks and mathematics of Msg22.
-/
import Derived.Test.YtmllcomppjkhhaaGreatDoorRMsg21
namespace Go.Proofs.YtmllcomppjkhhaaGreatDoor.P18
end Go.Proofs.YtmllcomppjkhhaaGreatDoor.P18
namespace Go.Proofs.YtmllcomppjkhhaaGreatDoor.P3
end Go.Proofs.YtmllcomppjkhhaaGreatDoor.P3
namespace Go.Proofs.YtmllcomppjkhhaaGreatDoor
open Go.RowKit P1 P3 P9 P11 P12 P18 K
attribute [local go_sem ↓] Go.wp_at_zero Go.wp_at_succ
set_option linter.unusedVariables false
set_option linter.unusedSimpArgs false

theorem l01Long_15 (y : Nat) (hy : y < 2) (w : World) :
    Calls Tryz.prog 40 #[.int .i64 (60 + (y : Int)), .int .u8 65] w fun e w' => ∃ l : List UInt8, l.length ≤ 61 ∧ e = .returned (.string ⟨l.toArray⟩) ∧ Below w.heap.size w w' := by
  have h := l01Long_any (60 + y) (by omega) 65 w
  rw [show ((60 + y : Nat) : Int) = 60 + (y : Int) by omega] at h
  exact h.mono fun e w' ⟨l, hl, he, hb⟩ => ⟨l, by omega, he, hb⟩

set_option maxRecDepth 100000 in
set_option maxHeartbeats 16000000 in
theorem l15Any_any (B p : Nat) (a : Option Addr) (len cap : Nat) (w : World) (hB : B ≤ w.heap.size) (hc : CurAt B w p a len cap) :
    Calls Tryz.prog 13 #[.pointer (some ⟨p, 0, none⟩)] w (MgDr B p a len cap 5 w) := by
  have H0 := hide (RvS.start hB hc ZM15 27)
  have z0 : (w.alloc (.cells ZM15 27)).heap.size = w.heap.size + 1 := by simp
  have HR := hide (l15Right_any B p a len cap (w.alloc (.cells ZM15 27)) (by rw [z0]; omega) H0.out.cur)
  clear hc
  go_enter Tryz.func13, Tryz.ntmps13
  go_wp2_with fail
  refine HR.out.mono ?_
  rintro r w1 ⟨kd, fr, to, tm, ix, lt, cm, ok, v, vp, da, la, es, zs, hel, hew, hzs, hda, rfl, hc1, hg1, ho1, hp1⟩
  have H1 := hide (H0.out.drawn hc1 hg1)
  rw [z0] at ho1 hp1
  obtain ⟨ov, cv, rfl⟩ := own_form3 ho1
  obtain ⟨oc, cc, rfl⟩ := row_form hp1
  have HD1 : Hid (MgD B p a len cap w w1.heap.size #[.int .i64 kd, .int .i64 fr, .int .i64 to, .int .i64 tm, .int .i64 ix, .int .i64 lt, .int .i64 cm, .bool ok, (.slice ov es.length cv), (.slice oc zs.length cc), .string ⟨da.toArray⟩, .bool la] (.slice ov es.length cv) (.slice oc zs.length cc) es zs (w1.alloc (.cells #[.int .i64 kd, .int .i64 fr, .int .i64 to, .int .i64 tm, .int .i64 ix, .int .i64 lt, .int .i64 cm, .bool ok, (.slice ov es.length cv), (.slice oc zs.length cc), .string ⟨da.toArray⟩, .bool la] 27))) := hide ⟨H1.out.var _ _, (own_base ho1 (by omega)).alloc _, (own_base hp1 (by omega)).alloc _⟩
  have HEW := hide hew
  have HZS := hide hzs
  clear hc1 hg1 ho1 hp1 H0 H1 HR hew hzs z0
  go_wp2_with fail
  generalize w1.alloc (Obj.cells #[(Value.int IntKind.i64 kd), (Value.int IntKind.i64 fr), (Value.int IntKind.i64 to), (Value.int IntKind.i64 tm), (Value.int IntKind.i64 ix), (Value.int IntKind.i64 lt), (Value.int IntKind.i64 cm), (Value.bool ok), (Value.slice ov es.length cv), (Value.slice oc zs.length cc), (Value.string ⟨da.toArray⟩), (Value.bool la)] 27) = w2 at HD1 ⊢
  generalize w1.heap.size = b at HD1 ⊢
  refine (l01Below_any B p a len cap 40 (by decide) (by decide) _ HD1.out.rv.rs.cur).mono ?_
  rintro r w3 ⟨y, hy, rfl, hc3, hg3⟩
  have HD3 := hide (HD1.out.drawn hc3 hg3)
  clear hc3 hg3 HD1
  by_cases y0 : y = 0
  · subst y0
    have H5 := hide (HD3.out.on ((Below.refl _ _).alloc (Nat.le_refl _) (.cells (I64z [0, 7, 1, 5]).toArray 3)))
    have HO : Hid ((w3.alloc (.cells (I64z [0, 7, 1, 5]).toArray 3)).ownsRow w3.heap.size 3 1 (.slice (some ⟨w3.heap.size, 0, none⟩) 4 4) 4 (I64z [0, 7, 1, 5])) := hide (World.ownsRow_lit (base := w3.heap.size) (size := 1) w3 (I64z [0, 7, 1, 5]).toArray 4 (Nat.le_refl _) (by decide) (by simp [I64z]))
    have hp3 : p < w3.heap.size := HD3.out.rv.rs.cur.lt
    go_wp2_with fail
    refine (l01PickInt_any B p a len cap w3.heap.size _ [0, 7, 1, 5] (by simp) (by simp) _ hp3 HO.out H5.out.rv.rs.cur).mono ?_
    rintro r w4 ⟨m, hm, rfl, hc4, hg4⟩
    have H6 := hide (H5.out.drawn hc4 hg4)
    clear hc4 hg4 H5 HO HD3 hm hp3
    obtain ⟨c0, c1, c2, c3, c4, c5, c6, c7, c8, c9, c10, c11⟩ := H6.out.c12
    have hlw := H6.out.rv.hb
    have fk := H6.out.free 0
    have kp := H6.out.put 0 (.int .i64 m)
    simp only [List.setIfInBounds_toArray, List.set_cons_zero, List.set_cons_succ] at kp
    have HD14 := hide kp
    clear kp
    obtain ⟨r0, r1, r2, r3, r4, r5, r6, r7, r8, r9, r10, r11⟩ := H6.out.r12
    have t0 := H6.out.rf 0
    have t1 := H6.out.rf 1
    have t2 := H6.out.rf 2
    have t3 := H6.out.rf 3
    have t4 := H6.out.rf 4
    have t5 := H6.out.rf 5
    have t6 := H6.out.rf 6
    have t7 := H6.out.rf 7
    have t8 := H6.out.rf 8
    have t9 := H6.out.rf 9
    have t10 := H6.out.rf 10
    have t11 := H6.out.rf 11
    go_wp2_with fail
    generalize w4.setCell ⟨b, 0, none⟩ (Value.int IntKind.i64 m) = W3 at HD14 ⊢
    obtain ⟨hr, hc9, hg9, ho9, hp9⟩ := HD14.out.ret ((((((((((((W3.setCell ⟨w.heap.size, 0, none⟩ (Value.int IntKind.i64 m)).setCell ⟨w.heap.size, 1, none⟩ (Value.int IntKind.i64 fr)).setCell ⟨w.heap.size, 2, none⟩ (Value.int IntKind.i64 to)).setCell ⟨w.heap.size, 3, none⟩ (Value.int IntKind.i64 tm)).setCell ⟨w.heap.size, 4, none⟩ (Value.int IntKind.i64 ix)).setCell ⟨w.heap.size, 5, none⟩ (Value.int IntKind.i64 lt)).setCell ⟨w.heap.size, 6, none⟩ (Value.int IntKind.i64 cm)).setCell ⟨w.heap.size, 7, none⟩ (Value.bool ok)).setCell ⟨w.heap.size, 8, none⟩ (Value.slice ov es.length cv)).setCell ⟨w.heap.size, 9, none⟩ (Value.slice oc zs.length cc)).setCell ⟨w.heap.size, 10, none⟩ (Value.string ⟨da.toArray⟩)).setCell ⟨w.heap.size, 11, none⟩ (Value.bool la)) (by simp only [World.setCells, Nat.zero_add, Nat.reduceAdd])
    generalize ((((((((((((W3.setCell ⟨w.heap.size, 0, none⟩ (Value.int IntKind.i64 m)).setCell ⟨w.heap.size, 1, none⟩ (Value.int IntKind.i64 fr)).setCell ⟨w.heap.size, 2, none⟩ (Value.int IntKind.i64 to)).setCell ⟨w.heap.size, 3, none⟩ (Value.int IntKind.i64 tm)).setCell ⟨w.heap.size, 4, none⟩ (Value.int IntKind.i64 ix)).setCell ⟨w.heap.size, 5, none⟩ (Value.int IntKind.i64 lt)).setCell ⟨w.heap.size, 6, none⟩ (Value.int IntKind.i64 cm)).setCell ⟨w.heap.size, 7, none⟩ (Value.bool ok)).setCell ⟨w.heap.size, 8, none⟩ (Value.slice ov es.length cv)).setCell ⟨w.heap.size, 9, none⟩ (Value.slice oc zs.length cc)).setCell ⟨w.heap.size, 10, none⟩ (Value.string ⟨da.toArray⟩)).setCell ⟨w.heap.size, 11, none⟩ (Value.bool la)) = w9 at hr hc9 hg9 ho9 hp9 ⊢
    obtain ⟨q0, q1, q2, q3, q4, q5, q6, q7, q8, q9, q10, q11⟩ := xs12 (T := 27) hr
    exact bodyPost_ret (v := .agg #[.int .i64 m, .int .i64 fr, .int .i64 to, .int .i64 tm, .int .i64 ix, .int .i64 lt, .int .i64 cm, .bool ok, (.slice ov es.length cv), (.slice oc zs.length cc), .string ⟨da.toArray⟩, .bool la]) (by simp [results, Tryz.results13, go_sem, q0, q1, q2, q3, q4, q5, q6, q7, q8, q9, q10, q11]) rfl ⟨_, _, _, _, _, _, _, _, _, _, da, _, es, zs, (by omega), HEW.out, HZS.out, (by omega), rfl, hc9, hg9, ho9, hp9⟩
  · have g0 : ((y : Int) == 0) = false := by rw [beq_eq_false_iff_ne]; omega
    by_cases y1 : y = 1
    · subst y1
      have H5 := hide (HD3.out.on ((Below.refl _ _).alloc (Nat.le_refl _) (.cells (I64z [0, 5, to]).toArray 3)))
      have HO : Hid ((w3.alloc (.cells (I64z [0, 5, to]).toArray 3)).ownsRow w3.heap.size 3 1 (.slice (some ⟨w3.heap.size, 0, none⟩) 3 3) 3 (I64z [0, 5, to])) := hide (World.ownsRow_lit (base := w3.heap.size) (size := 1) w3 (I64z [0, 5, to]).toArray 3 (Nat.le_refl _) (by decide) (by simp [I64z]))
      have hp3 : p < w3.heap.size := HD3.out.rv.rs.cur.lt
      obtain ⟨c0, c1, c2, c3, c4, c5, c6, c7, c8, c9, c10, c11⟩ := HD3.out.c12
      go_wp2_with fail
      clear c0 c1 c2 c3 c4 c5 c6 c7 c8 c9 c10 c11
      refine (l01PickInt_any B p a len cap w3.heap.size _ [0, 5, to] (by simp) (by simp) _ hp3 HO.out H5.out.rv.rs.cur).mono ?_
      rintro r w4 ⟨m, hm, rfl, hc4, hg4⟩
      have H6 := hide (H5.out.drawn hc4 hg4)
      clear hc4 hg4 H5 HO HD3 hm hp3
      obtain ⟨c0, c1, c2, c3, c4, c5, c6, c7, c8, c9, c10, c11⟩ := H6.out.c12
      have hlw := H6.out.rv.hb
      have fk := H6.out.free 1
      have kp := H6.out.put 1 (.int .i64 m)
      simp only [List.setIfInBounds_toArray, List.set_cons_zero, List.set_cons_succ] at kp
      have HD14 := hide kp
      clear kp
      obtain ⟨r0, r1, r2, r3, r4, r5, r6, r7, r8, r9, r10, r11⟩ := H6.out.r12
      have t0 := H6.out.rf 0
      have t1 := H6.out.rf 1
      have t2 := H6.out.rf 2
      have t3 := H6.out.rf 3
      have t4 := H6.out.rf 4
      have t5 := H6.out.rf 5
      have t6 := H6.out.rf 6
      have t7 := H6.out.rf 7
      have t8 := H6.out.rf 8
      have t9 := H6.out.rf 9
      have t10 := H6.out.rf 10
      have t11 := H6.out.rf 11
      go_wp2_with fail
      generalize w4.setCell ⟨b, 1, none⟩ (Value.int IntKind.i64 m) = W3 at HD14 ⊢
      obtain ⟨hr, hc9, hg9, ho9, hp9⟩ := HD14.out.ret ((((((((((((W3.setCell ⟨w.heap.size, 0, none⟩ (Value.int IntKind.i64 kd)).setCell ⟨w.heap.size, 1, none⟩ (Value.int IntKind.i64 m)).setCell ⟨w.heap.size, 2, none⟩ (Value.int IntKind.i64 to)).setCell ⟨w.heap.size, 3, none⟩ (Value.int IntKind.i64 tm)).setCell ⟨w.heap.size, 4, none⟩ (Value.int IntKind.i64 ix)).setCell ⟨w.heap.size, 5, none⟩ (Value.int IntKind.i64 lt)).setCell ⟨w.heap.size, 6, none⟩ (Value.int IntKind.i64 cm)).setCell ⟨w.heap.size, 7, none⟩ (Value.bool ok)).setCell ⟨w.heap.size, 8, none⟩ (Value.slice ov es.length cv)).setCell ⟨w.heap.size, 9, none⟩ (Value.slice oc zs.length cc)).setCell ⟨w.heap.size, 10, none⟩ (Value.string ⟨da.toArray⟩)).setCell ⟨w.heap.size, 11, none⟩ (Value.bool la)) (by simp only [World.setCells, Nat.zero_add, Nat.reduceAdd])
      generalize ((((((((((((W3.setCell ⟨w.heap.size, 0, none⟩ (Value.int IntKind.i64 kd)).setCell ⟨w.heap.size, 1, none⟩ (Value.int IntKind.i64 m)).setCell ⟨w.heap.size, 2, none⟩ (Value.int IntKind.i64 to)).setCell ⟨w.heap.size, 3, none⟩ (Value.int IntKind.i64 tm)).setCell ⟨w.heap.size, 4, none⟩ (Value.int IntKind.i64 ix)).setCell ⟨w.heap.size, 5, none⟩ (Value.int IntKind.i64 lt)).setCell ⟨w.heap.size, 6, none⟩ (Value.int IntKind.i64 cm)).setCell ⟨w.heap.size, 7, none⟩ (Value.bool ok)).setCell ⟨w.heap.size, 8, none⟩ (Value.slice ov es.length cv)).setCell ⟨w.heap.size, 9, none⟩ (Value.slice oc zs.length cc)).setCell ⟨w.heap.size, 10, none⟩ (Value.string ⟨da.toArray⟩)).setCell ⟨w.heap.size, 11, none⟩ (Value.bool la)) = w9 at hr hc9 hg9 ho9 hp9 ⊢
      obtain ⟨q0, q1, q2, q3, q4, q5, q6, q7, q8, q9, q10, q11⟩ := xs12 (T := 27) hr
      exact bodyPost_ret (v := .agg #[.int .i64 kd, .int .i64 m, .int .i64 to, .int .i64 tm, .int .i64 ix, .int .i64 lt, .int .i64 cm, .bool ok, (.slice ov es.length cv), (.slice oc zs.length cc), .string ⟨da.toArray⟩, .bool la]) (by simp [results, Tryz.results13, go_sem, q0, q1, q2, q3, q4, q5, q6, q7, q8, q9, q10, q11]) rfl ⟨_, _, _, _, _, _, _, _, _, _, da, _, es, zs, (by omega), HEW.out, HZS.out, (by omega), rfl, hc9, hg9, ho9, hp9⟩
    · have g1 : ((y : Int) == 1) = false := by rw [beq_eq_false_iff_ne]; omega
      by_cases y2 : y = 2
      · subst y2
        have H5 := hide (HD3.out.on ((Below.refl _ _).alloc (Nat.le_refl _) (.cells (I64z [-1, 100000, 100001]).toArray 3)))
        have HO : Hid ((w3.alloc (.cells (I64z [-1, 100000, 100001]).toArray 3)).ownsRow w3.heap.size 3 1 (.slice (some ⟨w3.heap.size, 0, none⟩) 3 3) 3 (I64z [-1, 100000, 100001])) := hide (World.ownsRow_lit (base := w3.heap.size) (size := 1) w3 (I64z [-1, 100000, 100001]).toArray 3 (Nat.le_refl _) (by decide) (by simp [I64z]))
        have hp3 : p < w3.heap.size := HD3.out.rv.rs.cur.lt
        go_wp2_with fail
        refine (l01PickInt_any B p a len cap w3.heap.size _ [-1, 100000, 100001] (by simp) (by simp) _ hp3 HO.out H5.out.rv.rs.cur).mono ?_
        rintro r w4 ⟨m, hm, rfl, hc4, hg4⟩
        have H6 := hide (H5.out.drawn hc4 hg4)
        clear hc4 hg4 H5 HO HD3 hm hp3
        obtain ⟨c0, c1, c2, c3, c4, c5, c6, c7, c8, c9, c10, c11⟩ := H6.out.c12
        have hlw := H6.out.rv.hb
        have fk := H6.out.free 3
        have kp := H6.out.put 3 (.int .i64 m)
        simp only [List.setIfInBounds_toArray, List.set_cons_zero, List.set_cons_succ] at kp
        have HD14 := hide kp
        clear kp
        obtain ⟨r0, r1, r2, r3, r4, r5, r6, r7, r8, r9, r10, r11⟩ := H6.out.r12
        have t0 := H6.out.rf 0
        have t1 := H6.out.rf 1
        have t2 := H6.out.rf 2
        have t3 := H6.out.rf 3
        have t4 := H6.out.rf 4
        have t5 := H6.out.rf 5
        have t6 := H6.out.rf 6
        have t7 := H6.out.rf 7
        have t8 := H6.out.rf 8
        have t9 := H6.out.rf 9
        have t10 := H6.out.rf 10
        have t11 := H6.out.rf 11
        go_wp2_with fail
        generalize w4.setCell ⟨b, 3, none⟩ (Value.int IntKind.i64 m) = W3 at HD14 ⊢
        obtain ⟨hr, hc9, hg9, ho9, hp9⟩ := HD14.out.ret ((((((((((((W3.setCell ⟨w.heap.size, 0, none⟩ (Value.int IntKind.i64 kd)).setCell ⟨w.heap.size, 1, none⟩ (Value.int IntKind.i64 fr)).setCell ⟨w.heap.size, 2, none⟩ (Value.int IntKind.i64 to)).setCell ⟨w.heap.size, 3, none⟩ (Value.int IntKind.i64 m)).setCell ⟨w.heap.size, 4, none⟩ (Value.int IntKind.i64 ix)).setCell ⟨w.heap.size, 5, none⟩ (Value.int IntKind.i64 lt)).setCell ⟨w.heap.size, 6, none⟩ (Value.int IntKind.i64 cm)).setCell ⟨w.heap.size, 7, none⟩ (Value.bool ok)).setCell ⟨w.heap.size, 8, none⟩ (Value.slice ov es.length cv)).setCell ⟨w.heap.size, 9, none⟩ (Value.slice oc zs.length cc)).setCell ⟨w.heap.size, 10, none⟩ (Value.string ⟨da.toArray⟩)).setCell ⟨w.heap.size, 11, none⟩ (Value.bool la)) (by simp only [World.setCells, Nat.zero_add, Nat.reduceAdd])
        generalize ((((((((((((W3.setCell ⟨w.heap.size, 0, none⟩ (Value.int IntKind.i64 kd)).setCell ⟨w.heap.size, 1, none⟩ (Value.int IntKind.i64 fr)).setCell ⟨w.heap.size, 2, none⟩ (Value.int IntKind.i64 to)).setCell ⟨w.heap.size, 3, none⟩ (Value.int IntKind.i64 m)).setCell ⟨w.heap.size, 4, none⟩ (Value.int IntKind.i64 ix)).setCell ⟨w.heap.size, 5, none⟩ (Value.int IntKind.i64 lt)).setCell ⟨w.heap.size, 6, none⟩ (Value.int IntKind.i64 cm)).setCell ⟨w.heap.size, 7, none⟩ (Value.bool ok)).setCell ⟨w.heap.size, 8, none⟩ (Value.slice ov es.length cv)).setCell ⟨w.heap.size, 9, none⟩ (Value.slice oc zs.length cc)).setCell ⟨w.heap.size, 10, none⟩ (Value.string ⟨da.toArray⟩)).setCell ⟨w.heap.size, 11, none⟩ (Value.bool la)) = w9 at hr hc9 hg9 ho9 hp9 ⊢
        obtain ⟨q0, q1, q2, q3, q4, q5, q6, q7, q8, q9, q10, q11⟩ := xs12 (T := 27) hr
        exact bodyPost_ret (v := .agg #[.int .i64 kd, .int .i64 fr, .int .i64 to, .int .i64 m, .int .i64 ix, .int .i64 lt, .int .i64 cm, .bool ok, (.slice ov es.length cv), (.slice oc zs.length cc), .string ⟨da.toArray⟩, .bool la]) (by simp [results, Tryz.results13, go_sem, q0, q1, q2, q3, q4, q5, q6, q7, q8, q9, q10, q11]) rfl ⟨_, _, _, _, _, _, _, _, _, _, da, _, es, zs, (by omega), HEW.out, HZS.out, (by omega), rfl, hc9, hg9, ho9, hp9⟩
      · have g2 : ((y : Int) == 2) = false := by rw [beq_eq_false_iff_ne]; omega
        by_cases y3 : y = 3
        · subst y3
          have H5 := hide (HD3.out.on ((Below.refl _ _).alloc (Nat.le_refl _) (.cells (I64z [-1, 1000000, 1000001]).toArray 3)))
          have HO : Hid ((w3.alloc (.cells (I64z [-1, 1000000, 1000001]).toArray 3)).ownsRow w3.heap.size 3 1 (.slice (some ⟨w3.heap.size, 0, none⟩) 3 3) 3 (I64z [-1, 1000000, 1000001])) := hide (World.ownsRow_lit (base := w3.heap.size) (size := 1) w3 (I64z [-1, 1000000, 1000001]).toArray 3 (Nat.le_refl _) (by decide) (by simp [I64z]))
          have hp3 : p < w3.heap.size := HD3.out.rv.rs.cur.lt
          go_wp2_with fail
          refine (l01PickInt_any B p a len cap w3.heap.size _ [-1, 1000000, 1000001] (by simp) (by simp) _ hp3 HO.out H5.out.rv.rs.cur).mono ?_
          rintro r w4 ⟨m, hm, rfl, hc4, hg4⟩
          have H6 := hide (H5.out.drawn hc4 hg4)
          clear hc4 hg4 H5 HO HD3 hm hp3
          obtain ⟨c0, c1, c2, c3, c4, c5, c6, c7, c8, c9, c10, c11⟩ := H6.out.c12
          have hlw := H6.out.rv.hb
          have fk := H6.out.free 4
          have kp := H6.out.put 4 (.int .i64 m)
          simp only [List.setIfInBounds_toArray, List.set_cons_zero, List.set_cons_succ] at kp
          have HD14 := hide kp
          clear kp
          obtain ⟨r0, r1, r2, r3, r4, r5, r6, r7, r8, r9, r10, r11⟩ := H6.out.r12
          have t0 := H6.out.rf 0
          have t1 := H6.out.rf 1
          have t2 := H6.out.rf 2
          have t3 := H6.out.rf 3
          have t4 := H6.out.rf 4
          have t5 := H6.out.rf 5
          have t6 := H6.out.rf 6
          have t7 := H6.out.rf 7
          have t8 := H6.out.rf 8
          have t9 := H6.out.rf 9
          have t10 := H6.out.rf 10
          have t11 := H6.out.rf 11
          go_wp2_with fail
          generalize w4.setCell ⟨b, 4, none⟩ (Value.int IntKind.i64 m) = W3 at HD14 ⊢
          obtain ⟨hr, hc9, hg9, ho9, hp9⟩ := HD14.out.ret ((((((((((((W3.setCell ⟨w.heap.size, 0, none⟩ (Value.int IntKind.i64 kd)).setCell ⟨w.heap.size, 1, none⟩ (Value.int IntKind.i64 fr)).setCell ⟨w.heap.size, 2, none⟩ (Value.int IntKind.i64 to)).setCell ⟨w.heap.size, 3, none⟩ (Value.int IntKind.i64 tm)).setCell ⟨w.heap.size, 4, none⟩ (Value.int IntKind.i64 m)).setCell ⟨w.heap.size, 5, none⟩ (Value.int IntKind.i64 lt)).setCell ⟨w.heap.size, 6, none⟩ (Value.int IntKind.i64 cm)).setCell ⟨w.heap.size, 7, none⟩ (Value.bool ok)).setCell ⟨w.heap.size, 8, none⟩ (Value.slice ov es.length cv)).setCell ⟨w.heap.size, 9, none⟩ (Value.slice oc zs.length cc)).setCell ⟨w.heap.size, 10, none⟩ (Value.string ⟨da.toArray⟩)).setCell ⟨w.heap.size, 11, none⟩ (Value.bool la)) (by simp only [World.setCells, Nat.zero_add, Nat.reduceAdd])
          generalize ((((((((((((W3.setCell ⟨w.heap.size, 0, none⟩ (Value.int IntKind.i64 kd)).setCell ⟨w.heap.size, 1, none⟩ (Value.int IntKind.i64 fr)).setCell ⟨w.heap.size, 2, none⟩ (Value.int IntKind.i64 to)).setCell ⟨w.heap.size, 3, none⟩ (Value.int IntKind.i64 tm)).setCell ⟨w.heap.size, 4, none⟩ (Value.int IntKind.i64 m)).setCell ⟨w.heap.size, 5, none⟩ (Value.int IntKind.i64 lt)).setCell ⟨w.heap.size, 6, none⟩ (Value.int IntKind.i64 cm)).setCell ⟨w.heap.size, 7, none⟩ (Value.bool ok)).setCell ⟨w.heap.size, 8, none⟩ (Value.slice ov es.length cv)).setCell ⟨w.heap.size, 9, none⟩ (Value.slice oc zs.length cc)).setCell ⟨w.heap.size, 10, none⟩ (Value.string ⟨da.toArray⟩)).setCell ⟨w.heap.size, 11, none⟩ (Value.bool la)) = w9 at hr hc9 hg9 ho9 hp9 ⊢
          obtain ⟨q0, q1, q2, q3, q4, q5, q6, q7, q8, q9, q10, q11⟩ := xs12 (T := 27) hr
          exact bodyPost_ret (v := .agg #[.int .i64 kd, .int .i64 fr, .int .i64 to, .int .i64 tm, .int .i64 m, .int .i64 lt, .int .i64 cm, .bool ok, (.slice ov es.length cv), (.slice oc zs.length cc), .string ⟨da.toArray⟩, .bool la]) (by simp [results, Tryz.results13, go_sem, q0, q1, q2, q3, q4, q5, q6, q7, q8, q9, q10, q11]) rfl ⟨_, _, _, _, _, _, _, _, _, _, da, _, es, zs, (by omega), HEW.out, HZS.out, (by omega), rfl, hc9, hg9, ho9, hp9⟩
        · have g3 : ((y : Int) == 3) = false := by rw [beq_eq_false_iff_ne]; omega
          by_cases y4 : y = 4
          · subst y4
            go_wp2_with fail
            have HDs := hide (HD3.out.on (Below.refl _ _).drew)
            clear HD3
            refine wp_region_held_drew (S := fun _ => True) (by kernel_rfl) trivial (fun hHeld => ?_)
            generalize w3.drew = xs at HDs ⊢
            refine wpAnyH_take (i := 0) (v := ?_) rfl (by kernel_rfl) (by kernel_rfl) (by kernel_rfl) (fun _ _ _ h => h) (Or.inl ⟨by rfl, ?_⟩) (by assumption) ?_; rotate_left
            · (intro w hSw; (try dsimp only at hSw); go_simp; first | done | with_reducible rfl)
            try simp only [Act.put, List.getElem_toArray, List.getElem_cons_zero, List.getElem_cons_succ, List.setIfInBounds_toArray, List.set_cons_zero, List.set_cons_succ]
            refine wpAnyH_take (i := 2) (v := ?_) rfl (by kernel_rfl) (by kernel_rfl) (by kernel_rfl) (fun _ _ _ h => h) (Or.inl ⟨by rfl, ?_⟩) (by assumption) ?_; rotate_left
            · (intro w hSw; (try dsimp only at hSw); go_simp; first | done | with_reducible rfl)
            try simp only [Act.put, List.getElem_toArray, List.getElem_cons_zero, List.getElem_cons_succ, List.setIfInBounds_toArray, List.set_cons_zero, List.set_cons_succ]
            refine wpAnyH_ready (rs := [1, 3]) (by kernel_rfl) (by simp) ?_
            refine AllReadyH.cons rfl (fun K hK => ?_) ?_
            · obtain ⟨c0, c1, c2, c3, c4, c5, c6, c7, hcd, c9, c10, c11⟩ := HDs.out.c12
              clear c0 c1 c2 c3 c4 c5 c6 c7 c9 c10 c11
              rw [if_pos (by rfl)]
              go_simp
              refine hK.out _ _ ?_ (fun hHeld => ?_)
              · trivial
              clear hK K
              try simp only [Act.put, List.getElem_toArray, List.getElem_cons_zero, List.getElem_cons_succ, List.setIfInBounds_toArray, List.set_cons_zero, List.set_cons_succ]
              clear hcd
              refine wpAnyH_ready (rs := [3]) (by kernel_rfl) (by simp) ?_
              refine AllReadyH.cons rfl (fun K hK => ?_) ?_
              · rw [if_pos (by rfl)]
                go_simp
                go_at_call 39
                refine (l05Any_any B p a len cap _ HDs.out.size.1 HDs.out.rv.rs.cur).mono ?_
                rintro r x4 ⟨et, ek, ez, hez, rfl, hc4, hg4⟩
                have HD4 := hide (HDs.out.drawn hc4 hg4)
                have HEZ := hide hez
                clear hc4 hg4 hez
                try go_simp
                refine hK.out _ _ ?_ (fun hHeld => ?_)
                · trivial
                clear hK K
                try simp only [Act.put, List.getElem_toArray, List.getElem_cons_zero, List.getElem_cons_succ, List.setIfInBounds_toArray, List.set_cons_zero, List.set_cons_succ]
                refine wpAnyH_ready (rs := [4]) (by kernel_rfl) (by simp) ?_
                refine AllReadyH.cons rfl (fun K hK => ?_) ?_
                · have HD5 := hide (HD4.out.on ((Below.refl _ _).alloc (Nat.le_refl _) (Obj.cells #[Value.int IntKind.i64 et, Value.int IntKind.i64 ek, Value.string ez] 56)))
                  have hk5 := heap_alloc_new x4 (Obj.cells #[Value.int IntKind.i64 et, Value.int IntKind.i64 ek, Value.string ez] 56)
                  rw [if_pos (by rfl)]
                  go_simp
                  refine hK.out _ _ ?_ (fun hHeld => ?_)
                  · trivial
                  clear hK K
                  try simp only [Act.put, List.getElem_toArray, List.getElem_cons_zero, List.getElem_cons_succ, List.setIfInBounds_toArray, List.set_cons_zero, List.set_cons_succ]
                  have z5 : (x4.alloc (Obj.cells #[Value.int IntKind.i64 et, Value.int IntKind.i64 ek, Value.string ez] 56)).heap.size = x4.heap.size + 1 := by simp
                  generalize x4.alloc (Obj.cells #[Value.int IntKind.i64 et, Value.int IntKind.i64 ek, Value.string ez] 56) = x5 at HD5 hk5 ⊢
                  have HK5 := hide hk5
                  clear hk5
                  refine wpAnyH_ready (rs := [5]) (by kernel_rfl) (by simp) ?_
                  refine AllReadyH.cons rfl (fun K hK => ?_) ?_
                  · rw [if_pos (by rfl)]
                    refine wp_append_ent15 _ _ rfl (w.heap.size + 1) _ es.length es rfl HD5.out.own (by omega) HD5.out.size.2 _ _ (EntV.mk et ek ez) rfl HK5.out ?_
                    intro v6 x6 ho6 hg6
                    obtain ⟨ES, hES⟩ : ∃ ES, ES = es ++ [EntV.mk et ek ez] := ⟨_, rfl⟩
                    have ho7 : x6.ownsRow (w.heap.size + 1) 56 3 v6 ES.length (ES.flatMap ecells) := by rw [hES, List.length_append]; exact ho6
                    have HES := hide hES
                    clear hES
                    obtain ⟨o6, k6, rfl⟩ := own_form3 ho7
                    have HD6 := hide (HD5.out.row ho7 hg6)
                    clear ho6 hg6 ho7
                    try go_simp
                    refine hK.out _ _ ?_ (fun hHeld => ?_)
                    · trivial
                    clear hK K
                    try simp only [Act.put, List.getElem_toArray, List.getElem_cons_zero, List.getElem_cons_succ, List.setIfInBounds_toArray, List.set_cons_zero, List.set_cons_succ]
                    refine wpAnyH_take (i := 6) (v := ?_) rfl (by kernel_rfl) (by kernel_rfl) (by kernel_rfl) (fun _ _ _ h => h) (Or.inl ⟨by rfl, ?_⟩) (by assumption) ?_; rotate_left
                    · (intro w hSw; (try dsimp only at hSw); go_simp; first | done | with_reducible rfl)
                    try simp only [Act.put, List.getElem_toArray, List.getElem_cons_zero, List.getElem_cons_succ, List.setIfInBounds_toArray, List.set_cons_zero, List.set_cons_succ]
                    refine wpAnyH_ready (rs := [7]) (by kernel_rfl) (by simp) ?_
                    refine AllReadyH.cons rfl (fun K hK => ?_) ?_
                    · obtain ⟨c0, c1, c2, c3, c4, c5, c6x, c7, q2, c9, c10, c11⟩ := HD6.out.c12
                      clear c0 c1 c2 c3 c4 c5 c6x c7 c9 c10 c11
                      have f2 := HD6.out.free 8
                      have kp := HD6.out.put 8 (.slice o6 ES.length k6)
                      simp only [List.setIfInBounds_toArray, List.set_cons_zero, List.set_cons_succ] at kp
                      have HDN := hide kp
                      clear kp
                      rw [if_pos (by rfl)]
                      go_simp
                      refine hK.out _ _ ?_ (fun hHeld => ?_)
                      · trivial
                      clear hK K
                      try simp only [Act.put, List.getElem_toArray, List.getElem_cons_zero, List.getElem_cons_succ, List.setIfInBounds_toArray, List.set_cons_zero, List.set_cons_succ]
                      clear q2 f2
                      refine wpAnyH_done (by kernel_rfl) ?_ _
                      have HW2 := hide (show ∀ f ∈ ES, f.data.size ≤ 1000 from fun f hf => (List.mem_append.1 (by rw [HES.out] at hf; exact hf)).elim (HEW.out f) (fun h => by rw [List.mem_singleton.1 h]; have := HEZ.out; show ez.size ≤ 1000; omega))
                      have HL2 : ES.length ≤ 5 := by rw [HES.out, List.length_append]; simp; omega
                      clear hHeld
                      generalize x6.setCell ⟨b, 8, none⟩ (Value.slice o6 ES.length k6) = xz at HDN ⊢
                      obtain ⟨c0, c1, c2, c3, c4, c5, c6, c7, c8, c9, c10, c11⟩ := HDN.out.c12
                      obtain ⟨r0, r1, r2, r3, r4, r5, r6, r7, r8, r9, r10, r11⟩ := HDN.out.r12
                      have t0 := HDN.out.rf 0
                      have t1 := HDN.out.rf 1
                      have t2 := HDN.out.rf 2
                      have t3 := HDN.out.rf 3
                      have t4 := HDN.out.rf 4
                      have t5 := HDN.out.rf 5
                      have t6 := HDN.out.rf 6
                      have t7 := HDN.out.rf 7
                      have t8 := HDN.out.rf 8
                      have t9 := HDN.out.rf 9
                      have t10 := HDN.out.rf 10
                      have t11 := HDN.out.rf 11
                      go_wp2_with fail
                      obtain ⟨hr, hc9, hg9, ho9, hp9⟩ := HDN.out.ret ((((((((((((xz.setCell ⟨w.heap.size, 0, none⟩ (Value.int IntKind.i64 kd)).setCell ⟨w.heap.size, 1, none⟩ (Value.int IntKind.i64 fr)).setCell ⟨w.heap.size, 2, none⟩ (Value.int IntKind.i64 to)).setCell ⟨w.heap.size, 3, none⟩ (Value.int IntKind.i64 tm)).setCell ⟨w.heap.size, 4, none⟩ (Value.int IntKind.i64 ix)).setCell ⟨w.heap.size, 5, none⟩ (Value.int IntKind.i64 lt)).setCell ⟨w.heap.size, 6, none⟩ (Value.int IntKind.i64 cm)).setCell ⟨w.heap.size, 7, none⟩ (Value.bool ok)).setCell ⟨w.heap.size, 8, none⟩ (Value.slice o6 ES.length k6)).setCell ⟨w.heap.size, 9, none⟩ (Value.slice oc zs.length cc)).setCell ⟨w.heap.size, 10, none⟩ (Value.string ⟨da.toArray⟩)).setCell ⟨w.heap.size, 11, none⟩ (Value.bool la)) (by simp only [World.setCells, Nat.zero_add, Nat.reduceAdd])
                      generalize ((((((((((((xz.setCell ⟨w.heap.size, 0, none⟩ (Value.int IntKind.i64 kd)).setCell ⟨w.heap.size, 1, none⟩ (Value.int IntKind.i64 fr)).setCell ⟨w.heap.size, 2, none⟩ (Value.int IntKind.i64 to)).setCell ⟨w.heap.size, 3, none⟩ (Value.int IntKind.i64 tm)).setCell ⟨w.heap.size, 4, none⟩ (Value.int IntKind.i64 ix)).setCell ⟨w.heap.size, 5, none⟩ (Value.int IntKind.i64 lt)).setCell ⟨w.heap.size, 6, none⟩ (Value.int IntKind.i64 cm)).setCell ⟨w.heap.size, 7, none⟩ (Value.bool ok)).setCell ⟨w.heap.size, 8, none⟩ (Value.slice o6 ES.length k6)).setCell ⟨w.heap.size, 9, none⟩ (Value.slice oc zs.length cc)).setCell ⟨w.heap.size, 10, none⟩ (Value.string ⟨da.toArray⟩)).setCell ⟨w.heap.size, 11, none⟩ (Value.bool la)) = w9 at hr hc9 hg9 ho9 hp9 ⊢
                      obtain ⟨q0, q1, q2, q3, q4, q5, q6, q7, q8, q9, q10, q11⟩ := xs12 (T := 27) hr
                      exact bodyPost_ret (v := .agg #[.int .i64 kd, .int .i64 fr, .int .i64 to, .int .i64 tm, .int .i64 ix, .int .i64 lt, .int .i64 cm, .bool ok, (.slice o6 ES.length k6), (.slice oc zs.length cc), .string ⟨da.toArray⟩, .bool la]) (by simp [results, Tryz.results13, go_sem, q0, q1, q2, q3, q4, q5, q6, q7, q8, q9, q10, q11]) rfl ⟨_, _, _, _, _, _, _, _, _, _, da, _, ES, zs, HL2, HW2.out, HZS.out, (by omega), rfl, hc9, hg9, ho9, hp9⟩
                    exact AllReadyH.nil
                  exact AllReadyH.nil
                exact AllReadyH.nil
              exact AllReadyH.nil
            refine AllReadyH.cons rfl (fun K hK => ?_) ?_
            · rw [if_pos (by rfl)]
              go_simp
              go_at_call 39
              refine (l05Any_any B p a len cap _ HDs.out.size.1 HDs.out.rv.rs.cur).mono ?_
              rintro r x4 ⟨et, ek, ez, hez, rfl, hc4, hg4⟩
              have HD4 := hide (HDs.out.drawn hc4 hg4)
              have HEZ := hide hez
              clear hc4 hg4 hez
              try go_simp
              refine hK.out _ _ ?_ (fun hHeld => ?_)
              · trivial
              clear hK K
              try simp only [Act.put, List.getElem_toArray, List.getElem_cons_zero, List.getElem_cons_succ, List.setIfInBounds_toArray, List.set_cons_zero, List.set_cons_succ]
              refine wpAnyH_ready (rs := [1, 4]) (by kernel_rfl) (by simp) ?_
              refine AllReadyH.cons rfl (fun K hK => ?_) ?_
              · obtain ⟨c0, c1, c2, c3, c4, c5, c6, c7, hcd, c9, c10, c11⟩ := HD4.out.c12
                clear c0 c1 c2 c3 c4 c5 c6 c7 c9 c10 c11
                rw [if_pos (by rfl)]
                go_simp
                refine hK.out _ _ ?_ (fun hHeld => ?_)
                · trivial
                clear hK K
                try simp only [Act.put, List.getElem_toArray, List.getElem_cons_zero, List.getElem_cons_succ, List.setIfInBounds_toArray, List.set_cons_zero, List.set_cons_succ]
                clear hcd
                refine wpAnyH_ready (rs := [4]) (by kernel_rfl) (by simp) ?_
                refine AllReadyH.cons rfl (fun K hK => ?_) ?_
                · have HD5 := hide (HD4.out.on ((Below.refl _ _).alloc (Nat.le_refl _) (Obj.cells #[Value.int IntKind.i64 et, Value.int IntKind.i64 ek, Value.string ez] 56)))
                  have hk5 := heap_alloc_new x4 (Obj.cells #[Value.int IntKind.i64 et, Value.int IntKind.i64 ek, Value.string ez] 56)
                  rw [if_pos (by rfl)]
                  go_simp
                  refine hK.out _ _ ?_ (fun hHeld => ?_)
                  · trivial
                  clear hK K
                  try simp only [Act.put, List.getElem_toArray, List.getElem_cons_zero, List.getElem_cons_succ, List.setIfInBounds_toArray, List.set_cons_zero, List.set_cons_succ]
                  have z5 : (x4.alloc (Obj.cells #[Value.int IntKind.i64 et, Value.int IntKind.i64 ek, Value.string ez] 56)).heap.size = x4.heap.size + 1 := by simp
                  generalize x4.alloc (Obj.cells #[Value.int IntKind.i64 et, Value.int IntKind.i64 ek, Value.string ez] 56) = x5 at HD5 hk5 ⊢
                  have HK5 := hide hk5
                  clear hk5
                  refine wpAnyH_ready (rs := [5]) (by kernel_rfl) (by simp) ?_
                  refine AllReadyH.cons rfl (fun K hK => ?_) ?_
                  · rw [if_pos (by rfl)]
                    refine wp_append_ent15 _ _ rfl (w.heap.size + 1) _ es.length es rfl HD5.out.own (by omega) HD5.out.size.2 _ _ (EntV.mk et ek ez) rfl HK5.out ?_
                    intro v6 x6 ho6 hg6
                    obtain ⟨ES, hES⟩ : ∃ ES, ES = es ++ [EntV.mk et ek ez] := ⟨_, rfl⟩
                    have ho7 : x6.ownsRow (w.heap.size + 1) 56 3 v6 ES.length (ES.flatMap ecells) := by rw [hES, List.length_append]; exact ho6
                    have HES := hide hES
                    clear hES
                    obtain ⟨o6, k6, rfl⟩ := own_form3 ho7
                    have HD6 := hide (HD5.out.row ho7 hg6)
                    clear ho6 hg6 ho7
                    try go_simp
                    refine hK.out _ _ ?_ (fun hHeld => ?_)
                    · trivial
                    clear hK K
                    try simp only [Act.put, List.getElem_toArray, List.getElem_cons_zero, List.getElem_cons_succ, List.setIfInBounds_toArray, List.set_cons_zero, List.set_cons_succ]
                    refine wpAnyH_take (i := 6) (v := ?_) rfl (by kernel_rfl) (by kernel_rfl) (by kernel_rfl) (fun _ _ _ h => h) (Or.inl ⟨by rfl, ?_⟩) (by assumption) ?_; rotate_left
                    · (intro w hSw; (try dsimp only at hSw); go_simp; first | done | with_reducible rfl)
                    try simp only [Act.put, List.getElem_toArray, List.getElem_cons_zero, List.getElem_cons_succ, List.setIfInBounds_toArray, List.set_cons_zero, List.set_cons_succ]
                    refine wpAnyH_ready (rs := [7]) (by kernel_rfl) (by simp) ?_
                    refine AllReadyH.cons rfl (fun K hK => ?_) ?_
                    · obtain ⟨c0, c1, c2, c3, c4, c5, c6x, c7, q2, c9, c10, c11⟩ := HD6.out.c12
                      clear c0 c1 c2 c3 c4 c5 c6x c7 c9 c10 c11
                      have f2 := HD6.out.free 8
                      have kp := HD6.out.put 8 (.slice o6 ES.length k6)
                      simp only [List.setIfInBounds_toArray, List.set_cons_zero, List.set_cons_succ] at kp
                      have HDN := hide kp
                      clear kp
                      rw [if_pos (by rfl)]
                      go_simp
                      refine hK.out _ _ ?_ (fun hHeld => ?_)
                      · trivial
                      clear hK K
                      try simp only [Act.put, List.getElem_toArray, List.getElem_cons_zero, List.getElem_cons_succ, List.setIfInBounds_toArray, List.set_cons_zero, List.set_cons_succ]
                      clear q2 f2
                      refine wpAnyH_done (by kernel_rfl) ?_ _
                      have HW2 := hide (show ∀ f ∈ ES, f.data.size ≤ 1000 from fun f hf => (List.mem_append.1 (by rw [HES.out] at hf; exact hf)).elim (HEW.out f) (fun h => by rw [List.mem_singleton.1 h]; have := HEZ.out; show ez.size ≤ 1000; omega))
                      have HL2 : ES.length ≤ 5 := by rw [HES.out, List.length_append]; simp; omega
                      clear hHeld
                      generalize x6.setCell ⟨b, 8, none⟩ (Value.slice o6 ES.length k6) = xz at HDN ⊢
                      obtain ⟨c0, c1, c2, c3, c4, c5, c6, c7, c8, c9, c10, c11⟩ := HDN.out.c12
                      obtain ⟨r0, r1, r2, r3, r4, r5, r6, r7, r8, r9, r10, r11⟩ := HDN.out.r12
                      have t0 := HDN.out.rf 0
                      have t1 := HDN.out.rf 1
                      have t2 := HDN.out.rf 2
                      have t3 := HDN.out.rf 3
                      have t4 := HDN.out.rf 4
                      have t5 := HDN.out.rf 5
                      have t6 := HDN.out.rf 6
                      have t7 := HDN.out.rf 7
                      have t8 := HDN.out.rf 8
                      have t9 := HDN.out.rf 9
                      have t10 := HDN.out.rf 10
                      have t11 := HDN.out.rf 11
                      go_wp2_with fail
                      obtain ⟨hr, hc9, hg9, ho9, hp9⟩ := HDN.out.ret ((((((((((((xz.setCell ⟨w.heap.size, 0, none⟩ (Value.int IntKind.i64 kd)).setCell ⟨w.heap.size, 1, none⟩ (Value.int IntKind.i64 fr)).setCell ⟨w.heap.size, 2, none⟩ (Value.int IntKind.i64 to)).setCell ⟨w.heap.size, 3, none⟩ (Value.int IntKind.i64 tm)).setCell ⟨w.heap.size, 4, none⟩ (Value.int IntKind.i64 ix)).setCell ⟨w.heap.size, 5, none⟩ (Value.int IntKind.i64 lt)).setCell ⟨w.heap.size, 6, none⟩ (Value.int IntKind.i64 cm)).setCell ⟨w.heap.size, 7, none⟩ (Value.bool ok)).setCell ⟨w.heap.size, 8, none⟩ (Value.slice o6 ES.length k6)).setCell ⟨w.heap.size, 9, none⟩ (Value.slice oc zs.length cc)).setCell ⟨w.heap.size, 10, none⟩ (Value.string ⟨da.toArray⟩)).setCell ⟨w.heap.size, 11, none⟩ (Value.bool la)) (by simp only [World.setCells, Nat.zero_add, Nat.reduceAdd])
                      generalize ((((((((((((xz.setCell ⟨w.heap.size, 0, none⟩ (Value.int IntKind.i64 kd)).setCell ⟨w.heap.size, 1, none⟩ (Value.int IntKind.i64 fr)).setCell ⟨w.heap.size, 2, none⟩ (Value.int IntKind.i64 to)).setCell ⟨w.heap.size, 3, none⟩ (Value.int IntKind.i64 tm)).setCell ⟨w.heap.size, 4, none⟩ (Value.int IntKind.i64 ix)).setCell ⟨w.heap.size, 5, none⟩ (Value.int IntKind.i64 lt)).setCell ⟨w.heap.size, 6, none⟩ (Value.int IntKind.i64 cm)).setCell ⟨w.heap.size, 7, none⟩ (Value.bool ok)).setCell ⟨w.heap.size, 8, none⟩ (Value.slice o6 ES.length k6)).setCell ⟨w.heap.size, 9, none⟩ (Value.slice oc zs.length cc)).setCell ⟨w.heap.size, 10, none⟩ (Value.string ⟨da.toArray⟩)).setCell ⟨w.heap.size, 11, none⟩ (Value.bool la)) = w9 at hr hc9 hg9 ho9 hp9 ⊢
                      obtain ⟨q0, q1, q2, q3, q4, q5, q6, q7, q8, q9, q10, q11⟩ := xs12 (T := 27) hr
                      exact bodyPost_ret (v := .agg #[.int .i64 kd, .int .i64 fr, .int .i64 to, .int .i64 tm, .int .i64 ix, .int .i64 lt, .int .i64 cm, .bool ok, (.slice o6 ES.length k6), (.slice oc zs.length cc), .string ⟨da.toArray⟩, .bool la]) (by simp [results, Tryz.results13, go_sem, q0, q1, q2, q3, q4, q5, q6, q7, q8, q9, q10, q11]) rfl ⟨_, _, _, _, _, _, _, _, _, _, da, _, ES, zs, HL2, HW2.out, HZS.out, (by omega), rfl, hc9, hg9, ho9, hp9⟩
                    exact AllReadyH.nil
                  exact AllReadyH.nil
                exact AllReadyH.nil
              refine AllReadyH.cons rfl (fun K hK => ?_) ?_
              · have HD5 := hide (HD4.out.on ((Below.refl _ _).alloc (Nat.le_refl _) (Obj.cells #[Value.int IntKind.i64 et, Value.int IntKind.i64 ek, Value.string ez] 56)))
                have hk5 := heap_alloc_new x4 (Obj.cells #[Value.int IntKind.i64 et, Value.int IntKind.i64 ek, Value.string ez] 56)
                rw [if_pos (by rfl)]
                go_simp
                refine hK.out _ _ ?_ (fun hHeld => ?_)
                · trivial
                clear hK K
                try simp only [Act.put, List.getElem_toArray, List.getElem_cons_zero, List.getElem_cons_succ, List.setIfInBounds_toArray, List.set_cons_zero, List.set_cons_succ]
                have z5 : (x4.alloc (Obj.cells #[Value.int IntKind.i64 et, Value.int IntKind.i64 ek, Value.string ez] 56)).heap.size = x4.heap.size + 1 := by simp
                generalize x4.alloc (Obj.cells #[Value.int IntKind.i64 et, Value.int IntKind.i64 ek, Value.string ez] 56) = x5 at HD5 hk5 ⊢
                have HK5 := hide hk5
                clear hk5
                refine wpAnyH_ready (rs := [1]) (by kernel_rfl) (by simp) ?_
                refine AllReadyH.cons rfl (fun K hK => ?_) ?_
                · obtain ⟨c0, c1, c2, c3, c4, c5, c6, c7, hcd, c9, c10, c11⟩ := HD5.out.c12
                  clear c0 c1 c2 c3 c4 c5 c6 c7 c9 c10 c11
                  rw [if_pos (by rfl)]
                  go_simp
                  refine hK.out _ _ ?_ (fun hHeld => ?_)
                  · trivial
                  clear hK K
                  try simp only [Act.put, List.getElem_toArray, List.getElem_cons_zero, List.getElem_cons_succ, List.setIfInBounds_toArray, List.set_cons_zero, List.set_cons_succ]
                  clear hcd
                  refine wpAnyH_ready (rs := [5]) (by kernel_rfl) (by simp) ?_
                  refine AllReadyH.cons rfl (fun K hK => ?_) ?_
                  · rw [if_pos (by rfl)]
                    refine wp_append_ent15 _ _ rfl (w.heap.size + 1) _ es.length es rfl HD5.out.own (by omega) HD5.out.size.2 _ _ (EntV.mk et ek ez) rfl HK5.out ?_
                    intro v6 x6 ho6 hg6
                    obtain ⟨ES, hES⟩ : ∃ ES, ES = es ++ [EntV.mk et ek ez] := ⟨_, rfl⟩
                    have ho7 : x6.ownsRow (w.heap.size + 1) 56 3 v6 ES.length (ES.flatMap ecells) := by rw [hES, List.length_append]; exact ho6
                    have HES := hide hES
                    clear hES
                    obtain ⟨o6, k6, rfl⟩ := own_form3 ho7
                    have HD6 := hide (HD5.out.row ho7 hg6)
                    clear ho6 hg6 ho7
                    try go_simp
                    refine hK.out _ _ ?_ (fun hHeld => ?_)
                    · trivial
                    clear hK K
                    try simp only [Act.put, List.getElem_toArray, List.getElem_cons_zero, List.getElem_cons_succ, List.setIfInBounds_toArray, List.set_cons_zero, List.set_cons_succ]
                    refine wpAnyH_take (i := 6) (v := ?_) rfl (by kernel_rfl) (by kernel_rfl) (by kernel_rfl) (fun _ _ _ h => h) (Or.inl ⟨by rfl, ?_⟩) (by assumption) ?_; rotate_left
                    · (intro w hSw; (try dsimp only at hSw); go_simp; first | done | with_reducible rfl)
                    try simp only [Act.put, List.getElem_toArray, List.getElem_cons_zero, List.getElem_cons_succ, List.setIfInBounds_toArray, List.set_cons_zero, List.set_cons_succ]
                    refine wpAnyH_ready (rs := [7]) (by kernel_rfl) (by simp) ?_
                    refine AllReadyH.cons rfl (fun K hK => ?_) ?_
                    · obtain ⟨c0, c1, c2, c3, c4, c5, c6x, c7, q2, c9, c10, c11⟩ := HD6.out.c12
                      clear c0 c1 c2 c3 c4 c5 c6x c7 c9 c10 c11
                      have f2 := HD6.out.free 8
                      have kp := HD6.out.put 8 (.slice o6 ES.length k6)
                      simp only [List.setIfInBounds_toArray, List.set_cons_zero, List.set_cons_succ] at kp
                      have HDN := hide kp
                      clear kp
                      rw [if_pos (by rfl)]
                      go_simp
                      refine hK.out _ _ ?_ (fun hHeld => ?_)
                      · trivial
                      clear hK K
                      try simp only [Act.put, List.getElem_toArray, List.getElem_cons_zero, List.getElem_cons_succ, List.setIfInBounds_toArray, List.set_cons_zero, List.set_cons_succ]
                      clear q2 f2
                      refine wpAnyH_done (by kernel_rfl) ?_ _
                      have HW2 := hide (show ∀ f ∈ ES, f.data.size ≤ 1000 from fun f hf => (List.mem_append.1 (by rw [HES.out] at hf; exact hf)).elim (HEW.out f) (fun h => by rw [List.mem_singleton.1 h]; have := HEZ.out; show ez.size ≤ 1000; omega))
                      have HL2 : ES.length ≤ 5 := by rw [HES.out, List.length_append]; simp; omega
                      clear hHeld
                      generalize x6.setCell ⟨b, 8, none⟩ (Value.slice o6 ES.length k6) = xz at HDN ⊢
                      obtain ⟨c0, c1, c2, c3, c4, c5, c6, c7, c8, c9, c10, c11⟩ := HDN.out.c12
                      obtain ⟨r0, r1, r2, r3, r4, r5, r6, r7, r8, r9, r10, r11⟩ := HDN.out.r12
                      have t0 := HDN.out.rf 0
                      have t1 := HDN.out.rf 1
                      have t2 := HDN.out.rf 2
                      have t3 := HDN.out.rf 3
                      have t4 := HDN.out.rf 4
                      have t5 := HDN.out.rf 5
                      have t6 := HDN.out.rf 6
                      have t7 := HDN.out.rf 7
                      have t8 := HDN.out.rf 8
                      have t9 := HDN.out.rf 9
                      have t10 := HDN.out.rf 10
                      have t11 := HDN.out.rf 11
                      go_wp2_with fail
                      obtain ⟨hr, hc9, hg9, ho9, hp9⟩ := HDN.out.ret ((((((((((((xz.setCell ⟨w.heap.size, 0, none⟩ (Value.int IntKind.i64 kd)).setCell ⟨w.heap.size, 1, none⟩ (Value.int IntKind.i64 fr)).setCell ⟨w.heap.size, 2, none⟩ (Value.int IntKind.i64 to)).setCell ⟨w.heap.size, 3, none⟩ (Value.int IntKind.i64 tm)).setCell ⟨w.heap.size, 4, none⟩ (Value.int IntKind.i64 ix)).setCell ⟨w.heap.size, 5, none⟩ (Value.int IntKind.i64 lt)).setCell ⟨w.heap.size, 6, none⟩ (Value.int IntKind.i64 cm)).setCell ⟨w.heap.size, 7, none⟩ (Value.bool ok)).setCell ⟨w.heap.size, 8, none⟩ (Value.slice o6 ES.length k6)).setCell ⟨w.heap.size, 9, none⟩ (Value.slice oc zs.length cc)).setCell ⟨w.heap.size, 10, none⟩ (Value.string ⟨da.toArray⟩)).setCell ⟨w.heap.size, 11, none⟩ (Value.bool la)) (by simp only [World.setCells, Nat.zero_add, Nat.reduceAdd])
                      generalize ((((((((((((xz.setCell ⟨w.heap.size, 0, none⟩ (Value.int IntKind.i64 kd)).setCell ⟨w.heap.size, 1, none⟩ (Value.int IntKind.i64 fr)).setCell ⟨w.heap.size, 2, none⟩ (Value.int IntKind.i64 to)).setCell ⟨w.heap.size, 3, none⟩ (Value.int IntKind.i64 tm)).setCell ⟨w.heap.size, 4, none⟩ (Value.int IntKind.i64 ix)).setCell ⟨w.heap.size, 5, none⟩ (Value.int IntKind.i64 lt)).setCell ⟨w.heap.size, 6, none⟩ (Value.int IntKind.i64 cm)).setCell ⟨w.heap.size, 7, none⟩ (Value.bool ok)).setCell ⟨w.heap.size, 8, none⟩ (Value.slice o6 ES.length k6)).setCell ⟨w.heap.size, 9, none⟩ (Value.slice oc zs.length cc)).setCell ⟨w.heap.size, 10, none⟩ (Value.string ⟨da.toArray⟩)).setCell ⟨w.heap.size, 11, none⟩ (Value.bool la)) = w9 at hr hc9 hg9 ho9 hp9 ⊢
                      obtain ⟨q0, q1, q2, q3, q4, q5, q6, q7, q8, q9, q10, q11⟩ := xs12 (T := 27) hr
                      exact bodyPost_ret (v := .agg #[.int .i64 kd, .int .i64 fr, .int .i64 to, .int .i64 tm, .int .i64 ix, .int .i64 lt, .int .i64 cm, .bool ok, (.slice o6 ES.length k6), (.slice oc zs.length cc), .string ⟨da.toArray⟩, .bool la]) (by simp [results, Tryz.results13, go_sem, q0, q1, q2, q3, q4, q5, q6, q7, q8, q9, q10, q11]) rfl ⟨_, _, _, _, _, _, _, _, _, _, da, _, ES, zs, HL2, HW2.out, HZS.out, (by omega), rfl, hc9, hg9, ho9, hp9⟩
                    exact AllReadyH.nil
                  exact AllReadyH.nil
                exact AllReadyH.nil
              exact AllReadyH.nil
            exact AllReadyH.nil
          · have g4 : ((y : Int) == 4) = false := by rw [beq_eq_false_iff_ne]; omega
            by_cases y5 : y = 5
            · subst y5
              go_wp2_with fail
              refine (l01Below_any B p a len cap 2 (by decide) (by decide) _ HD3.out.rv.rs.cur).mono ?_
              rintro r w4 ⟨k, hk, rfl, hc4, hg4⟩
              have HD4 := hide (HD3.out.drawn hc4 hg4)
              clear hc4 hg4 HD3
              go_wp2_with fail
              refine (l01Long_15 k hk _).mono ?_
              rintro r w5 ⟨dn, hdn, rfl, hb5⟩
              have HD5 := hide (HD4.out.on hb5)
              clear hb5 HD4
              obtain ⟨c0, c1, c2, c3, c4, c5, c6, c7, c8, c9, c10, c11⟩ := HD5.out.c12
              have hlw := HD5.out.rv.hb
              have fk := HD5.out.free 10
              have kp := HD5.out.put 10 (.string ⟨dn.toArray⟩)
              simp only [List.setIfInBounds_toArray, List.set_cons_zero, List.set_cons_succ] at kp
              have HD14 := hide kp
              clear kp
              obtain ⟨r0, r1, r2, r3, r4, r5, r6, r7, r8, r9, r10, r11⟩ := HD5.out.r12
              have t0 := HD5.out.rf 0
              have t1 := HD5.out.rf 1
              have t2 := HD5.out.rf 2
              have t3 := HD5.out.rf 3
              have t4 := HD5.out.rf 4
              have t5 := HD5.out.rf 5
              have t6 := HD5.out.rf 6
              have t7 := HD5.out.rf 7
              have t8 := HD5.out.rf 8
              have t9 := HD5.out.rf 9
              have t10 := HD5.out.rf 10
              have t11 := HD5.out.rf 11
              go_wp2_with fail
              generalize w5.setCell ⟨b, 10, none⟩ (Value.string ⟨dn.toArray⟩) = W3 at HD14 ⊢
              obtain ⟨hr, hc9, hg9, ho9, hp9⟩ := HD14.out.ret ((((((((((((W3.setCell ⟨w.heap.size, 0, none⟩ (Value.int IntKind.i64 kd)).setCell ⟨w.heap.size, 1, none⟩ (Value.int IntKind.i64 fr)).setCell ⟨w.heap.size, 2, none⟩ (Value.int IntKind.i64 to)).setCell ⟨w.heap.size, 3, none⟩ (Value.int IntKind.i64 tm)).setCell ⟨w.heap.size, 4, none⟩ (Value.int IntKind.i64 ix)).setCell ⟨w.heap.size, 5, none⟩ (Value.int IntKind.i64 lt)).setCell ⟨w.heap.size, 6, none⟩ (Value.int IntKind.i64 cm)).setCell ⟨w.heap.size, 7, none⟩ (Value.bool ok)).setCell ⟨w.heap.size, 8, none⟩ (Value.slice ov es.length cv)).setCell ⟨w.heap.size, 9, none⟩ (Value.slice oc zs.length cc)).setCell ⟨w.heap.size, 10, none⟩ (Value.string ⟨dn.toArray⟩)).setCell ⟨w.heap.size, 11, none⟩ (Value.bool la)) (by simp only [World.setCells, Nat.zero_add, Nat.reduceAdd])
              generalize ((((((((((((W3.setCell ⟨w.heap.size, 0, none⟩ (Value.int IntKind.i64 kd)).setCell ⟨w.heap.size, 1, none⟩ (Value.int IntKind.i64 fr)).setCell ⟨w.heap.size, 2, none⟩ (Value.int IntKind.i64 to)).setCell ⟨w.heap.size, 3, none⟩ (Value.int IntKind.i64 tm)).setCell ⟨w.heap.size, 4, none⟩ (Value.int IntKind.i64 ix)).setCell ⟨w.heap.size, 5, none⟩ (Value.int IntKind.i64 lt)).setCell ⟨w.heap.size, 6, none⟩ (Value.int IntKind.i64 cm)).setCell ⟨w.heap.size, 7, none⟩ (Value.bool ok)).setCell ⟨w.heap.size, 8, none⟩ (Value.slice ov es.length cv)).setCell ⟨w.heap.size, 9, none⟩ (Value.slice oc zs.length cc)).setCell ⟨w.heap.size, 10, none⟩ (Value.string ⟨dn.toArray⟩)).setCell ⟨w.heap.size, 11, none⟩ (Value.bool la)) = w9 at hr hc9 hg9 ho9 hp9 ⊢
              obtain ⟨q0, q1, q2, q3, q4, q5, q6, q7, q8, q9, q10, q11⟩ := xs12 (T := 27) hr
              exact bodyPost_ret (v := .agg #[.int .i64 kd, .int .i64 fr, .int .i64 to, .int .i64 tm, .int .i64 ix, .int .i64 lt, .int .i64 cm, .bool ok, (.slice ov es.length cv), (.slice oc zs.length cc), .string ⟨dn.toArray⟩, .bool la]) (by simp [results, Tryz.results13, go_sem, q0, q1, q2, q3, q4, q5, q6, q7, q8, q9, q10, q11]) rfl ⟨_, _, _, _, _, _, _, _, _, _, dn, _, es, zs, (by omega), HEW.out, HZS.out, (by omega), rfl, hc9, hg9, ho9, hp9⟩
            · have g5 : ((y : Int) == 5) = false := by rw [beq_eq_false_iff_ne]; omega
              by_cases y6 : y = 6
              · subst y6
                go_wp2_with fail
                refine (l05AnyConf_any B p a len cap _ HD3.out.size.1 HD3.out.rv.rs.cur).mono ?_
                rintro r w4 ⟨ys, vc, hys, rfl, hdr⟩
                obtain ⟨od, cd, rfl⟩ := row_form hdr.own
                have HYS := hide hys
                have HD4 := hide (HD3.out.conf hdr)
                clear hys hdr HD3
                obtain ⟨c0, c1, c2, c3, c4, c5, c6, c7, c8, c9, c10, c11⟩ := HD4.out.c12
                have hlw := HD4.out.rv.hb
                have fk := HD4.out.free 9
                have kp := HD4.out.put 9 (.slice od ys.length cd)
                simp only [List.setIfInBounds_toArray, List.set_cons_zero, List.set_cons_succ] at kp
                have HD14 := hide kp
                clear kp
                obtain ⟨r0, r1, r2, r3, r4, r5, r6, r7, r8, r9, r10, r11⟩ := HD4.out.r12
                have t0 := HD4.out.rf 0
                have t1 := HD4.out.rf 1
                have t2 := HD4.out.rf 2
                have t3 := HD4.out.rf 3
                have t4 := HD4.out.rf 4
                have t5 := HD4.out.rf 5
                have t6 := HD4.out.rf 6
                have t7 := HD4.out.rf 7
                have t8 := HD4.out.rf 8
                have t9 := HD4.out.rf 9
                have t10 := HD4.out.rf 10
                have t11 := HD4.out.rf 11
                go_wp2_with fail
                generalize w4.setCell ⟨b, 9, none⟩ (Value.slice od ys.length cd) = W3 at HD14 ⊢
                obtain ⟨hr, hc9, hg9, ho9, hp9⟩ := HD14.out.ret ((((((((((((W3.setCell ⟨w.heap.size, 0, none⟩ (Value.int IntKind.i64 kd)).setCell ⟨w.heap.size, 1, none⟩ (Value.int IntKind.i64 fr)).setCell ⟨w.heap.size, 2, none⟩ (Value.int IntKind.i64 to)).setCell ⟨w.heap.size, 3, none⟩ (Value.int IntKind.i64 tm)).setCell ⟨w.heap.size, 4, none⟩ (Value.int IntKind.i64 ix)).setCell ⟨w.heap.size, 5, none⟩ (Value.int IntKind.i64 lt)).setCell ⟨w.heap.size, 6, none⟩ (Value.int IntKind.i64 cm)).setCell ⟨w.heap.size, 7, none⟩ (Value.bool ok)).setCell ⟨w.heap.size, 8, none⟩ (Value.slice ov es.length cv)).setCell ⟨w.heap.size, 9, none⟩ (Value.slice od ys.length cd)).setCell ⟨w.heap.size, 10, none⟩ (Value.string ⟨da.toArray⟩)).setCell ⟨w.heap.size, 11, none⟩ (Value.bool la)) (by simp only [World.setCells, Nat.zero_add, Nat.reduceAdd])
                generalize ((((((((((((W3.setCell ⟨w.heap.size, 0, none⟩ (Value.int IntKind.i64 kd)).setCell ⟨w.heap.size, 1, none⟩ (Value.int IntKind.i64 fr)).setCell ⟨w.heap.size, 2, none⟩ (Value.int IntKind.i64 to)).setCell ⟨w.heap.size, 3, none⟩ (Value.int IntKind.i64 tm)).setCell ⟨w.heap.size, 4, none⟩ (Value.int IntKind.i64 ix)).setCell ⟨w.heap.size, 5, none⟩ (Value.int IntKind.i64 lt)).setCell ⟨w.heap.size, 6, none⟩ (Value.int IntKind.i64 cm)).setCell ⟨w.heap.size, 7, none⟩ (Value.bool ok)).setCell ⟨w.heap.size, 8, none⟩ (Value.slice ov es.length cv)).setCell ⟨w.heap.size, 9, none⟩ (Value.slice od ys.length cd)).setCell ⟨w.heap.size, 10, none⟩ (Value.string ⟨da.toArray⟩)).setCell ⟨w.heap.size, 11, none⟩ (Value.bool la)) = w9 at hr hc9 hg9 ho9 hp9 ⊢
                obtain ⟨q0, q1, q2, q3, q4, q5, q6, q7, q8, q9, q10, q11⟩ := xs12 (T := 27) hr
                exact bodyPost_ret (v := .agg #[.int .i64 kd, .int .i64 fr, .int .i64 to, .int .i64 tm, .int .i64 ix, .int .i64 lt, .int .i64 cm, .bool ok, (.slice ov es.length cv), (.slice od ys.length cd), .string ⟨da.toArray⟩, .bool la]) (by simp [results, Tryz.results13, go_sem, q0, q1, q2, q3, q4, q5, q6, q7, q8, q9, q10, q11]) rfl ⟨_, _, _, _, _, _, _, _, _, _, da, _, es, ys, (by omega), HEW.out, HYS.out, (by omega), rfl, hc9, hg9, ho9, hp9⟩
              · have g6 : ((y : Int) == 6) = false := by rw [beq_eq_false_iff_ne]; omega
                by_cases y7 : y = 7
                · subst y7
                  obtain ⟨c0, c1, c2, c3, c4, c5, c6, c7, c8, c9, c10, c11⟩ := HD3.out.c12
                  have hlw := HD3.out.rv.hb
                  have fk := HD3.out.free 11
                  have kp := HD3.out.put 11 (.bool true)
                  simp only [List.setIfInBounds_toArray, List.set_cons_zero, List.set_cons_succ] at kp
                  have HD14 := hide kp
                  clear kp
                  obtain ⟨r0, r1, r2, r3, r4, r5, r6, r7, r8, r9, r10, r11⟩ := HD3.out.r12
                  have t0 := HD3.out.rf 0
                  have t1 := HD3.out.rf 1
                  have t2 := HD3.out.rf 2
                  have t3 := HD3.out.rf 3
                  have t4 := HD3.out.rf 4
                  have t5 := HD3.out.rf 5
                  have t6 := HD3.out.rf 6
                  have t7 := HD3.out.rf 7
                  have t8 := HD3.out.rf 8
                  have t9 := HD3.out.rf 9
                  have t10 := HD3.out.rf 10
                  have t11 := HD3.out.rf 11
                  go_wp2_with fail
                  generalize w3.setCell ⟨b, 11, none⟩ (Value.bool true) = W3 at HD14 ⊢
                  obtain ⟨hr, hc9, hg9, ho9, hp9⟩ := HD14.out.ret ((((((((((((W3.setCell ⟨w.heap.size, 0, none⟩ (Value.int IntKind.i64 kd)).setCell ⟨w.heap.size, 1, none⟩ (Value.int IntKind.i64 fr)).setCell ⟨w.heap.size, 2, none⟩ (Value.int IntKind.i64 to)).setCell ⟨w.heap.size, 3, none⟩ (Value.int IntKind.i64 tm)).setCell ⟨w.heap.size, 4, none⟩ (Value.int IntKind.i64 ix)).setCell ⟨w.heap.size, 5, none⟩ (Value.int IntKind.i64 lt)).setCell ⟨w.heap.size, 6, none⟩ (Value.int IntKind.i64 cm)).setCell ⟨w.heap.size, 7, none⟩ (Value.bool ok)).setCell ⟨w.heap.size, 8, none⟩ (Value.slice ov es.length cv)).setCell ⟨w.heap.size, 9, none⟩ (Value.slice oc zs.length cc)).setCell ⟨w.heap.size, 10, none⟩ (Value.string ⟨da.toArray⟩)).setCell ⟨w.heap.size, 11, none⟩ (Value.bool true)) (by simp only [World.setCells, Nat.zero_add, Nat.reduceAdd])
                  generalize ((((((((((((W3.setCell ⟨w.heap.size, 0, none⟩ (Value.int IntKind.i64 kd)).setCell ⟨w.heap.size, 1, none⟩ (Value.int IntKind.i64 fr)).setCell ⟨w.heap.size, 2, none⟩ (Value.int IntKind.i64 to)).setCell ⟨w.heap.size, 3, none⟩ (Value.int IntKind.i64 tm)).setCell ⟨w.heap.size, 4, none⟩ (Value.int IntKind.i64 ix)).setCell ⟨w.heap.size, 5, none⟩ (Value.int IntKind.i64 lt)).setCell ⟨w.heap.size, 6, none⟩ (Value.int IntKind.i64 cm)).setCell ⟨w.heap.size, 7, none⟩ (Value.bool ok)).setCell ⟨w.heap.size, 8, none⟩ (Value.slice ov es.length cv)).setCell ⟨w.heap.size, 9, none⟩ (Value.slice oc zs.length cc)).setCell ⟨w.heap.size, 10, none⟩ (Value.string ⟨da.toArray⟩)).setCell ⟨w.heap.size, 11, none⟩ (Value.bool true)) = w9 at hr hc9 hg9 ho9 hp9 ⊢
                  obtain ⟨q0, q1, q2, q3, q4, q5, q6, q7, q8, q9, q10, q11⟩ := xs12 (T := 27) hr
                  exact bodyPost_ret (v := .agg #[.int .i64 kd, .int .i64 fr, .int .i64 to, .int .i64 tm, .int .i64 ix, .int .i64 lt, .int .i64 cm, .bool ok, (.slice ov es.length cv), (.slice oc zs.length cc), .string ⟨da.toArray⟩, .bool true]) (by simp [results, Tryz.results13, go_sem, q0, q1, q2, q3, q4, q5, q6, q7, q8, q9, q10, q11]) rfl ⟨_, _, _, _, _, _, _, _, _, _, da, _, es, zs, (by omega), HEW.out, HZS.out, (by omega), rfl, hc9, hg9, ho9, hp9⟩
                · have g7 : ((y : Int) == 7) = false := by rw [beq_eq_false_iff_ne]; omega
                  obtain ⟨c0, c1, c2, c3, c4, c5, c6, c7, c8, c9, c10, c11⟩ := HD3.out.c12
                  obtain ⟨r0, r1, r2, r3, r4, r5, r6, r7, r8, r9, r10, r11⟩ := HD3.out.r12
                  have t0 := HD3.out.rf 0
                  have t1 := HD3.out.rf 1
                  have t2 := HD3.out.rf 2
                  have t3 := HD3.out.rf 3
                  have t4 := HD3.out.rf 4
                  have t5 := HD3.out.rf 5
                  have t6 := HD3.out.rf 6
                  have t7 := HD3.out.rf 7
                  have t8 := HD3.out.rf 8
                  have t9 := HD3.out.rf 9
                  have t10 := HD3.out.rf 10
                  have t11 := HD3.out.rf 11
                  go_wp2_with fail
                  obtain ⟨hr, hc9, hg9, ho9, hp9⟩ := HD3.out.ret ((((((((((((w3.setCell ⟨w.heap.size, 0, none⟩ (Value.int IntKind.i64 kd)).setCell ⟨w.heap.size, 1, none⟩ (Value.int IntKind.i64 fr)).setCell ⟨w.heap.size, 2, none⟩ (Value.int IntKind.i64 to)).setCell ⟨w.heap.size, 3, none⟩ (Value.int IntKind.i64 tm)).setCell ⟨w.heap.size, 4, none⟩ (Value.int IntKind.i64 ix)).setCell ⟨w.heap.size, 5, none⟩ (Value.int IntKind.i64 lt)).setCell ⟨w.heap.size, 6, none⟩ (Value.int IntKind.i64 cm)).setCell ⟨w.heap.size, 7, none⟩ (Value.bool ok)).setCell ⟨w.heap.size, 8, none⟩ (Value.slice ov es.length cv)).setCell ⟨w.heap.size, 9, none⟩ (Value.slice oc zs.length cc)).setCell ⟨w.heap.size, 10, none⟩ (Value.string ⟨da.toArray⟩)).setCell ⟨w.heap.size, 11, none⟩ (Value.bool la)) (by simp only [World.setCells, Nat.zero_add, Nat.reduceAdd])
                  generalize ((((((((((((w3.setCell ⟨w.heap.size, 0, none⟩ (Value.int IntKind.i64 kd)).setCell ⟨w.heap.size, 1, none⟩ (Value.int IntKind.i64 fr)).setCell ⟨w.heap.size, 2, none⟩ (Value.int IntKind.i64 to)).setCell ⟨w.heap.size, 3, none⟩ (Value.int IntKind.i64 tm)).setCell ⟨w.heap.size, 4, none⟩ (Value.int IntKind.i64 ix)).setCell ⟨w.heap.size, 5, none⟩ (Value.int IntKind.i64 lt)).setCell ⟨w.heap.size, 6, none⟩ (Value.int IntKind.i64 cm)).setCell ⟨w.heap.size, 7, none⟩ (Value.bool ok)).setCell ⟨w.heap.size, 8, none⟩ (Value.slice ov es.length cv)).setCell ⟨w.heap.size, 9, none⟩ (Value.slice oc zs.length cc)).setCell ⟨w.heap.size, 10, none⟩ (Value.string ⟨da.toArray⟩)).setCell ⟨w.heap.size, 11, none⟩ (Value.bool la)) = w9 at hr hc9 hg9 ho9 hp9 ⊢
                  obtain ⟨q0, q1, q2, q3, q4, q5, q6, q7, q8, q9, q10, q11⟩ := xs12 (T := 27) hr
                  exact bodyPost_ret (v := .agg #[.int .i64 kd, .int .i64 fr, .int .i64 to, .int .i64 tm, .int .i64 ix, .int .i64 lt, .int .i64 cm, .bool ok, (.slice ov es.length cv), (.slice oc zs.length cc), .string ⟨da.toArray⟩, .bool la]) (by simp [results, Tryz.results13, go_sem, q0, q1, q2, q3, q4, q5, q6, q7, q8, q9, q10, q11]) rfl ⟨_, _, _, _, _, _, _, _, _, _, da, _, es, zs, (by omega), HEW.out, HZS.out, (by omega), rfl, hc9, hg9, ho9, hp9⟩

end Go.Proofs.YtmllcomppjkhhaaGreatDoor
