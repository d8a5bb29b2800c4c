/-
  Walks of chapter 10: an event copied, of the specification.
-/
import Derived.Test.YtijnejbfjpclhaaWalk10f
namespace Go.Proofs.Ytijnejbfjpclhaa
open Go.RowKit P1 P3 P5 P9 P11 P12 P14 K
set_option linter.unusedVariables false
set_option linter.unusedSimpArgs false

set_option maxHeartbeats 8000000 in
theorem l09Copy_any (e : EvV) (xa : Option Addr) (xc : Nat) (ya : Option Addr) (yc : Nat) (h1 : e.levels.length ≤ 1048576) (h2 : e.text.length ≤ 1048576) (h3 : e.prev.length ≤ 1048576) (w : World) (hx : IntsAt w xa e.levels.length xc e.levels) (hy : IntsAt w ya e.prev.length yc e.prev) :
    Calls Try.prog 37 #[evv e (.slice xa e.levels.length xc) (.slice ya e.prev.length yc)] w (CpPost w e) := by
  have hb0 := ((Below.refl w.heap.size w).alloc (Nat.le_refl _) (.cells (evcells e.id e.kind e.sender e.user e.member e.depth (.slice xa e.levels.length xc) (.slice ya e.prev.length yc) e.text) 37)).alloc (by simp) (.cells (evcells 0 0 0 0 0 0 (.slice none 0 0) (.slice none 0 0) []) 37)
  have HE0 := hide ((EB.new w e.id e.kind e.sender e.user e.member e.depth (.slice xa e.levels.length xc) (.slice ya e.prev.length yc) e.text).on ((Below.refl _ _).alloc (Nat.le_refl _) (.cells (evcells 0 0 0 0 0 0 (.slice none 0 0) (.slice none 0 0) []) 37)) (by simp))
  have HR0 := hide (show EB ((w.alloc (.cells (evcells e.id e.kind e.sender e.user e.member e.depth (.slice xa e.levels.length xc) (.slice ya e.prev.length yc) e.text) 37)).alloc (.cells (evcells 0 0 0 0 0 0 (.slice none 0 0) (.slice none 0 0) []) 37)) (w.heap.size + 1) 0 0 0 0 0 0 (.slice none 0 0) (.slice none 0 0) [] by
    have := EB.new (w.alloc (.cells (evcells e.id e.kind e.sender e.user e.member e.depth (.slice xa e.levels.length xc) (.slice ya e.prev.length yc) e.text) 37)) 0 0 0 0 0 0 (.slice none 0 0) (.slice none 0 0) []
    rw [World.size_alloc] at this
    exact this)
  have HX0 := hide (hx.below (hb0.alloc (by simp; omega) (.cells #[] 3)))
  have HYW := hide hy
  have HB0 := hide hb0
  clear hb0 hx hy
  obtain ⟨id, kd, sn, us, mb, zl, tx, zp, dp⟩ := e
  simp only at *
  obtain ⟨n, hn⟩ : ∃ n, zl.length = n := ⟨_, rfl⟩
  obtain ⟨m, hm⟩ : ∃ m, zp.length = m := ⟨_, rfl⟩
  rw [hn] at HX0 HE0 HR0 HB0 h1
  rw [hm] at HYW HE0 HR0 HB0 HX0 h3
  have HZ0 := hide (show ((w.alloc (.cells #[.int .i64 id, .int .i64 kd, .int .i64 sn, .int .i64 us, .int .i64 mb, .slice xa n xc, .string ⟨tx.toArray⟩, .slice ya m yc, .int .i64 dp] 37)).alloc (.cells #[.int .i64 0, .int .i64 0, .int .i64 0, .int .i64 0, .int .i64 0, .slice none 0 0, .string ⟨#[]⟩, .slice none 0 0, .int .i64 0] 37)).heap.size = w.heap.size + 1 + 1 by simp)
  have HOW := hide (show (((w.alloc (.cells #[.int .i64 id, .int .i64 kd, .int .i64 sn, .int .i64 us, .int .i64 mb, .slice xa n xc, .string ⟨tx.toArray⟩, .slice ya m yc, .int .i64 dp] 37)).alloc (.cells #[.int .i64 0, .int .i64 0, .int .i64 0, .int .i64 0, .int .i64 0, .slice none 0 0, .string ⟨#[]⟩, .slice none 0 0, .int .i64 0] 37)).alloc (.cells #[] 3)).ownsRow (w.heap.size + 1 + 1) 3 1 (.slice (some ⟨w.heap.size + 1 + 1, 0, none⟩) 0 0) 0 [] by
    have := World.ownsRow_made (w := ((w.alloc (.cells #[.int .i64 id, .int .i64 kd, .int .i64 sn, .int .i64 us, .int .i64 mb, .slice xa n xc, .string ⟨tx.toArray⟩, .slice ya m yc, .int .i64 dp] 37)).alloc (.cells #[.int .i64 0, .int .i64 0, .int .i64 0, .int .i64 0, .int .i64 0, .slice none 0 0, .string ⟨#[]⟩, .slice none 0 0, .int .i64 0] 37))) (e := 3) (size := 1) #[] 0 (Nat.le_refl _) (by decide) rfl
    simpa using this)
  rw [hn, hm]
  have HN := hide hn
  have HM := hide hm
  clear hn hm
  go_enter Try.func37, Try.ntmps37
  go_upto_region 2 with (at_builtin; refine wpList_append_ints rfl _ _ rfl rfl HOW.out rfl HX0.out (by first | (simp; done) | (simp; omega)) (by unfold maxLen; omega) (by omega) ?_; intro v1 w1 ho1 hg1; rw [Nat.zero_add] at ho1; obtain ⟨o1, c1, rfl⟩ := row_form ho1; have hg1' : World.grownBy _ w1 (some (w.heap.size + 1 + 1)) := hg1; have HE1 := hide ((HE0.out.on ((Below.refl _ _).alloc (Nat.le_refl _) (.cells #[] 3)) HE0.out.lt).kept hg1' (fun q => by have := Option.some.inj q; omega)); have HR1 := hide ((HR0.out.on ((Below.refl _ _).alloc (Nat.le_refl _) (.cells #[] 3)) HR0.out.lt).kept hg1' (fun q => by have := Option.some.inj q; omega)); have HB1 := hide ((HB0.out.alloc HB0.out.size (.cells #[] 3)).grown hg1' (Nat.le_trans HB0.out.size (by simp)) (fun k hk => by cases hk; omega)); have HO1 := hide ho1; have hz1 := hg1.size; clear hg1 hg1' ho1; obtain ⟨a0, a1, a2, a3, a4, a5, a6, a7, a8⟩ := HE1.out.ev; have f5 := HE1.out.free 5)
  have HE2 := hide (HE1.out.put5 (.slice o1 n c1))
  have HR2 := hide (HR1.out.set (k := 5) (p := w.heap.size) (.slice o1 n c1) (by omega))
  have HB2 := hide (HB1.out.setCell (p := ⟨w.heap.size, 5, none⟩) (by simp) (.slice o1 n c1))
  have HO2 := hide (own_setCell HO1.out (p := ⟨w.heap.size, 5, none⟩) (by show w.heap.size < w.heap.size + 1 + 1; omega) (.slice o1 n c1))
  have hz2 : w.heap.size + 1 + 1 + 1 ≤ (w1.setCell ⟨w.heap.size, 5, none⟩ (.slice o1 n c1)).heap.size := by simp at hz1 ⊢; omega
  clear a0 a1 a2 a3 a4 a5 a6 a7 a8 f5 HE1 HR1 HB1 HO1 hz1 HE0 HR0 HB0 HX0 HOW
  generalize w1.setCell ⟨w.heap.size, 5, none⟩ (.slice o1 n c1) = w2 at HE2 HR2 HB2 HO2 hz2 ⊢
  have HX2 := hide (HYW.out.below (HB2.out.alloc HB2.out.size (.cells #[] 3)))
  have HOW2 := hide (World.ownsRow_made (w := w2) (e := 3) (size := 1) #[] 0 (Nat.le_refl _) (by decide) rfl)
  obtain ⟨a0, a1, a2, a3, a4, a5, a6, a7, a8⟩ := HE2.out.ev
  have hev2 := HE2.out.lt
  go_upto_region 3 with (at_builtin; refine wpList_append_ints rfl _ _ rfl rfl HOW2.out rfl HX2.out (by simp) (by unfold maxLen; omega) (by omega) ?_; intro v5 w5 ho5 hg5; rw [Nat.zero_add] at ho5; obtain ⟨o5, c5, rfl⟩ := row_form ho5; have hg5' : World.grownBy _ w5 (some w2.heap.size) := hg5; have HE5 := hide ((HE2.out.on ((Below.refl _ _).alloc (Nat.le_refl _) (.cells #[] 3)) HE2.out.lt).kept hg5' (fun q => by have := Option.some.inj q; omega)); have HR5 := hide ((HR2.out.on ((Below.refl _ _).alloc (Nat.le_refl _) (.cells #[] 3)) HR2.out.lt).kept hg5' (fun q => by have := Option.some.inj q; omega)); have HB5 := hide ((HB2.out.alloc HB2.out.size (.cells #[] 3)).grown hg5' (Nat.le_trans HB2.out.size (by simp)) (fun k hk => by cases hk; omega)); have HO5 := hide ((HO2.out.alloc (.cells #[] 3)).kept hg5' (Or.inr (fun q => by have := (HO2.out.lt _ q).2; omega))); have HNE := hide (apart_new HO2.out ho5 (Nat.le_refl _)); have HP5 := hide ho5; have hz5 := hg5.size; clear hg5 hg5' ho5; obtain ⟨b0, b1, b2, b3, b4, b5, b6, b7, b8⟩ := HE5.out.ev; have f7 := HE5.out.free 7)
  clear a0 a1 a2 a3 a4 a5 a6 a7 a8
  have HE6 := hide (HE5.out.put7 (.slice o5 m c5))
  have HR6 := hide (HR5.out.set (k := 7) (p := w.heap.size) (.slice o5 m c5) (by omega))
  have HB6 := hide (HB5.out.setCell (p := ⟨w.heap.size, 7, none⟩) (by simp) (.slice o5 m c5))
  have HO6 := hide (own_setCell HO5.out (p := ⟨w.heap.size, 7, none⟩) (by show w.heap.size < w.heap.size + 1 + 1; omega) (.slice o5 m c5))
  have HP6 := hide (own_setCell HP5.out (p := ⟨w.heap.size, 7, none⟩) (by show w.heap.size < w2.heap.size; omega) (.slice o5 m c5))
  clear b0 b1 b2 b3 b4 b5 b6 b7 b8 f7 HE5 HR5 HB5 HO5 HP5 HE2 HR2 HB2 HX2 HOW2
  generalize w5.setCell ⟨w.heap.size, 7, none⟩ (.slice o5 m c5) = w6 at HE6 HR6 HB6 HO6 HP6 ⊢
  obtain ⟨a0, a1, a2, a3, a4, a5, a6, a7, a8⟩ := HE6.out.ev
  obtain ⟨r0, r1, r2, r3, r4, r5, r6, r7, r8⟩ := HR6.out.ev
  have z0 := HR6.out.free 0
  have z1 := HR6.out.free 1
  have z2 := HR6.out.free 2
  have z3 := HR6.out.free 3
  have z4 := HR6.out.free 4
  have z5 := HR6.out.free 5
  have z6 := HR6.out.free 6
  have z7 := HR6.out.free 7
  have z8 := HR6.out.free 8
  go_wp2_with fail
  obtain ⟨w7, hw7, hE7, hg7⟩ := HR6.out.all id kd sn us mb dp (.slice o1 n c1) (.slice o5 m c5) tx
  rw [hw7]
  obtain ⟨q0, q1, q2, q3, q4, q5, q6, q7, q8⟩ := hE7.ev
  have hn := HN.out
  have hm := HM.out
  subst hn
  subst hm
  refine bodyPost_ret (v := evval id kd sn us mb dp (.slice o1 zl.length c1) (.slice o5 zp.length c5) tx) (by simp [results, Try.results37, go_sem, q0, q1, q2, q3, q4, q5, q6, q7, q8]) rfl ⟨_, _, rfl, ⟨?_, ?_, HNE.out⟩, ?_⟩
  · exact own_base (HO6.out.kept hg7 (Or.inr (fun q => by have := HO6.out.lt (w.heap.size + 1) q; omega))) (by omega)
  · exact own_base (HP6.out.kept hg7 (Or.inr (fun q => by have := HP6.out.lt (w.heap.size + 1) q; omega))) (by omega)
  · exact HB6.out.grown hg7 (HB6.out.size) (fun k hk => by cases hk; omega)

end Go.Proofs.Ytijnejbfjpclhaa
