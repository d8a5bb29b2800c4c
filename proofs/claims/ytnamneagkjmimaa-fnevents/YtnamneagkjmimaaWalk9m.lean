/-
  Walks of chapter 9: an event read field by field, of the program (made by wip/tools/gen9m.py).
-/
import Derived.Test.YtnamneagkjmimaaWalk9l
import Derived.Test.YtnamneagkjmimaaEv5
namespace Go.Proofs.Ytnamneagkjmimaa
open Go.RowKit P1 P3 P9 P11 P12 K
set_option linter.unusedVariables false
set_option linter.unusedSimpArgs false

/-- An event that grows beside a reader. -/
structure EvR (w W : World) (g : Nat) (s : ByteArray) (r : Lf) (id kd sn us mb dp : Int) (xl xp : Value) (tx : List UInt8) (n m : Nat) (zl zp : List Int) : Prop where
  c : FRL W g s r
  e : EB W (w.heap.size + 1) id kd sn us mb dp xl xp tx
  z : EB W w.heap.size 0 0 0 0 0 0 (.slice none 0 0) (.slice none 0 0) []
  gr : w.grownBy W (some g)
  own : EvOwn W (w.heap.size + 1 + 1) xl xp n m zl zp
  hg : g < w.heap.size
  sz : w.heap.size + 1 + 1 ≤ W.heap.size

section
variable {w W W' : World} {g : Nat} {s : ByteArray} {r r' : Lf} {id kd sn us mb dp : Int} {xl xp : Value} {tx : List UInt8} {n m : Nat} {zl zp : List Int}
theorem EvR.step (h : EvR w W g s r id kd sn us mb dp xl xp tx n m zl zp) (hc : FRL W' g s r') (hg : W.grownBy W' (some g)) : EvR w W' g s r' id kd sn us mb dp xl xp tx n m zl zp :=
  ⟨hc, h.e.kept hg (fun q => by have := Option.some.inj q; have := h.hg; omega), h.z.kept hg (fun q => by have := Option.some.inj q; have := h.hg; omega), grown_trans h.gr hg, h.own.kept hg (by have := h.hg; omega), h.hg, Nat.le_trans h.sz hg.size⟩
theorem EvR.put (h : EvR w W g s r id kd sn us mb dp xl xp tx n m zl zp) {id' kd' sn' us' mb' dp' : Int} {xl' xp' : Value} {tx' : List UInt8} {n' m' : Nat} {zl' zp' : List Int} {k : Nat} {v : Value}
    (he : EB (W.setCell ⟨w.heap.size + 1, k, none⟩ v) (w.heap.size + 1) id' kd' sn' us' mb' dp' xl' xp' tx') (ho : EvOwn W (w.heap.size + 1 + 1) xl' xp' n' m' zl' zp') :
    EvR w (W.setCell ⟨w.heap.size + 1, k, none⟩ v) g s r id' kd' sn' us' mb' dp' xl' xp' tx' n' m' zl' zp' := by
  have hg := blk_grown W (w.heap.size + 1) k v
  have := h.hg
  refine ⟨h.c.kept (hg.block g h.c.lt (fun q => by have := Option.some.inj q; omega)), he, h.z.set _ (by omega), grown_low h.gr ((Below.refl _ _).setCell (by show w.heap.size ≤ w.heap.size + 1; omega) _), ho.kept hg (by omega), h.hg, ?_⟩
  have := hg.size
  have := h.sz
  omega
theorem EvR.lev (h : EvR w W g s r id kd sn us mb dp xl (.slice none 0 0) tx n 0 zl []) {v : Value} {k : Nat} {zs : List Int} (hs : w.heap.size + 1 + 1 ≤ W.heap.size) (ho : W'.ownsRow W.heap.size 3 1 v k (zs.map icell)) : EvOwn W' (w.heap.size + 1 + 1) v (.slice none 0 0) k 0 zs [] :=
  ⟨own_base ho hs, World.ownsRow_nil _ _ _ _, fun k hk q => by cases q⟩
theorem EvOwn.two {base : Nat} {v : Value} {k : Nat} {zs : List Int} (hs : base ≤ W.heap.size) (h0 : EvOwn W base xl xp n m zl zp) (h : W'.ownsRow base 3 1 xl n (zl.map icell)) (ho : W'.ownsRow W.heap.size 3 1 v k (zs.map icell)) : EvOwn W' base xl v n k zl zs :=
  ⟨h, own_base ho hs, fun j hj q => by have h1 := (h0.l.lt j hj).2; have h2 := (ho.lt j q).1; omega⟩
end

/-- What event gives. -/
def EvPost (i k sn u m d : Nat) (zl : List Int) (tx : List UInt8) (zp : List Int) (r9 : Lf) (g : Nat) (s : ByteArray) (w : World) (e : Ending) (w' : World) : Prop :=
  ∃ vl vp, e = .returned (evval i k sn u m d vl vp tx) ∧ FRL w' g s r9 ∧ EvOwn w' w.heap.size vl vp zl.length zp.length zl zp ∧ w.grownBy w' (some g)

set_option maxHeartbeats 8000000 in
theorem event_any (g : Nat) (s : ByteArray) (hs : s.size ≤ 1048576) (r : Lf) (w : World) (h : FRL w g s r) {r1 r2 r3 r4 r5 r6 r7 r8 r9 : Lf} {i k sn u m d : Nat} {zl zp : List Int} {tx : List UInt8}
    (h1 : numL r = (i, r1)) (h2 : byteL r1 = (k, r2)) (h3 : byteL r2 = (sn, r3)) (h4 : byteL r3 = (u, r4)) (h5 : byteL r4 = (m, r5)) (h6 : lsL byteL 5 r5 = (zl, r6)) (h7 : shL 20000 r6 = (tx, r7)) (h8 : lsL numL 3 r7 = (zp, r8)) (h9 : numL r8 = (d, r9)) :
    Calls Try.prog 28 #[.pointer (some ⟨g, 0, none⟩)] w fun e w' => EvPost i k sn u m d zl tx zp r9 g s w e w' := by
  have hgl := h.lt
  have HV1 := hide (fun w hc => number_any g s hs r w hc)
  have HV2 := hide (fun w hc => oneByte_any g s hs r1 w hc)
  have HV3 := hide (fun w hc => oneByte_any g s hs r2 w hc)
  have HV4 := hide (fun w hc => oneByte_any g s hs r3 w hc)
  have HV5 := hide (fun w hc => oneByte_any g s hs r4 w hc)
  have HV6 := hide (fun w hc => list_byte g s hs 5 (by omega) r5 w hc)
  have HV7 := hide (fun w hc => short_any g s hs r6 w hc)
  have HV8 := hide (fun w hc => list_num g s hs 3 (by omega) r7 w hc)
  have HV9 := hide (fun w hc => number_any g s hs r8 w hc)
  unfold LsPost at HV6 HV8
  rw [h1] at HV1
  rw [h2] at HV2
  rw [h3] at HV3
  rw [h4] at HV4
  rw [h5] at HV5
  rw [h6] at HV6
  rw [h7] at HV7
  rw [h8] at HV8
  rw [h9] at HV9
  simp only at HV1 HV2 HV3 HV4 HV5 HV6 HV7 HV8 HV9
  obtain ⟨NL, hNL⟩ : ∃ NL, zl.length = NL := ⟨_, rfl⟩
  obtain ⟨NP, hNP⟩ : ∃ NP, zp.length = NP := ⟨_, rfl⟩
  rw [hNL] at HV6
  rw [hNP] at HV8
  have H0 := hide (show EvR w ((w.alloc (.cells #[.int .i64 0, .int .i64 0, .int .i64 0, .int .i64 0, .int .i64 0, .slice none 0 0, .string ⟨#[]⟩, .slice none 0 0, .int .i64 0] 26)).alloc (.cells #[.int .i64 0, .int .i64 0, .int .i64 0, .int .i64 0, .int .i64 0, .slice none 0 0, .string ⟨#[]⟩, .slice none 0 0, .int .i64 0] 26)) g s r 0 0 0 0 0 0 (.slice none 0 0) (.slice none 0 0) [] 0 0 [] [] by
    have k1 := (Below.refl w.heap.size w).alloc (Nat.le_refl _) (.cells #[.int .i64 0, .int .i64 0, .int .i64 0, .int .i64 0, .int .i64 0, .slice none 0 0, .string ⟨#[]⟩, .slice none 0 0, .int .i64 0] 26)
    have k2 := (Below.refl (w.alloc (.cells #[.int .i64 0, .int .i64 0, .int .i64 0, .int .i64 0, .int .i64 0, .slice none 0 0, .string ⟨#[]⟩, .slice none 0 0, .int .i64 0] 26)).heap.size (w.alloc (.cells #[.int .i64 0, .int .i64 0, .int .i64 0, .int .i64 0, .int .i64 0, .slice none 0 0, .string ⟨#[]⟩, .slice none 0 0, .int .i64 0] 26))).alloc (Nat.le_refl _) (.cells #[.int .i64 0, .int .i64 0, .int .i64 0, .int .i64 0, .int .i64 0, .slice none 0 0, .string ⟨#[]⟩, .slice none 0 0, .int .i64 0] 26)
    have e1 := EB.new w 0 0 0 0 0 0 (.slice none 0 0) (.slice none 0 0) []
    have e2 := EB.new (w.alloc (.cells #[.int .i64 0, .int .i64 0, .int .i64 0, .int .i64 0, .int .i64 0, .slice none 0 0, .string ⟨#[]⟩, .slice none 0 0, .int .i64 0] 26)) 0 0 0 0 0 0 (.slice none 0 0) (.slice none 0 0) []
    rw [World.size_alloc] at e2
    exact ⟨(h.kept (k1.block g hgl)).kept (k2.block g (by simp; omega)), e2, e1.on k2 (by simp), grown_below (k1.trans (k2.mono (by simp))), ⟨World.ownsRow_nil _ _ _ _, World.ownsRow_nil _ _ _ _, fun j hj => by cases hj⟩, hgl, by simp⟩)
  have HNL := hide hNL
  have HNP := hide hNP
  clear h h1 h2 h3 h4 h5 h6 h7 h8 h9 hNL hNP
  go_enter Try.func28, Try.ntmps28
  go_wp2_with fail
  generalize (w.alloc (.cells #[.int .i64 0, .int .i64 0, .int .i64 0, .int .i64 0, .int .i64 0, .slice none 0 0, .string ⟨#[]⟩, .slice none 0 0, .int .i64 0] 26)).alloc (.cells #[.int .i64 0, .int .i64 0, .int .i64 0, .int .i64 0, .int .i64 0, .slice none 0 0, .string ⟨#[]⟩, .slice none 0 0, .int .i64 0] 26) = v0 at H0 ⊢
  refine (HV1.out _ H0.out.c).mono ?_
  rintro e x1 ⟨rfl, hc1, hg1⟩
  have G1 := hide (H0.out.step hc1 hg1)
  have H1 := hide (G1.out.put (G1.out.e.put0 (i : Int)) G1.out.own)
  clear hc1 hg1 H0
  obtain ⟨e0, e1, e2, e3, e4, e5, e6, e7, e8⟩ := G1.out.e.ev
  have f0 := G1.out.e.free 0
  go_wp2_with fail
  clear e0 e1 e2 e3 e4 e5 e6 e7 e8 f0 G1
  generalize x1.setCell ⟨w.heap.size + 1, 0, none⟩ (.int .i64 (i : Int)) = v1 at H1 ⊢
  refine (HV2.out _ H1.out.c).mono ?_
  rintro e x2 ⟨rfl, hc2, hg2⟩
  have G2 := hide (H1.out.step hc2 hg2)
  have H2 := hide (G2.out.put (G2.out.e.put1 (k : Int)) G2.out.own)
  clear hc2 hg2 H1
  obtain ⟨e0, e1, e2, e3, e4, e5, e6, e7, e8⟩ := G2.out.e.ev
  have f1 := G2.out.e.free 1
  go_wp2_with fail
  clear e0 e1 e2 e3 e4 e5 e6 e7 e8 f1 G2
  generalize x2.setCell ⟨w.heap.size + 1, 1, none⟩ (.int .i64 (k : Int)) = v2 at H2 ⊢
  refine (HV3.out _ H2.out.c).mono ?_
  rintro e x3 ⟨rfl, hc3, hg3⟩
  have G3 := hide (H2.out.step hc3 hg3)
  have H3 := hide (G3.out.put (G3.out.e.put2 (sn : Int)) G3.out.own)
  clear hc3 hg3 H2
  obtain ⟨e0, e1, e2, e3, e4, e5, e6, e7, e8⟩ := G3.out.e.ev
  have f2 := G3.out.e.free 2
  go_wp2_with fail
  clear e0 e1 e2 e3 e4 e5 e6 e7 e8 f2 G3
  generalize x3.setCell ⟨w.heap.size + 1, 2, none⟩ (.int .i64 (sn : Int)) = v3 at H3 ⊢
  refine (HV4.out _ H3.out.c).mono ?_
  rintro e x4 ⟨rfl, hc4, hg4⟩
  have G4 := hide (H3.out.step hc4 hg4)
  have H4 := hide (G4.out.put (G4.out.e.put3 (u : Int)) G4.out.own)
  clear hc4 hg4 H3
  obtain ⟨e0, e1, e2, e3, e4, e5, e6, e7, e8⟩ := G4.out.e.ev
  have f3 := G4.out.e.free 3
  go_wp2_with fail
  clear e0 e1 e2 e3 e4 e5 e6 e7 e8 f3 G4
  generalize x4.setCell ⟨w.heap.size + 1, 3, none⟩ (.int .i64 (u : Int)) = v4 at H4 ⊢
  refine (HV5.out _ H4.out.c).mono ?_
  rintro e x5 ⟨rfl, hc5, hg5⟩
  have G5 := hide (H4.out.step hc5 hg5)
  have H5 := hide (G5.out.put (G5.out.e.put4 (m : Int)) G5.out.own)
  clear hc5 hg5 H4
  obtain ⟨e0, e1, e2, e3, e4, e5, e6, e7, e8⟩ := G5.out.e.ev
  have f4 := G5.out.e.free 4
  go_wp2_with fail
  clear e0 e1 e2 e3 e4 e5 e6 e7 e8 f4 G5
  generalize x5.setCell ⟨w.heap.size + 1, 4, none⟩ (.int .i64 (m : Int)) = v5 at H5 ⊢
  refine (HV6.out _ H5.out.c).mono ?_
  rintro e x6 ⟨q6, rfl, ho6, hc6, hg6⟩
  obtain ⟨oa6, ca6, hq6⟩ := row_form ho6
  subst hq6
  have G6 := hide (H5.out.step hc6 hg6)
  have HO6 := hide (show EvOwn x6 (w.heap.size + 1 + 1) (.slice oa6 NL ca6) (.slice none 0 0) NL 0 zl [] from ⟨own_base ho6 H5.out.sz, World.ownsRow_nil _ _ _ _, fun j hj q => by cases q⟩)
  have H6 := hide (G6.out.put (G6.out.e.put5 (.slice oa6 NL ca6)) HO6.out)
  clear hc6 hg6 H5 ho6
  obtain ⟨e0, e1, e2, e3, e4, e5, e6, e7, e8⟩ := G6.out.e.ev
  have f5 := G6.out.e.free 5
  go_wp2_with fail
  clear e0 e1 e2 e3 e4 e5 e6 e7 e8 f5 G6 HO6
  generalize x6.setCell ⟨w.heap.size + 1, 5, none⟩ (.slice oa6 NL ca6) = v6 at H6 ⊢
  refine (HV7.out _ H6.out.c).mono ?_
  rintro e x7 ⟨rfl, hc7, hg7⟩
  have G7 := hide (H6.out.step hc7 hg7)
  have H7 := hide (G7.out.put (G7.out.e.put6 tx) G7.out.own)
  clear hc7 hg7 H6
  obtain ⟨e0, e1, e2, e3, e4, e5, e6, e7, e8⟩ := G7.out.e.ev
  have f6 := G7.out.e.free 6
  go_wp2_with fail
  clear e0 e1 e2 e3 e4 e5 e6 e7 e8 f6 G7
  generalize x7.setCell ⟨w.heap.size + 1, 6, none⟩ (.string ⟨tx.toArray⟩) = v7 at H7 ⊢
  refine (HV8.out _ H7.out.c).mono ?_
  rintro e x8 ⟨q8, rfl, ho8, hc8, hg8⟩
  obtain ⟨oa8, ca8, hq8⟩ := row_form ho8
  subst hq8
  have G8 := hide (H7.out.step hc8 hg8)
  have HO8 := hide (EvOwn.two H7.out.sz H7.out.own G8.out.own.l ho8)
  have H8 := hide (G8.out.put (G8.out.e.put7 (.slice oa8 NP ca8)) HO8.out)
  clear hc8 hg8 H7 ho8
  obtain ⟨e0, e1, e2, e3, e4, e5, e6, e7, e8⟩ := G8.out.e.ev
  have f7 := G8.out.e.free 7
  go_wp2_with fail
  clear e0 e1 e2 e3 e4 e5 e6 e7 e8 f7 G8 HO8
  generalize x8.setCell ⟨w.heap.size + 1, 7, none⟩ (.slice oa8 NP ca8) = v8 at H8 ⊢
  refine (HV9.out _ H8.out.c).mono ?_
  rintro e x9 ⟨rfl, hc9, hg9⟩
  have G9 := hide (H8.out.step hc9 hg9)
  have H9 := hide (G9.out.put (G9.out.e.put8 (d : Int)) G9.out.own)
  clear hc9 hg9 H8
  obtain ⟨e0, e1, e2, e3, e4, e5, e6, e7, e8⟩ := G9.out.e.ev
  have f8 := G9.out.e.free 8
  have H9E := hide (G9.out.e.put8 (d : Int))
  obtain ⟨t0, t1, t2, t3, t4, t5, t6, t7, t8⟩ := H9E.out.ev
  have y0 := (H9.out.z).free 0
  have y1 := (H9.out.z).free 1
  have y2 := (H9.out.z).free 2
  have y3 := (H9.out.z).free 3
  have y4 := (H9.out.z).free 4
  have y5 := (H9.out.z).free 5
  have y6 := (H9.out.z).free 6
  have y7 := (H9.out.z).free 7
  have y8 := (H9.out.z).free 8
  obtain ⟨p0, p1, p2, p3, p4, p5, p6, p7, p8⟩ := H9.out.z.ev
  go_wp2_with fail
  clear e0 e1 e2 e3 e4 e5 e6 e7 e8 f8 t0 t1 t2 t3 t4 t5 t6 t7 t8 y0 y1 y2 y3 y4 y5 y6 y7 y8 p0 p1 p2 p3 p4 p5 p6 p7 p8 H9E G9
  generalize x9.setCell ⟨w.heap.size + 1, 8, none⟩ (.int .i64 (d : Int)) = v9 at H9 ⊢
  obtain ⟨w6, hw6, hE6, hg6⟩ := H9.out.z.all (i : Int) (k : Int) (sn : Int) (u : Int) (m : Int) (d : Int) (.slice oa6 NL ca6) (.slice oa8 NP ca8) tx
  rw [hw6]
  obtain ⟨c0, c1, c2, c3, c4, c5, c6, c7, c8⟩ := hE6.ev
  refine bodyPost_ret (v := evval (i : Int) (k : Int) (sn : Int) (u : Int) (m : Int) (d : Int) (.slice oa6 NL ca6) (.slice oa8 NP ca8) tx) (by simp [results, Try.results28, go_sem, c0, c1, c2, c3, c4, c5, c6, c7, c8]) rfl ?_
  have hb6 : Below w.heap.size v9 w6 := (Below.refl _ _).grown hg6 H9.out.gr.size (fun j hj => by cases hj; exact Nat.le_refl _)
  refine ⟨.slice oa6 NL ca6, .slice oa8 NP ca8, rfl, H9.out.c.kept (hg6.block g H9.out.c.lt (fun q => by have := Option.some.inj q; omega)), ?_, grown_low H9.out.gr hb6⟩
  rw [HNL.out, HNP.out]
  exact (H9.out.own.kept hg6 (by omega)).down (by omega)

end Go.Proofs.Ytnamneagkjmimaa
