/-
  Walks and mathematics of Text5, Text6.
-/
import Derived.Test.YtckkfjmjcknjdaaGreatDoorRCText4
import Derived.Test.YtckkfjmjcknjdaaGreatDoorRCComm6
import Derived.Deep.Cut
import Derived.Test.YtckkfjmjcknjdaaGreatDoorRCComm8
import Derived.Test.YtckkfjmjcknjdaaGreatDoorRCText1
namespace Go.Proofs.YtckkfjmjcknjdaaGreatDoor.P3
end Go.Proofs.YtckkfjmjcknjdaaGreatDoor.P3
namespace Go.Proofs.YtckkfjmjcknjdaaGreatDoor
open Go.RowKit P1 P3 P9 P11 P12 P18 K
set_option linter.unusedVariables false
set_option linter.unusedSimpArgs false

set_option maxHeartbeats 2000000 in
theorem need_any (g : Nat) (s : ByteArray) (r : Lf) (ok : Bool) (w : World) (h : FRL w g s r) :
    Calls Tryz.prog 92 #[.pointer (some ⟨g, 0, none⟩), .bool ok] w fun e w' => e = .returned (.tuple #[]) ∧ FRL w' g s (if ok = true then r else none) ∧ w.grownBy w' (some g) := by
  have hgl := h.lt
  obtain ⟨p, ⟨hp, ty, hblk⟩, rfl⟩ := h
  obtain ⟨c0, c1, z1⟩ := fr_cells hblk
  have HB := hide hblk
  have HP := hide hp
  clear hblk hp
  generalize hx : plI p = x at HB c1
  have HX := hide hx
  clear hx
  cases ok with
  | false =>
    have HGT := hide (fun w h => goTo_no (ty := ty) g s x x w h)
    go_enter Tryz.func92, Tryz.ntmps92
    go_wp2_with fail
    go_region_law (rw [if_pos (by rfl)]; go_simp; go_at_call 87; refine (HGT.out _ (by exact HB.out)).mono ?_; rintro e w2 ⟨rfl, hb2, hg2⟩)
    all_goals
      refine bodyPost_end (results_none rfl _ _ _) rfl ?_
      exact ⟨rfl, by simpa using FRL.off hb2, grown_trans (grown_drewN (grown_below (row := some g) (Below.refl _ w)) 1) hg2⟩
  | true =>
    have HGT := hide (fun w h => goTo_yes (ty := ty) g s x x w h)
    go_enter Tryz.func92, Tryz.ntmps92
    go_wp2_with fail
    go_region_law (rw [if_pos (by rfl)]; go_simp; go_at_call 87; refine (HGT.out _ (by exact HB.out)).mono ?_; rintro e w2 ⟨rfl, hb2, hg2⟩)
    all_goals
      refine bodyPost_end (results_none rfl _ _ _) rfl ?_
      refine ⟨rfl, ?_, grown_trans (grown_drewN (grown_below (row := some g) (Below.refl _ w)) 1) hg2⟩
      simp only [if_true]
      exact ⟨p, ⟨HP.out, ty, by rw [HX.out]; exact hb2⟩, rfl⟩

def RdPost (x : EvV × Lf) (g : Nat) (s : ByteArray) (w : World) (e : Ending) (w' : World) : Prop :=
  ∃ vl vp, e = .returned (evval x.1.id x.1.kind x.1.sender x.1.user x.1.member x.1.depth vl vp x.1.text) ∧ FRL w' g s x.2 ∧ EvOwn w' w.heap.size vl vp x.1.levels.length x.1.prev.length x.1.levels x.1.prev ∧ w.grownBy w' (some g)

set_option maxRecDepth 100000 in
set_option maxHeartbeats 8000000 in
theorem placelessEvent_parts (g : Nat) (s : ByteArray) (hs : s.size ≤ 1048576) (r : Lf) (w : World) (h : FRL w g s r) {r1 r2 r3 r4 r5 r6 : Lf} {k sn u m : Nat} {zl : List Int} {tx : List UInt8}
    (h1 : byteL r = (k, r1)) (h2 : byteL r1 = (sn, r2)) (h3 : byteL r2 = (u, r3)) (h4 : byteL r3 = (m, r4)) (h5 : lsL byteL 5 r4 = (zl, r5)) (h6 : shL 20000 r5 = (tx, r6)) :
    Calls Tryz.prog 65 #[.pointer (some ⟨g, 0, none⟩)] w fun e w' => RdPost (⟨0, k, sn, u, m, zl, tx, [], 0⟩, r6) g s w e w' := by
  have hgl := h.lt
  have HV1 := hide (fun w hc => oneByte_any g s hs r w hc)
  have HV2 := hide (fun w hc => oneByte_any g s hs r1 w hc)
  have HV3 := hide (fun w hc => oneByte_any g s hs r2 w hc)
  have HV4 := hide (fun w hc => oneByte_any g s hs r3 w hc)
  have HV5 := hide (fun w hc => list_byte g s hs 5 (by omega) r4 w hc)
  have HV6 := hide (fun w hc => short_any g s hs r5 w hc)
  unfold LsPost at HV5
  rw [h1] at HV1
  rw [h2] at HV2
  rw [h3] at HV3
  rw [h4] at HV4
  rw [h5] at HV5
  rw [h6] at HV6
  simp only at HV1 HV2 HV3 HV4 HV5 HV6
  obtain ⟨NL, hNL⟩ : ∃ NL, zl.length = NL := ⟨_, rfl⟩
  rw [hNL] at HV5
  have H0 := hide (show EvR w ((w.alloc (.cells #[.int .i64 0, .int .i64 0, .int .i64 0, .int .i64 0, .int .i64 0, .slice none 0 0, .string ⟨#[]⟩, .slice none 0 0, .int .i64 0] 29)).alloc (.cells #[.int .i64 0, .int .i64 0, .int .i64 0, .int .i64 0, .int .i64 0, .slice none 0 0, .string ⟨#[]⟩, .slice none 0 0, .int .i64 0] 29)) g s r 0 0 0 0 0 0 (.slice none 0 0) (.slice none 0 0) [] 0 0 [] [] by
    have k1 := (Below.refl w.heap.size w).alloc (Nat.le_refl _) (.cells #[.int .i64 0, .int .i64 0, .int .i64 0, .int .i64 0, .int .i64 0, .slice none 0 0, .string ⟨#[]⟩, .slice none 0 0, .int .i64 0] 29)
    have k2 := (Below.refl (w.alloc (.cells #[.int .i64 0, .int .i64 0, .int .i64 0, .int .i64 0, .int .i64 0, .slice none 0 0, .string ⟨#[]⟩, .slice none 0 0, .int .i64 0] 29)).heap.size (w.alloc (.cells #[.int .i64 0, .int .i64 0, .int .i64 0, .int .i64 0, .int .i64 0, .slice none 0 0, .string ⟨#[]⟩, .slice none 0 0, .int .i64 0] 29))).alloc (Nat.le_refl _) (.cells #[.int .i64 0, .int .i64 0, .int .i64 0, .int .i64 0, .int .i64 0, .slice none 0 0, .string ⟨#[]⟩, .slice none 0 0, .int .i64 0] 29)
    have e1 := EB.new w 0 0 0 0 0 0 (.slice none 0 0) (.slice none 0 0) []
    have e2 := EB.new (w.alloc (.cells #[.int .i64 0, .int .i64 0, .int .i64 0, .int .i64 0, .int .i64 0, .slice none 0 0, .string ⟨#[]⟩, .slice none 0 0, .int .i64 0] 29)) 0 0 0 0 0 0 (.slice none 0 0) (.slice none 0 0) []
    rw [World.size_alloc] at e2
    exact ⟨(h.kept (k1.block g hgl)).kept (k2.block g (by simp; omega)), e2, e1.on k2 (by simp), grown_below (k1.trans (k2.mono (by simp))), ⟨World.ownsRow_nil _ _ _ _, World.ownsRow_nil _ _ _ _, fun j hj => by cases hj⟩, hgl, by simp⟩)
  have HNL := hide hNL
  clear h h1 h2 h3 h4 h5 h6 hNL
  go_enter Tryz.func65, Tryz.ntmps65
  go_wp2_with fail
  generalize (w.alloc (.cells #[.int .i64 0, .int .i64 0, .int .i64 0, .int .i64 0, .int .i64 0, .slice none 0 0, .string ⟨#[]⟩, .slice none 0 0, .int .i64 0] 29)).alloc (.cells #[.int .i64 0, .int .i64 0, .int .i64 0, .int .i64 0, .int .i64 0, .slice none 0 0, .string ⟨#[]⟩, .slice none 0 0, .int .i64 0] 29) = v0 at H0 ⊢
  refine (HV1.out _ H0.out.c).mono ?_
  rintro e x1 ⟨rfl, hc, hg⟩
  have G1 := hide (H0.out.step hc hg)
  have H1 := hide (G1.out.put (G1.out.e.put1 (k : Int)) G1.out.own)
  clear hc hg H0
  obtain ⟨e0, e1, e2, e3, e4, e5, e6, e7, e8⟩ := G1.out.e.ev
  have f := G1.out.e.free 1
  go_wp2_with fail
  clear e0 e1 e2 e3 e4 e5 e6 e7 e8 f G1
  generalize x1.setCell ⟨w.heap.size + 1, 1, none⟩ (.int .i64 (k : Int)) = v1 at H1 ⊢
  refine (HV2.out _ H1.out.c).mono ?_
  rintro e x2 ⟨rfl, hc, hg⟩
  have G2 := hide (H1.out.step hc hg)
  have H2 := hide (G2.out.put (G2.out.e.put2 (sn : Int)) G2.out.own)
  clear hc hg H1
  obtain ⟨e0, e1, e2, e3, e4, e5, e6, e7, e8⟩ := G2.out.e.ev
  have f := G2.out.e.free 2
  go_wp2_with fail
  clear e0 e1 e2 e3 e4 e5 e6 e7 e8 f G2
  generalize x2.setCell ⟨w.heap.size + 1, 2, none⟩ (.int .i64 (sn : Int)) = v2 at H2 ⊢
  refine (HV3.out _ H2.out.c).mono ?_
  rintro e x3 ⟨rfl, hc, hg⟩
  have G3 := hide (H2.out.step hc hg)
  have H3 := hide (G3.out.put (G3.out.e.put3 (u : Int)) G3.out.own)
  clear hc hg H2
  obtain ⟨e0, e1, e2, e3, e4, e5, e6, e7, e8⟩ := G3.out.e.ev
  have f := G3.out.e.free 3
  go_wp2_with fail
  clear e0 e1 e2 e3 e4 e5 e6 e7 e8 f G3
  generalize x3.setCell ⟨w.heap.size + 1, 3, none⟩ (.int .i64 (u : Int)) = v3 at H3 ⊢
  refine (HV4.out _ H3.out.c).mono ?_
  rintro e x4 ⟨rfl, hc, hg⟩
  have G4 := hide (H3.out.step hc hg)
  have H4 := hide (G4.out.put (G4.out.e.put4 (m : Int)) G4.out.own)
  clear hc hg H3
  obtain ⟨e0, e1, e2, e3, e4, e5, e6, e7, e8⟩ := G4.out.e.ev
  have f := G4.out.e.free 4
  go_wp2_with fail
  clear e0 e1 e2 e3 e4 e5 e6 e7 e8 f G4
  generalize x4.setCell ⟨w.heap.size + 1, 4, none⟩ (.int .i64 (m : Int)) = v4 at H4 ⊢
  go_region_law (rw [if_pos (by rfl)]; go_simp; go_at_call 89; refine (HV5.out _ (by exact H4.out.c.kept rfl)).mono ?_; rintro e x5 ⟨q5, rfl, ho5, hc, hg1⟩; obtain ⟨oa5, ca5, rfl⟩ := row_form ho5; have hg : v4.grownBy x5 (some g) := grown_trans (grown_below (Below.refl _ _).drew) hg1; have G5 := hide (H4.out.step hc hg); obtain ⟨e0, e1, e2, e3, e4, e5, e6, e7, e8⟩ := G5.out.e.ev; have f := G5.out.e.free 5)
  have ho5 : x5.ownsRow v4.heap.size 3 1 (.slice oa5 NL ca5) NL (zl.map icell) := ho5
  clear e0 e1 e2 e3 e4 e5 e6 e7 e8 f
  have HO5 := hide (show EvOwn x5 (w.heap.size + 1 + 1) (.slice oa5 NL ca5) (.slice none 0 0) NL 0 zl [] from ⟨own_base ho5 H4.out.sz, World.ownsRow_nil _ _ _ _, fun j hj q => by cases q⟩)
  have H5 := hide (G5.out.put (G5.out.e.put5 (.slice oa5 NL ca5)) HO5.out)
  clear hc hg H4 ho5
  clear G5 HO5
  generalize x5.setCell ⟨w.heap.size + 1, 5, none⟩ (.slice oa5 NL ca5) = v5 at H5 ⊢
  go_wp2_with fail
  refine (HV6.out _ H5.out.c).mono ?_
  rintro e x6 ⟨rfl, hc, hg⟩
  have G6 := hide (H5.out.step hc hg)
  have H6 := hide (G6.out.put (G6.out.e.put6 tx) G6.out.own)
  clear hc hg H5
  obtain ⟨e0, e1, e2, e3, e4, e5, e6, e7, e8⟩ := G6.out.e.ev
  have f := G6.out.e.free 6
  have H6E := hide (G6.out.e.put6 tx)
  obtain ⟨t0, t1, t2, t3, t4, t5, t6, t7, t8⟩ := H6E.out.ev
  have y0 := (H6.out.z).free 0
  have y1 := (H6.out.z).free 1
  have y2 := (H6.out.z).free 2
  have y3 := (H6.out.z).free 3
  have y4 := (H6.out.z).free 4
  have y5 := (H6.out.z).free 5
  have y6 := (H6.out.z).free 6
  have y7 := (H6.out.z).free 7
  have y8 := (H6.out.z).free 8
  obtain ⟨p0, p1, p2, p3, p4, p5, p6, p7, p8⟩ := H6.out.z.ev
  go_wp2_with fail
  clear e0 e1 e2 e3 e4 e5 e6 e7 e8 f t0 t1 t2 t3 t4 t5 t6 t7 t8 y0 y1 y2 y3 y4 y5 y6 y7 y8 p0 p1 p2 p3 p4 p5 p6 p7 p8 H6E G6
  generalize x6.setCell ⟨w.heap.size + 1, 6, none⟩ (.string ⟨tx.toArray⟩) = v6 at H6 ⊢
  obtain ⟨w6, hw6, hE6, hg6⟩ := H6.out.z.all 0 (k : Int) (sn : Int) (u : Int) (m : Int) 0 (.slice oa5 NL ca5) (.slice none 0 0) tx
  rw [hw6]
  obtain ⟨c0, c1, c2, c3, c4, c5, c6, c7, c8⟩ := hE6.ev
  refine bodyPost_ret (v := evval 0 (k : Int) (sn : Int) (u : Int) (m : Int) 0 (.slice oa5 NL ca5) (.slice none 0 0) tx) (by simp [results, Tryz.results65, go_sem, c0, c1, c2, c3, c4, c5, c6, c7, c8]) rfl ?_
  have hb6 : Below w.heap.size v6 w6 := (Below.refl _ _).grown hg6 H6.out.gr.size (fun j hj => by cases hj; exact Nat.le_refl _)
  refine ⟨.slice oa5 NL ca5, .slice none 0 0, rfl, H6.out.c.kept (hg6.block g H6.out.c.lt (fun q => by have := Option.some.inj q; omega)), ?_, grown_low H6.out.gr hb6⟩
  simp only [List.length_nil]
  rw [HNL.out]
  exact (H6.out.own.kept hg6 (by omega)).down (by omega)

theorem placelessEvent_any (g : Nat) (s : ByteArray) (hs : s.size ≤ 1048576) (r : Lf) (w : World) (h : FRL w g s r) :
    Calls Tryz.prog 65 #[.pointer (some ⟨g, 0, none⟩)] w fun e w' => RdPost (bodyI r) g s w e w' :=
  placelessEvent_parts g s hs r w h rfl rfl rfl rfl rfl rfl

set_option maxRecDepth 100000 in
set_option maxHeartbeats 8000000 in
theorem wholeEvent_any (g : Nat) (s : ByteArray) (hs : s.size ≤ 1048576) (r : Lf) (w : World) (h : FRL w g s r) :
    Calls Tryz.prog 66 #[.pointer (some ⟨g, 0, none⟩)] w fun e w' => RdPost (wholeI r) g s w e w' := by
  have hgl := h.lt
  have HV1 := hide (fun w hc => short_any g s hs r w hc)
  unfold wholeI
  have hxl := shL_len (most := 20000) (l := []) r
  generalize shL 20000 r = q at HV1 hxl ⊢
  obtain ⟨x, r1⟩ := q
  simp only at HV1 hxl ⊢
  have HRE := hide (fun w => implReadEvent_any ⟨x.toArray⟩ (by rw [size_mk8]; omega) w)
  rw [bl_mk8] at HRE
  generalize reR x = q at HRE ⊢
  obtain ⟨ev, ok⟩ := q
  obtain ⟨id, kd, sn, us, mb, zl, tx, zp, dp⟩ := ev
  unfold RePost at HRE
  simp only at HRE ⊢
  obtain ⟨NL, hNL⟩ : ∃ NL, zl.length = NL := ⟨_, rfl⟩
  obtain ⟨NP, hNP⟩ : ∃ NP, zp.length = NP := ⟨_, rfl⟩
  rw [hNL, hNP] at HRE
  obtain ⟨r2, hr2⟩ : ∃ r2, (if ok = true then r1 else none) = r2 := ⟨_, rfl⟩
  rw [hr2]
  have HND := hide (fun g s w h => need_any g s r1 ok w h)
  rw [hr2] at HND
  clear hr2
  have HNL := hide hNL
  have HNP := hide hNP
  clear hNL hNP
  have HZ0 := hide (EB.new w 0 0 0 0 0 0 (.slice none 0 0) (.slice none 0 0) [])
  have hb0 := (Below.refl w.heap.size w).alloc (Nat.le_refl _) (.cells #[.int .i64 0, .int .i64 0, .int .i64 0, .int .i64 0, .int .i64 0, .slice none 0 0, .string ⟨#[]⟩, .slice none 0 0, .int .i64 0] 29)
  have HC0 := hide (h.kept (hb0.block g hgl))
  have HG0 := hide (grown_below (row := some g) hb0)
  have HS0 := hide (show w.heap.size + 1 ≤ (w.alloc (.cells #[.int .i64 0, .int .i64 0, .int .i64 0, .int .i64 0, .int .i64 0, .slice none 0 0, .string ⟨#[]⟩, .slice none 0 0, .int .i64 0] 29)).heap.size by simp)
  clear h hb0
  go_enter Tryz.func66, Tryz.ntmps66
  go_wp2_with fail
  generalize w.alloc (.cells #[.int .i64 0, .int .i64 0, .int .i64 0, .int .i64 0, .int .i64 0, .slice none 0 0, .string ⟨#[]⟩, .slice none 0 0, .int .i64 0] 29) = v0 at HZ0 HC0 HG0 HS0 ⊢
  refine (HV1.out _ HC0.out).mono ?_
  rintro e x1 ⟨rfl, hc, hg⟩
  have HC1 := hide hc
  have HG1 := hide (grown_trans HG0.out hg)
  have HZ1 := hide (HZ0.out.kept hg (fun q => by have := Option.some.inj q; omega))
  have HS1 := hide (Nat.le_trans HS0.out hg.size)
  clear hc hg HC0 HG0 HZ0 HS0
  go_wp2_with fail
  refine (HRE.out _).mono ?_
  rintro e x2 ⟨vl, vp, rfl, ho2, hb2⟩
  obtain ⟨oa, cl, hvl⟩ := row_form ho2.l
  obtain ⟨ob, cp, hvp⟩ := row_form ho2.p
  subst hvl
  subst hvp
  have HC2 := hide (HC1.out.kept (hb2.block _ HC1.out.lt))
  have HG2 := hide (grown_trans HG1.out (grown_below hb2))
  have HZ2 := hide (HZ1.out.on hb2 HZ1.out.lt)
  have HS2 := hide (Nat.le_trans HS1.out hb2.size)
  have HO2 := hide (ho2.down HS1.out)
  clear ho2 hb2 HC1 HG1 HZ1
  have hs2 := HS2.out
  go_wp2_with fail
  have HE3 := hide (EB.new x2 id kd sn us mb dp (.slice oa NL cl) (.slice ob NP cp) tx)
  have hb3 := (Below.refl x2.heap.size x2).alloc (Nat.le_refl _) (.cells #[.int .i64 id, .int .i64 kd, .int .i64 sn, .int .i64 us, .int .i64 mb, .slice oa NL cl, .string ⟨tx.toArray⟩, .slice ob NP cp, .int .i64 dp] 29)
  have HC3 := hide (HC2.out.kept (hb3.block _ HC2.out.lt))
  have HG3 := hide (grown_trans HG2.out (grown_below hb3))
  have HZ3 := hide (HZ2.out.on hb3 HZ2.out.lt)
  have HO3 := hide (HO2.out.on hb3)
  have HS3 := hide (show w.heap.size + 1 ≤ (x2.alloc (.cells #[.int .i64 id, .int .i64 kd, .int .i64 sn, .int .i64 us, .int .i64 mb, .slice oa NL cl, .string ⟨tx.toArray⟩, .slice ob NP cp, .int .i64 dp] 29)).heap.size from Nat.le_trans hs2 hb3.size)
  clear hb3 HC2 HG2 HZ2 HO2
  generalize x2.alloc (.cells #[.int .i64 id, .int .i64 kd, .int .i64 sn, .int .i64 us, .int .i64 mb, .slice oa NL cl, .string ⟨tx.toArray⟩, .slice ob NP cp, .int .i64 dp] 29) = v3 at HE3 HC3 HG3 HZ3 HO3 HS3 ⊢
  refine (HND.out _ _ _ HC3.out).mono ?_
  rintro e x4 ⟨rfl, hc, hg⟩
  have HC4 := hide hc
  have HG4 := hide (grown_trans HG3.out hg)
  have HZ4 := hide (HZ3.out.kept hg (fun q => by have := Option.some.inj q; omega))
  have HE4 := hide (HE3.out.kept hg (fun q => by have := Option.some.inj q; omega))
  have HO4 := hide (HO3.out.kept hg (by omega))
  have HS4 := hide (Nat.le_trans HS3.out hg.size)
  clear hc hg HC3 HG3 HZ3 HE3 HO3
  obtain ⟨e0, e1, e2, e3, e4, e5, e6, e7, e8⟩ := HE4.out.ev
  have y0 := HZ4.out.free 0
  have y1 := HZ4.out.free 1
  have y2 := HZ4.out.free 2
  have y3 := HZ4.out.free 3
  have y4 := HZ4.out.free 4
  have y5 := HZ4.out.free 5
  have y6 := HZ4.out.free 6
  have y7 := HZ4.out.free 7
  have y8 := HZ4.out.free 8
  obtain ⟨p0, p1, p2, p3, p4, p5, p6, p7, p8⟩ := HZ4.out.ev
  go_wp2_with fail
  clear e0 e1 e2 e3 e4 e5 e6 e7 e8 y0 y1 y2 y3 y4 y5 y6 y7 y8 p0 p1 p2 p3 p4 p5 p6 p7 p8
  obtain ⟨w6, hw6, hE6, hg6⟩ := HZ4.out.all id kd sn us mb dp (.slice oa NL cl) (.slice ob NP cp) tx
  rw [hw6]
  obtain ⟨c0, c1, c2, c3, c4, c5, c6, c7, c8⟩ := hE6.ev
  refine bodyPost_ret (v := evval id kd sn us mb dp (.slice oa NL cl) (.slice ob NP cp) tx) (by simp [results, Tryz.results66, go_sem, c0, c1, c2, c3, c4, c5, c6, c7, c8]) rfl ?_
  have hb6 : Below w.heap.size x4 w6 := (Below.refl _ _).grown hg6 HG4.out.size (fun j hj => by cases hj; exact Nat.le_refl _)
  refine ⟨.slice oa NL cl, .slice ob NP cp, rfl, HC4.out.kept (hg6.block g HC4.out.lt (fun q => by have := Option.some.inj q; omega)), ?_, grown_low HG4.out hb6⟩
  simp only
  rw [HNL.out, HNP.out]
  exact (HO4.out.kept hg6 (by omega)).down (by omega)

end Go.Proofs.YtckkfjmjcknjdaaGreatDoor

namespace Go.Proofs.YtckkfjmjcknjdaaGreatDoor
open Go.RowKit P1 P3 P9 P11 P12 P18 K
set_option linter.unusedVariables false
set_option linter.unusedSimpArgs false

theorem sets14 {w : World} {b : Nat} {T : TypeId} {c0 c1 c2 c3 c4 c5 c6 c7 c8 c9 c10 c11 c12 c13 : Value} (h : XS b #[c0, c1, c2, c3, c4, c5, c6, c7, c8, c9, c10, c11, c12, c13] T w) (v0 v1 v2 v3 v4 v5 v6 v7 v8 v9 v10 v11 v12 v13 : Value) : ∃ W', ((((((((((((((w.setCell ⟨b, 0, none⟩ (v0)).setCell ⟨b, 1, none⟩ (v1)).setCell ⟨b, 2, none⟩ (v2)).setCell ⟨b, 3, none⟩ (v3)).setCell ⟨b, 4, none⟩ (v4)).setCell ⟨b, 5, none⟩ (v5)).setCell ⟨b, 6, none⟩ (v6)).setCell ⟨b, 7, none⟩ (v7)).setCell ⟨b, 8, none⟩ (v8)).setCell ⟨b, 9, none⟩ (v9)).setCell ⟨b, 10, none⟩ (v10)).setCell ⟨b, 11, none⟩ (v11)).setCell ⟨b, 12, none⟩ (v12)).setCell ⟨b, 13, none⟩ (v13)) = W' ∧ XS b #[v0, v1, v2, v3, v4, v5, v6, v7, v8, v9, v10, v11, v12, v13] T W' ∧ w.grownBy W' (some b) :=
  ⟨_, rfl, (cset13 (cset12 (cset11 (cset10 (cset9 (cset8 (cset7 (cset6 (cset5 (cset4 (cset3 (cset2 (cset1 (cset0 h)))))))))))))), (grown_trans (grown_trans (grown_trans (grown_trans (grown_trans (grown_trans (grown_trans (grown_trans (grown_trans (grown_trans (grown_trans (grown_trans (grown_trans (blk_grown _ _ _ _) (blk_grown _ _ _ _)) (blk_grown _ _ _ _)) (blk_grown _ _ _ _)) (blk_grown _ _ _ _)) (blk_grown _ _ _ _)) (blk_grown _ _ _ _)) (blk_grown _ _ _ _)) (blk_grown _ _ _ _)) (blk_grown _ _ _ _)) (blk_grown _ _ _ _)) (blk_grown _ _ _ _)) (blk_grown _ _ _ _)) (blk_grown _ _ _ _))⟩

theorem sets9 {w : World} {b : Nat} {T : TypeId} {c0 c1 c2 c3 c4 c5 c6 c7 c8 c9 c10 c11 c12 c13 : Value} (h : XS b #[c0, c1, c2, c3, c4, c5, c6, c7, c8, c9, c10, c11, c12, c13] T w) (v3 v4 v5 v6 v7 v8 v9 v10 v11 : Value) : ∃ W', (((((((((w.setCell ⟨b, 3, none⟩ (v3)).setCell ⟨b, 4, none⟩ (v4)).setCell ⟨b, 5, none⟩ (v5)).setCell ⟨b, 6, none⟩ (v6)).setCell ⟨b, 7, none⟩ (v7)).setCell ⟨b, 8, none⟩ (v8)).setCell ⟨b, 9, none⟩ (v9)).setCell ⟨b, 10, none⟩ (v10)).setCell ⟨b, 11, none⟩ (v11)) = W' ∧ XS b #[c0, c1, c2, v3, v4, v5, v6, v7, v8, v9, v10, v11, c12, c13] T W' ∧ w.grownBy W' (some b) :=
  ⟨_, rfl, (cset11 (cset10 (cset9 (cset8 (cset7 (cset6 (cset5 (cset4 (cset3 h))))))))), (grown_trans (grown_trans (grown_trans (grown_trans (grown_trans (grown_trans (grown_trans (grown_trans (blk_grown _ _ _ _) (blk_grown _ _ _ _)) (blk_grown _ _ _ _)) (blk_grown _ _ _ _)) (blk_grown _ _ _ _)) (blk_grown _ _ _ _)) (blk_grown _ _ _ _)) (blk_grown _ _ _ _)) (blk_grown _ _ _ _))⟩

theorem XS.kept {h : Nat} {cs : Array Value} {T : TypeId} {w w' : World} {row : Option Nat} (k : XS h cs T w) (hg : w.grownBy w' row) (hne : row ≠ some h) : XS h cs T w' := (hg.block h k.lt (fun e => hne e.symm)).trans k

structure CmR (w W : World) (g : Nat) (s : ByteArray) (r : Lf) (cs : Array Value) : Prop where
  c : FRL W g s r
  x : XS (w.heap.size + 1) cs 31 W
  z : XS w.heap.size #[.int .i64 0, .int .i64 0, .int .i64 0, .int .i64 0, .int .i64 0, .int .i64 0, .int .i64 0, .int .i64 0, .slice none 0 0, .string ⟨#[]⟩, .slice none 0 0, .int .i64 0, .int .i64 0, .int .i64 0] 31 W
  gr : w.grownBy W (some g)
  hg : g < w.heap.size
  sz : w.heap.size + 1 + 1 ≤ W.heap.size

theorem CmR.step {w W W' : World} {g : Nat} {s : ByteArray} {r r' : Lf} {cs : Array Value} (h : CmR w W g s r cs) (hc : FRL W' g s r') (hg : W.grownBy W' (some g)) : CmR w W' g s r' cs :=
  ⟨hc, h.x.kept hg (fun q => by have := Option.some.inj q; have := h.hg; omega), h.z.kept hg (fun q => by have := Option.some.inj q; have := h.hg; omega), grown_trans h.gr hg, h.hg, Nat.le_trans h.sz hg.size⟩

theorem CmR.put {w W W' : World} {g : Nat} {s : ByteArray} {r : Lf} {cs cs' : Array Value} (h : CmR w W g s r cs) (hx : XS (w.heap.size + 1) cs' 31 W') (hg : W.grownBy W' (some (w.heap.size + 1))) : CmR w W' g s r cs' := by
  have := h.hg
  refine ⟨h.c.kept (hg.block g h.c.lt (fun q => by have := Option.some.inj q; omega)), hx, h.z.kept hg (fun q => by have := Option.some.inj q; omega), grown_low h.gr ((Below.refl _ _).grown hg h.gr.size (fun j hj => by cases hj; omega)), h.hg, Nat.le_trans h.sz hg.size⟩

def RcPost (x : CmdV × Lf) (g : Nat) (s : ByteArray) (w : World) (e : Ending) (w' : World) : Prop :=
  ∃ vl vp, e = .returned (cmval x.1.op x.1.tk x.1.sq x.1.ev.id x.1.ev.kind x.1.ev.sender x.1.ev.user x.1.ev.member x.1.ev.depth vl vp x.1.ev.text x.1.ds x.1.up) ∧ FRL w' g s x.2 ∧ EvOwn w' w.heap.size vl vp x.1.ev.levels.length x.1.ev.prev.length x.1.ev.levels x.1.ev.prev ∧ w.grownBy w' (some g)

set_option maxRecDepth 100000 in
set_option maxHeartbeats 16000000 in
theorem commandR_any (g : Nat) (s : ByteArray) (hs : s.size ≤ 1048576) (r : Lf) (w : World) (h : FRL w g s r) {r1 r2 r3 r4 : Lf} {op tk sq : Nat} {ev : EvV} {ds up : Int}
    (h1 : byteL r = (op, r1)) (h2 : numL r1 = (tk, r2)) (h3 : numL r2 = (sq, r3)) (h4 : tailI op r3 = (ev, ds, up, r4)) :
    Calls Tryz.prog 38 #[.pointer (some ⟨g, 0, none⟩)] w fun e w' => RcPost (⟨op, tk, sq, ev, ds, up⟩, r4) g s w e w' := by
  have hgl := h.lt
  have HV1 := hide (fun w hc => oneByte_any g s hs r w hc)
  have HV2 := hide (fun w hc => number_any g s hs r1 w hc)
  have HV3 := hide (fun w hc => number_any g s hs r2 w hc)
  rw [h1] at HV1
  rw [h2] at HV2
  rw [h3] at HV3
  simp only at HV1 HV2 HV3
  have H0 := hide (show CmR w ((w.alloc (.cells #[.int .i64 0, .int .i64 0, .int .i64 0, .int .i64 0, .int .i64 0, .int .i64 0, .int .i64 0, .int .i64 0, .slice none 0 0, .string ⟨#[]⟩, .slice none 0 0, .int .i64 0, .int .i64 0, .int .i64 0] 31)).alloc (.cells #[.int .i64 0, .int .i64 0, .int .i64 0, .int .i64 0, .int .i64 0, .int .i64 0, .int .i64 0, .int .i64 0, .slice none 0 0, .string ⟨#[]⟩, .slice none 0 0, .int .i64 0, .int .i64 0, .int .i64 0] 31)) g s r #[.int .i64 0, .int .i64 0, .int .i64 0, .int .i64 0, .int .i64 0, .int .i64 0, .int .i64 0, .int .i64 0, .slice none 0 0, .string ⟨#[]⟩, .slice none 0 0, .int .i64 0, .int .i64 0, .int .i64 0] by
    have k1 := (Below.refl w.heap.size w).alloc (Nat.le_refl _) (.cells #[.int .i64 0, .int .i64 0, .int .i64 0, .int .i64 0, .int .i64 0, .int .i64 0, .int .i64 0, .int .i64 0, .slice none 0 0, .string ⟨#[]⟩, .slice none 0 0, .int .i64 0, .int .i64 0, .int .i64 0] 31)
    have k2 := (Below.refl (w.alloc (.cells #[.int .i64 0, .int .i64 0, .int .i64 0, .int .i64 0, .int .i64 0, .int .i64 0, .int .i64 0, .int .i64 0, .slice none 0 0, .string ⟨#[]⟩, .slice none 0 0, .int .i64 0, .int .i64 0, .int .i64 0] 31)).heap.size (w.alloc (.cells #[.int .i64 0, .int .i64 0, .int .i64 0, .int .i64 0, .int .i64 0, .int .i64 0, .int .i64 0, .int .i64 0, .slice none 0 0, .string ⟨#[]⟩, .slice none 0 0, .int .i64 0, .int .i64 0, .int .i64 0] 31))).alloc (Nat.le_refl _) (.cells #[.int .i64 0, .int .i64 0, .int .i64 0, .int .i64 0, .int .i64 0, .int .i64 0, .int .i64 0, .int .i64 0, .slice none 0 0, .string ⟨#[]⟩, .slice none 0 0, .int .i64 0, .int .i64 0, .int .i64 0] 31)
    have e1 := XS.new w #[.int .i64 0, .int .i64 0, .int .i64 0, .int .i64 0, .int .i64 0, .int .i64 0, .int .i64 0, .int .i64 0, .slice none 0 0, .string ⟨#[]⟩, .slice none 0 0, .int .i64 0, .int .i64 0, .int .i64 0] 31
    have e2 := XS.new (w.alloc (.cells #[.int .i64 0, .int .i64 0, .int .i64 0, .int .i64 0, .int .i64 0, .int .i64 0, .int .i64 0, .int .i64 0, .slice none 0 0, .string ⟨#[]⟩, .slice none 0 0, .int .i64 0, .int .i64 0, .int .i64 0] 31)) #[.int .i64 0, .int .i64 0, .int .i64 0, .int .i64 0, .int .i64 0, .int .i64 0, .int .i64 0, .int .i64 0, .slice none 0 0, .string ⟨#[]⟩, .slice none 0 0, .int .i64 0, .int .i64 0, .int .i64 0] 31
    rw [World.size_alloc] at e2
    exact ⟨(h.kept (k1.block g hgl)).kept (k2.block g (by simp; omega)), e2, e1.on k2, grown_below (k1.trans (k2.mono (by simp))), hgl, by simp⟩)
  have H4 := hide h4
  clear h h1 h2 h3 h4
  go_enter Tryz.func38, Tryz.ntmps38
  go_wp2_with fail
  generalize (w.alloc (.cells #[.int .i64 0, .int .i64 0, .int .i64 0, .int .i64 0, .int .i64 0, .int .i64 0, .int .i64 0, .int .i64 0, .slice none 0 0, .string ⟨#[]⟩, .slice none 0 0, .int .i64 0, .int .i64 0, .int .i64 0] 31)).alloc (.cells #[.int .i64 0, .int .i64 0, .int .i64 0, .int .i64 0, .int .i64 0, .int .i64 0, .int .i64 0, .int .i64 0, .slice none 0 0, .string ⟨#[]⟩, .slice none 0 0, .int .i64 0, .int .i64 0, .int .i64 0] 31) = v0 at H0 ⊢
  refine (HV1.out _ H0.out.c).mono ?_
  rintro e x1 ⟨rfl, hc, hg⟩
  have G1 := hide (H0.out.step hc hg)
  have K1 := hide (show CmR w (x1.setCell ⟨w.heap.size + 1, 0, none⟩ (.int .i64 (op : Int))) g s r1 #[.int .i64 (op : Int), .int .i64 0, .int .i64 0, .int .i64 0, .int .i64 0, .int .i64 0, .int .i64 0, .int .i64 0, .slice none 0 0, .string ⟨#[]⟩, .slice none 0 0, .int .i64 0, .int .i64 0, .int .i64 0] from G1.out.put (cset0 G1.out.x) (blk_grown _ _ _ _))
  clear hc hg H0
  have e0 := XS.cell G1.out.x 0 rfl
  have f0 := blk_free G1.out.x 0
  skip
  go_wp2_with fail
  clear e0 f0 G1
  generalize x1.setCell ⟨w.heap.size + 1, 0, none⟩ (.int .i64 (op : Int)) = v1 at K1 ⊢
  refine (HV2.out _ K1.out.c).mono ?_
  rintro e x2 ⟨rfl, hc, hg⟩
  have G2 := hide (K1.out.step hc hg)
  have K2 := hide (show CmR w (x2.setCell ⟨w.heap.size + 1, 1, none⟩ (.int .i64 (tk : Int))) g s r2 #[.int .i64 (op : Int), .int .i64 (tk : Int), .int .i64 0, .int .i64 0, .int .i64 0, .int .i64 0, .int .i64 0, .int .i64 0, .slice none 0 0, .string ⟨#[]⟩, .slice none 0 0, .int .i64 0, .int .i64 0, .int .i64 0] from G2.out.put (cset1 G2.out.x) (blk_grown _ _ _ _))
  clear hc hg K1
  have e0 := XS.cell G2.out.x 1 rfl
  have f0 := blk_free G2.out.x 1
  skip
  go_wp2_with fail
  clear e0 f0 G2
  generalize x2.setCell ⟨w.heap.size + 1, 1, none⟩ (.int .i64 (tk : Int)) = v2 at K2 ⊢
  refine (HV3.out _ K2.out.c).mono ?_
  rintro e x3 ⟨rfl, hc, hg⟩
  have G3 := hide (K2.out.step hc hg)
  have K3 := hide (show CmR w (x3.setCell ⟨w.heap.size + 1, 2, none⟩ (.int .i64 (sq : Int))) g s r3 #[.int .i64 (op : Int), .int .i64 (tk : Int), .int .i64 (sq : Int), .int .i64 0, .int .i64 0, .int .i64 0, .int .i64 0, .int .i64 0, .slice none 0 0, .string ⟨#[]⟩, .slice none 0 0, .int .i64 0, .int .i64 0, .int .i64 0] from G3.out.put (cset2 G3.out.x) (blk_grown _ _ _ _))
  clear hc hg K2
  have e0 := XS.cell G3.out.x 2 rfl
  have f0 := blk_free G3.out.x 2
  have kk0 := XS.cell K3.out.x 0 rfl
  go_upto_region 5 with fail
  clear e0 f0 G3 kk0
  generalize x3.setCell ⟨w.heap.size + 1, 2, none⟩ (.int .i64 (sq : Int)) = v3 at K3 ⊢
  by_cases o2 : op = 2
  · subst o2
    have hb : bodyI r3 = (ev, r4) ∧ ds = 0 ∧ up = 0 := by
      have h := H4.out
      unfold tailI at h
      rw [if_pos rfl] at h
      cases h
      exact ⟨rfl, rfl, rfl⟩
    obtain ⟨hb, rfl, rfl⟩ := hb
    have HP := hide (fun w h => placelessEvent_any g s hs r3 w h)
    rw [hb] at HP
    clear hb H4
    obtain ⟨id, kd, sn, us, mb, zl, tx, zp, dp⟩ := ev
    unfold RdPost at HP
    simp only at HP
    obtain ⟨NL, hNL⟩ : ∃ NL, zl.length = NL := ⟨_, rfl⟩
    obtain ⟨NP, hNP⟩ : ∃ NP, zp.length = NP := ⟨_, rfl⟩
    rw [hNL, hNP] at HP
    have HNL := hide hNL
    have HNP := hide hNP
    clear hNL hNP
    have kk0 := XS.cell K3.out.x 0 rfl
    go_wp2_with fail
    clear kk0
    refine (HP.out _ K3.out.c).mono ?_
    rintro e x4 ⟨vl, vp, rfl, hc, ho, hg⟩
    obtain ⟨oa, cl, hvl⟩ := row_form ho.l
    obtain ⟨ob, cp, hvp⟩ := row_form ho.p
    subst hvl
    subst hvp
    have K4 := hide (K3.out.step hc hg)
    have HO4 := hide (ho.down K3.out.sz)
    clear hc ho hg
    have e3 := XS.cell K4.out.x 3 rfl
    have f3 := blk_free K4.out.x 3
    have e4 := XS.cell K4.out.x 4 rfl
    have f4 := blk_free K4.out.x 4
    have e5 := XS.cell K4.out.x 5 rfl
    have f5 := blk_free K4.out.x 5
    have e6 := XS.cell K4.out.x 6 rfl
    have f6 := blk_free K4.out.x 6
    have e7 := XS.cell K4.out.x 7 rfl
    have f7 := blk_free K4.out.x 7
    have e8 := XS.cell K4.out.x 8 rfl
    have f8 := blk_free K4.out.x 8
    have e9 := XS.cell K4.out.x 9 rfl
    have f9 := blk_free K4.out.x 9
    have e10 := XS.cell K4.out.x 10 rfl
    have f10 := blk_free K4.out.x 10
    have e11 := XS.cell K4.out.x 11 rfl
    have f11 := blk_free K4.out.x 11
    go_upto_region 13 with fail
    clear e3 f3 e4 f4 e5 f5 e6 f6 e7 f7 e8 f8 e9 f9 e10 f10 e11 f11
    obtain ⟨x5, hx5, hX5, hg5⟩ := sets9 K4.out.x (.int .i64 id) (.int .i64 kd) (.int .i64 sn) (.int .i64 us) (.int .i64 mb) (.slice oa NL cl) (.string ⟨tx.toArray⟩) (.slice ob NP cp) (.int .i64 dp)
    rw [hx5]
    clear hx5
    have K5 := hide (show CmR w x5 g s r4 #[.int .i64 2, .int .i64 (tk : Int), .int .i64 (sq : Int), .int .i64 id, .int .i64 kd, .int .i64 sn, .int .i64 us, .int .i64 mb, .slice oa NL cl, .string ⟨tx.toArray⟩, .slice ob NP cp, .int .i64 dp, .int .i64 0, .int .i64 0] from K4.out.put hX5 hg5)
    have HO5 := hide (HO4.out.kept hg5 (by omega))
    clear hX5 hg5 K4 HO4
    have e0 := XS.cell K5.out.x 0 rfl
    have y0 := blk_free K5.out.z 0
    have p0 := XS.cell K5.out.z 0 rfl
    have e1 := XS.cell K5.out.x 1 rfl
    have y1 := blk_free K5.out.z 1
    have p1 := XS.cell K5.out.z 1 rfl
    have e2 := XS.cell K5.out.x 2 rfl
    have y2 := blk_free K5.out.z 2
    have p2 := XS.cell K5.out.z 2 rfl
    have e3 := XS.cell K5.out.x 3 rfl
    have y3 := blk_free K5.out.z 3
    have p3 := XS.cell K5.out.z 3 rfl
    have e4 := XS.cell K5.out.x 4 rfl
    have y4 := blk_free K5.out.z 4
    have p4 := XS.cell K5.out.z 4 rfl
    have e5 := XS.cell K5.out.x 5 rfl
    have y5 := blk_free K5.out.z 5
    have p5 := XS.cell K5.out.z 5 rfl
    have e6 := XS.cell K5.out.x 6 rfl
    have y6 := blk_free K5.out.z 6
    have p6 := XS.cell K5.out.z 6 rfl
    have e7 := XS.cell K5.out.x 7 rfl
    have y7 := blk_free K5.out.z 7
    have p7 := XS.cell K5.out.z 7 rfl
    have e8 := XS.cell K5.out.x 8 rfl
    have y8 := blk_free K5.out.z 8
    have p8 := XS.cell K5.out.z 8 rfl
    have e9 := XS.cell K5.out.x 9 rfl
    have y9 := blk_free K5.out.z 9
    have p9 := XS.cell K5.out.z 9 rfl
    have e10 := XS.cell K5.out.x 10 rfl
    have y10 := blk_free K5.out.z 10
    have p10 := XS.cell K5.out.z 10 rfl
    have e11 := XS.cell K5.out.x 11 rfl
    have y11 := blk_free K5.out.z 11
    have p11 := XS.cell K5.out.z 11 rfl
    have e12 := XS.cell K5.out.x 12 rfl
    have y12 := blk_free K5.out.z 12
    have p12 := XS.cell K5.out.z 12 rfl
    have e13 := XS.cell K5.out.x 13 rfl
    have y13 := blk_free K5.out.z 13
    have p13 := XS.cell K5.out.z 13 rfl
    go_wp2_with fail
    clear e0 y0 p0 e1 y1 p1 e2 y2 p2 e3 y3 p3 e4 y4 p4 e5 y5 p5 e6 y6 p6 e7 y7 p7 e8 y8 p8 e9 y9 p9 e10 y10 p10 e11 y11 p11 e12 y12 p12 e13 y13 p13
    obtain ⟨w6, hw6, hX6, hg6⟩ := sets14 K5.out.z (.int .i64 2) (.int .i64 (tk : Int)) (.int .i64 (sq : Int)) (.int .i64 id) (.int .i64 kd) (.int .i64 sn) (.int .i64 us) (.int .i64 mb) (.slice oa NL cl) (.string ⟨tx.toArray⟩) (.slice ob NP cp) (.int .i64 dp) (.int .i64 0) (.int .i64 0)
    rw [hw6]
    have c0 := XS.cell hX6 0 rfl
    have c1 := XS.cell hX6 1 rfl
    have c2 := XS.cell hX6 2 rfl
    have c3 := XS.cell hX6 3 rfl
    have c4 := XS.cell hX6 4 rfl
    have c5 := XS.cell hX6 5 rfl
    have c6 := XS.cell hX6 6 rfl
    have c7 := XS.cell hX6 7 rfl
    have c8 := XS.cell hX6 8 rfl
    have c9 := XS.cell hX6 9 rfl
    have c10 := XS.cell hX6 10 rfl
    have c11 := XS.cell hX6 11 rfl
    have c12 := XS.cell hX6 12 rfl
    have c13 := XS.cell hX6 13 rfl
    refine bodyPost_ret (v := cmval 2 (tk : Int) (sq : Int) id kd sn us mb dp (.slice oa NL cl) (.slice ob NP cp) tx 0 0) (by simp [results, Tryz.results38, go_sem, c0, c1, c2, c3, c4, c5, c6, c7, c8, c9, c10, c11, c12, c13]) rfl ?_
    have hb6 := (Below.refl w.heap.size _).grown hg6 K5.out.gr.size (fun j hj => by cases hj; exact Nat.le_refl _)
    refine ⟨.slice oa NL cl, .slice ob NP cp, rfl, K5.out.c.kept (hg6.block g K5.out.c.lt (fun q => by have := Option.some.inj q; omega)), ?_, grown_low K5.out.gr hb6⟩
    simp only
    rw [HNL.out, HNP.out]
    exact (HO5.out.kept hg6 (by omega)).down (by omega)
  by_cases o3 : op = 3
  · subst o3
    have hb : wholeI r3 = (ev, r4) ∧ ds = 0 ∧ up = 0 := by
      have h := H4.out
      unfold tailI at h
      rw [if_neg (by decide), if_pos rfl] at h
      cases h
      exact ⟨rfl, rfl, rfl⟩
    obtain ⟨hb, rfl, rfl⟩ := hb
    have HP := hide (fun w h => wholeEvent_any g s hs r3 w h)
    rw [hb] at HP
    clear hb H4
    obtain ⟨id, kd, sn, us, mb, zl, tx, zp, dp⟩ := ev
    unfold RdPost at HP
    simp only at HP
    obtain ⟨NL, hNL⟩ : ∃ NL, zl.length = NL := ⟨_, rfl⟩
    obtain ⟨NP, hNP⟩ : ∃ NP, zp.length = NP := ⟨_, rfl⟩
    rw [hNL, hNP] at HP
    have HNL := hide hNL
    have HNP := hide hNP
    clear hNL hNP
    have kk0 := XS.cell K3.out.x 0 rfl
    go_wp2_with fail
    clear kk0
    refine (HP.out _ K3.out.c).mono ?_
    rintro e x4 ⟨vl, vp, rfl, hc, ho, hg⟩
    obtain ⟨oa, cl, hvl⟩ := row_form ho.l
    obtain ⟨ob, cp, hvp⟩ := row_form ho.p
    subst hvl
    subst hvp
    have K4 := hide (K3.out.step hc hg)
    have HO4 := hide (ho.down K3.out.sz)
    clear hc ho hg
    have e3 := XS.cell K4.out.x 3 rfl
    have f3 := blk_free K4.out.x 3
    have e4 := XS.cell K4.out.x 4 rfl
    have f4 := blk_free K4.out.x 4
    have e5 := XS.cell K4.out.x 5 rfl
    have f5 := blk_free K4.out.x 5
    have e6 := XS.cell K4.out.x 6 rfl
    have f6 := blk_free K4.out.x 6
    have e7 := XS.cell K4.out.x 7 rfl
    have f7 := blk_free K4.out.x 7
    have e8 := XS.cell K4.out.x 8 rfl
    have f8 := blk_free K4.out.x 8
    have e9 := XS.cell K4.out.x 9 rfl
    have f9 := blk_free K4.out.x 9
    have e10 := XS.cell K4.out.x 10 rfl
    have f10 := blk_free K4.out.x 10
    have e11 := XS.cell K4.out.x 11 rfl
    have f11 := blk_free K4.out.x 11
    go_upto_region 13 with fail
    clear e3 f3 e4 f4 e5 f5 e6 f6 e7 f7 e8 f8 e9 f9 e10 f10 e11 f11
    obtain ⟨x5, hx5, hX5, hg5⟩ := sets9 K4.out.x (.int .i64 id) (.int .i64 kd) (.int .i64 sn) (.int .i64 us) (.int .i64 mb) (.slice oa NL cl) (.string ⟨tx.toArray⟩) (.slice ob NP cp) (.int .i64 dp)
    rw [hx5]
    clear hx5
    have K5 := hide (show CmR w x5 g s r4 #[.int .i64 3, .int .i64 (tk : Int), .int .i64 (sq : Int), .int .i64 id, .int .i64 kd, .int .i64 sn, .int .i64 us, .int .i64 mb, .slice oa NL cl, .string ⟨tx.toArray⟩, .slice ob NP cp, .int .i64 dp, .int .i64 0, .int .i64 0] from K4.out.put hX5 hg5)
    have HO5 := hide (HO4.out.kept hg5 (by omega))
    clear hX5 hg5 K4 HO4
    have e0 := XS.cell K5.out.x 0 rfl
    have y0 := blk_free K5.out.z 0
    have p0 := XS.cell K5.out.z 0 rfl
    have e1 := XS.cell K5.out.x 1 rfl
    have y1 := blk_free K5.out.z 1
    have p1 := XS.cell K5.out.z 1 rfl
    have e2 := XS.cell K5.out.x 2 rfl
    have y2 := blk_free K5.out.z 2
    have p2 := XS.cell K5.out.z 2 rfl
    have e3 := XS.cell K5.out.x 3 rfl
    have y3 := blk_free K5.out.z 3
    have p3 := XS.cell K5.out.z 3 rfl
    have e4 := XS.cell K5.out.x 4 rfl
    have y4 := blk_free K5.out.z 4
    have p4 := XS.cell K5.out.z 4 rfl
    have e5 := XS.cell K5.out.x 5 rfl
    have y5 := blk_free K5.out.z 5
    have p5 := XS.cell K5.out.z 5 rfl
    have e6 := XS.cell K5.out.x 6 rfl
    have y6 := blk_free K5.out.z 6
    have p6 := XS.cell K5.out.z 6 rfl
    have e7 := XS.cell K5.out.x 7 rfl
    have y7 := blk_free K5.out.z 7
    have p7 := XS.cell K5.out.z 7 rfl
    have e8 := XS.cell K5.out.x 8 rfl
    have y8 := blk_free K5.out.z 8
    have p8 := XS.cell K5.out.z 8 rfl
    have e9 := XS.cell K5.out.x 9 rfl
    have y9 := blk_free K5.out.z 9
    have p9 := XS.cell K5.out.z 9 rfl
    have e10 := XS.cell K5.out.x 10 rfl
    have y10 := blk_free K5.out.z 10
    have p10 := XS.cell K5.out.z 10 rfl
    have e11 := XS.cell K5.out.x 11 rfl
    have y11 := blk_free K5.out.z 11
    have p11 := XS.cell K5.out.z 11 rfl
    have e12 := XS.cell K5.out.x 12 rfl
    have y12 := blk_free K5.out.z 12
    have p12 := XS.cell K5.out.z 12 rfl
    have e13 := XS.cell K5.out.x 13 rfl
    have y13 := blk_free K5.out.z 13
    have p13 := XS.cell K5.out.z 13 rfl
    go_wp2_with fail
    clear e0 y0 p0 e1 y1 p1 e2 y2 p2 e3 y3 p3 e4 y4 p4 e5 y5 p5 e6 y6 p6 e7 y7 p7 e8 y8 p8 e9 y9 p9 e10 y10 p10 e11 y11 p11 e12 y12 p12 e13 y13 p13
    obtain ⟨w6, hw6, hX6, hg6⟩ := sets14 K5.out.z (.int .i64 3) (.int .i64 (tk : Int)) (.int .i64 (sq : Int)) (.int .i64 id) (.int .i64 kd) (.int .i64 sn) (.int .i64 us) (.int .i64 mb) (.slice oa NL cl) (.string ⟨tx.toArray⟩) (.slice ob NP cp) (.int .i64 dp) (.int .i64 0) (.int .i64 0)
    rw [hw6]
    have c0 := XS.cell hX6 0 rfl
    have c1 := XS.cell hX6 1 rfl
    have c2 := XS.cell hX6 2 rfl
    have c3 := XS.cell hX6 3 rfl
    have c4 := XS.cell hX6 4 rfl
    have c5 := XS.cell hX6 5 rfl
    have c6 := XS.cell hX6 6 rfl
    have c7 := XS.cell hX6 7 rfl
    have c8 := XS.cell hX6 8 rfl
    have c9 := XS.cell hX6 9 rfl
    have c10 := XS.cell hX6 10 rfl
    have c11 := XS.cell hX6 11 rfl
    have c12 := XS.cell hX6 12 rfl
    have c13 := XS.cell hX6 13 rfl
    refine bodyPost_ret (v := cmval 3 (tk : Int) (sq : Int) id kd sn us mb dp (.slice oa NL cl) (.slice ob NP cp) tx 0 0) (by simp [results, Tryz.results38, go_sem, c0, c1, c2, c3, c4, c5, c6, c7, c8, c9, c10, c11, c12, c13]) rfl ?_
    have hb6 := (Below.refl w.heap.size _).grown hg6 K5.out.gr.size (fun j hj => by cases hj; exact Nat.le_refl _)
    refine ⟨.slice oa NL cl, .slice ob NP cp, rfl, K5.out.c.kept (hg6.block g K5.out.c.lt (fun q => by have := Option.some.inj q; omega)), ?_, grown_low K5.out.gr hb6⟩
    simp only
    rw [HNL.out, HNP.out]
    exact (HO5.out.kept hg6 (by omega)).down (by omega)
  by_cases o4 : op = 4
  · subst o4
    obtain ⟨d, q1, hd⟩ : ∃ d q1, numL r3 = (d, q1) := ⟨_, _, rfl⟩
    obtain ⟨t, q2, ht⟩ : ∃ t q2, numL q1 = (t, q2) := ⟨_, _, rfl⟩
    have hb : ev = noEv ∧ ds = (d : Int) ∧ up = (t : Int) ∧ r4 = q2 := by
      have h := H4.out
      unfold tailI at h
      rw [if_neg (by decide), if_neg (by decide), if_pos rfl] at h
      simp only [hd, ht] at h
      cases h
      exact ⟨rfl, rfl, rfl, rfl⟩
    obtain ⟨rfl, rfl, rfl, rfl⟩ := hb
    have HP := hide (fun w hc => number_any g s hs r3 w hc)
    have HQ := hide (fun w hc => number_any g s hs q1 w hc)
    rw [hd] at HP
    rw [ht] at HQ
    simp only at HP HQ
    clear hd ht H4
    have kk0 := XS.cell K3.out.x 0 rfl
    go_wp2_with fail
    clear kk0
    refine (HP.out _ K3.out.c).mono ?_
    rintro e x4 ⟨rfl, hc, hg⟩
    have G4 := hide (K3.out.step hc hg)
    have K4 := hide (show CmR w (x4.setCell ⟨w.heap.size + 1, 12, none⟩ (.int .i64 (d : Int))) g s q1 #[.int .i64 4, .int .i64 (tk : Int), .int .i64 (sq : Int), .int .i64 0, .int .i64 0, .int .i64 0, .int .i64 0, .int .i64 0, .slice none 0 0, .string ⟨#[]⟩, .slice none 0 0, .int .i64 0, .int .i64 (d : Int), .int .i64 0] from G4.out.put (cset12 G4.out.x) (blk_grown _ _ _ _))
    clear hc hg
    have e0 := XS.cell G4.out.x 12 rfl
    have f0 := blk_free G4.out.x 12
    go_wp2_with fail
    clear e0 f0 G4
    generalize x4.setCell ⟨w.heap.size + 1, 12, none⟩ (.int .i64 (d : Int)) = v4 at K4 ⊢
    refine (HQ.out _ K4.out.c).mono ?_
    rintro e x5 ⟨rfl, hc, hg⟩
    have G5 := hide (K4.out.step hc hg)
    have K5 := hide (show CmR w (x5.setCell ⟨w.heap.size + 1, 13, none⟩ (.int .i64 (t : Int))) g s r4 #[.int .i64 4, .int .i64 (tk : Int), .int .i64 (sq : Int), .int .i64 0, .int .i64 0, .int .i64 0, .int .i64 0, .int .i64 0, .slice none 0 0, .string ⟨#[]⟩, .slice none 0 0, .int .i64 0, .int .i64 (d : Int), .int .i64 (t : Int)] from G5.out.put (cset13 G5.out.x) (blk_grown _ _ _ _))
    clear hc hg
    have e0 := XS.cell G5.out.x 13 rfl
    have f0 := blk_free G5.out.x 13
    go_upto_region 13 with fail
    clear e0 f0 G5
    generalize x5.setCell ⟨w.heap.size + 1, 13, none⟩ (.int .i64 (t : Int)) = v5 at K5 ⊢
    have e0 := XS.cell K5.out.x 0 rfl
    have y0 := blk_free K5.out.z 0
    have p0 := XS.cell K5.out.z 0 rfl
    have e1 := XS.cell K5.out.x 1 rfl
    have y1 := blk_free K5.out.z 1
    have p1 := XS.cell K5.out.z 1 rfl
    have e2 := XS.cell K5.out.x 2 rfl
    have y2 := blk_free K5.out.z 2
    have p2 := XS.cell K5.out.z 2 rfl
    have e3 := XS.cell K5.out.x 3 rfl
    have y3 := blk_free K5.out.z 3
    have p3 := XS.cell K5.out.z 3 rfl
    have e4 := XS.cell K5.out.x 4 rfl
    have y4 := blk_free K5.out.z 4
    have p4 := XS.cell K5.out.z 4 rfl
    have e5 := XS.cell K5.out.x 5 rfl
    have y5 := blk_free K5.out.z 5
    have p5 := XS.cell K5.out.z 5 rfl
    have e6 := XS.cell K5.out.x 6 rfl
    have y6 := blk_free K5.out.z 6
    have p6 := XS.cell K5.out.z 6 rfl
    have e7 := XS.cell K5.out.x 7 rfl
    have y7 := blk_free K5.out.z 7
    have p7 := XS.cell K5.out.z 7 rfl
    have e8 := XS.cell K5.out.x 8 rfl
    have y8 := blk_free K5.out.z 8
    have p8 := XS.cell K5.out.z 8 rfl
    have e9 := XS.cell K5.out.x 9 rfl
    have y9 := blk_free K5.out.z 9
    have p9 := XS.cell K5.out.z 9 rfl
    have e10 := XS.cell K5.out.x 10 rfl
    have y10 := blk_free K5.out.z 10
    have p10 := XS.cell K5.out.z 10 rfl
    have e11 := XS.cell K5.out.x 11 rfl
    have y11 := blk_free K5.out.z 11
    have p11 := XS.cell K5.out.z 11 rfl
    have e12 := XS.cell K5.out.x 12 rfl
    have y12 := blk_free K5.out.z 12
    have p12 := XS.cell K5.out.z 12 rfl
    have e13 := XS.cell K5.out.x 13 rfl
    have y13 := blk_free K5.out.z 13
    have p13 := XS.cell K5.out.z 13 rfl
    go_wp2_with fail
    clear e0 y0 p0 e1 y1 p1 e2 y2 p2 e3 y3 p3 e4 y4 p4 e5 y5 p5 e6 y6 p6 e7 y7 p7 e8 y8 p8 e9 y9 p9 e10 y10 p10 e11 y11 p11 e12 y12 p12 e13 y13 p13
    obtain ⟨w6, hw6, hX6, hg6⟩ := sets14 K5.out.z (.int .i64 4) (.int .i64 (tk : Int)) (.int .i64 (sq : Int)) (.int .i64 0) (.int .i64 0) (.int .i64 0) (.int .i64 0) (.int .i64 0) (.slice none 0 0) (.string ⟨#[]⟩) (.slice none 0 0) (.int .i64 0) (.int .i64 (d : Int)) (.int .i64 (t : Int))
    rw [hw6]
    have c0 := XS.cell hX6 0 rfl
    have c1 := XS.cell hX6 1 rfl
    have c2 := XS.cell hX6 2 rfl
    have c3 := XS.cell hX6 3 rfl
    have c4 := XS.cell hX6 4 rfl
    have c5 := XS.cell hX6 5 rfl
    have c6 := XS.cell hX6 6 rfl
    have c7 := XS.cell hX6 7 rfl
    have c8 := XS.cell hX6 8 rfl
    have c9 := XS.cell hX6 9 rfl
    have c10 := XS.cell hX6 10 rfl
    have c11 := XS.cell hX6 11 rfl
    have c12 := XS.cell hX6 12 rfl
    have c13 := XS.cell hX6 13 rfl
    refine bodyPost_ret (v := cmval 4 (tk : Int) (sq : Int) 0 0 0 0 0 0 (.slice none 0 0) (.slice none 0 0) [] (d : Int) (t : Int)) (by simp [results, Tryz.results38, go_sem, c0, c1, c2, c3, c4, c5, c6, c7, c8, c9, c10, c11, c12, c13]) rfl ?_
    have hb6 := (Below.refl w.heap.size _).grown hg6 K5.out.gr.size (fun j hj => by cases hj; exact Nat.le_refl _)
    refine ⟨.slice none 0 0, .slice none 0 0, rfl, K5.out.c.kept (hg6.block g K5.out.c.lt (fun q => by have := Option.some.inj q; omega)), ?_, grown_low K5.out.gr hb6⟩
    exact ⟨World.ownsRow_nil _ _ _ _, World.ownsRow_nil _ _ _ _, fun j hj => by cases hj⟩
  have hb : ev = noEv ∧ ds = 0 ∧ up = 0 ∧ r4 = r3 := by
    have h := H4.out
    unfold tailI at h
    rw [if_neg o2, if_neg o3, if_neg o4] at h
    cases h
    exact ⟨rfl, rfl, rfl, rfl⟩
  obtain ⟨rfl, rfl, rfl, rfl⟩ := hb
  clear H4
  have b2 : ((op : Int) == 2) = false := by simp; omega
  have b3 : ((op : Int) == 3) = false := by simp; omega
  have b4 : ((op : Int) == 4) = false := by simp; omega
  have kk0 := XS.cell K3.out.x 0 rfl
  go_upto_region 13 with fail
  clear kk0
  have e0 := XS.cell K3.out.x 0 rfl
  have y0 := blk_free K3.out.z 0
  have p0 := XS.cell K3.out.z 0 rfl
  have e1 := XS.cell K3.out.x 1 rfl
  have y1 := blk_free K3.out.z 1
  have p1 := XS.cell K3.out.z 1 rfl
  have e2 := XS.cell K3.out.x 2 rfl
  have y2 := blk_free K3.out.z 2
  have p2 := XS.cell K3.out.z 2 rfl
  have e3 := XS.cell K3.out.x 3 rfl
  have y3 := blk_free K3.out.z 3
  have p3 := XS.cell K3.out.z 3 rfl
  have e4 := XS.cell K3.out.x 4 rfl
  have y4 := blk_free K3.out.z 4
  have p4 := XS.cell K3.out.z 4 rfl
  have e5 := XS.cell K3.out.x 5 rfl
  have y5 := blk_free K3.out.z 5
  have p5 := XS.cell K3.out.z 5 rfl
  have e6 := XS.cell K3.out.x 6 rfl
  have y6 := blk_free K3.out.z 6
  have p6 := XS.cell K3.out.z 6 rfl
  have e7 := XS.cell K3.out.x 7 rfl
  have y7 := blk_free K3.out.z 7
  have p7 := XS.cell K3.out.z 7 rfl
  have e8 := XS.cell K3.out.x 8 rfl
  have y8 := blk_free K3.out.z 8
  have p8 := XS.cell K3.out.z 8 rfl
  have e9 := XS.cell K3.out.x 9 rfl
  have y9 := blk_free K3.out.z 9
  have p9 := XS.cell K3.out.z 9 rfl
  have e10 := XS.cell K3.out.x 10 rfl
  have y10 := blk_free K3.out.z 10
  have p10 := XS.cell K3.out.z 10 rfl
  have e11 := XS.cell K3.out.x 11 rfl
  have y11 := blk_free K3.out.z 11
  have p11 := XS.cell K3.out.z 11 rfl
  have e12 := XS.cell K3.out.x 12 rfl
  have y12 := blk_free K3.out.z 12
  have p12 := XS.cell K3.out.z 12 rfl
  have e13 := XS.cell K3.out.x 13 rfl
  have y13 := blk_free K3.out.z 13
  have p13 := XS.cell K3.out.z 13 rfl
  go_wp2_with fail
  clear e0 y0 p0 e1 y1 p1 e2 y2 p2 e3 y3 p3 e4 y4 p4 e5 y5 p5 e6 y6 p6 e7 y7 p7 e8 y8 p8 e9 y9 p9 e10 y10 p10 e11 y11 p11 e12 y12 p12 e13 y13 p13
  obtain ⟨w6, hw6, hX6, hg6⟩ := sets14 K3.out.z (.int .i64 (op : Int)) (.int .i64 (tk : Int)) (.int .i64 (sq : Int)) (.int .i64 0) (.int .i64 0) (.int .i64 0) (.int .i64 0) (.int .i64 0) (.slice none 0 0) (.string ⟨#[]⟩) (.slice none 0 0) (.int .i64 0) (.int .i64 0) (.int .i64 0)
  rw [hw6]
  have c0 := XS.cell hX6 0 rfl
  have c1 := XS.cell hX6 1 rfl
  have c2 := XS.cell hX6 2 rfl
  have c3 := XS.cell hX6 3 rfl
  have c4 := XS.cell hX6 4 rfl
  have c5 := XS.cell hX6 5 rfl
  have c6 := XS.cell hX6 6 rfl
  have c7 := XS.cell hX6 7 rfl
  have c8 := XS.cell hX6 8 rfl
  have c9 := XS.cell hX6 9 rfl
  have c10 := XS.cell hX6 10 rfl
  have c11 := XS.cell hX6 11 rfl
  have c12 := XS.cell hX6 12 rfl
  have c13 := XS.cell hX6 13 rfl
  refine bodyPost_ret (v := cmval (op : Int) (tk : Int) (sq : Int) 0 0 0 0 0 0 (.slice none 0 0) (.slice none 0 0) [] 0 0) (by simp [results, Tryz.results38, go_sem, c0, c1, c2, c3, c4, c5, c6, c7, c8, c9, c10, c11, c12, c13]) rfl ?_
  have hb6 := (Below.refl w.heap.size _).grown hg6 K3.out.gr.size (fun j hj => by cases hj; exact Nat.le_refl _)
  refine ⟨.slice none 0 0, .slice none 0 0, rfl, K3.out.c.kept (hg6.block g K3.out.c.lt (fun q => by have := Option.some.inj q; omega)), ?_, grown_low K3.out.gr hb6⟩
  exact ⟨World.ownsRow_nil _ _ _ _, World.ownsRow_nil _ _ _ _, fun j hj => by cases hj⟩

end Go.Proofs.YtckkfjmjcknjdaaGreatDoor
