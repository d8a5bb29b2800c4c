/-
  Walks and mathematics of Text11.
-/
import Derived.Test.YtckkfjmjcknjdaaGreatDoorRCText9
namespace Go.Proofs.YtckkfjmjcknjdaaGreatDoor.P3
end Go.Proofs.YtckkfjmjcknjdaaGreatDoor.P3
namespace Go.Proofs.YtckkfjmjcknjdaaGreatDoor
open Go.RowKit P1 P3 P9 P11 P12 P18 K
set_option linter.unusedVariables false
set_option linter.unusedSimpArgs false
attribute [local go_sem ↓] Go.wp_at_zero Go.wp_at_succ

set_option maxRecDepth 100000 in
set_option maxHeartbeats 16000000 in
theorem specReadCommand_3 (s : ByteArray) (hs : s.size ≤ 1048576) (w : World) {op tk sq : Nat} {r1 r2 r3 : Lf} (h1 : byteL (some (bl s)) = (op, r1)) (h2 : numL r1 = (tk, r2)) (h3 : numL r2 = (sq, r3)) (o3 : op = 3) :
    Calls Tryz.prog 13 #[.string s] w fun e w' => RcrPost (rcR (bl s)) w e w' := by
  have Ho3 := hide o3
  clear o3
  have HH1 := hide h1
  have HH2 := hide h2
  have HH3 := hide h3
  have HV1 := hide (fun g w hc => l09One_L g s hs (some (bl s)) w hc)
  have HV2 := hide (fun g w hc => l05Var_L g s hs r1 w hc)
  have HV3 := hide (fun g w hc => l05Var_L g s hs r2 w hc)
  rw [h1] at HV1
  rw [h2] at HV2
  rw [h3] at HV3
  simp only at HV1 HV2 HV3
  clear h1 h2 h3
  have HZ0 := hide (XS.new w #[.int .i64 0, .int .i64 0, .int .i64 0, .int .i64 0, .int .i64 0, .int .i64 0, .int .i64 0, .int .i64 0, .slice none 0 0, .string ⟨#[]⟩, .slice none 0 0, .int .i64 0, .int .i64 0, .int .i64 0] 31)
  have hb0 := ((Below.refl w.heap.size w).alloc (Nat.le_refl _) (.cells #[.int .i64 0, .int .i64 0, .int .i64 0, .int .i64 0, .int .i64 0, .int .i64 0, .int .i64 0, .int .i64 0, .slice none 0 0, .string ⟨#[]⟩, .slice none 0 0, .int .i64 0, .int .i64 0, .int .i64 0] 31)).alloc (by simp) (.cells #[.string s, .int .i64 0, .bool false] 64)
  have HCU := hide (show RdL ((w.alloc (.cells #[.int .i64 0, .int .i64 0, .int .i64 0, .int .i64 0, .int .i64 0, .int .i64 0, .int .i64 0, .int .i64 0, .slice none 0 0, .string ⟨#[]⟩, .slice none 0 0, .int .i64 0, .int .i64 0, .int .i64 0] 31)).alloc (.cells #[.string s, .int .i64 0, .bool false] 64)) (w.heap.size + 1) s (some (bl s)) by
    have q := heap_alloc_new (w.alloc (.cells #[.int .i64 0, .int .i64 0, .int .i64 0, .int .i64 0, .int .i64 0, .int .i64 0, .int .i64 0, .int .i64 0, .slice none 0 0, .string ⟨#[]⟩, .slice none 0 0, .int .i64 0, .int .i64 0, .int .i64 0] 31)) (.cells #[.string s, .int .i64 0, .bool false] 64)
    rw [World.size_alloc] at q
    exact ⟨0, false, ⟨Nat.zero_le _, q⟩, rfl⟩)
  have HZ1 := hide (HZ0.out.alloc (.cells #[.string s, .int .i64 0, .bool false] 64))
  have HB0 := hide hb0
  have HS0 := hide (show ((w.alloc (.cells #[.int .i64 0, .int .i64 0, .int .i64 0, .int .i64 0, .int .i64 0, .int .i64 0, .int .i64 0, .int .i64 0, .slice none 0 0, .string ⟨#[]⟩, .slice none 0 0, .int .i64 0, .int .i64 0, .int .i64 0] 31)).alloc (.cells #[.string s, .int .i64 0, .bool false] 64)).heap.size = w.heap.size + 1 + 1 by simp)
  clear hb0 HZ0
  go_enter Tryz.func13, Tryz.ntmps13
  go_wp2_with fail
  generalize ((w.alloc (.cells #[.int .i64 0, .int .i64 0, .int .i64 0, .int .i64 0, .int .i64 0, .int .i64 0, .int .i64 0, .int .i64 0, .slice none 0 0, .string ⟨#[]⟩, .slice none 0 0, .int .i64 0, .int .i64 0, .int .i64 0] 31)).alloc (.cells #[.string s, .int .i64 0, .bool false] 64)) = w0 at HCU HZ1 HB0 HS0 ⊢
  refine (HV1.out _ _ HCU.out).mono ?_
  rintro e w1 ⟨rfl, hc1, hg1⟩
  have hs0 := HS0.out
  have hs1 := hg1.size
  have HZ2 := hide (HZ1.out.kept hg1 (fun q => by have := Option.some.inj q; omega))
  have HB1 := hide (HB0.out.grown hg1 HB0.out.size (fun j hj => by cases hj; omega))
  have HC1 := hide hc1
  clear hc1 hg1 HZ1 HB0 HCU
  go_wp2_with fail
  have hbA := (Below.refl w1.heap.size w1).alloc (Nat.le_refl _) (.cells #[.int .i64 (op : Int), .int .i64 0, .int .i64 0, .int .i64 0, .int .i64 0, .int .i64 0, .int .i64 0, .int .i64 0, .slice none 0 0, .string ⟨#[]⟩, .slice none 0 0, .int .i64 0, .int .i64 0, .int .i64 0] 31)
  obtain ⟨E, hE⟩ : ∃ E, w1.heap.size = E := ⟨_, rfl⟩
  have K1 := hide (show CmS w (w1.alloc (.cells #[.int .i64 (op : Int), .int .i64 0, .int .i64 0, .int .i64 0, .int .i64 0, .int .i64 0, .int .i64 0, .int .i64 0, .slice none 0 0, .string ⟨#[]⟩, .slice none 0 0, .int .i64 0, .int .i64 0, .int .i64 0] 31)) (w.heap.size + 1) E s r1 #[.int .i64 (op : Int), .int .i64 0, .int .i64 0, .int .i64 0, .int .i64 0, .int .i64 0, .int .i64 0, .int .i64 0, .slice none 0 0, .string ⟨#[]⟩, .slice none 0 0, .int .i64 0, .int .i64 0, .int .i64 0] from ⟨HC1.out.kept (hbA.block _ HC1.out.lt), by rw [← hE]; exact XS.new w1 _ _, HZ2.out.on hbA, HB1.out.trans (hbA.mono HB1.out.size), by omega, by omega⟩)
  have HE := hide hE
  rw [hE]
  clear hbA HZ2 HB1 HC1 hE
  generalize w1.alloc (.cells #[.int .i64 (op : Int), .int .i64 0, .int .i64 0, .int .i64 0, .int .i64 0, .int .i64 0, .int .i64 0, .int .i64 0, .slice none 0 0, .string ⟨#[]⟩, .slice none 0 0, .int .i64 0, .int .i64 0, .int .i64 0] 31) = v1 at K1 ⊢
  refine (HV2.out _ _ K1.out.c).mono ?_
  rintro e x2 ⟨rfl, hc, hg⟩
  have G2 := hide (K1.out.step hc hg)
  have K2 := hide (show CmS w (x2.setCell ⟨E, 1, none⟩ (.int .i64 (tk : Int))) (w.heap.size + 1) E s r2 #[.int .i64 (op : Int), .int .i64 (tk : Int), .int .i64 0, .int .i64 0, .int .i64 0, .int .i64 0, .int .i64 0, .int .i64 0, .slice none 0 0, .string ⟨#[]⟩, .slice none 0 0, .int .i64 0, .int .i64 0, .int .i64 0] from G2.out.put (cset1 G2.out.x) (blk_grown _ _ _ _))
  clear hc hg K1
  have e0 := XS.cell G2.out.x 1 rfl
  have f0 := blk_free G2.out.x 1
  go_wp2_with fail
  clear e0 f0 G2
  generalize x2.setCell ⟨E, 1, none⟩ (.int .i64 (tk : Int)) = v2 at K2 ⊢
  refine (HV3.out _ _ K2.out.c).mono ?_
  rintro e x3 ⟨rfl, hc, hg⟩
  have G3 := hide (K2.out.step hc hg)
  have K3 := hide (show CmS w (x3.setCell ⟨E, 2, none⟩ (.int .i64 (sq : Int))) (w.heap.size + 1) E s r3 #[.int .i64 (op : Int), .int .i64 (tk : Int), .int .i64 (sq : Int), .int .i64 0, .int .i64 0, .int .i64 0, .int .i64 0, .int .i64 0, .slice none 0 0, .string ⟨#[]⟩, .slice none 0 0, .int .i64 0, .int .i64 0, .int .i64 0] from G3.out.put (cset2 G3.out.x) (blk_grown _ _ _ _))
  clear hc hg K2
  have e0 := XS.cell G3.out.x 2 rfl
  have f0 := blk_free G3.out.x 2
  have kk0 := XS.cell K3.out.x 0 rfl
  go_upto_region 5 with fail
  clear e0 f0 G3 kk0
  generalize x3.setCell ⟨E, 2, none⟩ (.int .i64 (sq : Int)) = v3 at K3 ⊢
  have hEs := HE.out
  have o3 := Ho3.out
  subst o3
  have HSR0 := hide (spRd_3 HH1.out HH2.out HH3.out)
  have HVS := hide (fun g w hc => l05ReadShort_L g s hs r3 w hc)
  have hxs := shL_len (most := 1048576) (l := []) r3
  obtain ⟨x, r4, hx⟩ : ∃ a b, shL 1048576 r3 = (a, b) := ⟨_, _, rfl⟩
  rw [hx] at HSR0 HVS hxs
  simp only at HSR0 HVS hxs
  clear hx
  have HRE := hide (fun w => specReadEvent_any ⟨x.toArray⟩ (by rw [size_mk8]; omega) w)
  rw [bl_mk8] at HRE
  obtain ⟨_, _, hxl, hwl, hwp⟩ := reR_small x
  generalize reR x = q at HRE HSR0 hxl hwl hwp
  obtain ⟨ev, ok⟩ := q
  obtain ⟨id, kd, sn, us, mb, zl, tx, zp, dp⟩ := ev
  unfold RePost at HRE
  simp only at HRE HSR0 hxl hwl hwp
  have HSR := hide HSR0.out
  obtain ⟨NL, hNL⟩ : ∃ NL, zl.length = NL := ⟨_, rfl⟩
  obtain ⟨NP, hNP⟩ : ∃ NP, zp.length = NP := ⟨_, rfl⟩
  rw [hNL, hNP] at HRE
  have HNL := hide hNL
  have HNP := hide hNP
  have HWL := hide hwl
  have HWP := hide hwp
  clear hNL hNP hwl hwp HSR0
  have kk0 := XS.cell K3.out.x 0 rfl
  go_wp2_with fail
  clear kk0
  refine (HVS.out _ _ K3.out.c).mono ?_
  rintro e x4 ⟨rfl, hc, hg⟩
  have K4 := hide (K3.out.step hc hg)
  clear hc hg K3
  go_wp2_with fail
  refine (HRE.out _).mono ?_
  rintro e x5 ⟨vl, vp, rfl, ho, hb⟩
  obtain ⟨oa, cl, hvl⟩ := row_form ho.l
  obtain ⟨ob, cp, hvp⟩ := row_form ho.p
  subst hvl
  subst hvp
  have hlw := K4.out.low.size
  have hlz := K4.out.z.lt
  have hlx := K4.out.x.lt
  have K5 := hide (K4.out.on hb)
  have HO5 := hide ho
  have HZ5 := hide (Nat.lt_of_lt_of_le hlx hb.size)
  clear hb ho
  have e3 := XS.cell K5.out.x 3 rfl
  have f3 := blk_free K5.out.x 3
  have e4 := XS.cell K5.out.x 4 rfl
  have f4 := blk_free K5.out.x 4
  have e5 := XS.cell K5.out.x 5 rfl
  have f5 := blk_free K5.out.x 5
  have e6 := XS.cell K5.out.x 6 rfl
  have f6 := blk_free K5.out.x 6
  have e7 := XS.cell K5.out.x 7 rfl
  have f7 := blk_free K5.out.x 7
  have e8 := XS.cell K5.out.x 8 rfl
  have f8 := blk_free K5.out.x 8
  have e9 := XS.cell K5.out.x 9 rfl
  have f9 := blk_free K5.out.x 9
  have e10 := XS.cell K5.out.x 10 rfl
  have f10 := blk_free K5.out.x 10
  have e11 := XS.cell K5.out.x 11 rfl
  have f11 := blk_free K5.out.x 11
  go_upto_region 13 with fail
  clear e3 f3 e4 f4 e5 f5 e6 f6 e7 f7 e8 f8 e9 f9 e10 f10 e11 f11
  obtain ⟨x6, hx6, hX6, hg7⟩ := sets9 K5.out.x (.int .i64 id) (.int .i64 kd) (.int .i64 sn) (.int .i64 us) (.int .i64 mb) (.slice oa NL cl) (.string ⟨tx.toArray⟩) (.slice ob NP cp) (.int .i64 dp)
  rw [hx6]
  clear hx6
  have K6 := hide (show CmS w x6 (w.heap.size + 1) E s r4 #[.int .i64 3, .int .i64 (tk : Int), .int .i64 (sq : Int), .int .i64 id, .int .i64 kd, .int .i64 sn, .int .i64 us, .int .i64 mb, .slice oa NL cl, .string ⟨tx.toArray⟩, .slice ob NP cp, .int .i64 dp, .int .i64 0, .int .i64 0] from K5.out.put hX6 hg7)
  have HO6 := hide (show EvOwn x6 (w.heap.size + 1) (.slice oa NL cl) (.slice ob NP cp) NL NP zl zp from (HO5.out.kept hg7 (by omega)).down (by omega))
  clear hX6 hg7 K5 HO5 K4
  have e0 := XS.cell K6.out.x 0 rfl
  have e1 := XS.cell K6.out.x 1 rfl
  have e2 := XS.cell K6.out.x 2 rfl
  have e3 := XS.cell K6.out.x 3 rfl
  have e4 := XS.cell K6.out.x 4 rfl
  have e5 := XS.cell K6.out.x 5 rfl
  have e6 := XS.cell K6.out.x 6 rfl
  have e7 := XS.cell K6.out.x 7 rfl
  have e8 := XS.cell K6.out.x 8 rfl
  have e9 := XS.cell K6.out.x 9 rfl
  have e10 := XS.cell K6.out.x 10 rfl
  have e11 := XS.cell K6.out.x 11 rfl
  have e12 := XS.cell K6.out.x 12 rfl
  have e13 := XS.cell K6.out.x 13 rfl
  go_wp2_with fail
  clear e0 e1 e2 e3 e4 e5 e6 e7 e8 e9 e10 e11 e12 e13
  obtain ⟨_, _, he, hat⟩ := intsAt_of_own HO6.out.l HWL.out
  cases he
  obtain ⟨_, _, he, hbt⟩ := intsAt_of_own HO6.out.p HWP.out
  cases he
  refine (specCommandText_any 3 (tk : Int) (sq : Int) id kd sn us mb dp oa NL cl tx ob NP cp 0 0 zl zp (by omega) _ hat hbt).mono ?_
  clear hat hbt
  obtain ⟨st, hst⟩ : ∃ st, cmdText (⟨3, (tk : Int), (sq : Int), ⟨id, kd, sn, us, mb, zl, tx, zp, dp⟩, 0, 0⟩ : CmdV) = st := ⟨_, rfl⟩
  have HST := hide hst
  rw [hst]
  clear hst
  have HSR2 := hide (fun hn => SpRd.no HSR.out hn)
  rw [HST.out] at HSR2
  clear HSR
  cases st with
  | none =>
    have HNO := hide (HSR2.out (fun q => by cases q.2))
    rw [show etV none = .tuple #[.string ⟨#[]⟩, .bool false] from rfl]
    rintro e y4 ⟨rfl, hb4⟩
    have HL := hide (K6.out.on hb4)
    have HO7 := hide (HO6.out.on hb4)
    clear HO6
    clear hb4 K6
    have cb := HL.out.c.bad
    cases hb11 : r4.isNone with
    | true =>
      rw [hb11] at cb
      have y0 := blk_free HL.out.z 0
      have p0 := XS.cell HL.out.z 0 rfl
      have y1 := blk_free HL.out.z 1
      have p1 := XS.cell HL.out.z 1 rfl
      have y2 := blk_free HL.out.z 2
      have p2 := XS.cell HL.out.z 2 rfl
      have y3 := blk_free HL.out.z 3
      have p3 := XS.cell HL.out.z 3 rfl
      have y4 := blk_free HL.out.z 4
      have p4 := XS.cell HL.out.z 4 rfl
      have y5 := blk_free HL.out.z 5
      have p5 := XS.cell HL.out.z 5 rfl
      have y6 := blk_free HL.out.z 6
      have p6 := XS.cell HL.out.z 6 rfl
      have y7 := blk_free HL.out.z 7
      have p7 := XS.cell HL.out.z 7 rfl
      have y8 := blk_free HL.out.z 8
      have p8 := XS.cell HL.out.z 8 rfl
      have y9 := blk_free HL.out.z 9
      have p9 := XS.cell HL.out.z 9 rfl
      have y10 := blk_free HL.out.z 10
      have p10 := XS.cell HL.out.z 10 rfl
      have y11 := blk_free HL.out.z 11
      have p11 := XS.cell HL.out.z 11 rfl
      have y12 := blk_free HL.out.z 12
      have p12 := XS.cell HL.out.z 12 rfl
      have y13 := blk_free HL.out.z 13
      have p13 := XS.cell HL.out.z 13 rfl
      go_wp2_with fail
      clear y0 p0 y1 p1 y2 p2 y3 p3 y4 p4 y5 p5 y6 p6 y7 p7 y8 p8 y9 p9 y10 p10 y11 p11 y12 p12 y13 p13
      obtain ⟨w6, hw6, hX6, hg6⟩ := sets14 HL.out.z (.int .i64 0) (.int .i64 0) (.int .i64 0) (.int .i64 0) (.int .i64 0) (.int .i64 0) (.int .i64 0) (.int .i64 0) (.slice none 0 0) (.string ⟨#[]⟩) (.slice none 0 0) (.int .i64 0) (.int .i64 0) (.int .i64 0)
      rw [hw6]
      have c0 := XS.cell hX6 0 rfl
      have c1 := XS.cell hX6 1 rfl
      have c2 := XS.cell hX6 2 rfl
      have c3 := XS.cell hX6 3 rfl
      have c4 := XS.cell hX6 4 rfl
      have c5 := XS.cell hX6 5 rfl
      have c6 := XS.cell hX6 6 rfl
      have c7 := XS.cell hX6 7 rfl
      have c8 := XS.cell hX6 8 rfl
      have c9 := XS.cell hX6 9 rfl
      have c10 := XS.cell hX6 10 rfl
      have c11 := XS.cell hX6 11 rfl
      have c12 := XS.cell hX6 12 rfl
      have c13 := XS.cell hX6 13 rfl
      refine bodyPost_ret (v := .tuple #[cmval 0 0 0 0 0 0 0 0 0 (.slice none 0 0) (.slice none 0 0) [] 0 0, .bool false]) (by simp [results, Tryz.results13, go_sem, c0, c1, c2, c3, c4, c5, c6, c7, c8, c9, c10, c11, c12, c13]) rfl ?_
      exact RcrPost.zero HNO.out (HL.out.low.grown hg6 HL.out.low.size (fun j hj => by cases hj; exact Nat.le_refl _))
    | false =>
      rw [hb11] at cb
      have y0 := blk_free HL.out.z 0
      have p0 := XS.cell HL.out.z 0 rfl
      have y1 := blk_free HL.out.z 1
      have p1 := XS.cell HL.out.z 1 rfl
      have y2 := blk_free HL.out.z 2
      have p2 := XS.cell HL.out.z 2 rfl
      have y3 := blk_free HL.out.z 3
      have p3 := XS.cell HL.out.z 3 rfl
      have y4 := blk_free HL.out.z 4
      have p4 := XS.cell HL.out.z 4 rfl
      have y5 := blk_free HL.out.z 5
      have p5 := XS.cell HL.out.z 5 rfl
      have y6 := blk_free HL.out.z 6
      have p6 := XS.cell HL.out.z 6 rfl
      have y7 := blk_free HL.out.z 7
      have p7 := XS.cell HL.out.z 7 rfl
      have y8 := blk_free HL.out.z 8
      have p8 := XS.cell HL.out.z 8 rfl
      have y9 := blk_free HL.out.z 9
      have p9 := XS.cell HL.out.z 9 rfl
      have y10 := blk_free HL.out.z 10
      have p10 := XS.cell HL.out.z 10 rfl
      have y11 := blk_free HL.out.z 11
      have p11 := XS.cell HL.out.z 11 rfl
      have y12 := blk_free HL.out.z 12
      have p12 := XS.cell HL.out.z 12 rfl
      have y13 := blk_free HL.out.z 13
      have p13 := XS.cell HL.out.z 13 rfl
      go_wp2_with fail
      clear y0 p0 y1 p1 y2 p2 y3 p3 y4 p4 y5 p5 y6 p6 y7 p7 y8 p8 y9 p9 y10 p10 y11 p11 y12 p12 y13 p13
      obtain ⟨w6, hw6, hX6, hg6⟩ := sets14 HL.out.z (.int .i64 0) (.int .i64 0) (.int .i64 0) (.int .i64 0) (.int .i64 0) (.int .i64 0) (.int .i64 0) (.int .i64 0) (.slice none 0 0) (.string ⟨#[]⟩) (.slice none 0 0) (.int .i64 0) (.int .i64 0) (.int .i64 0)
      rw [hw6]
      have c0 := XS.cell hX6 0 rfl
      have c1 := XS.cell hX6 1 rfl
      have c2 := XS.cell hX6 2 rfl
      have c3 := XS.cell hX6 3 rfl
      have c4 := XS.cell hX6 4 rfl
      have c5 := XS.cell hX6 5 rfl
      have c6 := XS.cell hX6 6 rfl
      have c7 := XS.cell hX6 7 rfl
      have c8 := XS.cell hX6 8 rfl
      have c9 := XS.cell hX6 9 rfl
      have c10 := XS.cell hX6 10 rfl
      have c11 := XS.cell hX6 11 rfl
      have c12 := XS.cell hX6 12 rfl
      have c13 := XS.cell hX6 13 rfl
      refine bodyPost_ret (v := .tuple #[cmval 0 0 0 0 0 0 0 0 0 (.slice none 0 0) (.slice none 0 0) [] 0 0, .bool false]) (by simp [results, Tryz.results13, go_sem, c0, c1, c2, c3, c4, c5, c6, c7, c8, c9, c10, c11, c12, c13]) rfl ?_
      exact RcrPost.zero HNO.out (HL.out.low.grown hg6 HL.out.low.size (fun j hj => by cases hj; exact Nat.le_refl _))
  | some T2 =>
    rw [show etV (some T2) = .tuple #[.string ⟨T2.toArray⟩, .bool true] from rfl]
    obtain ⟨Z, hZ⟩ : ∃ Z, (⟨T2.toArray⟩ : ByteArray) = Z := ⟨_, rfl⟩
    rw [hZ]
    have hTZ : (T2 = bl s) ↔ Z = s := by
      rw [← hZ]
      constructor
      · intro h; rw [h]
      · intro h; rw [← h]
    have hZs : (Z.toList == s.toList) = decide (T2 = bl s) := by
      rw [Lib.toList_data, Lib.toList_data]
      by_cases h : T2 = bl s
      · rw [decide_eq_true h, hTZ.1 h]; simp
      · rw [decide_eq_false h, beq_eq_false_iff_ne]
        intro q
        apply h
        rw [← hZ] at q
        exact q
    clear hZ
    rintro e y4 ⟨rfl, hb4⟩
    have HL := hide (K6.out.on hb4)
    have HO7 := hide (HO6.out.on hb4)
    clear HO6
    clear hb4 K6
    have cb := HL.out.c.bad
    cases hb11 : r4.isNone with
    | true =>
      have HNO := hide (HSR2.out (fun q => by
        cases hr : r4 with
        | none => exact q.1 hr
        | some x => rw [hr] at hb11; cases hb11))
      rw [hb11] at cb
      clear hTZ hZs
      have y0 := blk_free HL.out.z 0
      have p0 := XS.cell HL.out.z 0 rfl
      have y1 := blk_free HL.out.z 1
      have p1 := XS.cell HL.out.z 1 rfl
      have y2 := blk_free HL.out.z 2
      have p2 := XS.cell HL.out.z 2 rfl
      have y3 := blk_free HL.out.z 3
      have p3 := XS.cell HL.out.z 3 rfl
      have y4 := blk_free HL.out.z 4
      have p4 := XS.cell HL.out.z 4 rfl
      have y5 := blk_free HL.out.z 5
      have p5 := XS.cell HL.out.z 5 rfl
      have y6 := blk_free HL.out.z 6
      have p6 := XS.cell HL.out.z 6 rfl
      have y7 := blk_free HL.out.z 7
      have p7 := XS.cell HL.out.z 7 rfl
      have y8 := blk_free HL.out.z 8
      have p8 := XS.cell HL.out.z 8 rfl
      have y9 := blk_free HL.out.z 9
      have p9 := XS.cell HL.out.z 9 rfl
      have y10 := blk_free HL.out.z 10
      have p10 := XS.cell HL.out.z 10 rfl
      have y11 := blk_free HL.out.z 11
      have p11 := XS.cell HL.out.z 11 rfl
      have y12 := blk_free HL.out.z 12
      have p12 := XS.cell HL.out.z 12 rfl
      have y13 := blk_free HL.out.z 13
      have p13 := XS.cell HL.out.z 13 rfl
      go_wp2_with fail
      clear y0 p0 y1 p1 y2 p2 y3 p3 y4 p4 y5 p5 y6 p6 y7 p7 y8 p8 y9 p9 y10 p10 y11 p11 y12 p12 y13 p13
      obtain ⟨w6, hw6, hX6, hg6⟩ := sets14 HL.out.z (.int .i64 0) (.int .i64 0) (.int .i64 0) (.int .i64 0) (.int .i64 0) (.int .i64 0) (.int .i64 0) (.int .i64 0) (.slice none 0 0) (.string ⟨#[]⟩) (.slice none 0 0) (.int .i64 0) (.int .i64 0) (.int .i64 0)
      rw [hw6]
      have c0 := XS.cell hX6 0 rfl
      have c1 := XS.cell hX6 1 rfl
      have c2 := XS.cell hX6 2 rfl
      have c3 := XS.cell hX6 3 rfl
      have c4 := XS.cell hX6 4 rfl
      have c5 := XS.cell hX6 5 rfl
      have c6 := XS.cell hX6 6 rfl
      have c7 := XS.cell hX6 7 rfl
      have c8 := XS.cell hX6 8 rfl
      have c9 := XS.cell hX6 9 rfl
      have c10 := XS.cell hX6 10 rfl
      have c11 := XS.cell hX6 11 rfl
      have c12 := XS.cell hX6 12 rfl
      have c13 := XS.cell hX6 13 rfl
      refine bodyPost_ret (v := .tuple #[cmval 0 0 0 0 0 0 0 0 0 (.slice none 0 0) (.slice none 0 0) [] 0 0, .bool false]) (by simp [results, Tryz.results13, go_sem, c0, c1, c2, c3, c4, c5, c6, c7, c8, c9, c10, c11, c12, c13]) rfl ?_
      exact RcrPost.zero HNO.out (HL.out.low.grown hg6 HL.out.low.size (fun j hj => by cases hj; exact Nat.le_refl _))
    | false =>
      rw [hb11] at cb
      by_cases hT2 : T2 = bl s
      · obtain rfl := hTZ.1 hT2
        have HYES := hide (SpRd.yes (l := bl Z) (x := (⟨3, (tk : Int), (sq : Int), ⟨id, kd, sn, us, mb, zl, tx, zp, dp⟩, 0, 0⟩ : CmdV)) (by rw [HST.out, hT2]))
        rw [decide_eq_true hT2] at hZs
        clear hTZ hT2
        have e0 := XS.cell HL.out.x 0 rfl
        have e1 := XS.cell HL.out.x 1 rfl
        have e2 := XS.cell HL.out.x 2 rfl
        have e3 := XS.cell HL.out.x 3 rfl
        have e4 := XS.cell HL.out.x 4 rfl
        have e5 := XS.cell HL.out.x 5 rfl
        have e6 := XS.cell HL.out.x 6 rfl
        have e7 := XS.cell HL.out.x 7 rfl
        have e8 := XS.cell HL.out.x 8 rfl
        have e9 := XS.cell HL.out.x 9 rfl
        have e10 := XS.cell HL.out.x 10 rfl
        have e11 := XS.cell HL.out.x 11 rfl
        have e12 := XS.cell HL.out.x 12 rfl
        have e13 := XS.cell HL.out.x 13 rfl
        have y0 := blk_free HL.out.z 0
        have p0 := XS.cell HL.out.z 0 rfl
        have y1 := blk_free HL.out.z 1
        have p1 := XS.cell HL.out.z 1 rfl
        have y2 := blk_free HL.out.z 2
        have p2 := XS.cell HL.out.z 2 rfl
        have y3 := blk_free HL.out.z 3
        have p3 := XS.cell HL.out.z 3 rfl
        have y4 := blk_free HL.out.z 4
        have p4 := XS.cell HL.out.z 4 rfl
        have y5 := blk_free HL.out.z 5
        have p5 := XS.cell HL.out.z 5 rfl
        have y6 := blk_free HL.out.z 6
        have p6 := XS.cell HL.out.z 6 rfl
        have y7 := blk_free HL.out.z 7
        have p7 := XS.cell HL.out.z 7 rfl
        have y8 := blk_free HL.out.z 8
        have p8 := XS.cell HL.out.z 8 rfl
        have y9 := blk_free HL.out.z 9
        have p9 := XS.cell HL.out.z 9 rfl
        have y10 := blk_free HL.out.z 10
        have p10 := XS.cell HL.out.z 10 rfl
        have y11 := blk_free HL.out.z 11
        have p11 := XS.cell HL.out.z 11 rfl
        have y12 := blk_free HL.out.z 12
        have p12 := XS.cell HL.out.z 12 rfl
        have y13 := blk_free HL.out.z 13
        have p13 := XS.cell HL.out.z 13 rfl
        go_wp2_with fail
        clear y0 p0 y1 p1 y2 p2 y3 p3 y4 p4 y5 p5 y6 p6 y7 p7 y8 p8 y9 p9 y10 p10 y11 p11 y12 p12 y13 p13
        obtain ⟨w6, hw6, hX6, hg6⟩ := sets14 HL.out.z (.int .i64 3) (.int .i64 (tk : Int)) (.int .i64 (sq : Int)) (.int .i64 id) (.int .i64 kd) (.int .i64 sn) (.int .i64 us) (.int .i64 mb) (.slice oa NL cl) (.string ⟨tx.toArray⟩) (.slice ob NP cp) (.int .i64 dp) (.int .i64 0) (.int .i64 0)
        rw [hw6]
        have c0 := XS.cell hX6 0 rfl
        have c1 := XS.cell hX6 1 rfl
        have c2 := XS.cell hX6 2 rfl
        have c3 := XS.cell hX6 3 rfl
        have c4 := XS.cell hX6 4 rfl
        have c5 := XS.cell hX6 5 rfl
        have c6 := XS.cell hX6 6 rfl
        have c7 := XS.cell hX6 7 rfl
        have c8 := XS.cell hX6 8 rfl
        have c9 := XS.cell hX6 9 rfl
        have c10 := XS.cell hX6 10 rfl
        have c11 := XS.cell hX6 11 rfl
        have c12 := XS.cell hX6 12 rfl
        have c13 := XS.cell hX6 13 rfl
        refine bodyPost_ret (v := .tuple #[cmval 3 (tk : Int) (sq : Int) id kd sn us mb dp (.slice oa NL cl) (.slice ob NP cp) tx 0 0, .bool true]) (by simp [results, Tryz.results13, go_sem, c0, c1, c2, c3, c4, c5, c6, c7, c8, c9, c10, c11, c12, c13]) rfl ?_
        refine RcrPost.found HYES.out ?_ (HL.out.low.grown hg6 HL.out.low.size (fun j hj => by cases hj; exact Nat.le_refl _))
        simp only
        rw [HNL.out, HNP.out]
        exact (HO7.out.kept hg6 (by omega)).down (by omega)
      · have HNO := hide (HSR2.out (fun q => hT2 (Option.some.inj q.2)))
        rw [decide_eq_false hT2] at hZs
        clear hTZ hT2
        have y0 := blk_free HL.out.z 0
        have p0 := XS.cell HL.out.z 0 rfl
        have y1 := blk_free HL.out.z 1
        have p1 := XS.cell HL.out.z 1 rfl
        have y2 := blk_free HL.out.z 2
        have p2 := XS.cell HL.out.z 2 rfl
        have y3 := blk_free HL.out.z 3
        have p3 := XS.cell HL.out.z 3 rfl
        have y4 := blk_free HL.out.z 4
        have p4 := XS.cell HL.out.z 4 rfl
        have y5 := blk_free HL.out.z 5
        have p5 := XS.cell HL.out.z 5 rfl
        have y6 := blk_free HL.out.z 6
        have p6 := XS.cell HL.out.z 6 rfl
        have y7 := blk_free HL.out.z 7
        have p7 := XS.cell HL.out.z 7 rfl
        have y8 := blk_free HL.out.z 8
        have p8 := XS.cell HL.out.z 8 rfl
        have y9 := blk_free HL.out.z 9
        have p9 := XS.cell HL.out.z 9 rfl
        have y10 := blk_free HL.out.z 10
        have p10 := XS.cell HL.out.z 10 rfl
        have y11 := blk_free HL.out.z 11
        have p11 := XS.cell HL.out.z 11 rfl
        have y12 := blk_free HL.out.z 12
        have p12 := XS.cell HL.out.z 12 rfl
        have y13 := blk_free HL.out.z 13
        have p13 := XS.cell HL.out.z 13 rfl
        go_wp2_with fail
        clear y0 p0 y1 p1 y2 p2 y3 p3 y4 p4 y5 p5 y6 p6 y7 p7 y8 p8 y9 p9 y10 p10 y11 p11 y12 p12 y13 p13
        obtain ⟨w6, hw6, hX6, hg6⟩ := sets14 HL.out.z (.int .i64 0) (.int .i64 0) (.int .i64 0) (.int .i64 0) (.int .i64 0) (.int .i64 0) (.int .i64 0) (.int .i64 0) (.slice none 0 0) (.string ⟨#[]⟩) (.slice none 0 0) (.int .i64 0) (.int .i64 0) (.int .i64 0)
        rw [hw6]
        have c0 := XS.cell hX6 0 rfl
        have c1 := XS.cell hX6 1 rfl
        have c2 := XS.cell hX6 2 rfl
        have c3 := XS.cell hX6 3 rfl
        have c4 := XS.cell hX6 4 rfl
        have c5 := XS.cell hX6 5 rfl
        have c6 := XS.cell hX6 6 rfl
        have c7 := XS.cell hX6 7 rfl
        have c8 := XS.cell hX6 8 rfl
        have c9 := XS.cell hX6 9 rfl
        have c10 := XS.cell hX6 10 rfl
        have c11 := XS.cell hX6 11 rfl
        have c12 := XS.cell hX6 12 rfl
        have c13 := XS.cell hX6 13 rfl
        refine bodyPost_ret (v := .tuple #[cmval 0 0 0 0 0 0 0 0 0 (.slice none 0 0) (.slice none 0 0) [] 0 0, .bool false]) (by simp [results, Tryz.results13, go_sem, c0, c1, c2, c3, c4, c5, c6, c7, c8, c9, c10, c11, c12, c13]) rfl ?_
        exact RcrPost.zero HNO.out (HL.out.low.grown hg6 HL.out.low.size (fun j hj => by cases hj; exact Nat.le_refl _))

end Go.Proofs.YtckkfjmjcknjdaaGreatDoor
