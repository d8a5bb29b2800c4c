/-
  Walks and mathematics of HallA2.
-/
import Derived.Test.YtckkfjmjcknjdaaSHHallA1
import Derived.Test.YtckkfjmjcknjdaaSHRoomW3
namespace Go.Proofs.Ytckkfjmjcknjdaa.P1
end Go.Proofs.Ytckkfjmjcknjdaa.P1
namespace Go.Proofs.Ytckkfjmjcknjdaa.P11
end Go.Proofs.Ytckkfjmjcknjdaa.P11
namespace Go.Proofs.Ytckkfjmjcknjdaa.P14
end Go.Proofs.Ytckkfjmjcknjdaa.P14
namespace Go.Proofs.Ytckkfjmjcknjdaa.P3
end Go.Proofs.Ytckkfjmjcknjdaa.P3
namespace Go.Proofs.Ytckkfjmjcknjdaa.P5
end Go.Proofs.Ytckkfjmjcknjdaa.P5
namespace Go.Proofs.Ytckkfjmjcknjdaa
open Go.RowKit P1 P3 P5 P9 P11 P12 P14 K
set_option linter.unusedVariables false
set_option linter.unusedSimpArgs false

structure FineH (ps : List SesV) (es : List EvV) (ss : List (List (Int × Int))) (gs : List Bool) (os : List OutX) : Prop where
  pl : ps.length ≤ 1048576
  pd : ∀ f ∈ ps, f.data.size ≤ 1048576
  r : FineR es ss gs
  ol : os.length ≤ 1048576
  ow : idW os ≤ 1048576

def SzH (w : World) (ps : List SesV) (es : List EvV) (ss : List (List (Int × Int))) (gs : List Bool) (os : List OutX) (left : Int) (e : Ending) (w' : World) : Prop := ∃ z : Int, e = .returned (.int .i64 z) ∧ z ≤ left ∧ (0 ≤ z → FineH ps es ss gs os) ∧ Below w.heap.size w w'

set_option maxHeartbeats 2000000 in
theorem szHall_any (left : Int) (h0 : 0 ≤ left) (h1 : left ≤ 1048576) (pa : Option Addr) (pn pc : Nat) (oa : Option Addr) (n cap : Nat) (so : Option Addr) (sn sc : Nat) (go : Option Addr) (gn gc : Nat) (qa : Option Addr) (qn qc : Nat) (ps : List SesV) (es : List EvV) (ss : List (List (Int × Int))) (gs : List Bool) (os : List OutX) (w : World) (hat : HallAt w pa pn pc oa n cap so sn sc go gn gc qa qn qc ps es ss gs os) (hw : HallWide ps es ss os) :
    Calls Try.prog 10 #[hallv pa pn pc oa n cap so sn sc go gn gc qa qn qc, .int .i64 left] w (SzH w ps es ss gs os left) := by
  obtain ⟨W0, hW0⟩ : ∃ W0, w.alloc (.cells #[.slice pa pn pc, .slice oa n cap, .slice so sn sc, .slice go gn gc, .slice qa qn qc] 42) = W0 := ⟨_, rfl⟩
  have hb0 : Below w.heap.size w W0 := by rw [← hW0]; exact (Below.refl _ _).alloc (Nat.le_refl _) _
  have hR0 : W0.heap[w.heap.size]? = some (.cells #[.slice pa pn pc, .slice oa n cap, .slice so sn sc, .slice go gn gc, .slice qa qn qc] 42 (0, 0)) := by rw [← hW0]; exact heap_alloc_new _ _
  have r0 := blk_cell hR0 0 rfl
  have HSE := hide (szSessionS_any pa pn pc ps left h0 h1 W0 (hat.p.below hb0) hw.p)
  have HAT := hide (hat.below hb0)
  have HR0 := hide hR0
  have HB0 := hide hb0
  have HW0 := hide hW0
  clear hat hw hR0 hb0 hW0
  go_enter Try.func10, Try.ntmps10
  go_upto_region 1 with fail
  rw [HW0.out]
  clear HW0
  by_cases c0 : szSes ps left < 0
  · go_upto_region 2 with (go_at_call 23; (with_reducible refine HSE.out.mono ?_); rintro r w1 ⟨rfl, hb1⟩)
    go_wp2_with fail
    go_ret
    exact ⟨-1, rfl, by omega, fun h => by omega, HB0.out.trans (hb1.mono HB0.out.size)⟩
  have hfine := szSes_fine (es := ps) h1 h0 (by omega)
  have HF0 := hide hfine
  have hz0 := hfine.1
  generalize szSes ps left = z0 at HSE c0 hz0
  clear hfine
  go_upto_region 4 with (go_at_call 23; (with_reducible refine HSE.out.mono ?_); rintro r w1 ⟨rfl, hb1⟩)
  have hR1 := (hb1.block w.heap.size (blk_lt HR0.out)).trans HR0.out
  have r1 := blk_cell hR1 1 rfl
  have r2 := blk_cell hR1 2 rfl
  have r3 := blk_cell hR1 3 rfl
  have HB1 := hide (HB0.out.trans (hb1.mono HB0.out.size))
  have HA1 := hide (HAT.out.below hb1)
  have HR1 := hide hR1
  clear hb1 hR1 r0 HSE HAT HR0
  have HSR := hide (szRoom_at z0 (by omega) (by omega) oa n cap es so sn sc ss go gn gc gs w1 HA1.out.e HA1.out.s HA1.out.g)
  go_upto_region 5 with (go_at_call 24; (with_reducible refine HSR.out.mono ?_); rintro r w2 ⟨z1, rfl, hz1, hf1, hb2⟩)
  have hR2 := (hb2.block w.heap.size (blk_lt HR1.out)).trans HR1.out
  have r4 := blk_cell hR2 4 rfl
  have HB2 := hide (HB1.out.trans (hb2.mono HB1.out.size))
  have HA2 := hide (HA1.out.below hb2)
  have HF1 := hide hf1
  clear hb2 hR2 r1 r2 r3 HSR HA1 HR1 hf1
  by_cases c1 : z1 < 0
  · go_wp2_with fail
    go_ret
    exact ⟨-1, rfl, by omega, fun h => by omega, HB2.out⟩
  · have HSO := hide (szOutS_any qa qn qc os z1 (by omega) (by omega) w2 HA2.out.o)
    go_upto_region 8 with (go_at_call 25; (with_reducible refine HSO.out.mono ?_); rintro r w3 ⟨z2, rfl, hz2, hf2, hb3⟩)
    have HB3 := hide (HB2.out.trans (hb3.mono HB2.out.size))
    have HF2 := hide hf2
    clear hb3 hf2
    by_cases c2 : z2 < 0
    · go_wp2_with fail
      go_ret
      exact ⟨-1, rfl, by omega, fun h => by omega, HB3.out⟩
    · go_wp2_with fail
      go_ret
      refine ⟨z2, rfl, by omega, fun _ => ?_, HB3.out⟩
      have h2 := HF2.out (by omega)
      exact ⟨HF0.out.2.1, HF0.out.2.2, HF1.out (by omega), by omega, by omega⟩

def Up (lo : Nat) (w w' : World) : Prop := w.heap.size ≤ w'.heap.size ∧ ∀ k, lo ≤ k → k < w.heap.size → w'.heap[k]? = w.heap[k]?

theorem Up.below {lo : Nat} {w w' : World} (h : Below w.heap.size w w') : Up lo w w' := ⟨h.size, fun k _ hk => h.block k hk⟩

theorem Up.grown {lo v : Nat} {w w' : World} (h : w.grownBy w' (some v)) (hv : v < lo) : Up lo w w' := ⟨h.size, fun k hl hk => h.block k hk (fun e => by have := Option.some.inj e; omega)⟩

theorem Up.trans {lo : Nat} {a b c : World} (h : Up lo a b) (k : Up lo b c) : Up lo a c := ⟨Nat.le_trans h.1 k.1, fun i hl hi => (k.2 i hl (Nat.lt_of_lt_of_le hi h.1)).trans (h.2 i hl hi)⟩

theorem Up.more {lo lo' : Nat} {a b : World} (h : Up lo a b) (hl : lo ≤ lo') : Up lo' a b := ⟨h.1, fun i h1 hi => h.2 i (Nat.le_trans hl h1) hi⟩

theorem RmSh.up {w w' : World} {lo hi g h k : Nat} {es : List EvV} {ss : List (List (Int × Int))} {gs : List Bool} {xs : List Value} (r : RmSh w lo hi g h k es ss gs xs) (u : Up lo w w') : RmSh w' lo hi g h k es ss gs xs := by
  obtain ⟨m1, m2, a1, a2, a3, a4, a5, a6⟩ := r.fine
  obtain ⟨e1, e2⟩ := evs_up r.ev r.es u.1 u.2
  obtain ⟨_, e3⟩ := evs_up r.ev a4 u.1 u.2
  exact ⟨e1, ⟨m1, m2, a1, a2, a3, e3, sts_up a5 (u.more a1).2, own_upper a6 (u.more (Nat.le_trans a1 a2)).2⟩, e2, r.sx, sts_up r.ss u.2, own_upper r.gs u.2, r.gt⟩

theorem OutSh.up {w w' : World} {lo hi g k : Nat} {os : List OutX} {rs : List OutR} (h : OutSh w lo hi g os k rs) (u : Up lo w w') : OutSh w' lo hi g os k rs :=
  ⟨h.len, own_upper h.own u.2, h.top, fun i x hi hx => by
    obtain ⟨q, q1, q2, q3⟩ := h.each i x hi hx
    exact ⟨q, q1, q2, own_upper q3 u.2⟩⟩

theorem sess_own {w : World} {lo g n : Nat} {ps : List SesV} (h : w.ownsRow lo 59 3 (.slice (some ⟨g, 0, none⟩) n n) n (ps.flatMap scells)) : SessAt w (some ⟨g, 0, none⟩) n n ps := by
  obtain ⟨oa, cap, he, hat⟩ := rowsAt_of_own scells_length (by omega) h
  cases he
  exact hat

theorem three_new (w : World) (a b c : Array Value) (A B C : TypeId) : (((w.alloc (.cells a A)).alloc (.cells b B)).alloc (.cells c C)).heap[w.heap.size]? = some (.cells a A (0, 0)) ∧ (((w.alloc (.cells a A)).alloc (.cells b B)).alloc (.cells c C)).heap[w.heap.size + 1]? = some (.cells b B (0, 0)) ∧ (((w.alloc (.cells a A)).alloc (.cells b B)).alloc (.cells c C)).heap[w.heap.size + 1 + 1]? = some (.cells c C (0, 0)) ∧ (((w.alloc (.cells a A)).alloc (.cells b B)).alloc (.cells c C)).heap.size = w.heap.size + 1 + 1 + 1 ∧ Below w.heap.size w (((w.alloc (.cells a A)).alloc (.cells b B)).alloc (.cells c C)) := by
  have e1 := heap_alloc_new w (.cells a A)
  have e2 := heap_alloc_new (w.alloc (.cells a A)) (.cells b B)
  have e3 := heap_alloc_new ((w.alloc (.cells a A)).alloc (.cells b B)) (.cells c C)
  rw [World.size_alloc] at e2
  rw [World.size_alloc, World.size_alloc] at e3
  have k1 := (Below.refl (w.alloc (.cells a A)).heap.size (w.alloc (.cells a A))).alloc (Nat.le_refl _) (.cells b B)
  have k2 := (Below.refl ((w.alloc (.cells a A)).alloc (.cells b B)).heap.size ((w.alloc (.cells a A)).alloc (.cells b B))).alloc (Nat.le_refl _) (.cells c C)
  refine ⟨(k2.block _ (by simp; omega)).trans ((k1.block _ (by simp)).trans e1), (k2.block _ (by simp)).trans e2, e3, by simp, (((Below.refl _ _).alloc (Nat.le_refl _) _).alloc (by simp) _).alloc (by simp; omega) _⟩

def ToHall (w : World) (ps : List SesV) (es : List EvV) (ss : List (List (Int × Int))) (gs : List Bool) (os : List OutX) (e : Ending) (w' : World) : Prop :=
  ∃ pa pn pc oa n cap so sn sc go gn gc qa qn qc, e = .returned (hallv pa pn pc oa n cap so sn sc go gn gc qa qn qc) ∧ HallAt w' pa pn pc oa n cap so sn sc go gn gc qa qn qc ps es ss gs os ∧ Below w.heap.size w w'

set_option maxRecDepth 100000 in
set_option maxHeartbeats 8000000 in
theorem toHall_any (pa : Option Addr) (pn pc : Nat) (oa : Option Addr) (n cap : Nat) (so : Option Addr) (sn sc : Nat) (go : Option Addr) (gn gc : Nat) (qa : Option Addr) (qn qc : Nat) (ps : List SesV) (es : List EvV) (ss : List (List (Int × Int))) (gs : List Bool) (os : List OutX) (hf : FineH ps es ss gs os) (hw : HallWide ps es ss os) (w : World) (hat : HallAt w pa pn pc oa n cap so sn sc go gn gc qa qn qc ps es ss gs os) :
    Calls Try.prog 12 #[hallv pa pn pc oa n cap so sn sc go gn gc qa qn qc] w (ToHall w ps es ss gs os) := by
  obtain ⟨hA0, hR0, hO0, hs0, hb0⟩ := three_new w #[.slice pa pn pc, .slice oa n cap, .slice so sn sc, .slice go gn gc, .slice qa qn qc] #[.slice none 0 0, .slice none 0 0, .slice none 0 0, .slice none 0 0, .slice none 0 0] #[.slice none 0 0, .slice none 0 0, .slice none 0 0, .slice none 0 0, .slice none 0 0] 42 30 30
  obtain ⟨W0, hW0⟩ : ∃ W0, ((w.alloc (.cells #[.slice pa pn pc, .slice oa n cap, .slice so sn sc, .slice go gn gc, .slice qa qn qc] 42)).alloc (.cells #[.slice none 0 0, .slice none 0 0, .slice none 0 0, .slice none 0 0, .slice none 0 0] 30)).alloc (.cells #[.slice none 0 0, .slice none 0 0, .slice none 0 0, .slice none 0 0, .slice none 0 0] 30) = W0 := ⟨_, rfl⟩
  rw [hW0] at hA0 hR0 hO0 hs0 hb0
  have hpl : pn ≤ 1048576 := by rw [← hat.p.len]; exact hf.pl
  have r0 := blk_cell hA0 0 rfl
  have HTP := hide (toSessionS_any pa pn pc ps hpl W0 (hat.p.below hb0))
  have HAT := hide hat
  have HF := hide hf
  have HWD := hide hw
  have HW0 := hide hW0
  have HA0 := hide hA0
  have HR0 := hide hR0
  have HO0 := hide hO0
  have HB0 := hide hb0
  obtain ⟨b, hbd⟩ : ∃ b, w.heap.size = b := ⟨_, rfl⟩
  clear hW0 hA0 hR0 hO0 hb0 hat hf hw hpl
  go_enter Try.func12, Try.ntmps12
  go_upto_region 2 with fail
  rw [HW0.out]
  clear HW0
  rw [hbd] at HA0 HR0 HO0 r0 hs0
  have HBD := hide hbd
  clear hbd
  have hltO := blk_lt HO0.out
  have hltA := blk_lt HA0.out
  go_upto_region 3 with (go_at_call 28; (with_reducible refine HTP.out.mono ?_); rintro r w1 ⟨g1, rfl, ho1, hb1⟩; have hO1 := (hb1.block _ hltO).trans HO0.out; have o10 := blk_cell hO1 0 rfl; have f10 := blk_free hO1 0)
  obtain ⟨W1, hW1⟩ : ∃ W1, w1.setCell ⟨b + 1 + 1, 0, none⟩ (.slice (some ⟨g1, 0, none⟩) pn pn) = W1 := ⟨_, rfl⟩
  try rw [hW1]
  obtain ⟨hO2, hg1⟩ := blk_setAll [.slice (some ⟨g1, 0, none⟩) pn pn] w1 _ 0 hO1
  rw [show w1.setCells (b + 1 + 1) 0 [.slice (some ⟨g1, 0, none⟩) pn pn] = W1 from hW1] at hO2 hg1
  have hz1 := hb1.size
  have hzz1 := hg1.size
  have HP1 := hide (own_upper ho1 (Up.grown (lo := W0.heap.size) hg1 (by omega)).2)
  have hb2 : Below (b + 1 + 1) W0 W1 := (hb1.mono (by omega)).grown hg1 (by omega) (fun k hk => by cases hk; exact Nat.le_refl _)
  have HO2 := hide hO2
  have HB2 := hide hb2
  have r1 := (hb2.cell (p := ⟨b, 1, none⟩) (show b < b + 1 + 1 by omega)).trans (blk_cell HA0.out 1 rfl)
  have r2 := (hb2.cell (p := ⟨b, 2, none⟩) (show b < b + 1 + 1 by omega)).trans (blk_cell HA0.out 2 rfl)
  have r3 := (hb2.cell (p := ⟨b, 3, none⟩) (show b < b + 1 + 1 by omega)).trans (blk_cell HA0.out 3 rfl)
  have hz01 : W0.heap.size ≤ W1.heap.size := by omega
  have hbw1 : Below w.heap.size w W1 := HB0.out.trans (hb2.mono (by rw [HBD.out]; omega))
  have HTR := hide (toRoom_any oa n cap es so sn sc ss go gn gc gs HF.out.r W1 (HAT.out.e.below hbw1) (HAT.out.s.below hbw1) (HAT.out.g.below hbw1))
  clear hb1 ho1 hO1 hW1 hg1 hO2 hb2 o10 f10 r0 HTP hbw1
  go_upto_region 4 with (go_at_call 29; (with_reducible refine HTR.out.mono ?_); rintro r w2 ⟨g2, h2, k2, xs, rfl, hrm2, hb2⟩; have hO3 := (hb2.block _ (by omega)).trans HO2.out; have o11 := blk_cell hO3 1 rfl; have f11 := blk_free hO3 1; have o12 := blk_cell hO3 2 rfl; have f12 := blk_free hO3 2; have o13 := blk_cell hO3 3 rfl; have f13 := blk_free hO3 3; have hz2 := hb2.size)
  obtain ⟨W2, hW2⟩ : ∃ W2, ((w2.setCell ⟨b + 1 + 1, 1, none⟩ (.slice (some ⟨g2, 0, none⟩) es.length es.length)).setCell ⟨b + 1 + 1, 2, none⟩ (.slice (some ⟨h2, 0, none⟩) ss.length ss.length)).setCell ⟨b + 1 + 1, 3, none⟩ (.slice (some ⟨k2, 0, none⟩) gs.length gs.length) = W2 := ⟨_, rfl⟩
  try rw [hW2]
  obtain ⟨hO4, hg2⟩ := blk_setAll [.slice (some ⟨g2, 0, none⟩) es.length es.length, .slice (some ⟨h2, 0, none⟩) ss.length ss.length, .slice (some ⟨k2, 0, none⟩) gs.length gs.length] w2 _ 1 hO3
  rw [show w2.setCells (b + 1 + 1) 1 [.slice (some ⟨g2, 0, none⟩) es.length es.length, .slice (some ⟨h2, 0, none⟩) ss.length ss.length, .slice (some ⟨k2, 0, none⟩) gs.length gs.length] = W2 from hW2] at hO4 hg2
  have hzz2 := hg2.size
  have up2 := Up.grown (lo := W0.heap.size) hg2 (by omega)
  have HP2 := hide (own_upper (own_below HP1.out hb2) up2.2)
  have HRM2 := hide (hrm2.up (up2.more hz01))
  have hb4 : Below (b + 1 + 1) W0 W2 := (HB2.out.trans (hb2.mono (by omega))).grown hg2 (by omega) (fun k hk => by cases hk; exact Nat.le_refl _)
  have hbw2 : Below w.heap.size w W2 := HB0.out.trans (hb4.mono (by rw [HBD.out]; omega))
  have HO4 := hide hO4
  have HB4 := hide hb4
  have r4 := (hb4.cell (p := ⟨b, 4, none⟩) (show b < b + 1 + 1 by omega)).trans (blk_cell HA0.out 4 rfl)
  have HTO := hide (toOutS_any qa qn qc os HF.out.ol HF.out.ow W2 (HAT.out.o.below hbw2))
  have hz02 : W0.heap.size ≤ W2.heap.size := by omega
  clear hb2 hrm2 hO3 hW2 hg2 hO4 hb4 o11 f11 o12 f12 o13 f13 r1 r2 r3 HTR HP1 HO2 HB2 up2 hbw2
  go_upto_region 5 with (go_at_call 30; (with_reducible refine HTO.out.mono ?_); rintro r w3 ⟨g3, rs, rfl, ho3, hb3⟩; have hO5 := (hb3.block _ (by omega)).trans HO4.out; have o14 := blk_cell hO5 4 rfl; have f14 := blk_free hO5 4; have hz3 := hb3.size)
  obtain ⟨W3, hW3⟩ : ∃ W3, w3.setCell ⟨b + 1 + 1, 4, none⟩ (.slice (some ⟨g3, 0, none⟩) os.length os.length) = W3 := ⟨_, rfl⟩
  try rw [hW3]
  obtain ⟨hO6, hg3⟩ := blk_setAll [.slice (some ⟨g3, 0, none⟩) os.length os.length] w3 _ 4 hO5
  rw [show w3.setCells (b + 1 + 1) 4 [.slice (some ⟨g3, 0, none⟩) os.length os.length] = W3 from hW3] at hO6 hg3
  have hzz3 := hg3.size
  have up3 := Up.grown (lo := W0.heap.size) hg3 (by omega)
  have HP3 := hide (own_upper (own_below HP2.out hb3) up3.2)
  have HRM3 := hide ((HRM2.out.on hb3).up (up3.more hz01))
  have HOS3 := hide (ho3.up (up3.more hz02))
  have hb6 : Below (b + 1 + 1) W0 W3 := (HB4.out.trans (hb3.mono (by omega))).grown hg3 (by omega) (fun k hk => by cases hk; exact Nat.le_refl _)
  have hR6 := (hb6.block (b + 1) (by omega)).trans HR0.out
  have t0 : W3.cell? ⟨b + 1 + 1, 0, none⟩ = some (.slice (some ⟨g1, 0, none⟩) pn pn) := blk_cell hO6 0 rfl
  have t1 : W3.cell? ⟨b + 1 + 1, 1, none⟩ = some (.slice (some ⟨g2, 0, none⟩) es.length es.length) := blk_cell hO6 1 rfl
  have t2 : W3.cell? ⟨b + 1 + 1, 2, none⟩ = some (.slice (some ⟨h2, 0, none⟩) ss.length ss.length) := blk_cell hO6 2 rfl
  have t3 : W3.cell? ⟨b + 1 + 1, 3, none⟩ = some (.slice (some ⟨k2, 0, none⟩) gs.length gs.length) := blk_cell hO6 3 rfl
  have t4 : W3.cell? ⟨b + 1 + 1, 4, none⟩ = some (.slice (some ⟨g3, 0, none⟩) os.length os.length) := blk_cell hO6 4 rfl
  have u0 := blk_cell hR6 0 rfl
  have u1 := blk_cell hR6 1 rfl
  have u2 := blk_cell hR6 2 rfl
  have u3 := blk_cell hR6 3 rfl
  have u4 := blk_cell hR6 4 rfl
  have y0 := blk_free hR6 0
  have y1 := blk_free hR6 1
  have y2 := blk_free hR6 2
  have y3 := blk_free hR6 3
  have y4 := blk_free hR6 4
  have HB6 := hide hb6
  have HR6 := hide hR6
  clear hb3 ho3 hO5 hW3 hg3 hO6 hb6 o14 f14 r4 HTO HP2 HRM2 HO4 HB4 up3 hR6
  go_wp2_with fail
  obtain ⟨w9, hw9⟩ : ∃ w9, ((((W3.setCell ⟨b + 1, 0, none⟩ (.slice (some ⟨g1, 0, none⟩) pn pn)).setCell ⟨b + 1, 1, none⟩ (.slice (some ⟨g2, 0, none⟩) es.length es.length)).setCell ⟨b + 1, 2, none⟩ (.slice (some ⟨h2, 0, none⟩) ss.length ss.length)).setCell ⟨b + 1, 3, none⟩ (.slice (some ⟨k2, 0, none⟩) gs.length gs.length)).setCell ⟨b + 1, 4, none⟩ (.slice (some ⟨g3, 0, none⟩) os.length os.length) = w9 := ⟨_, rfl⟩
  obtain ⟨hr, hg9⟩ := blk_setAll [.slice (some ⟨g1, 0, none⟩) pn pn, .slice (some ⟨g2, 0, none⟩) es.length es.length, .slice (some ⟨h2, 0, none⟩) ss.length ss.length, .slice (some ⟨k2, 0, none⟩) gs.length gs.length, .slice (some ⟨g3, 0, none⟩) os.length os.length] W3 _ 0 HR6.out
  rw [show W3.setCells (b + 1) 0 [.slice (some ⟨g1, 0, none⟩) pn pn, .slice (some ⟨g2, 0, none⟩) es.length es.length, .slice (some ⟨h2, 0, none⟩) ss.length ss.length, .slice (some ⟨k2, 0, none⟩) gs.length gs.length, .slice (some ⟨g3, 0, none⟩) os.length os.length] = w9 from hw9] at hr hg9
  rw [hw9]
  clear u0 u1 u2 u3 u4
  have u0 : w9.cell? ⟨b + 1, 0, none⟩ = some (.slice (some ⟨g1, 0, none⟩) pn pn) := blk_cell hr 0 rfl
  have u1 : w9.cell? ⟨b + 1, 1, none⟩ = some (.slice (some ⟨g2, 0, none⟩) es.length es.length) := blk_cell hr 1 rfl
  have u2 : w9.cell? ⟨b + 1, 2, none⟩ = some (.slice (some ⟨h2, 0, none⟩) ss.length ss.length) := blk_cell hr 2 rfl
  have u3 : w9.cell? ⟨b + 1, 3, none⟩ = some (.slice (some ⟨k2, 0, none⟩) gs.length gs.length) := blk_cell hr 3 rfl
  have u4 : w9.cell? ⟨b + 1, 4, none⟩ = some (.slice (some ⟨g3, 0, none⟩) os.length os.length) := blk_cell hr 4 rfl
  refine bodyPost_ret (v := hallv (some ⟨g1, 0, none⟩) pn pn (some ⟨g2, 0, none⟩) es.length es.length (some ⟨h2, 0, none⟩) ss.length ss.length (some ⟨k2, 0, none⟩) gs.length gs.length (some ⟨g3, 0, none⟩) os.length os.length) (by simp [results, Try.results12, go_sem, u0, u1, u2, u3, u4]) rfl ?_
  have up9 := Up.grown (lo := W0.heap.size) hg9 (by omega)
  have hrm9 := HRM3.out.up (up9.more hz01)
  have hos9 := HOS3.out.up (up9.more hz02)
  have hp9 := own_upper HP3.out up9.2
  have hbe := HBD.out
  have hb9 : Below (b + 1) W0 w9 := (HB6.out.mono (by omega)).grown hg9 (by have := HB6.out.size; omega) (fun k hk => by cases hk; exact Nat.le_refl _)
  exact ⟨_, _, _, _, _, _, _, _, _, _, _, _, _, _, _, rfl, ⟨sess_own hp9, hrm9.ev, hrm9.ss.sts hrm9.sx, bools_own hrm9.gs, hos9.outs HWD.out.o⟩, HB0.out.trans (hb9.mono (by omega))⟩

end Go.Proofs.Ytckkfjmjcknjdaa
