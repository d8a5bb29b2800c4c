/-
  Walks and mathematics of HallA3.
-/
import Derived.Test.YtckkfjmjcknjdaaSHHallA2
namespace Go.Proofs.Ytckkfjmjcknjdaa.P1
end Go.Proofs.Ytckkfjmjcknjdaa.P1
namespace Go.Proofs.Ytckkfjmjcknjdaa.P11
end Go.Proofs.Ytckkfjmjcknjdaa.P11
namespace Go.Proofs.Ytckkfjmjcknjdaa.P14
end Go.Proofs.Ytckkfjmjcknjdaa.P14
namespace Go.Proofs.Ytckkfjmjcknjdaa.P3
end Go.Proofs.Ytckkfjmjcknjdaa.P3
namespace Go.Proofs.Ytckkfjmjcknjdaa.P5
end Go.Proofs.Ytckkfjmjcknjdaa.P5
namespace Go.Proofs.Ytckkfjmjcknjdaa
open Go.RowKit P1 P3 P5 P9 P11 P12 P14 K
set_option linter.unusedVariables false
set_option linter.unusedSimpArgs false

set_option maxHeartbeats 2000000 in
theorem eqRoom_at (es : List EvV) (ss : List (List (Int × Int))) (gs : List Bool) (hf : FineR es ss gs) (oa : Option Addr) (cap : Nat) (so : Option Addr) (sc : Nat) (go : Option Addr) (gc : Nat) (ob : Option Addr) (cap' : Nat) (sp : Option Addr) (sc' : Nat) (gp : Option Addr) (gc' : Nat) (w : World) (r1 : EvsAt w oa es.length cap es) (r2 : StsAt w so ss.length sc ss) (r3 : BoolsAt w go gs.length gc gs) (s1 : EvsAt w ob es.length cap' es) (s2 : StsAt w sp ss.length sc' ss) (s3 : BoolsAt w gp gs.length gc' gs) :
    Calls Try.prog 15 #[roomv oa es.length cap so ss.length sc go gs.length gc, roomv ob es.length cap' sp ss.length sc' gp gs.length gc'] w fun e w' => e = .returned (.bool true) ∧ Below w.heap.size w w' := by
  obtain ⟨W0, hW0⟩ : ∃ W0, (w.alloc (.cells #[.slice oa es.length cap, .slice so ss.length sc, .slice go gs.length gc] 27)).alloc (.cells #[.slice ob es.length cap', .slice sp ss.length sc', .slice gp gs.length gc'] 27) = W0 := ⟨_, rfl⟩
  have hb0 : Below w.heap.size w W0 := by rw [← hW0]; exact ((Below.refl _ _).alloc (Nat.le_refl _) _).alloc (by simp) _
  have hA0 : W0.heap[w.heap.size]? = some (.cells #[.slice oa es.length cap, .slice so ss.length sc, .slice go gs.length gc] 27 (0, 0)) := by
    rw [← hW0]
    exact (((Below.refl _ _).alloc (Nat.le_refl _) _ : Below (w.alloc (.cells #[.slice oa es.length cap, .slice so ss.length sc, .slice go gs.length gc] 27)).heap.size _ _).block w.heap.size (by simp)).trans (heap_alloc_new w _)
  have hB0 : W0.heap[w.heap.size + 1]? = some (.cells #[.slice ob es.length cap', .slice sp ss.length sc', .slice gp gs.length gc'] 27 (0, 0)) := by
    rw [← hW0]
    have := heap_alloc_new (w.alloc (.cells #[.slice oa es.length cap, .slice so ss.length sc, .slice go gs.length gc] 27)) (.cells #[.slice ob es.length cap', .slice sp ss.length sc', .slice gp gs.length gc'] 27)
    rw [World.size_alloc] at this
    exact this
  have HR1 := hide (r1.below hb0)
  have HR2 := hide (r2.below hb0)
  have HR3 := hide (r3.below hb0)
  have HS1 := hide (s1.below hb0)
  have HS2 := hide (s2.below hb0)
  have HS3 := hide (s3.below hb0)
  have hlA := blk_lt hA0
  have hlB := blk_lt hB0
  have HEQ := hide (fun W (hb : Below W0.heap.size W0 W) => eqEventS_same oa es.length cap es ob cap' hf.ev W (HR1.out.below hb) (HS1.out.below hb))
  have HES := hide (fun W (hb : Below W0.heap.size W0 W) => eqItemSS_same so ss.length sc ss sp sc' hf.sl hf.sw W (HR2.out.below hb) (HS2.out.below hb))
  have HEB := hide (fun W (hb : Below W0.heap.size W0 W) => eqBoolS_same go gs.length gc gp gc' gs hf.gl W (HR3.out.below hb) (HS3.out.below hb))
  have a0 : ∀ W, Below W0.heap.size W0 W → W.cell? ⟨w.heap.size, 0, none⟩ = some (.slice oa es.length cap) := fun W hb => (hb.cell hlA).trans (blk_cell hA0 0 rfl)
  have a1 : ∀ W, Below W0.heap.size W0 W → W.cell? ⟨w.heap.size, 1, none⟩ = some (.slice so ss.length sc) := fun W hb => (hb.cell hlA).trans (blk_cell hA0 1 rfl)
  have a2 : ∀ W, Below W0.heap.size W0 W → W.cell? ⟨w.heap.size, 2, none⟩ = some (.slice go gs.length gc) := fun W hb => (hb.cell hlA).trans (blk_cell hA0 2 rfl)
  have b0 : ∀ W, Below W0.heap.size W0 W → W.cell? ⟨w.heap.size + 1, 0, none⟩ = some (.slice ob es.length cap') := fun W hb => (hb.cell hlB).trans (blk_cell hB0 0 rfl)
  have b1 : ∀ W, Below W0.heap.size W0 W → W.cell? ⟨w.heap.size + 1, 1, none⟩ = some (.slice sp ss.length sc') := fun W hb => (hb.cell hlB).trans (blk_cell hB0 1 rfl)
  have b2 : ∀ W, Below W0.heap.size W0 W → W.cell? ⟨w.heap.size + 1, 2, none⟩ = some (.slice gp gs.length gc') := fun W hb => (hb.cell hlB).trans (blk_cell hB0 2 rfl)
  have HA0 := hide a0
  have HA1 := hide a1
  have HA2 := hide a2
  have HC0 := hide b0
  have HC1 := hide b1
  have HC2 := hide b2
  have HW0 := hide hW0
  have HB0 := hide hb0
  clear hW0 hb0 hA0 hB0 r1 r2 r3 s1 s2 s3 hf a0 a1 a2 b0 b1 b2 HR1 HR2 HR3 HS1 HS2 HS3
  go_enter Try.func15, Try.ntmps15
  go_upto_region 1 with fail
  rw [HW0.out]
  clear HW0
  have s0 := HA0.out W0 (Below.refl _ _)
  have t0 := HC0.out W0 (Below.refl _ _)
  go_wp2_with (first
    | (go_at_call 36; (with_reducible refine (HEQ.out _ (Below.refl _ _)).mono ?_); rintro r w1 ⟨rfl, hb1⟩; have s1 := HA1.out w1 hb1; have t1 := HC1.out w1 hb1)
    | (go_at_call 37; (with_reducible refine (HES.out _ hb1).mono ?_); rintro r w2 ⟨rfl, hb2'⟩; have hb2 : Below W0.heap.size W0 w2 := hb1.trans (hb2'.mono hb1.size); have s2 := HA2.out w2 hb2; have t2 := HC2.out w2 hb2)
    | (go_at_call 38; (with_reducible refine (HEB.out _ hb2).mono ?_); rintro r w3 ⟨rfl, hb3⟩))
  go_ret
  exact ⟨rfl, HB0.out.trans ((hb2.trans (hb3.mono hb2.size)).mono HB0.out.size)⟩

theorem two_new (w : World) (a b : Array Value) (A B : TypeId) : ((w.alloc (.cells a A)).alloc (.cells b B)).heap[w.heap.size]? = some (.cells a A (0, 0)) ∧ ((w.alloc (.cells a A)).alloc (.cells b B)).heap[w.heap.size + 1]? = some (.cells b B (0, 0)) ∧ Below w.heap.size w ((w.alloc (.cells a A)).alloc (.cells b B)) := by
  have e1 := heap_alloc_new w (.cells a A)
  have e2 := heap_alloc_new (w.alloc (.cells a A)) (.cells b B)
  rw [World.size_alloc] at e2
  have k1 := (Below.refl (w.alloc (.cells a A)).heap.size (w.alloc (.cells a A))).alloc (Nat.le_refl _) (.cells b B)
  exact ⟨(k1.block _ (by simp)).trans e1, e2, ((Below.refl _ _).alloc (Nat.le_refl _) _).alloc (by simp) _⟩

set_option maxRecDepth 100000 in
set_option maxHeartbeats 4000000 in
theorem eqHall_same (ps : List SesV) (es : List EvV) (ss : List (List (Int × Int))) (gs : List Bool) (os : List OutX) (hf : FineH ps es ss gs os) (pa : Option Addr) (pn pc : Nat) (oa : Option Addr) (n cap : Nat) (so : Option Addr) (sn sc : Nat) (go : Option Addr) (gn gc : Nat) (qa : Option Addr) (qn qc : Nat) (pb : Option Addr) (pn' pd : Nat) (ob : Option Addr) (n' cap' : Nat) (sp : Option Addr) (sn' sc' : Nat) (gp : Option Addr) (gn' gc' : Nat) (qb : Option Addr) (qn' qd : Nat) (w : World) (h : HallAt w pa pn pc oa n cap so sn sc go gn gc qa qn qc ps es ss gs os) (k : HallAt w pb pn' pd ob n' cap' sp sn' sc' gp gn' gc' qb qn' qd ps es ss gs os) :
    Calls Try.prog 7 #[hallv pa pn pc oa n cap so sn sc go gn gc qa qn qc, hallv pb pn' pd ob n' cap' sp sn' sc' gp gn' gc' qb qn' qd] w fun e w' => e = .returned (.bool true) ∧ Below w.heap.size w w' := by
  obtain rfl : pn' = pn := by rw [← h.p.len, ← k.p.len]
  obtain rfl : n' = n := by rw [← h.e.len, ← k.e.len]
  obtain rfl : sn' = sn := by rw [← h.s.len, ← k.s.len]
  obtain rfl : gn' = gn := by rw [← h.g.len, ← k.g.len]
  obtain rfl : qn' = qn := by rw [← h.o.len, ← k.o.len]
  have hn := h.e.len
  have hsn := h.s.len
  have hgn := h.g.len
  subst hn hsn hgn
  obtain ⟨hA0, hB0, hb0⟩ := two_new w #[.slice pa pn' pc, .slice oa es.length cap, .slice so ss.length sc, .slice go gs.length gc, .slice qa qn' qc] #[.slice pb pn' pd, .slice ob es.length cap', .slice sp ss.length sc', .slice gp gs.length gc', .slice qb qn' qd] 30 30
  have hpl : pn' ≤ 1048576 := by rw [← h.p.len]; exact hf.pl
  have hql : qn' ≤ 1048576 := by rw [← h.o.len]; exact hf.ol
  have HPH := hide h
  have HPK := hide k
  have HF := hide hf
  obtain ⟨W0, hW0⟩ : ∃ W0, (w.alloc (.cells #[.slice pa pn' pc, .slice oa es.length cap, .slice so ss.length sc, .slice go gs.length gc, .slice qa qn' qc] 30)).alloc (.cells #[.slice pb pn' pd, .slice ob es.length cap', .slice sp ss.length sc', .slice gp gs.length gc', .slice qb qn' qd] 30) = W0 := ⟨_, rfl⟩
  rw [hW0] at hA0 hB0 hb0
  have HA := hide (fun W (hb : Below W0.heap.size W0 W) => (hb.block _ (blk_lt hA0)).trans hA0)
  have HB := hide (fun W (hb : Below W0.heap.size W0 W) => (hb.block _ (blk_lt hB0)).trans hB0)
  have HB0 := hide hb0
  have HW0 := hide hW0
  clear h k hf hA0 hB0 hb0 hW0
  have x0 := blk_cell (HA.out W0 (Below.refl _ _)) 0 rfl
  have z0 := blk_cell (HB.out W0 (Below.refl _ _)) 0 rfl
  go_enter Try.func7, Try.ntmps7
  go_upto_region 1 with fail
  rw [HW0.out]
  clear HW0
  have HE1 := hide (eqSessionS_same pa pn' pc pb pd ps hpl W0 (HPH.out.p.below HB0.out) (HPK.out.p.below HB0.out))
  go_upto_region 3 with (go_at_call 14; (with_reducible refine HE1.out.mono ?_); rintro r w1 ⟨rfl, hb1⟩)
  have HB1 := hide hb1
  clear hb1 x0 z0 HE1
  have x1 := blk_cell (HA.out w1 HB1.out) 1 rfl
  have x2 := blk_cell (HA.out w1 HB1.out) 2 rfl
  have x3 := blk_cell (HA.out w1 HB1.out) 3 rfl
  have z1 := blk_cell (HB.out w1 HB1.out) 1 rfl
  have z2 := blk_cell (HB.out w1 HB1.out) 2 rfl
  have z3 := blk_cell (HB.out w1 HB1.out) 3 rfl
  have HC1 := hide (HB0.out.trans (HB1.out.mono HB0.out.size))
  have HE2 := hide (eqRoom_at es ss gs HF.out.r oa cap so sc go gc ob cap' sp sc' gp gc' w1 (HPH.out.e.below HC1.out) (HPH.out.s.below HC1.out) (HPH.out.g.below HC1.out) (HPK.out.e.below HC1.out) (HPK.out.s.below HC1.out) (HPK.out.g.below HC1.out))
  go_upto_region 5 with (go_at_call 15; (with_reducible refine HE2.out.mono ?_); rintro r w2 ⟨rfl, hb2⟩)
  have HB2 := hide (HB1.out.trans (hb2.mono HB1.out.size))
  clear hb2 x1 x2 x3 z1 z2 z3 HE2 HB1
  have x4 := blk_cell (HA.out w2 HB2.out) 4 rfl
  have z4 := blk_cell (HB.out w2 HB2.out) 4 rfl
  have HC2 := hide (HB0.out.trans (HB2.out.mono HB0.out.size))
  have HE3 := hide (eqOutS_same qa qn' qc os qb qd hql HF.out.ow w2 (HPH.out.o.below HC2.out) (HPK.out.o.below HC2.out))
  go_wp2_with (go_at_call 16; (with_reducible refine HE3.out.mono ?_); rintro r w3 ⟨rfl, hb3⟩)
  go_ret
  exact ⟨rfl, HC2.out.trans (hb3.mono HC2.out.size)⟩

end Go.Proofs.Ytckkfjmjcknjdaa
