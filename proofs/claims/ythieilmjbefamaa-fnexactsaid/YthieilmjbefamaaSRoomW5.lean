/-
  Walks and mathematics of RoomW5.
-/
import Derived.Test.YthieilmjbefamaaSRoomW4
namespace Go.Proofs.Ythieilmjbefamaa.P11
end Go.Proofs.Ythieilmjbefamaa.P11
namespace Go.Proofs.Ythieilmjbefamaa.P14
end Go.Proofs.Ythieilmjbefamaa.P14
namespace Go.Proofs.Ythieilmjbefamaa.P3
end Go.Proofs.Ythieilmjbefamaa.P3
namespace Go.Proofs.Ythieilmjbefamaa.P9
end Go.Proofs.Ythieilmjbefamaa.P9
namespace Go.Proofs.Ythieilmjbefamaa
open Go.RowKit P1 P3 P5 P9 P11 P12 P14 K
set_option linter.unusedVariables false
set_option linter.unusedSimpArgs false

theorem Within.wide {lo hi lo' hi' : Nat} {a b : World} (h : Within lo hi a b) (h1 : lo' ≤ lo) (h2 : hi ≤ hi') : Within lo' hi' a b :=
  ⟨h.os, h.tape, h.output, h.size, fun i hi' ho => h.block i hi' (by omega)⟩

theorem StRows.within {w w' : World} {lo hi g n lo' hi' : Nat} {ls : List Nat} (h : StRows w lo hi g n ls) (hw : Within lo' hi' w w') (hd : hi' ≤ lo) : StRows w' lo hi g n ls := by
  obtain ⟨h1, h2, xs, h3, h4⟩ := h
  refine ⟨h1, h2, xs, hw.own h3 (fun q hq => .inr (Nat.le_trans hd (h3.lt q hq).1)), fun i l hl => ?_⟩
  obtain ⟨q, ys, a1, a2, a3⟩ := h4 i l hl
  exact ⟨q, ys, a1, a2, hw.own a3 (fun q hq => .inr (Nat.le_trans hd (a3.lt q hq).1))⟩

set_option maxHeartbeats 4000000 in
theorem markRoom_any (es : List EvV) (ss : List (List (Int × Int))) (gs : List Bool) (hf : FineR es ss gs) (lo hi g h k : Nat) (xs : List Value) (w : World) (hhi : hi ≤ w.heap.size) (r : RmSh w lo hi g h k es ss gs xs) :
    Calls Try.prog 15 #[rmS es ss gs g h k, .int .i64 1] w (MkB w lo hi 30000000) := by
  obtain ⟨W0, hW0⟩ : ∃ W0, w.alloc (.cells #[.slice (some ⟨g, 0, none⟩) es.length es.length, .slice (some ⟨h, 0, none⟩) ss.length ss.length, .slice (some ⟨k, 0, none⟩) gs.length gs.length] 33) = W0 := ⟨_, rfl⟩
  have hb0 : Below w.heap.size w W0 := by rw [← hW0]; exact (Below.refl _ _).alloc (Nat.le_refl _) _
  have hA0 : W0.heap[w.heap.size]? = some (.cells #[.slice (some ⟨g, 0, none⟩) es.length es.length, .slice (some ⟨h, 0, none⟩) ss.length ss.length, .slice (some ⟨k, 0, none⟩) gs.length gs.length] 33 (0, 0)) := by rw [← hW0]; exact heap_alloc_new _ _
  have hr0 := r.on hb0
  obtain ⟨m1, m2, a1, a2, a3, a4, a5, a6⟩ := hr0.fine
  have HME := hide (markEventS_b g es.length lo m1 es rfl hf.ev W0 a4)
  have HST := hide (a5.rows r.sx)
  have HBO := hide a6
  have hkt := r.gt
  have c0 := blk_cell hA0 0 rfl
  have HA0 := hide hA0
  have HW0 := hide hW0
  have HF := hide hf
  have HB0 := hide hb0
  clear hr0 a4 a5 a6 hA0 hW0 r hf hb0
  go_enter Try.func15, Try.ntmps15
  go_upto_region 1 with fail
  rw [HW0.out]
  clear HW0
  go_upto_region 2 with (go_at_call 32; (with_reducible refine HME.out.mono ?_); rintro r w1 ⟨k1, rfl, hk1, hwi1⟩)
  have hA1 := hwi1.blk HA0.out (.inr (by omega))
  have c1 := blk_cell hA1 1 rfl
  have HMI := hide (markItemSS_any h ss.length m1 m2 k1 (ss.map List.length) hk1 HF.out.sl HF.out.sw w1 (HST.out.within hwi1 (Nat.le_refl _)))
  have HA1 := hide hA1
  have HW1 := hide hwi1
  clear hA1 hwi1 c0 HME
  go_upto_region 3 with (go_at_call 33; (with_reducible refine HMI.out.mono ?_); rintro r w2 ⟨k2, rfl, hk2, hwi2⟩)
  have hA2 := hwi2.blk HA1.out (.inr (by omega))
  have c2 := blk_cell hA2 2 rfl
  have hB2 := hwi2.own (HW1.out.own HBO.out (fun q hq => .inr (by have := (HBO.out.lt q hq).1; omega))) (fun q hq => .inr (HBO.out.lt q hq).1)
  have HMB := hide (markBoolS_any k gs.length m2 hi k2 hk2 HF.out.gl hkt w2 _ hB2)
  have HW2 := hide hwi2
  clear hA2 hwi2 c1 HMI hB2
  go_wp2_with (go_at_call 34; (with_reducible refine HMB.out.mono ?_); rintro r w3 ⟨k3, rfl, hk3, hwi3⟩)
  go_ret
  exact ⟨k3, rfl, hk3, (Within.below HB0.out).trans ((HW1.out.wide (Nat.le_refl _) (by omega)).trans ((HW2.out.wide a1 a3).trans (hwi3.wide (by omega) (Nat.le_refl _))))⟩

end Go.Proofs.Ythieilmjbefamaa
