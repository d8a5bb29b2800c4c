/-
  The law FnExactHallNew: its walk.
-/
import Derived.Test.YtckkfjmjcknjdaaHall3
import Derived.Deep.Cut
namespace Go.Proofs.Ytckkfjmjcknjdaa
open Go.RowKit K
set_option linter.unusedVariables false
set_option linter.unusedSimpArgs false

set_option maxRecDepth 100000 in
set_option maxHeartbeats 4000000 in
theorem FnExactHallNew_walk (w : World) :
    Calls Try.prog 3 #[] w fun e w' => e = .returned (.bool true) ∧ Below w.heap.size w w' := by
  go_enter Try.func3, Try.ntmps3
  go_wp2_with fail
  refine (specHallNew_any _).mono ?_
  rintro e w1 ⟨oo1, c1, rfl, ho1, hb1⟩
  obtain ⟨g1, rfl, hg1, hv1⟩ := outs_of ho1
  obtain ⟨W1, hW1⟩ : ∃ W1, w1.alloc (.cells #[.slice none 0 0, .slice none 0 0, .slice none 0 0, .slice none 0 0, .slice (some ⟨g1, 0, none⟩) 2 c1] 30) = W1 := ⟨_, rfl⟩
  have hbA : Below w1.heap.size w1 W1 := by rw [← hW1]; exact (Below.refl _ _).alloc (Nat.le_refl _) _
  have hQ1 : W1.heap[w1.heap.size]? = some (.cells #[.slice none 0 0, .slice none 0 0, .slice none 0 0, .slice none 0 0, .slice (some ⟨g1, 0, none⟩) 2 c1] 30 (0, 0)) := by rw [← hW1]; exact heap_alloc_new _ _
  have HB1 := hide (hb1.trans (hbA.mono hb1.size))
  have HV1 := hide (hv1.below hbA)
  have HQ1 := hide hQ1
  have HW1 := hide hW1
  have hl1 := hv1.lt
  clear ho1 hb1 hv1 hbA hQ1 hW1
  go_upto_region 2 with fail
  rw [HW1.out]
  clear HW1
  go_wp2_with fail
  refine (implHallNew_any _).mono ?_
  rintro e w2 ⟨oo2, c2, rfl, ho2, hb2⟩
  obtain ⟨g2, rfl, hg2, hv2⟩ := outs_of ho2
  obtain ⟨W2, hW2⟩ : ∃ W2, w2.alloc (.cells #[.slice none 0 0, .slice none 0 0, .slice none 0 0, .slice none 0 0, .slice (some ⟨g2, 0, none⟩) 2 c2] 30) = W2 := ⟨_, rfl⟩
  have hbB : Below w2.heap.size w2 W2 := by rw [← hW2]; exact (Below.refl _ _).alloc (Nat.le_refl _) _
  have hQ2 : W2.heap[w2.heap.size]? = some (.cells #[.slice none 0 0, .slice none 0 0, .slice none 0 0, .slice none 0 0, .slice (some ⟨g2, 0, none⟩) 2 c2] 30 (0, 0)) := by rw [← hW2]; exact heap_alloc_new _ _
  have hb12 := hb2.trans (hbB.mono hb2.size)
  have HB2 := hide (HB1.out.trans (hb12.mono HB1.out.size))
  have HV1b := hide (HV1.out.below hb12)
  have HV2 := hide (hv2.below hbB)
  have HQ1b := hide ((hb12.block _ (blk_lt HQ1.out)).trans HQ1.out)
  have HQ2 := hide hQ2
  have HW2 := hide hW2
  have hg12 : g1 ≠ g2 := by have := HV1.out.lt; omega
  have hp1 := blk_lt HQ1.out
  have hgW : w.heap.size ≤ g2 := by have := HB1.out.size; omega
  have hp1g : w1.heap.size ≠ g2 := by omega
  have hp2g : w2.heap.size ≠ g2 := by have := hv2.lt; omega
  clear ho2 hb2 hv2 hbB hQ2 hW2 hb12 HV1 HQ1 HB1 hg2 hl1 hp1
  have k0 := blk_cell HQ2.out 0 rfl
  have k1 := blk_cell HQ2.out 1 rfl
  have k2 := blk_cell HQ2.out 2 rfl
  have k3 := blk_cell HQ2.out 3 rfl
  have k4 := blk_cell HQ2.out 4 rfl
  have m0 := blk_cell HQ1b.out 0 rfl
  have m1 := blk_cell HQ1b.out 1 rfl
  have m2 := blk_cell HQ1b.out 2 rfl
  have m3 := blk_cell HQ1b.out 3 rfl
  have m4 := blk_cell HQ1b.out 4 rfl
  go_upto_region 3 with fail
  rw [HW2.out]
  clear HW2
  go_wp2_with fail
  refine (eqHall_any g2 c2 g1 c1 W2 HV2.out HV1b.out).mono ?_
  rintro e w3 ⟨rfl, hb3⟩
  clear k0 k1 k2 k3 k4 m0 m1 m2 m3 m4
  have HB3 := hide (HB2.out.trans (hb3.mono HB2.out.size))
  have HV13 := hide (HV1b.out.below hb3)
  have HV23 := hide (HV2.out.below hb3)
  have HQ13 := hide ((hb3.block _ (blk_lt HQ1b.out)).trans HQ1b.out)
  have HQ23 := hide ((hb3.block _ (blk_lt HQ2.out)).trans HQ2.out)
  clear hb3 HB2 HV1b HV2 HQ1b HQ2
  have k0 := blk_cell HQ23.out 0 rfl
  have k1 := blk_cell HQ23.out 1 rfl
  have k2 := blk_cell HQ23.out 2 rfl
  have k3 := blk_cell HQ23.out 3 rfl
  have k4 := blk_cell HQ23.out 4 rfl
  go_wp2_with fail
  refine (markHall_one g2 c2 w3 HV23.out).mono ?_
  rintro e w4 ⟨rfl, hv4, hg4⟩
  clear k0 k1 k2 k3 k4
  have HB4 := hide (HB3.out.grown hg4 HB3.out.size (fun k hk => by cases hk; exact hgW))
  have HV14 := hide (HV13.out.off hg4 hg12)
  have HV24 := hide hv4
  have HQ14 := hide ((hg4.block _ (blk_lt HQ13.out) (fun e => hp1g (Option.some.inj e))).trans HQ13.out)
  have HQ24 := hide ((hg4.block _ (blk_lt HQ23.out) (fun e => hp2g (Option.some.inj e))).trans HQ23.out)
  clear hv4 hg4 HB3 HV13 HV23 HQ13 HQ23
  have k0 := blk_cell HQ24.out 0 rfl
  have k1 := blk_cell HQ24.out 1 rfl
  have k2 := blk_cell HQ24.out 2 rfl
  have k3 := blk_cell HQ24.out 3 rfl
  have k4 := blk_cell HQ24.out 4 rfl
  go_wp2_with fail
  refine (heldHall_one g2 c2 w4 HV24.out).mono ?_
  rintro e w5 ⟨rfl, hb5⟩
  clear k0 k1 k2 k3 k4
  have HB5 := hide (HB4.out.trans (hb5.mono HB4.out.size))
  have HV15 := hide (HV14.out.below hb5)
  have HV25 := hide (HV24.out.below hb5)
  have HQ15 := hide ((hb5.block _ (blk_lt HQ14.out)).trans HQ14.out)
  have HQ25 := hide ((hb5.block _ (blk_lt HQ24.out)).trans HQ24.out)
  clear hb5 HB4 HV14 HV24 HQ14 HQ24
  go_wp2_with fail
  refine (implHallNew_any _).mono ?_
  rintro e w6 ⟨oo3, c3, rfl, ho3, hb6⟩
  obtain ⟨g3, rfl, hg3, hv3⟩ := outs_of ho3
  obtain ⟨W6, hW6⟩ : ∃ W6, w6.alloc (.cells #[.slice none 0 0, .slice none 0 0, .slice none 0 0, .slice none 0 0, .slice (some ⟨g3, 0, none⟩) 2 c3] 30) = W6 := ⟨_, rfl⟩
  have hbC : Below w6.heap.size w6 W6 := by rw [← hW6]; exact (Below.refl _ _).alloc (Nat.le_refl _) _
  have hQ3 : W6.heap[w6.heap.size]? = some (.cells #[.slice none 0 0, .slice none 0 0, .slice none 0 0, .slice none 0 0, .slice (some ⟨g3, 0, none⟩) 2 c3] 30 (0, 0)) := by rw [← hW6]; exact heap_alloc_new _ _
  have hb56 := hb6.trans (hbC.mono hb6.size)
  have HB6 := hide (HB5.out.trans (hb56.mono HB5.out.size))
  have HV16 := hide (HV15.out.below hb56)
  have HV26 := hide (HV25.out.below hb56)
  have HV36 := hide (hv3.below hbC)
  have HQ16 := hide ((hb56.block _ (blk_lt HQ15.out)).trans HQ15.out)
  have HQ26 := hide ((hb56.block _ (blk_lt HQ25.out)).trans HQ25.out)
  have HQ36 := hide hQ3
  have HW6 := hide hW6
  clear ho3 hb6 hv3 hbC hQ3 hW6 hb56 HB5 HV15 HV25 HQ15 HQ25
  have k0 := blk_cell HQ36.out 0 rfl
  have k1 := blk_cell HQ36.out 1 rfl
  have k2 := blk_cell HQ36.out 2 rfl
  have k3 := blk_cell HQ36.out 3 rfl
  have k4 := blk_cell HQ36.out 4 rfl
  have m0 := blk_cell HQ16.out 0 rfl
  have m1 := blk_cell HQ16.out 1 rfl
  have m2 := blk_cell HQ16.out 2 rfl
  have m3 := blk_cell HQ16.out 3 rfl
  have m4 := blk_cell HQ16.out 4 rfl
  go_upto_region 14 with fail
  rw [HW6.out]
  clear HW6
  go_wp2_with fail
  refine (eqHall_any g3 c3 g1 c1 W6 HV36.out HV16.out).mono ?_
  rintro e w7 ⟨rfl, hb7⟩
  clear k0 k1 k2 k3 k4 m0 m1 m2 m3 m4
  have HB7 := hide (HB6.out.trans (hb7.mono HB6.out.size))
  have HV27 := hide (HV26.out.below hb7)
  have HQ27 := hide ((hb7.block _ (blk_lt HQ26.out)).trans HQ26.out)
  clear hb7 HB6 HV26 HQ26
  have k0 := blk_cell HQ27.out 0 rfl
  have k1 := blk_cell HQ27.out 1 rfl
  have k2 := blk_cell HQ27.out 2 rfl
  have k3 := blk_cell HQ27.out 3 rfl
  have k4 := blk_cell HQ27.out 4 rfl
  go_wp2_with fail
  refine (heldHall_one g2 c2 w7 HV27.out).mono ?_
  rintro e w8 ⟨rfl, hb8⟩
  go_wp2_with fail
  go_ret
  exact ⟨rfl, HB7.out.trans (hb8.mono HB7.out.size)⟩

end Go.Proofs.Ytckkfjmjcknjdaa
