/-
  Walks of chapter 11 of the specification: which event comes ahead of another one, and whether it can stand next (made by wip/tools/gen11f.py).
-/
import Derived.Test.YtmifhdoaknbkbaaPkRowCat
import Derived.Test.YtmifhdoaknbkbaaWalk10n
import Derived.Test.YtmifhdoaknbkbaaQuietIn
namespace Go.Proofs.Ytmifhdoaknbkbaa
open Go.RowKit P1 P3 P5 P9 P11 P12 P14 P15 K
set_option linter.unusedVariables false
set_option linter.unusedSimpArgs false

theorem heavy_eq (e : EvV) : heavy e = ((e.kind == 3) || ((e.kind == 2) && ((e.member == 0) || (e.member == 3)) && !(e.sender == e.user))) := rfl

set_option maxHeartbeats 8000000 in
theorem l11Heavy_any (e : EvV) (xl xp : Value) (w : World) :
    Calls Try.prog 131 #[evv e xl xp] w fun r w' => r = .returned (.bool (heavy e)) ∧ Below w.heap.size w w' := by
  have HB0 := hide ((Below.refl w.heap.size w).alloc (Nat.le_refl _) (.cells (evcells e.id e.kind e.sender e.user e.member e.depth xl xp e.text) 40))
  rw [heavy_eq]
  cases k3 : (e.kind == 3)
  · cases k2 : (e.kind == 2)
    · go_enter Try.func131, Try.ntmps131
      go_wp2_with fail
      go_ret
      exact ⟨rfl, HB0.out⟩
    · cases m0 : (e.member == 0) <;> cases m3 : (e.member == 3) <;> cases su : (e.sender == e.user)
      all_goals
        have su2 := ne_beq su
        go_enter Try.func131, Try.ntmps131
        go_wp2_with fail
        all_goals go_ret
        all_goals exact ⟨rfl, HB0.out⟩
  · go_enter Try.func131, Try.ntmps131
    go_wp2_with fail
    go_ret
    exact ⟨by simp, HB0.out⟩

theorem heavier_eq (es : List EvV) (s : St) (a b : EvV) : heavier es s a b = if (heavy a == heavy b) = true then (if (levOf es s a.sender == levOf es s b.sender) = true then (if (a.depth == b.depth) = true then decide (a.id < b.id) else decide (a.depth < b.depth)) else decide (levOf es s b.sender < levOf es s a.sender)) else heavy a := by
  unfold heavier
  simp only [beq_iff_eq]

set_option maxRecDepth 100000 in
set_option maxHeartbeats 16000000 in
theorem specHeavier_any (oa : Option Addr) (n cap : Nat) (es : List EvV) (ob : Option Addr) (m cb : Nat) (s : List (Int × Int)) (a : EvV) (al ap : Value) (b : EvV) (bl bp : Value) (w : World) (hat : ArgsE w oa n cap es ob m cb s) :
    Calls Try.prog 116 #[.slice oa n cap, .slice ob m cb, evv a al ap, evv b bl bp] w fun r w' => r = .returned (.bool (heavier es s a b)) ∧ Below w.heap.size w w' := by
  obtain ⟨W2, hW2⟩ : ∃ W2, (w.alloc (.cells (evcells a.id a.kind a.sender a.user a.member a.depth al ap a.text) 40)).alloc (.cells (evcells b.id b.kind b.sender b.user b.member b.depth bl bp b.text) 40) = W2 := ⟨_, rfl⟩
  have hb0 : Below w.heap.size w W2 := by rw [← hW2]; exact ((Below.refl w.heap.size w).alloc (Nat.le_refl _) _).alloc (by simp) _
  have hEA : EB W2 w.heap.size a.id a.kind a.sender a.user a.member a.depth al ap a.text := by
    rw [← hW2]
    exact (EB.new w a.id a.kind a.sender a.user a.member a.depth al ap a.text).on ((Below.refl _ _).alloc (Nat.le_refl _) _) (by simp)
  have hEB : EB W2 (w.heap.size + 1) b.id b.kind b.sender b.user b.member b.depth bl bp b.text := by
    have := EB.new (w.alloc (.cells (evcells a.id a.kind a.sender a.user a.member a.depth al ap a.text) 40)) b.id b.kind b.sender b.user b.member b.depth bl bp b.text
    rw [World.size_alloc] at this
    rw [← hW2]
    exact this
  have HHA := hide (fun w => l11Heavy_any a al ap w)
  have HHB := hide (fun w => l11Heavy_any b bl bp w)
  have HLA := hide (fun w (h : ArgsE w oa n cap es ob m cb s) => specLevelOf_any oa n cap es ob m cb s a.sender w h.evs h.its)
  have HLB := hide (fun w (h : ArgsE w oa n cap es ob m cb s) => specLevelOf_any oa n cap es ob m cb s b.sender w h.evs h.its)
  have HAT := hide hat
  have B0 := hide hb0
  have EA := hide hEA
  have EBB := hide hEB
  have HW2 := hide hW2
  rw [heavier_eq]
  generalize heavy a = ha at HHA ⊢
  generalize heavy b = hb at HHB ⊢
  generalize levOf es s a.sender = la at HLA ⊢
  generalize levOf es s b.sender = lb at HLB ⊢
  clear hat hb0 hEA hEB hW2
  have hba := EA.out.lt
  have hbb := EBB.out.lt
  cases gh : (ha == hb)
  · rw [if_neg (by simp)]
    have gh2 : (ha != hb) = true := by rw [bne, gh]; rfl
    go_enter Try.func116, Try.ntmps116
    go_wp2_with fail
    try rw [HW2.out]
    refine wp_region_in (F := fun w' => Below W2.heap.size W2 w') (by kernel_rfl) (by kernel_rfl) (Below.refl _ _).drew ?_
    have hne : Nonempty (InW (fun w' => Below W2.heap.size W2 w')) := ⟨⟨_, Below.refl _ _⟩⟩
    obtain ⟨c0, c1, c2, c3, c4, c5, c6, c7, c8⟩ := EA.out.ev
    obtain ⟨d0, d1, d2, d3, d4, d5, d6, d7, d8⟩ := EBB.out.ev
    have k0 : ∀ m : InW (fun w' => Below W2.heap.size W2 w'), m.w.cell? ⟨w.heap.size, 0, none⟩ = some (.int .i64 a.id) := fun m => (m.h.cell hba).trans c0
    have k1 : ∀ m : InW (fun w' => Below W2.heap.size W2 w'), m.w.cell? ⟨w.heap.size, 1, none⟩ = some (.int .i64 a.kind) := fun m => (m.h.cell hba).trans c1
    have k2 : ∀ m : InW (fun w' => Below W2.heap.size W2 w'), m.w.cell? ⟨w.heap.size, 2, none⟩ = some (.int .i64 a.sender) := fun m => (m.h.cell hba).trans c2
    have k3 : ∀ m : InW (fun w' => Below W2.heap.size W2 w'), m.w.cell? ⟨w.heap.size, 3, none⟩ = some (.int .i64 a.user) := fun m => (m.h.cell hba).trans c3
    have k4 : ∀ m : InW (fun w' => Below W2.heap.size W2 w'), m.w.cell? ⟨w.heap.size, 4, none⟩ = some (.int .i64 a.member) := fun m => (m.h.cell hba).trans c4
    have k5 : ∀ m : InW (fun w' => Below W2.heap.size W2 w'), m.w.cell? ⟨w.heap.size, 5, none⟩ = some (al) := fun m => (m.h.cell hba).trans c5
    have k6 : ∀ m : InW (fun w' => Below W2.heap.size W2 w'), m.w.cell? ⟨w.heap.size, 6, none⟩ = some (.string ⟨a.text.toArray⟩) := fun m => (m.h.cell hba).trans c6
    have k7 : ∀ m : InW (fun w' => Below W2.heap.size W2 w'), m.w.cell? ⟨w.heap.size, 7, none⟩ = some (ap) := fun m => (m.h.cell hba).trans c7
    have k8 : ∀ m : InW (fun w' => Below W2.heap.size W2 w'), m.w.cell? ⟨w.heap.size, 8, none⟩ = some (.int .i64 a.depth) := fun m => (m.h.cell hba).trans c8
    have m0 : ∀ m : InW (fun w' => Below W2.heap.size W2 w'), m.w.cell? ⟨w.heap.size + 1, 0, none⟩ = some (.int .i64 b.id) := fun m => (m.h.cell hbb).trans d0
    have m1 : ∀ m : InW (fun w' => Below W2.heap.size W2 w'), m.w.cell? ⟨w.heap.size + 1, 1, none⟩ = some (.int .i64 b.kind) := fun m => (m.h.cell hbb).trans d1
    have m2 : ∀ m : InW (fun w' => Below W2.heap.size W2 w'), m.w.cell? ⟨w.heap.size + 1, 2, none⟩ = some (.int .i64 b.sender) := fun m => (m.h.cell hbb).trans d2
    have m3 : ∀ m : InW (fun w' => Below W2.heap.size W2 w'), m.w.cell? ⟨w.heap.size + 1, 3, none⟩ = some (.int .i64 b.user) := fun m => (m.h.cell hbb).trans d3
    have m4 : ∀ m : InW (fun w' => Below W2.heap.size W2 w'), m.w.cell? ⟨w.heap.size + 1, 4, none⟩ = some (.int .i64 b.member) := fun m => (m.h.cell hbb).trans d4
    have m5 : ∀ m : InW (fun w' => Below W2.heap.size W2 w'), m.w.cell? ⟨w.heap.size + 1, 5, none⟩ = some (bl) := fun m => (m.h.cell hbb).trans d5
    have m6 : ∀ m : InW (fun w' => Below W2.heap.size W2 w'), m.w.cell? ⟨w.heap.size + 1, 6, none⟩ = some (.string ⟨b.text.toArray⟩) := fun m => (m.h.cell hbb).trans d6
    have m7 : ∀ m : InW (fun w' => Below W2.heap.size W2 w'), m.w.cell? ⟨w.heap.size + 1, 7, none⟩ = some (bp) := fun m => (m.h.cell hbb).trans d7
    have m8 : ∀ m : InW (fun w' => Below W2.heap.size W2 w'), m.w.cell? ⟨w.heap.size + 1, 8, none⟩ = some (.int .i64 b.depth) := fun m => (m.h.cell hbb).trans d8
    repeat (go_big_quiet_step (first
      | (go_at_call 131; (with_reducible refine (HHA.out _).mono ?_); rintro e' w2 ⟨rfl, hb2⟩; exact ⟨rfl, ⟨w2, Below.trans (InW.h _) (hb2.mono (Below.size (InW.h (F := fun w' => Below W2.heap.size W2 w') ‹_›)))⟩, rfl⟩)
      | (go_at_call 131; (with_reducible refine (HHB.out _).mono ?_); rintro e' w2 ⟨rfl, hb2⟩; exact ⟨rfl, ⟨w2, Below.trans (InW.h _) (hb2.mono (Below.size (InW.h (F := fun w' => Below W2.heap.size W2 w') ‹_›)))⟩, rfl⟩)))
    refine wpQuiet_nil ?_
    intro _ hw'
    obtain ⟨nq, hw''⟩ := hw'
    subst hw''
    have hnq := nq.h
    generalize nq.w = w3 at hnq ⊢
    have B3 := hide (B0.out.trans (hnq.mono B0.out.size))
    have EA3 := hide (EA.out.on hnq hba)
    have EB3 := hide (EBB.out.on hnq hbb)
    clear hne k0 m0 c0 d0 k1 m1 c1 d1 k2 m2 c2 d2 k3 m3 c3 d3 k4 m4 c4 d4 k5 m5 c5 d5 k6 m6 c6 d6 k7 m7 c7 d7 k8 m8 c8 d8 hnq
    obtain ⟨c0, c1, c2, c3, c4, c5, c6, c7, c8⟩ := EA3.out.ev
    obtain ⟨d0, d1, d2, d3, d4, d5, d6, d7, d8⟩ := EB3.out.ev
    go_wp2_with fail
    refine (HHA.out _).mono ?_
    rintro r w4 ⟨rfl, hbq⟩
    have B4 := hide (B3.out.trans (hbq.mono B3.out.size))
    go_wp2_with fail
    go_ret
    exact ⟨rfl, B4.out⟩
  · rw [if_pos rfl]
    have gh2 : (ha != hb) = false := by rw [bne, gh]; rfl
    cases gl : (la == lb)
    · rw [if_neg (by simp)]
      have gl2 := ne_beq gl
      go_enter Try.func116, Try.ntmps116
      go_wp2_with fail
      try rw [HW2.out]
      refine wp_region_in (F := fun w' => Below W2.heap.size W2 w') (by kernel_rfl) (by kernel_rfl) (Below.refl _ _).drew ?_
      have hne : Nonempty (InW (fun w' => Below W2.heap.size W2 w')) := ⟨⟨_, Below.refl _ _⟩⟩
      obtain ⟨c0, c1, c2, c3, c4, c5, c6, c7, c8⟩ := EA.out.ev
      obtain ⟨d0, d1, d2, d3, d4, d5, d6, d7, d8⟩ := EBB.out.ev
      have k0 : ∀ m : InW (fun w' => Below W2.heap.size W2 w'), m.w.cell? ⟨w.heap.size, 0, none⟩ = some (.int .i64 a.id) := fun m => (m.h.cell hba).trans c0
      have k1 : ∀ m : InW (fun w' => Below W2.heap.size W2 w'), m.w.cell? ⟨w.heap.size, 1, none⟩ = some (.int .i64 a.kind) := fun m => (m.h.cell hba).trans c1
      have k2 : ∀ m : InW (fun w' => Below W2.heap.size W2 w'), m.w.cell? ⟨w.heap.size, 2, none⟩ = some (.int .i64 a.sender) := fun m => (m.h.cell hba).trans c2
      have k3 : ∀ m : InW (fun w' => Below W2.heap.size W2 w'), m.w.cell? ⟨w.heap.size, 3, none⟩ = some (.int .i64 a.user) := fun m => (m.h.cell hba).trans c3
      have k4 : ∀ m : InW (fun w' => Below W2.heap.size W2 w'), m.w.cell? ⟨w.heap.size, 4, none⟩ = some (.int .i64 a.member) := fun m => (m.h.cell hba).trans c4
      have k5 : ∀ m : InW (fun w' => Below W2.heap.size W2 w'), m.w.cell? ⟨w.heap.size, 5, none⟩ = some (al) := fun m => (m.h.cell hba).trans c5
      have k6 : ∀ m : InW (fun w' => Below W2.heap.size W2 w'), m.w.cell? ⟨w.heap.size, 6, none⟩ = some (.string ⟨a.text.toArray⟩) := fun m => (m.h.cell hba).trans c6
      have k7 : ∀ m : InW (fun w' => Below W2.heap.size W2 w'), m.w.cell? ⟨w.heap.size, 7, none⟩ = some (ap) := fun m => (m.h.cell hba).trans c7
      have k8 : ∀ m : InW (fun w' => Below W2.heap.size W2 w'), m.w.cell? ⟨w.heap.size, 8, none⟩ = some (.int .i64 a.depth) := fun m => (m.h.cell hba).trans c8
      have m0 : ∀ m : InW (fun w' => Below W2.heap.size W2 w'), m.w.cell? ⟨w.heap.size + 1, 0, none⟩ = some (.int .i64 b.id) := fun m => (m.h.cell hbb).trans d0
      have m1 : ∀ m : InW (fun w' => Below W2.heap.size W2 w'), m.w.cell? ⟨w.heap.size + 1, 1, none⟩ = some (.int .i64 b.kind) := fun m => (m.h.cell hbb).trans d1
      have m2 : ∀ m : InW (fun w' => Below W2.heap.size W2 w'), m.w.cell? ⟨w.heap.size + 1, 2, none⟩ = some (.int .i64 b.sender) := fun m => (m.h.cell hbb).trans d2
      have m3 : ∀ m : InW (fun w' => Below W2.heap.size W2 w'), m.w.cell? ⟨w.heap.size + 1, 3, none⟩ = some (.int .i64 b.user) := fun m => (m.h.cell hbb).trans d3
      have m4 : ∀ m : InW (fun w' => Below W2.heap.size W2 w'), m.w.cell? ⟨w.heap.size + 1, 4, none⟩ = some (.int .i64 b.member) := fun m => (m.h.cell hbb).trans d4
      have m5 : ∀ m : InW (fun w' => Below W2.heap.size W2 w'), m.w.cell? ⟨w.heap.size + 1, 5, none⟩ = some (bl) := fun m => (m.h.cell hbb).trans d5
      have m6 : ∀ m : InW (fun w' => Below W2.heap.size W2 w'), m.w.cell? ⟨w.heap.size + 1, 6, none⟩ = some (.string ⟨b.text.toArray⟩) := fun m => (m.h.cell hbb).trans d6
      have m7 : ∀ m : InW (fun w' => Below W2.heap.size W2 w'), m.w.cell? ⟨w.heap.size + 1, 7, none⟩ = some (bp) := fun m => (m.h.cell hbb).trans d7
      have m8 : ∀ m : InW (fun w' => Below W2.heap.size W2 w'), m.w.cell? ⟨w.heap.size + 1, 8, none⟩ = some (.int .i64 b.depth) := fun m => (m.h.cell hbb).trans d8
      repeat (go_big_quiet_step (first
        | (go_at_call 131; (with_reducible refine (HHA.out _).mono ?_); rintro e' w2 ⟨rfl, hb2⟩; exact ⟨rfl, ⟨w2, Below.trans (InW.h _) (hb2.mono (Below.size (InW.h (F := fun w' => Below W2.heap.size W2 w') ‹_›)))⟩, rfl⟩)
        | (go_at_call 131; (with_reducible refine (HHB.out _).mono ?_); rintro e' w2 ⟨rfl, hb2⟩; exact ⟨rfl, ⟨w2, Below.trans (InW.h _) (hb2.mono (Below.size (InW.h (F := fun w' => Below W2.heap.size W2 w') ‹_›)))⟩, rfl⟩)))
      refine wpQuiet_nil ?_
      intro _ hw'
      obtain ⟨nq, hw''⟩ := hw'
      subst hw''
      have hnq := nq.h
      generalize nq.w = w3 at hnq ⊢
      have B3 := hide (B0.out.trans (hnq.mono B0.out.size))
      have EA3 := hide (EA.out.on hnq hba)
      have EB3 := hide (EBB.out.on hnq hbb)
      clear hne k0 m0 c0 d0 k1 m1 c1 d1 k2 m2 c2 d2 k3 m3 c3 d3 k4 m4 c4 d4 k5 m5 c5 d5 k6 m6 c6 d6 k7 m7 c7 d7 k8 m8 c8 d8 hnq
      obtain ⟨c0, c1, c2, c3, c4, c5, c6, c7, c8⟩ := EA3.out.ev
      obtain ⟨d0, d1, d2, d3, d4, d5, d6, d7, d8⟩ := EB3.out.ev
      go_wp2_with fail
      refine (HLA.out _ (HAT.out.on B3.out)).mono ?_
      rintro r w4 ⟨rfl, hbq⟩
      have B4 := hide (B3.out.trans (hbq.mono B3.out.size))
      have EA4 := hide (EA3.out.on hbq EA3.out.lt)
      have EB4 := hide (EB3.out.on hbq EB3.out.lt)
      clear hbq c0 d0 c1 d1 c2 d2 c3 d3 c4 d4 c5 d5 c6 d6 c7 d7 c8 d8
      obtain ⟨c0, c1, c2, c3, c4, c5, c6, c7, c8⟩ := EA4.out.ev
      obtain ⟨d0, d1, d2, d3, d4, d5, d6, d7, d8⟩ := EB4.out.ev
      go_wp2_with fail
      refine (HLB.out _ (HAT.out.on B4.out)).mono ?_
      rintro r w5 ⟨rfl, hbq⟩
      have B5 := hide (B4.out.trans (hbq.mono B4.out.size))
      have EA5 := hide (EA4.out.on hbq EA4.out.lt)
      have EB5 := hide (EB4.out.on hbq EB4.out.lt)
      clear hbq c0 d0 c1 d1 c2 d2 c3 d3 c4 d4 c5 d5 c6 d6 c7 d7 c8 d8
      obtain ⟨c0, c1, c2, c3, c4, c5, c6, c7, c8⟩ := EA5.out.ev
      obtain ⟨d0, d1, d2, d3, d4, d5, d6, d7, d8⟩ := EB5.out.ev
      go_wp2_with fail
      all_goals go_ret
      all_goals exact ⟨rfl, B5.out⟩
    · rw [if_pos rfl]
      have gl2 := ne_beq gl
      cases gd : (a.depth == b.depth)
      · rw [if_neg (by simp)]
        have gd2 := ne_beq gd
        go_enter Try.func116, Try.ntmps116
        go_wp2_with fail
        try rw [HW2.out]
        refine wp_region_in (F := fun w' => Below W2.heap.size W2 w') (by kernel_rfl) (by kernel_rfl) (Below.refl _ _).drew ?_
        have hne : Nonempty (InW (fun w' => Below W2.heap.size W2 w')) := ⟨⟨_, Below.refl _ _⟩⟩
        obtain ⟨c0, c1, c2, c3, c4, c5, c6, c7, c8⟩ := EA.out.ev
        obtain ⟨d0, d1, d2, d3, d4, d5, d6, d7, d8⟩ := EBB.out.ev
        have k0 : ∀ m : InW (fun w' => Below W2.heap.size W2 w'), m.w.cell? ⟨w.heap.size, 0, none⟩ = some (.int .i64 a.id) := fun m => (m.h.cell hba).trans c0
        have k1 : ∀ m : InW (fun w' => Below W2.heap.size W2 w'), m.w.cell? ⟨w.heap.size, 1, none⟩ = some (.int .i64 a.kind) := fun m => (m.h.cell hba).trans c1
        have k2 : ∀ m : InW (fun w' => Below W2.heap.size W2 w'), m.w.cell? ⟨w.heap.size, 2, none⟩ = some (.int .i64 a.sender) := fun m => (m.h.cell hba).trans c2
        have k3 : ∀ m : InW (fun w' => Below W2.heap.size W2 w'), m.w.cell? ⟨w.heap.size, 3, none⟩ = some (.int .i64 a.user) := fun m => (m.h.cell hba).trans c3
        have k4 : ∀ m : InW (fun w' => Below W2.heap.size W2 w'), m.w.cell? ⟨w.heap.size, 4, none⟩ = some (.int .i64 a.member) := fun m => (m.h.cell hba).trans c4
        have k5 : ∀ m : InW (fun w' => Below W2.heap.size W2 w'), m.w.cell? ⟨w.heap.size, 5, none⟩ = some (al) := fun m => (m.h.cell hba).trans c5
        have k6 : ∀ m : InW (fun w' => Below W2.heap.size W2 w'), m.w.cell? ⟨w.heap.size, 6, none⟩ = some (.string ⟨a.text.toArray⟩) := fun m => (m.h.cell hba).trans c6
        have k7 : ∀ m : InW (fun w' => Below W2.heap.size W2 w'), m.w.cell? ⟨w.heap.size, 7, none⟩ = some (ap) := fun m => (m.h.cell hba).trans c7
        have k8 : ∀ m : InW (fun w' => Below W2.heap.size W2 w'), m.w.cell? ⟨w.heap.size, 8, none⟩ = some (.int .i64 a.depth) := fun m => (m.h.cell hba).trans c8
        have m0 : ∀ m : InW (fun w' => Below W2.heap.size W2 w'), m.w.cell? ⟨w.heap.size + 1, 0, none⟩ = some (.int .i64 b.id) := fun m => (m.h.cell hbb).trans d0
        have m1 : ∀ m : InW (fun w' => Below W2.heap.size W2 w'), m.w.cell? ⟨w.heap.size + 1, 1, none⟩ = some (.int .i64 b.kind) := fun m => (m.h.cell hbb).trans d1
        have m2 : ∀ m : InW (fun w' => Below W2.heap.size W2 w'), m.w.cell? ⟨w.heap.size + 1, 2, none⟩ = some (.int .i64 b.sender) := fun m => (m.h.cell hbb).trans d2
        have m3 : ∀ m : InW (fun w' => Below W2.heap.size W2 w'), m.w.cell? ⟨w.heap.size + 1, 3, none⟩ = some (.int .i64 b.user) := fun m => (m.h.cell hbb).trans d3
        have m4 : ∀ m : InW (fun w' => Below W2.heap.size W2 w'), m.w.cell? ⟨w.heap.size + 1, 4, none⟩ = some (.int .i64 b.member) := fun m => (m.h.cell hbb).trans d4
        have m5 : ∀ m : InW (fun w' => Below W2.heap.size W2 w'), m.w.cell? ⟨w.heap.size + 1, 5, none⟩ = some (bl) := fun m => (m.h.cell hbb).trans d5
        have m6 : ∀ m : InW (fun w' => Below W2.heap.size W2 w'), m.w.cell? ⟨w.heap.size + 1, 6, none⟩ = some (.string ⟨b.text.toArray⟩) := fun m => (m.h.cell hbb).trans d6
        have m7 : ∀ m : InW (fun w' => Below W2.heap.size W2 w'), m.w.cell? ⟨w.heap.size + 1, 7, none⟩ = some (bp) := fun m => (m.h.cell hbb).trans d7
        have m8 : ∀ m : InW (fun w' => Below W2.heap.size W2 w'), m.w.cell? ⟨w.heap.size + 1, 8, none⟩ = some (.int .i64 b.depth) := fun m => (m.h.cell hbb).trans d8
        repeat (go_big_quiet_step (first
          | (go_at_call 131; (with_reducible refine (HHA.out _).mono ?_); rintro e' w2 ⟨rfl, hb2⟩; exact ⟨rfl, ⟨w2, Below.trans (InW.h _) (hb2.mono (Below.size (InW.h (F := fun w' => Below W2.heap.size W2 w') ‹_›)))⟩, rfl⟩)
          | (go_at_call 131; (with_reducible refine (HHB.out _).mono ?_); rintro e' w2 ⟨rfl, hb2⟩; exact ⟨rfl, ⟨w2, Below.trans (InW.h _) (hb2.mono (Below.size (InW.h (F := fun w' => Below W2.heap.size W2 w') ‹_›)))⟩, rfl⟩)))
        refine wpQuiet_nil ?_
        intro _ hw'
        obtain ⟨nq, hw''⟩ := hw'
        subst hw''
        have hnq := nq.h
        generalize nq.w = w3 at hnq ⊢
        have B3 := hide (B0.out.trans (hnq.mono B0.out.size))
        have EA3 := hide (EA.out.on hnq hba)
        have EB3 := hide (EBB.out.on hnq hbb)
        clear hne k0 m0 c0 d0 k1 m1 c1 d1 k2 m2 c2 d2 k3 m3 c3 d3 k4 m4 c4 d4 k5 m5 c5 d5 k6 m6 c6 d6 k7 m7 c7 d7 k8 m8 c8 d8 hnq
        obtain ⟨c0, c1, c2, c3, c4, c5, c6, c7, c8⟩ := EA3.out.ev
        obtain ⟨d0, d1, d2, d3, d4, d5, d6, d7, d8⟩ := EB3.out.ev
        go_wp2_with fail
        refine (HLA.out _ (HAT.out.on B3.out)).mono ?_
        rintro r w4 ⟨rfl, hbq⟩
        have B4 := hide (B3.out.trans (hbq.mono B3.out.size))
        have EA4 := hide (EA3.out.on hbq EA3.out.lt)
        have EB4 := hide (EB3.out.on hbq EB3.out.lt)
        clear hbq c0 d0 c1 d1 c2 d2 c3 d3 c4 d4 c5 d5 c6 d6 c7 d7 c8 d8
        obtain ⟨c0, c1, c2, c3, c4, c5, c6, c7, c8⟩ := EA4.out.ev
        obtain ⟨d0, d1, d2, d3, d4, d5, d6, d7, d8⟩ := EB4.out.ev
        go_wp2_with fail
        refine (HLB.out _ (HAT.out.on B4.out)).mono ?_
        rintro r w5 ⟨rfl, hbq⟩
        have B5 := hide (B4.out.trans (hbq.mono B4.out.size))
        have EA5 := hide (EA4.out.on hbq EA4.out.lt)
        have EB5 := hide (EB4.out.on hbq EB4.out.lt)
        clear hbq c0 d0 c1 d1 c2 d2 c3 d3 c4 d4 c5 d5 c6 d6 c7 d7 c8 d8
        obtain ⟨c0, c1, c2, c3, c4, c5, c6, c7, c8⟩ := EA5.out.ev
        obtain ⟨d0, d1, d2, d3, d4, d5, d6, d7, d8⟩ := EB5.out.ev
        go_wp2_with fail
        all_goals go_ret
        all_goals exact ⟨rfl, B5.out⟩
      · rw [if_pos rfl]
        have gd2 := ne_beq gd
        go_enter Try.func116, Try.ntmps116
        go_wp2_with fail
        try rw [HW2.out]
        refine wp_region_in (F := fun w' => Below W2.heap.size W2 w') (by kernel_rfl) (by kernel_rfl) (Below.refl _ _).drew ?_
        have hne : Nonempty (InW (fun w' => Below W2.heap.size W2 w')) := ⟨⟨_, Below.refl _ _⟩⟩
        obtain ⟨c0, c1, c2, c3, c4, c5, c6, c7, c8⟩ := EA.out.ev
        obtain ⟨d0, d1, d2, d3, d4, d5, d6, d7, d8⟩ := EBB.out.ev
        have k0 : ∀ m : InW (fun w' => Below W2.heap.size W2 w'), m.w.cell? ⟨w.heap.size, 0, none⟩ = some (.int .i64 a.id) := fun m => (m.h.cell hba).trans c0
        have k1 : ∀ m : InW (fun w' => Below W2.heap.size W2 w'), m.w.cell? ⟨w.heap.size, 1, none⟩ = some (.int .i64 a.kind) := fun m => (m.h.cell hba).trans c1
        have k2 : ∀ m : InW (fun w' => Below W2.heap.size W2 w'), m.w.cell? ⟨w.heap.size, 2, none⟩ = some (.int .i64 a.sender) := fun m => (m.h.cell hba).trans c2
        have k3 : ∀ m : InW (fun w' => Below W2.heap.size W2 w'), m.w.cell? ⟨w.heap.size, 3, none⟩ = some (.int .i64 a.user) := fun m => (m.h.cell hba).trans c3
        have k4 : ∀ m : InW (fun w' => Below W2.heap.size W2 w'), m.w.cell? ⟨w.heap.size, 4, none⟩ = some (.int .i64 a.member) := fun m => (m.h.cell hba).trans c4
        have k5 : ∀ m : InW (fun w' => Below W2.heap.size W2 w'), m.w.cell? ⟨w.heap.size, 5, none⟩ = some (al) := fun m => (m.h.cell hba).trans c5
        have k6 : ∀ m : InW (fun w' => Below W2.heap.size W2 w'), m.w.cell? ⟨w.heap.size, 6, none⟩ = some (.string ⟨a.text.toArray⟩) := fun m => (m.h.cell hba).trans c6
        have k7 : ∀ m : InW (fun w' => Below W2.heap.size W2 w'), m.w.cell? ⟨w.heap.size, 7, none⟩ = some (ap) := fun m => (m.h.cell hba).trans c7
        have k8 : ∀ m : InW (fun w' => Below W2.heap.size W2 w'), m.w.cell? ⟨w.heap.size, 8, none⟩ = some (.int .i64 a.depth) := fun m => (m.h.cell hba).trans c8
        have m0 : ∀ m : InW (fun w' => Below W2.heap.size W2 w'), m.w.cell? ⟨w.heap.size + 1, 0, none⟩ = some (.int .i64 b.id) := fun m => (m.h.cell hbb).trans d0
        have m1 : ∀ m : InW (fun w' => Below W2.heap.size W2 w'), m.w.cell? ⟨w.heap.size + 1, 1, none⟩ = some (.int .i64 b.kind) := fun m => (m.h.cell hbb).trans d1
        have m2 : ∀ m : InW (fun w' => Below W2.heap.size W2 w'), m.w.cell? ⟨w.heap.size + 1, 2, none⟩ = some (.int .i64 b.sender) := fun m => (m.h.cell hbb).trans d2
        have m3 : ∀ m : InW (fun w' => Below W2.heap.size W2 w'), m.w.cell? ⟨w.heap.size + 1, 3, none⟩ = some (.int .i64 b.user) := fun m => (m.h.cell hbb).trans d3
        have m4 : ∀ m : InW (fun w' => Below W2.heap.size W2 w'), m.w.cell? ⟨w.heap.size + 1, 4, none⟩ = some (.int .i64 b.member) := fun m => (m.h.cell hbb).trans d4
        have m5 : ∀ m : InW (fun w' => Below W2.heap.size W2 w'), m.w.cell? ⟨w.heap.size + 1, 5, none⟩ = some (bl) := fun m => (m.h.cell hbb).trans d5
        have m6 : ∀ m : InW (fun w' => Below W2.heap.size W2 w'), m.w.cell? ⟨w.heap.size + 1, 6, none⟩ = some (.string ⟨b.text.toArray⟩) := fun m => (m.h.cell hbb).trans d6
        have m7 : ∀ m : InW (fun w' => Below W2.heap.size W2 w'), m.w.cell? ⟨w.heap.size + 1, 7, none⟩ = some (bp) := fun m => (m.h.cell hbb).trans d7
        have m8 : ∀ m : InW (fun w' => Below W2.heap.size W2 w'), m.w.cell? ⟨w.heap.size + 1, 8, none⟩ = some (.int .i64 b.depth) := fun m => (m.h.cell hbb).trans d8
        repeat (go_big_quiet_step (first
          | (go_at_call 131; (with_reducible refine (HHA.out _).mono ?_); rintro e' w2 ⟨rfl, hb2⟩; exact ⟨rfl, ⟨w2, Below.trans (InW.h _) (hb2.mono (Below.size (InW.h (F := fun w' => Below W2.heap.size W2 w') ‹_›)))⟩, rfl⟩)
          | (go_at_call 131; (with_reducible refine (HHB.out _).mono ?_); rintro e' w2 ⟨rfl, hb2⟩; exact ⟨rfl, ⟨w2, Below.trans (InW.h _) (hb2.mono (Below.size (InW.h (F := fun w' => Below W2.heap.size W2 w') ‹_›)))⟩, rfl⟩)))
        refine wpQuiet_nil ?_
        intro _ hw'
        obtain ⟨nq, hw''⟩ := hw'
        subst hw''
        have hnq := nq.h
        generalize nq.w = w3 at hnq ⊢
        have B3 := hide (B0.out.trans (hnq.mono B0.out.size))
        have EA3 := hide (EA.out.on hnq hba)
        have EB3 := hide (EBB.out.on hnq hbb)
        clear hne k0 m0 c0 d0 k1 m1 c1 d1 k2 m2 c2 d2 k3 m3 c3 d3 k4 m4 c4 d4 k5 m5 c5 d5 k6 m6 c6 d6 k7 m7 c7 d7 k8 m8 c8 d8 hnq
        obtain ⟨c0, c1, c2, c3, c4, c5, c6, c7, c8⟩ := EA3.out.ev
        obtain ⟨d0, d1, d2, d3, d4, d5, d6, d7, d8⟩ := EB3.out.ev
        go_wp2_with fail
        refine (HLA.out _ (HAT.out.on B3.out)).mono ?_
        rintro r w4 ⟨rfl, hbq⟩
        have B4 := hide (B3.out.trans (hbq.mono B3.out.size))
        have EA4 := hide (EA3.out.on hbq EA3.out.lt)
        have EB4 := hide (EB3.out.on hbq EB3.out.lt)
        clear hbq c0 d0 c1 d1 c2 d2 c3 d3 c4 d4 c5 d5 c6 d6 c7 d7 c8 d8
        obtain ⟨c0, c1, c2, c3, c4, c5, c6, c7, c8⟩ := EA4.out.ev
        obtain ⟨d0, d1, d2, d3, d4, d5, d6, d7, d8⟩ := EB4.out.ev
        go_wp2_with fail
        refine (HLB.out _ (HAT.out.on B4.out)).mono ?_
        rintro r w5 ⟨rfl, hbq⟩
        have B5 := hide (B4.out.trans (hbq.mono B4.out.size))
        have EA5 := hide (EA4.out.on hbq EA4.out.lt)
        have EB5 := hide (EB4.out.on hbq EB4.out.lt)
        clear hbq c0 d0 c1 d1 c2 d2 c3 d3 c4 d4 c5 d5 c6 d6 c7 d7 c8 d8
        obtain ⟨c0, c1, c2, c3, c4, c5, c6, c7, c8⟩ := EA5.out.ev
        obtain ⟨d0, d1, d2, d3, d4, d5, d6, d7, d8⟩ := EB5.out.ev
        go_wp2_with fail
        all_goals go_ret
        all_goals exact ⟨rfl, B5.out⟩

theorem ready_at {ahead left out : List Int} {j : Nat} {z : Int} (h : ahead[j]? = some z) : ready (ahead.drop j) left out = ((!(inL left z) || inL out z) && ready (ahead.drop (j + 1)) left out) := by
  obtain ⟨hj, rfl⟩ := List.getElem?_eq_some_iff.1 h
  rw [List.drop_eq_getElem_cons hj]
  simp only [ready, List.all_cons, inL]

set_option maxHeartbeats 4000000 in
theorem l11Ready_any (oa : Option Addr) (n cap : Nat) (ah : List Int) (ob : Option Addr) (m cb : Nat) (left : List Int) (oc : Option Addr) (p cc : Nat) (out : List Int) (w : World) (hat : IntsAt w oa n cap ah) (hbt : IntsAt w ob m cb left) (hct : IntsAt w oc p cc out) :
    Calls Try.prog 115 #[.slice oa n cap, .slice ob m cb, .slice oc p cc] w fun r w' => r = .returned (.bool (ready ah left out)) ∧ w = w' := by
  have hn := hat.len
  have hm := Nat.le_trans hat.room hat.most
  unfold maxLen at hm
  have HN := hide hn
  have HAT := hide hat
  have HL := hide (fun z => l05In11_any ob m cb left z w hbt)
  have HO := hide (fun z => l05In11_any oc p cc out z w hct)
  clear hn hat hbt hct
  go_enter Try.func115, Try.ntmps115
  go_wp2_with fail
  go_loop [7] (fun i => ∃ (j : Nat), i = .int .i64 (j : Int) ∧ j ≤ n ∧ ready (ah.drop j) left out = ready ah left out) (fun i => n - (intOf i).toNat)
  case atStart => exact ⟨0, rfl, Nat.zero_le _, rfl⟩
  case round =>
    obtain ⟨j, rfl, hj, hrest⟩ := hrel
    by_cases hlt : j < n
    · have j0 : (j : Int) < (n : Int) := by omega
      obtain ⟨z, b, q, hz, hidx, hb, c0, hwz⟩ := HAT.out.get Try.underlying38 infoI j hlt
      rw [ready_at hz] at hrest
      have HL1 := hide (HL.out z)
      have HO1 := hide (HO.out z)
      generalize inL left z = r1 at HL1 hrest
      generalize inL out z = r2 at HO1 hrest
      clear hz
      cases r1
      · have HR := hide (show ready (ah.drop (j + 1)) left out = ready ah left out by rw [← hrest]; simp)
        clear hrest
        go_wp2_with (go_at_call 66; (with_reducible refine HL1.out.mono ?_); rintro r w2 ⟨rfl, rfl⟩)
        go_round
        case rel => exact ⟨j + 1, by go_num, by omega, HR.out⟩
        case measure => simp [intOf]; omega
      · cases r2
        · have HR := hide (show ready ah left out = false by rw [← hrest]; simp)
          clear hrest
          go_wp2_with (first
            | (go_at_call 66; (with_reducible refine HL1.out.mono ?_); rintro r w2 ⟨rfl, rfl⟩)
            | (go_at_call 66; (with_reducible refine HO1.out.mono ?_); rintro r w2 ⟨rfl, rfl⟩))
          go_ret
          exact ⟨by rw [HR.out]; rfl, rfl⟩
        · have HR := hide (show ready (ah.drop (j + 1)) left out = ready ah left out by rw [← hrest]; simp)
          clear hrest
          go_wp2_with (first
            | (go_at_call 66; (with_reducible refine HL1.out.mono ?_); rintro r w2 ⟨rfl, rfl⟩)
            | (go_at_call 66; (with_reducible refine HO1.out.mono ?_); rintro r w2 ⟨rfl, rfl⟩))
          go_round
          case rel => exact ⟨j + 1, by go_num, by omega, HR.out⟩
          case measure => simp [intOf]; omega
    · have hjn : j = n := by omega
      have HR := hide (show ready ah left out = true by rw [← hrest, hjn, ← HN.out, List.drop_length]; rfl)
      clear hrest
      go_wp2_with fail
      go_ret
      exact ⟨by rw [HR.out]; rfl, rfl⟩

end Go.Proofs.Ytmifhdoaknbkbaa
