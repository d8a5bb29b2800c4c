/-
  Chapter 13: the law FnExactHallNew: halls held against each other, marks on them, and its walk.
-/
import Derived.Test.YtckkfjmjcknjdaaHall1
import Derived.Test.YtckkfjmjcknjdaaQuietIn
namespace Go.Proofs.Ytckkfjmjcknjdaa
open Go.RowKit K
set_option linter.unusedVariables false
set_option linter.unusedSimpArgs false

theorem infoOut3 : (Try.prog.info? 48).map (·.size) = some 3 := by kernel_rfl

/-- Two Outs without Ids in a block. -/
structure OutV (w : World) (g : Nat) (d0 a0 d1 a1 : Int) : Prop where
  blk : ∃ cur, w.heap[g]? = some (.cells cur 48 (0, 0)) ∧ cur[0]? = some (.int .i64 d0) ∧ cur[1]? = some (.int .i64 a0) ∧ cur[2]? = some (.slice none 0 0) ∧ cur[3]? = some (.int .i64 d1) ∧ cur[4]? = some (.int .i64 a1) ∧ cur[5]? = some (.slice none 0 0)

theorem OutV.below {w w' : World} {g : Nat} {d0 a0 d1 a1 : Int} (h : OutV w g d0 a0 d1 a1) (hb : Below w.heap.size w w') : OutV w' g d0 a0 d1 a1 := by
  obtain ⟨cur, h1, h2⟩ := h.blk
  exact ⟨cur, (hb.block g (blk_lt h1)).trans h1, h2⟩

theorem OutV.off {w w' : World} {g g' : Nat} {d0 a0 d1 a1 : Int} (h : OutV w g d0 a0 d1 a1) (hg : w.grownBy w' (some g')) (hne : g ≠ g') : OutV w' g d0 a0 d1 a1 := by
  obtain ⟨cur, h1, h2⟩ := h.blk
  exact ⟨cur, (hg.block g (blk_lt h1) (fun e => by have := Option.some.inj e; omega)).trans h1, h2⟩

theorem OutV.lt {w : World} {g : Nat} {d0 a0 d1 a1 : Int} (h : OutV w g d0 a0 d1 a1) : g < w.heap.size := by
  obtain ⟨cur, h1, h2⟩ := h.blk
  exact blk_lt h1

theorem OutV.cs {w : World} {g : Nat} {d0 a0 d1 a1 : Int} (h : OutV w g d0 a0 d1 a1) : w.cell? ⟨g, 0, none⟩ = some (.int .i64 d0) ∧ w.cell? ⟨g, 1, none⟩ = some (.int .i64 a0) ∧ w.cell? ⟨g, 2, none⟩ = some (.slice none 0 0) ∧ w.cell? ⟨g, 3, none⟩ = some (.int .i64 d1) ∧ w.cell? ⟨g, 4, none⟩ = some (.int .i64 a1) ∧ w.cell? ⟨g, 5, none⟩ = some (.slice none 0 0) := by
  obtain ⟨cur, h1, h2, h3, h4, h5, h6, h7⟩ := h.blk
  exact ⟨blk_cell h1 0 h2, blk_cell h1 1 h3, blk_cell h1 2 h4, blk_cell h1 3 h5, blk_cell h1 4 h6, blk_cell h1 5 h7⟩

theorem OutV.fr {w : World} {g : Nat} {d0 a0 d1 a1 : Int} (h : OutV w g d0 a0 d1 a1) (j : Nat) : w.frozen? ⟨g, j, none⟩ = false := by
  obtain ⟨cur, h1, _⟩ := h.blk
  exact blk_free h1 j

theorem outs_of {w : World} {B : Nat} {oo : Option Addr} {c : Nat} (h : w.ownsRow B 48 3 (.slice oo 2 c) 2 (outsL 2)) : ∃ g, oo = some ⟨g, 0, none⟩ ∧ B ≤ g ∧ OutV w g 1 0 2 0 := by
  rcases h.2 with ⟨_, hn⟩ | ⟨g, cap, cur, hv, hb, hg, hnc, hcm, hcs, htake⟩
  · cases hn
  · cases hv
    have hk : ∀ k, k < 6 → cur[k]? = (outsL 2)[k]? := fun k hk => by
      rw [← htake, List.getElem?_take_of_lt (by omega), Array.getElem?_toList]
    exact ⟨g, rfl, hb, ⟨cur, hg, hk 0 (by omega), hk 1 (by omega), hk 2 (by omega), hk 3 (by omega), hk 4 (by omega), hk 5 (by omega)⟩⟩

theorem idxO (g c : Nat) (wx : World) : (Instr.indexAt 28 (.slice (some ⟨g, 0, none⟩) 2 c) (.int .i64 0)).run Try.prog wx = .ok (.pointer (some ⟨g, 0, none⟩)) wx := by
  have := run_indexAt_slice wx 28 48 3 Try.underlying28 infoOut3 g 0 2 c 0 (by omega)
  simpa using this
theorem idxI (g c : Nat) (wx : World) : (Instr.indexAt 28 (.slice (some ⟨g, 0, none⟩) 2 c) (.int .i64 1)).run Try.prog wx = .ok (.pointer (some ⟨g, 3, none⟩)) wx := by
  have := run_indexAt_slice wx 28 48 3 Try.underlying28 infoOut3 g 0 2 c 1 (by omega)
  simpa using this

theorem eqOut_any (d a : Int) (w : World) : Calls Try.prog 39 #[.agg #[.int .i64 d, .int .i64 a, .slice none 0 0], .agg #[.int .i64 d, .int .i64 a, .slice none 0 0]] w fun e w' => e = .returned (.bool true) ∧ Below w.heap.size w w' := by
  go_enter Try.func39, Try.ntmps39
  go_wp2_with (go_at_call 69; refine (eqIntS_nil _).mono ?_; rintro e w1 ⟨rfl, rfl⟩)
  go_ret
  exact ⟨rfl, ((Below.refl _ _).alloc (Nat.le_refl _) _).alloc (by simp) _⟩

set_option maxHeartbeats 2000000 in
theorem eqOutS_any (g c g' c' : Nat) (w : World) (h : OutV w g 1 0 2 0) (h' : OutV w g' 1 0 2 0) :
    Calls Try.prog 16 #[.slice (some ⟨g, 0, none⟩) 2 c, .slice (some ⟨g', 0, none⟩) 2 c'] w fun e w' => e = .returned (.bool true) ∧ Below w.heap.size w w' := by
  have HV := hide h
  have HV' := hide h'
  clear h h'
  have i0 := idxO g c
  have i1 := idxI g c
  have i0' := idxO g' c'
  have i1' := idxI g' c'
  go_enter Try.func16, Try.ntmps16
  go_wp2_with fail
  go_loopw [5] (fun i wr => ∃ (j : Nat), i = .int .i64 (j : Int) ∧ j ≤ 2 ∧ Below w.heap.size w wr) (fun i _ => 2 - (intOf i).toNat)
  case atStart => exact ⟨0, rfl, by omega, Below.refl _ _⟩
  case round =>
    obtain ⟨j, rfl, hj, hb⟩ := hrel
    have HB := hide hb
    obtain ⟨c0, c1, c2, c3, c4, c5⟩ := (HV.out.below hb).cs
    obtain ⟨e0, e1, e2, e3, e4, e5⟩ := (HV'.out.below hb).cs
    have hlg := (HV.out.below hb).lt
    have hlg' := (HV'.out.below hb).lt
    clear hb
    by_cases hlt : j < 2
    · rcases (show j = 0 ∨ j = 1 by omega) with rfl | rfl
      · have HE := hide (fun wx => eqOut_any 1 0 wx)
        go_wp2_with fail
        refine wp_region_in (F := fun w' => Below wr.heap.size wr w') (by kernel_rfl) (by kernel_rfl) (Below.refl _ _).drew ?_
        have hne : Nonempty (InW (fun w' => Below wr.heap.size wr w')) := ⟨⟨_, Below.refl _ _⟩⟩
        have k0 : ∀ m : InW (fun w' => Below wr.heap.size wr w'), m.w.cell? ⟨g, 0, none⟩ = some (.int .i64 1) := fun m => (m.h.cell hlg).trans c0
        have l0 : ∀ m : InW (fun w' => Below wr.heap.size wr w'), m.w.cell? ⟨g', 0, none⟩ = some (.int .i64 1) := fun m => (m.h.cell hlg').trans e0
        have k1 : ∀ m : InW (fun w' => Below wr.heap.size wr w'), m.w.cell? ⟨g, 1, none⟩ = some (.int .i64 0) := fun m => (m.h.cell hlg).trans c1
        have l1 : ∀ m : InW (fun w' => Below wr.heap.size wr w'), m.w.cell? ⟨g', 1, none⟩ = some (.int .i64 0) := fun m => (m.h.cell hlg').trans e1
        have k2 : ∀ m : InW (fun w' => Below wr.heap.size wr w'), m.w.cell? ⟨g, 2, none⟩ = some (.slice none 0 0) := fun m => (m.h.cell hlg).trans c2
        have l2 : ∀ m : InW (fun w' => Below wr.heap.size wr w'), m.w.cell? ⟨g', 2, none⟩ = some (.slice none 0 0) := fun m => (m.h.cell hlg').trans e2
        clear c0 c1 c2 c3 c4 c5 e0 e1 e2 e3 e4 e5
        repeat (go_big_quiet_step (first
          | (go_at_call 39; (with_reducible refine (HE.out _).mono ?_); rintro e' w2 ⟨rfl, hb2⟩; exact ⟨rfl, ⟨w2, Below.trans (InW.h _) (hb2.mono (Below.size (InW.h (F := fun w' => Below wr.heap.size wr w') ‹_›)))⟩, rfl⟩)))
        refine wpQuiet_nil ?_
        intro _ hw'
        obtain ⟨nq, hw''⟩ := hw'
        subst hw''
        have hnq := nq.h
        generalize nq.w = w3 at hnq ⊢
        have HB3 := hide (HB.out.trans (hnq.mono HB.out.size))
        clear hne k0 k1 k2 l0 l1 l2 hnq
        go_wp2_with fail
        go_roundw
        case rel => exact ⟨1, by go_num, by omega, HB3.out⟩
        case measure => simp [intOf]
      · have HE := hide (fun wx => eqOut_any 2 0 wx)
        go_wp2_with fail
        refine wp_region_in (F := fun w' => Below wr.heap.size wr w') (by kernel_rfl) (by kernel_rfl) (Below.refl _ _).drew ?_
        have hne : Nonempty (InW (fun w' => Below wr.heap.size wr w')) := ⟨⟨_, Below.refl _ _⟩⟩
        have k0 : ∀ m : InW (fun w' => Below wr.heap.size wr w'), m.w.cell? ⟨g, 3, none⟩ = some (.int .i64 2) := fun m => (m.h.cell hlg).trans c3
        have l0 : ∀ m : InW (fun w' => Below wr.heap.size wr w'), m.w.cell? ⟨g', 3, none⟩ = some (.int .i64 2) := fun m => (m.h.cell hlg').trans e3
        have k1 : ∀ m : InW (fun w' => Below wr.heap.size wr w'), m.w.cell? ⟨g, 4, none⟩ = some (.int .i64 0) := fun m => (m.h.cell hlg).trans c4
        have l1 : ∀ m : InW (fun w' => Below wr.heap.size wr w'), m.w.cell? ⟨g', 4, none⟩ = some (.int .i64 0) := fun m => (m.h.cell hlg').trans e4
        have k2 : ∀ m : InW (fun w' => Below wr.heap.size wr w'), m.w.cell? ⟨g, 5, none⟩ = some (.slice none 0 0) := fun m => (m.h.cell hlg).trans c5
        have l2 : ∀ m : InW (fun w' => Below wr.heap.size wr w'), m.w.cell? ⟨g', 5, none⟩ = some (.slice none 0 0) := fun m => (m.h.cell hlg').trans e5
        clear c0 c1 c2 c3 c4 c5 e0 e1 e2 e3 e4 e5
        repeat (go_big_quiet_step (first
          | (go_at_call 39; (with_reducible refine (HE.out _).mono ?_); rintro e' w2 ⟨rfl, hb2⟩; exact ⟨rfl, ⟨w2, Below.trans (InW.h _) (hb2.mono (Below.size (InW.h (F := fun w' => Below wr.heap.size wr w') ‹_›)))⟩, rfl⟩)))
        refine wpQuiet_nil ?_
        intro _ hw'
        obtain ⟨nq, hw''⟩ := hw'
        subst hw''
        have hnq := nq.h
        generalize nq.w = w3 at hnq ⊢
        have HB3 := hide (HB.out.trans (hnq.mono HB.out.size))
        clear hne k0 k1 k2 l0 l1 l2 hnq
        go_wp2_with fail
        go_roundw
        case rel => exact ⟨2, by go_num, by omega, HB3.out⟩
        case measure => simp [intOf]
    · obtain rfl : j = 2 := by omega
      go_wp2_with fail
      go_ret
      exact ⟨rfl, HB.out⟩

/-- A hall without anything, as a value. -/
def hallV (g c : Nat) : Value := .agg #[.slice none 0 0, .slice none 0 0, .slice none 0 0, .slice none 0 0, .slice (some ⟨g, 0, none⟩) 2 c]

set_option maxHeartbeats 2000000 in
theorem eqHall_any (g c g' c' : Nat) (w : World) (h : OutV w g 1 0 2 0) (h' : OutV w g' 1 0 2 0) :
    Calls Try.prog 7 #[hallV g c, hallV g' c'] w fun e w' => e = .returned (.bool true) ∧ Below w.heap.size w w' := by
  unfold hallV
  obtain ⟨W0, hW0⟩ : ∃ W0, (w.alloc (.cells #[.slice none 0 0, .slice none 0 0, .slice none 0 0, .slice none 0 0, .slice (some ⟨g, 0, none⟩) 2 c] 30)).alloc (.cells #[.slice none 0 0, .slice none 0 0, .slice none 0 0, .slice none 0 0, .slice (some ⟨g', 0, none⟩) 2 c'] 30) = W0 := ⟨_, rfl⟩
  have hb0 : Below w.heap.size w W0 := by rw [← hW0]; exact ((Below.refl w.heap.size w).alloc (Nat.le_refl _) _).alloc (by simp) _
  have hQ0 : W0.heap[w.heap.size]? = some (.cells #[.slice none 0 0, .slice none 0 0, .slice none 0 0, .slice none 0 0, .slice (some ⟨g, 0, none⟩) 2 c] 30 (0, 0)) := by
    rw [← hW0]
    exact (((Below.refl _ _).alloc (Nat.le_refl _) _ : Below (w.alloc (.cells #[.slice none 0 0, .slice none 0 0, .slice none 0 0, .slice none 0 0, .slice (some ⟨g, 0, none⟩) 2 c] 30)).heap.size _ _).block w.heap.size (by simp)).trans (heap_alloc_new w _)
  have hR0 : W0.heap[w.heap.size + 1]? = some (.cells #[.slice none 0 0, .slice none 0 0, .slice none 0 0, .slice none 0 0, .slice (some ⟨g', 0, none⟩) 2 c'] 30 (0, 0)) := by
    rw [← hW0]
    have := heap_alloc_new (w.alloc (.cells #[.slice none 0 0, .slice none 0 0, .slice none 0 0, .slice none 0 0, .slice (some ⟨g, 0, none⟩) 2 c] 30)) (.cells #[.slice none 0 0, .slice none 0 0, .slice none 0 0, .slice none 0 0, .slice (some ⟨g', 0, none⟩) 2 c'] 30)
    rw [World.size_alloc] at this
    exact this
  have HV := hide (h.below hb0)
  have HV' := hide (h'.below hb0)
  have HB := hide hb0
  have HQ := hide hQ0
  have HR := hide hR0
  have k0 := blk_cell hQ0 0 rfl
  have k1 := blk_cell hQ0 1 rfl
  have k2 := blk_cell hQ0 2 rfl
  have k3 := blk_cell hQ0 3 rfl
  have m0 := blk_cell hR0 0 rfl
  have m1 := blk_cell hR0 1 rfl
  have m2 := blk_cell hR0 2 rfl
  have m3 := blk_cell hR0 3 rfl
  clear h h' hb0 hQ0 hR0
  go_enter Try.func7, Try.ntmps7
  go_wp2_with (first
    | (go_at_call 14; refine (eqSessionS_nil _).mono ?_; rintro e w1 ⟨rfl, rfl⟩)
    | (go_at_call 15; refine (eqRoom_nil _).mono ?_; rintro e w2 ⟨rfl, hb2⟩; have k4 := blk_cell ((hb2.block _ (blk_lt HQ.out)).trans HQ.out) 4 rfl; have m4 := blk_cell ((hb2.block _ (blk_lt HR.out)).trans HR.out) 4 rfl; have HEQ := hide (eqOutS_any g c g' c' w2 (HV.out.below hb2) (HV'.out.below hb2)))
    | (go_at_call 16; refine HEQ.out.mono ?_; rintro e w3 ⟨rfl, hb3⟩))
  go_ret
  exact ⟨rfl, HB.out.trans ((hb2.trans (hb3.mono hb2.size)).mono HB.out.size)⟩

end Go.Proofs.Ytckkfjmjcknjdaa
