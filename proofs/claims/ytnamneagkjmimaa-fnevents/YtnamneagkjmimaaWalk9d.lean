/-
  Walks of chapter 9: EventOk of the program.
-/
import Derived.Test.YtnamneagkjmimaaWalk9b
import Derived.Test.YtnamneagkjmimaaWalk9c
import Derived.Test.YtnamneagkjmimaaQuietIn
import Derived.Laws.StructEq
namespace Go.Proofs.Ytnamneagkjmimaa
open Go.RowKit P1 P3 P9 P11 P12 K
set_option linter.unusedVariables false
set_option linter.unusedSimpArgs false
attribute [local go_sem ↓] Go.wp_at_zero Go.wp_at_succ

theorem inw_more {w2 : World} (m : InW (fun w' => Below w2.heap.size w2 w')) {w3 : World} (h : Below m.w.heap.size m.w w3) : Below w2.heap.size w2 w3 := m.h.trans (h.mono m.h.size)

theorem fieldsN : Try.prog.fieldsOf 53 = #[⟨ "id", 3, 0, false, "", "loop.example/g00127/impl", 0⟩, ⟨ "kind", 3, 1, false, "", "loop.example/g00127/impl", 8⟩, ⟨ "sender", 3, 2, false, "", "loop.example/g00127/impl", 16⟩, ⟨ "user", 3, 3, false, "", "loop.example/g00127/impl", 24⟩, ⟨ "member", 3, 4, false, "", "loop.example/g00127/impl", 32⟩, ⟨ "depth", 3, 5, false, "", "loop.example/g00127/impl", 40⟩] := by kernel_rfl
theorem underN : Try.prog.underlying 53 = some (.struct (Try.prog.fieldsOf 53)) := by kernel_rfl

theorem nv_eql (a0 a1 a2 a3 a4 a5 b0 b1 b2 b3 b4 b5 : Int) (wx : World) : (binOp .eql 53 (nval a0 a1 a2 a3 a4 a5) (nval b0 b1 b2 b3 b4 b5)).run Try.prog wx = .ok (.bool (decide (a0 = b0) && (decide (a1 = b1) && (decide (a2 = b2) && (decide (a3 = b3) && (decide (a4 = b4) && decide (a5 = b5))))))) wx := by
  have hu := Try.underlying3
  rw [run_eql_struct, run_equalIn_agg wx 9999 _ _ _ underN (by kernel_rfl), fieldsN]
  simp [go_sem, hu]
  by_cases c0 : a0 = b0
  · by_cases c1 : a1 = b1
    · by_cases c2 : a2 = b2
      · by_cases c3 : a3 = b3
        · by_cases c4 : a4 = b4
          · by_cases c5 : a5 = b5
            · simp [c0, c1, c2, c3, c4, c5]
            · simp [c0, c1, c2, c3, c4, c5]
          · simp [c0, c1, c2, c3, c4]
        · simp [c0, c1, c2, c3]
      · simp [c0, c1, c2]
    · simp [c0, c1]
  · simp [c0]

/-- The numbers of an event are within all limits. -/
def numOk (id kd sn us mb dp : Int) : Bool := inR id 1 1000000 && (inR kd 1 5 && (inR sn 1 5 && (decide (us = if kd = 2 then nearI us 1 5 else 0) && (decide (mb = if kd = 2 then nearI mb 0 3 else 0) && inR dp 0 1000000))))

theorem nv_lim (id kd sn us mb dp : Int) (wx : World) : (binOp .eql 53 (nval id kd sn us mb dp) (limI id kd sn us mb dp)).run Try.prog wx = .ok (.bool (numOk id kd sn us mb dp)) wx := by
  unfold limI
  rw [nv_eql, nearI_eq (by decide), nearI_eq (by decide), nearI_eq (by decide), nearI_eq (by decide)]
  rfl

theorem nv_guard (id kd sn us mb dp : Int) (x y : Operand) (wx : World) : (eqGuard .eql 53 x y (nval id kd sn us mb dp) (limI id kd sn us mb dp)).run Try.prog wx = .ok () wx :=
  run_eqGuard_agg wx .eql _ x y _ _ (by kernel_rfl)

theorem evOk_num (id kd sn us mb dp : Int) (zl zp : List Int) (tx : List UInt8) : evOk (⟨id, kd, sn, us, mb, zl, tx, zp, dp⟩ : EvV) = (numOk id kd sn us mb dp && (lvsOk (⟨id, kd, sn, us, mb, zl, tx, zp, dp⟩ : EvV) && (txOk (⟨id, kd, sn, us, mb, zl, tx, zp, dp⟩ : EvV) && prevOk (⟨id, kd, sn, us, mb, zl, tx, zp, dp⟩ : EvV)))) := by
  have hm : memOk (⟨id, kd, sn, us, mb, zl, tx, zp, dp⟩ : EvV) = (decide (us = if kd = 2 then nearI us 1 5 else 0) && decide (mb = if kd = 2 then nearI mb 0 3 else 0)) := by
    unfold memOk
    simp only
    by_cases c : kd = 2
    · simp only [if_pos c]
      rw [nearI_eq (by decide), nearI_eq (by decide)]
    · simp only [if_neg c]
  unfold evOk bodyOk numOk
  rw [hm]
  simp only
  cases inR id 1 1000000 <;> cases inR kd 1 5 <;> cases inR sn 1 5 <;> cases decide (us = if kd = 2 then nearI us 1 5 else 0) <;> cases decide (mb = if kd = 2 then nearI mb 0 3 else 0) <;> cases inR dp 0 1000000 <;> simp [Bool.and_assoc]

theorem inw_from {w w2 : World} (hb : Below w.heap.size w w2) (m : InW (fun w' => Below w2.heap.size w2 w')) : Below w.heap.size w m.w := hb.trans (m.h.mono hb.size)

/-- The cells of the numbers. -/
structure NC (w : World) (b : Nat) (id kd sn us mb dp : Int) : Prop where
  c0 : w.cell? ⟨b, 0, none⟩ = some (.int .i64 id)
  c1 : w.cell? ⟨b, 1, none⟩ = some (.int .i64 kd)
  c2 : w.cell? ⟨b, 2, none⟩ = some (.int .i64 sn)
  c3 : w.cell? ⟨b, 3, none⟩ = some (.int .i64 us)
  c4 : w.cell? ⟨b, 4, none⟩ = some (.int .i64 mb)
  c5 : w.cell? ⟨b, 5, none⟩ = some (.int .i64 dp)

theorem NbS.nc {b : Nat} {id kd sn us mb dp : Int} {w : World} (h : NbS b id kd sn us mb dp w) : NC w b id kd sn us mb dp :=
  ⟨blk_cell h 0 rfl, blk_cell h 1 rfl, blk_cell h 2 rfl, blk_cell h 3 rfl, blk_cell h 4 rfl, blk_cell h 5 rfl⟩

set_option maxHeartbeats 1000000 in
theorem implEventOk_any (id kd sn us mb dp : Int) (oa : Option Addr) (n cl : Nat) (tx : List UInt8) (ob : Option Addr) (m cp : Nat) (zl zp : List Int) (hx : tx.length ≤ 1048576) (w : World) (hat : IntsAt w oa n cl zl) (hbt : IntsAt w ob m cp zp) :
    Calls Try.prog 12 #[evval id kd sn us mb dp (.slice oa n cl) (.slice ob m cp) tx] w fun e w' => e = .returned (.bool (evOk (⟨id, kd, sn, us, mb, zl, tx, zp, dp⟩ : EvV))) ∧ Below w.heap.size w w' := by
  have hb0 := (Below.refl w.heap.size w).alloc (Nat.le_refl _) (.cells #[.int .i64 id, .int .i64 kd, .int .i64 sn, .int .i64 us, .int .i64 mb, .slice oa n cl, .string ⟨tx.toArray⟩, .slice ob m cp, .int .i64 dp] 26)
  have HNU := hide (fun w => numbers_any id kd sn us mb dp oa n cl tx ob m cp w)
  have HLI := hide (fun w => limited_any id kd sn us mb dp w)
  have HE0 := hide (EB.new w id kd sn us mb dp (.slice oa n cl) (.slice ob m cp) tx)
  have HB0 := hide hb0
  have HAT := hide hat
  have HBT := hide hbt
  clear hb0 hat hbt
  rw [evOk_num]
  have HLV := hide (fun w hat => levelsOk_any id kd sn us mb dp oa n cl tx ob m cp zl zp w hat)
  have HTX := hide (fun w => textOk_any id kd sn us mb dp oa n cl tx ob m cp zl zp hx w)
  have HPV := hide (fun w hat => implPrevOk_any id kd sn us mb dp oa n cl tx ob m cp zl zp w hat)
  have hEq := nv_lim id kd sn us mb dp
  have hGd := nv_guard id kd sn us mb dp
  generalize numOk id kd sn us mb dp = nb at hEq ⊢
  generalize lvsOk (⟨id, kd, sn, us, mb, zl, tx, zp, dp⟩ : EvV) = lb at HLV ⊢
  generalize txOk (⟨id, kd, sn, us, mb, zl, tx, zp, dp⟩ : EvV) = tb at HTX ⊢
  generalize prevOk (⟨id, kd, sn, us, mb, zl, tx, zp, dp⟩ : EvV) = pb at HPV ⊢
  cases nb with
  | false =>
    go_enter Try.func12, Try.ntmps12
    go_wp2_with fail
    refine (HNU.out _).mono ?_
    rintro e w1 ⟨rfl, hb1⟩
    have HE1 := hide (HE0.out.on hb1 (by simp))
    have HB1 := hide (HB0.out.trans (hb1.mono (by simp)))
    clear hb1 HE0 HB0
    go_wp2_with fail
    have hbA := (Below.refl w1.heap.size w1).alloc (Nat.le_refl _) (.cells #[.int .i64 id, .int .i64 kd, .int .i64 sn, .int .i64 us, .int .i64 mb, .int .i64 dp] 53)
    have HE2 := hide (HE1.out.on hbA HE1.out.lt)
    have HN2 := hide (show NbS w1.heap.size id kd sn us mb dp (w1.alloc (.cells #[.int .i64 id, .int .i64 kd, .int .i64 sn, .int .i64 us, .int .i64 mb, .int .i64 dp] 53)) from heap_alloc_new _ _)
    have HB2 := hide (HB1.out.trans (hbA.mono HB1.out.size))
    clear hbA HE1 HB1
    generalize w1.alloc (.cells #[.int .i64 id, .int .i64 kd, .int .i64 sn, .int .i64 us, .int .i64 mb, .int .i64 dp] 53) = w2 at HE2 HN2 HB2 ⊢
    refine wp_region_in (F := fun w' => Below w2.heap.size w2 w') (by kernel_rfl) (by kernel_rfl) (Below.refl _ _).drew ?_
    have hne : Nonempty (InW (fun w' => Below w2.heap.size w2 w')) := ⟨⟨_, Below.refl _ _⟩⟩
    have hev := fun m : InW (fun w' => Below w2.heap.size w2 w') => (HE2.out.on m.h HE2.out.lt).ev
    have k0 := fun m => (hev m).c0
    have k1 := fun m => (hev m).c1
    have k2 := fun m => (hev m).c2
    have k3 := fun m => (hev m).c3
    have k4 := fun m => (hev m).c4
    have k5 := fun m => (hev m).c5
    have k6 := fun m => (hev m).c6
    have k7 := fun m => (hev m).c7
    have k8 := fun m => (hev m).c8
    have hnb := fun m : InW (fun w' => Below w2.heap.size w2 w') => NbS.nc ((m.h.block _ (blk_lt HN2.out)).trans HN2.out)
    have j0 := fun m => (hnb m).c0
    have j1 := fun m => (hnb m).c1
    have j2 := fun m => (hnb m).c2
    have j3 := fun m => (hnb m).c3
    have j4 := fun m => (hnb m).c4
    have j5 := fun m => (hnb m).c5
    clear hev hnb
    repeat (go_big_quiet_step (first
      | (go_at_call 33; refine (HLI.out _).mono ?_; rintro e w3 ⟨rfl, hb3⟩; exact ⟨rfl, ⟨w3, inw_more _ hb3⟩, rfl⟩)
      | (go_at_call 34; refine (HLV.out _ (HAT.out.below (inw_from HB2.out _))).mono ?_; rintro e w3 ⟨rfl, hb3⟩; exact ⟨rfl, ⟨w3, inw_more _ hb3⟩, rfl⟩)
      | (go_at_call 35; refine (HTX.out _).mono ?_; rintro e w3 ⟨rfl, hb3⟩; exact ⟨rfl, ⟨w3, inw_more _ hb3⟩, rfl⟩)
      | (go_at_call 36; refine (HPV.out _ (HBT.out.below (inw_from HB2.out _))).mono ?_; rintro e w3 ⟨rfl, hb3⟩; exact ⟨rfl, ⟨w3, inw_more _ hb3⟩, rfl⟩)))
    refine wpQuiet_nil ?_
    intro _ hw'
    obtain ⟨nq, hw''⟩ := hw'
    subst hw''
    have hb4 := inw_from HB2.out nq
    clear hne k0 k1 k2 k3 k4 k5 k6 k7 k8 j0 j1 j2 j3 j4 j5
    generalize nq.w = w5 at hb4 ⊢
    go_wp2_with fail
    go_ret
    exact ⟨rfl, hb4⟩
  | true =>
    cases lb with
    | false =>
      go_enter Try.func12, Try.ntmps12
      go_wp2_with fail
      refine (HNU.out _).mono ?_
      rintro e w1 ⟨rfl, hb1⟩
      have HE1 := hide (HE0.out.on hb1 (by simp))
      have HB1 := hide (HB0.out.trans (hb1.mono (by simp)))
      clear hb1 HE0 HB0
      go_wp2_with fail
      have hbA := (Below.refl w1.heap.size w1).alloc (Nat.le_refl _) (.cells #[.int .i64 id, .int .i64 kd, .int .i64 sn, .int .i64 us, .int .i64 mb, .int .i64 dp] 53)
      have HE2 := hide (HE1.out.on hbA HE1.out.lt)
      have HN2 := hide (show NbS w1.heap.size id kd sn us mb dp (w1.alloc (.cells #[.int .i64 id, .int .i64 kd, .int .i64 sn, .int .i64 us, .int .i64 mb, .int .i64 dp] 53)) from heap_alloc_new _ _)
      have HB2 := hide (HB1.out.trans (hbA.mono HB1.out.size))
      clear hbA HE1 HB1
      generalize w1.alloc (.cells #[.int .i64 id, .int .i64 kd, .int .i64 sn, .int .i64 us, .int .i64 mb, .int .i64 dp] 53) = w2 at HE2 HN2 HB2 ⊢
      refine wp_region_in (F := fun w' => Below w2.heap.size w2 w') (by kernel_rfl) (by kernel_rfl) (Below.refl _ _).drew ?_
      have hne : Nonempty (InW (fun w' => Below w2.heap.size w2 w')) := ⟨⟨_, Below.refl _ _⟩⟩
      have hev := fun m : InW (fun w' => Below w2.heap.size w2 w') => (HE2.out.on m.h HE2.out.lt).ev
      have k0 := fun m => (hev m).c0
      have k1 := fun m => (hev m).c1
      have k2 := fun m => (hev m).c2
      have k3 := fun m => (hev m).c3
      have k4 := fun m => (hev m).c4
      have k5 := fun m => (hev m).c5
      have k6 := fun m => (hev m).c6
      have k7 := fun m => (hev m).c7
      have k8 := fun m => (hev m).c8
      have hnb := fun m : InW (fun w' => Below w2.heap.size w2 w') => NbS.nc ((m.h.block _ (blk_lt HN2.out)).trans HN2.out)
      have j0 := fun m => (hnb m).c0
      have j1 := fun m => (hnb m).c1
      have j2 := fun m => (hnb m).c2
      have j3 := fun m => (hnb m).c3
      have j4 := fun m => (hnb m).c4
      have j5 := fun m => (hnb m).c5
      clear hev hnb
      repeat (go_big_quiet_step (first
        | (go_at_call 33; refine (HLI.out _).mono ?_; rintro e w3 ⟨rfl, hb3⟩; exact ⟨rfl, ⟨w3, inw_more _ hb3⟩, rfl⟩)
        | (go_at_call 34; refine (HLV.out _ (HAT.out.below (inw_from HB2.out _))).mono ?_; rintro e w3 ⟨rfl, hb3⟩; exact ⟨rfl, ⟨w3, inw_more _ hb3⟩, rfl⟩)
        | (go_at_call 35; refine (HTX.out _).mono ?_; rintro e w3 ⟨rfl, hb3⟩; exact ⟨rfl, ⟨w3, inw_more _ hb3⟩, rfl⟩)
        | (go_at_call 36; refine (HPV.out _ (HBT.out.below (inw_from HB2.out _))).mono ?_; rintro e w3 ⟨rfl, hb3⟩; exact ⟨rfl, ⟨w3, inw_more _ hb3⟩, rfl⟩)))
      refine wpQuiet_nil ?_
      intro _ hw'
      obtain ⟨nq, hw''⟩ := hw'
      subst hw''
      have hb4 := inw_from HB2.out nq
      clear hne k0 k1 k2 k3 k4 k5 k6 k7 k8 j0 j1 j2 j3 j4 j5
      generalize nq.w = w5 at hb4 ⊢
      go_wp2_with fail
      go_ret
      exact ⟨rfl, hb4⟩
    | true =>
      cases tb with
      | false =>
        go_enter Try.func12, Try.ntmps12
        go_wp2_with fail
        refine (HNU.out _).mono ?_
        rintro e w1 ⟨rfl, hb1⟩
        have HE1 := hide (HE0.out.on hb1 (by simp))
        have HB1 := hide (HB0.out.trans (hb1.mono (by simp)))
        clear hb1 HE0 HB0
        go_wp2_with fail
        have hbA := (Below.refl w1.heap.size w1).alloc (Nat.le_refl _) (.cells #[.int .i64 id, .int .i64 kd, .int .i64 sn, .int .i64 us, .int .i64 mb, .int .i64 dp] 53)
        have HE2 := hide (HE1.out.on hbA HE1.out.lt)
        have HN2 := hide (show NbS w1.heap.size id kd sn us mb dp (w1.alloc (.cells #[.int .i64 id, .int .i64 kd, .int .i64 sn, .int .i64 us, .int .i64 mb, .int .i64 dp] 53)) from heap_alloc_new _ _)
        have HB2 := hide (HB1.out.trans (hbA.mono HB1.out.size))
        clear hbA HE1 HB1
        generalize w1.alloc (.cells #[.int .i64 id, .int .i64 kd, .int .i64 sn, .int .i64 us, .int .i64 mb, .int .i64 dp] 53) = w2 at HE2 HN2 HB2 ⊢
        refine wp_region_in (F := fun w' => Below w2.heap.size w2 w') (by kernel_rfl) (by kernel_rfl) (Below.refl _ _).drew ?_
        have hne : Nonempty (InW (fun w' => Below w2.heap.size w2 w')) := ⟨⟨_, Below.refl _ _⟩⟩
        have hev := fun m : InW (fun w' => Below w2.heap.size w2 w') => (HE2.out.on m.h HE2.out.lt).ev
        have k0 := fun m => (hev m).c0
        have k1 := fun m => (hev m).c1
        have k2 := fun m => (hev m).c2
        have k3 := fun m => (hev m).c3
        have k4 := fun m => (hev m).c4
        have k5 := fun m => (hev m).c5
        have k6 := fun m => (hev m).c6
        have k7 := fun m => (hev m).c7
        have k8 := fun m => (hev m).c8
        have hnb := fun m : InW (fun w' => Below w2.heap.size w2 w') => NbS.nc ((m.h.block _ (blk_lt HN2.out)).trans HN2.out)
        have j0 := fun m => (hnb m).c0
        have j1 := fun m => (hnb m).c1
        have j2 := fun m => (hnb m).c2
        have j3 := fun m => (hnb m).c3
        have j4 := fun m => (hnb m).c4
        have j5 := fun m => (hnb m).c5
        clear hev hnb
        repeat (go_big_quiet_step (first
          | (go_at_call 33; refine (HLI.out _).mono ?_; rintro e w3 ⟨rfl, hb3⟩; exact ⟨rfl, ⟨w3, inw_more _ hb3⟩, rfl⟩)
          | (go_at_call 34; refine (HLV.out _ (HAT.out.below (inw_from HB2.out _))).mono ?_; rintro e w3 ⟨rfl, hb3⟩; exact ⟨rfl, ⟨w3, inw_more _ hb3⟩, rfl⟩)
          | (go_at_call 35; refine (HTX.out _).mono ?_; rintro e w3 ⟨rfl, hb3⟩; exact ⟨rfl, ⟨w3, inw_more _ hb3⟩, rfl⟩)
          | (go_at_call 36; refine (HPV.out _ (HBT.out.below (inw_from HB2.out _))).mono ?_; rintro e w3 ⟨rfl, hb3⟩; exact ⟨rfl, ⟨w3, inw_more _ hb3⟩, rfl⟩)))
        refine wpQuiet_nil ?_
        intro _ hw'
        obtain ⟨nq, hw''⟩ := hw'
        subst hw''
        have hb4 := inw_from HB2.out nq
        clear hne k0 k1 k2 k3 k4 k5 k6 k7 k8 j0 j1 j2 j3 j4 j5
        generalize nq.w = w5 at hb4 ⊢
        go_wp2_with fail
        go_ret
        exact ⟨rfl, hb4⟩
      | true =>
        cases pb with
        | false =>
          go_enter Try.func12, Try.ntmps12
          go_wp2_with fail
          refine (HNU.out _).mono ?_
          rintro e w1 ⟨rfl, hb1⟩
          have HE1 := hide (HE0.out.on hb1 (by simp))
          have HB1 := hide (HB0.out.trans (hb1.mono (by simp)))
          clear hb1 HE0 HB0
          go_wp2_with fail
          have hbA := (Below.refl w1.heap.size w1).alloc (Nat.le_refl _) (.cells #[.int .i64 id, .int .i64 kd, .int .i64 sn, .int .i64 us, .int .i64 mb, .int .i64 dp] 53)
          have HE2 := hide (HE1.out.on hbA HE1.out.lt)
          have HN2 := hide (show NbS w1.heap.size id kd sn us mb dp (w1.alloc (.cells #[.int .i64 id, .int .i64 kd, .int .i64 sn, .int .i64 us, .int .i64 mb, .int .i64 dp] 53)) from heap_alloc_new _ _)
          have HB2 := hide (HB1.out.trans (hbA.mono HB1.out.size))
          clear hbA HE1 HB1
          generalize w1.alloc (.cells #[.int .i64 id, .int .i64 kd, .int .i64 sn, .int .i64 us, .int .i64 mb, .int .i64 dp] 53) = w2 at HE2 HN2 HB2 ⊢
          refine wp_region_in (F := fun w' => Below w2.heap.size w2 w') (by kernel_rfl) (by kernel_rfl) (Below.refl _ _).drew ?_
          have hne : Nonempty (InW (fun w' => Below w2.heap.size w2 w')) := ⟨⟨_, Below.refl _ _⟩⟩
          have hev := fun m : InW (fun w' => Below w2.heap.size w2 w') => (HE2.out.on m.h HE2.out.lt).ev
          have k0 := fun m => (hev m).c0
          have k1 := fun m => (hev m).c1
          have k2 := fun m => (hev m).c2
          have k3 := fun m => (hev m).c3
          have k4 := fun m => (hev m).c4
          have k5 := fun m => (hev m).c5
          have k6 := fun m => (hev m).c6
          have k7 := fun m => (hev m).c7
          have k8 := fun m => (hev m).c8
          have hnb := fun m : InW (fun w' => Below w2.heap.size w2 w') => NbS.nc ((m.h.block _ (blk_lt HN2.out)).trans HN2.out)
          have j0 := fun m => (hnb m).c0
          have j1 := fun m => (hnb m).c1
          have j2 := fun m => (hnb m).c2
          have j3 := fun m => (hnb m).c3
          have j4 := fun m => (hnb m).c4
          have j5 := fun m => (hnb m).c5
          clear hev hnb
          repeat (go_big_quiet_step (first
            | (go_at_call 33; refine (HLI.out _).mono ?_; rintro e w3 ⟨rfl, hb3⟩; exact ⟨rfl, ⟨w3, inw_more _ hb3⟩, rfl⟩)
            | (go_at_call 34; refine (HLV.out _ (HAT.out.below (inw_from HB2.out _))).mono ?_; rintro e w3 ⟨rfl, hb3⟩; exact ⟨rfl, ⟨w3, inw_more _ hb3⟩, rfl⟩)
            | (go_at_call 35; refine (HTX.out _).mono ?_; rintro e w3 ⟨rfl, hb3⟩; exact ⟨rfl, ⟨w3, inw_more _ hb3⟩, rfl⟩)
            | (go_at_call 36; refine (HPV.out _ (HBT.out.below (inw_from HB2.out _))).mono ?_; rintro e w3 ⟨rfl, hb3⟩; exact ⟨rfl, ⟨w3, inw_more _ hb3⟩, rfl⟩)))
          refine wpQuiet_nil ?_
          intro _ hw'
          obtain ⟨nq, hw''⟩ := hw'
          subst hw''
          have hb4 := inw_from HB2.out nq
          clear hne k0 k1 k2 k3 k4 k5 k6 k7 k8 j0 j1 j2 j3 j4 j5
          generalize nq.w = w5 at hb4 ⊢
          go_wp2_with fail
          go_ret
          exact ⟨rfl, hb4⟩
        | true =>
          go_enter Try.func12, Try.ntmps12
          go_wp2_with fail
          refine (HNU.out _).mono ?_
          rintro e w1 ⟨rfl, hb1⟩
          have HE1 := hide (HE0.out.on hb1 (by simp))
          have HB1 := hide (HB0.out.trans (hb1.mono (by simp)))
          clear hb1 HE0 HB0
          go_wp2_with fail
          have hbA := (Below.refl w1.heap.size w1).alloc (Nat.le_refl _) (.cells #[.int .i64 id, .int .i64 kd, .int .i64 sn, .int .i64 us, .int .i64 mb, .int .i64 dp] 53)
          have HE2 := hide (HE1.out.on hbA HE1.out.lt)
          have HN2 := hide (show NbS w1.heap.size id kd sn us mb dp (w1.alloc (.cells #[.int .i64 id, .int .i64 kd, .int .i64 sn, .int .i64 us, .int .i64 mb, .int .i64 dp] 53)) from heap_alloc_new _ _)
          have HB2 := hide (HB1.out.trans (hbA.mono HB1.out.size))
          clear hbA HE1 HB1
          generalize w1.alloc (.cells #[.int .i64 id, .int .i64 kd, .int .i64 sn, .int .i64 us, .int .i64 mb, .int .i64 dp] 53) = w2 at HE2 HN2 HB2 ⊢
          refine wp_region_in (F := fun w' => Below w2.heap.size w2 w') (by kernel_rfl) (by kernel_rfl) (Below.refl _ _).drew ?_
          have hne : Nonempty (InW (fun w' => Below w2.heap.size w2 w')) := ⟨⟨_, Below.refl _ _⟩⟩
          have hev := fun m : InW (fun w' => Below w2.heap.size w2 w') => (HE2.out.on m.h HE2.out.lt).ev
          have k0 := fun m => (hev m).c0
          have k1 := fun m => (hev m).c1
          have k2 := fun m => (hev m).c2
          have k3 := fun m => (hev m).c3
          have k4 := fun m => (hev m).c4
          have k5 := fun m => (hev m).c5
          have k6 := fun m => (hev m).c6
          have k7 := fun m => (hev m).c7
          have k8 := fun m => (hev m).c8
          have hnb := fun m : InW (fun w' => Below w2.heap.size w2 w') => NbS.nc ((m.h.block _ (blk_lt HN2.out)).trans HN2.out)
          have j0 := fun m => (hnb m).c0
          have j1 := fun m => (hnb m).c1
          have j2 := fun m => (hnb m).c2
          have j3 := fun m => (hnb m).c3
          have j4 := fun m => (hnb m).c4
          have j5 := fun m => (hnb m).c5
          clear hev hnb
          repeat (go_big_quiet_step (first
            | (go_at_call 33; refine (HLI.out _).mono ?_; rintro e w3 ⟨rfl, hb3⟩; exact ⟨rfl, ⟨w3, inw_more _ hb3⟩, rfl⟩)
            | (go_at_call 34; refine (HLV.out _ (HAT.out.below (inw_from HB2.out _))).mono ?_; rintro e w3 ⟨rfl, hb3⟩; exact ⟨rfl, ⟨w3, inw_more _ hb3⟩, rfl⟩)
            | (go_at_call 35; refine (HTX.out _).mono ?_; rintro e w3 ⟨rfl, hb3⟩; exact ⟨rfl, ⟨w3, inw_more _ hb3⟩, rfl⟩)
            | (go_at_call 36; refine (HPV.out _ (HBT.out.below (inw_from HB2.out _))).mono ?_; rintro e w3 ⟨rfl, hb3⟩; exact ⟨rfl, ⟨w3, inw_more _ hb3⟩, rfl⟩)))
          refine wpQuiet_nil ?_
          intro _ hw'
          obtain ⟨nq, hw''⟩ := hw'
          subst hw''
          have hb4 := inw_from HB2.out nq
          clear hne k0 k1 k2 k3 k4 k5 k6 k7 k8 j0 j1 j2 j3 j4 j5
          generalize nq.w = w5 at hb4 ⊢
          go_wp2_with fail
          go_ret
          exact ⟨rfl, hb4⟩

end Go.Proofs.Ytnamneagkjmimaa
