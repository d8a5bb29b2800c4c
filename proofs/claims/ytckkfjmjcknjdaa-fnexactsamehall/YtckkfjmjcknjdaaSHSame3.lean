/-
  Walks and mathematics of Same3.
-/
import Derived.Test.YtckkfjmjcknjdaaSHSame2
import Derived.Test.YtckkfjmjcknjdaaSHSame1
import Derived.Test.YtckkfjmjcknjdaaSHWalk9d
namespace Go.Proofs.Ytckkfjmjcknjdaa.P1
end Go.Proofs.Ytckkfjmjcknjdaa.P1
namespace Go.Proofs.Ytckkfjmjcknjdaa.P11
end Go.Proofs.Ytckkfjmjcknjdaa.P11
namespace Go.Proofs.Ytckkfjmjcknjdaa.P14
end Go.Proofs.Ytckkfjmjcknjdaa.P14
namespace Go.Proofs.Ytckkfjmjcknjdaa.P3
end Go.Proofs.Ytckkfjmjcknjdaa.P3
namespace Go.Proofs.Ytckkfjmjcknjdaa.P5
end Go.Proofs.Ytckkfjmjcknjdaa.P5
namespace Go.Proofs.Ytckkfjmjcknjdaa
open Go.RowKit P1 P3 P5 P9 P11 P12 P14 K
set_option linter.unusedVariables false
set_option linter.unusedSimpArgs false
attribute [local go_sem ↓] Go.wp_at_zero Go.wp_at_succ

theorem inw_more15 {w2 : World} (m : InW (fun w' => Below w2.heap.size w2 w')) {w3 : World} (h : Below m.w.heap.size m.w w3) : Below w2.heap.size w2 w3 := m.h.trans (h.mono m.h.size)

theorem out_same (x y : OutX) : (x.d == y.d && (x.a == y.a && eqB x.ids y.ids)) = eqB x y := by
  rw [Bool.eq_iff_iff, eqB_iff]
  obtain ⟨a, b, s⟩ := x
  obtain ⟨c, d, t⟩ := y
  simp only [Bool.and_eq_true, beq_iff_eq, eqB_iff, OutX.mk.injEq]

def numsB (e f : EvV) : Bool := decide (e.id = f.id) && (decide (e.kind = f.kind) && (decide (e.sender = f.sender) && (decide (e.user = f.user) && (decide (e.member = f.member) && decide (e.depth = f.depth)))))

theorem ev_same (e f : EvV) : (numsB e f && (eqB e.levels f.levels && (decide (e.text = f.text) && eqB e.prev f.prev))) = eqB e f := by
  rw [Bool.eq_iff_iff, eqB_iff]
  obtain ⟨id, kd, sn, us, mb, lv, tx, pv, dp⟩ := e
  obtain ⟨id', kd', sn', us', mb', lv', tx', pv', dp'⟩ := f
  simp only [numsB, Bool.and_eq_true, decide_eq_true_eq, eqB_iff, EvV.mk.injEq]
  constructor
  · rintro ⟨⟨h1, h2, h3, h4, h5, h6⟩, h7, h8, h9⟩
    exact ⟨h1, h2, h3, h4, h5, h7, h8, h9, h6⟩
  · rintro ⟨h1, h2, h3, h4, h5, h7, h8, h9, h6⟩
    exact ⟨⟨h1, h2, h3, h4, h5, h6⟩, h7, h8, h9⟩

theorem nv_guard15 (a0 a1 a2 a3 a4 a5 b0 b1 b2 b3 b4 b5 : Int) (x y : Operand) (wx : World) : (eqGuard .eql 105 x y (nval a0 a1 a2 a3 a4 a5) (nval b0 b1 b2 b3 b4 b5)).run Try.prog wx = .ok () wx :=
  run_eqGuard_agg wx .eql _ x y _ _ (by kernel_rfl)

theorem text_same (s t : List UInt8) : ((⟨s.toArray⟩ : ByteArray).toList == (⟨t.toArray⟩ : ByteArray).toList) = decide (s = t) := by
  rw [Lib.toList_data, Lib.toList_data]
  by_cases h : s = t
  · rw [decide_eq_true h, h]; simp
  · rw [decide_eq_false h, beq_eq_false_iff_ne]; exact h

set_option maxRecDepth 100000 in
set_option maxHeartbeats 4000000 in
theorem sameOut_any (x y : OutX) (oa : Option Addr) (cap : Nat) (ob : Option Addr) (cap' : Nat) (hn20 : x.ids.length ≤ 1048576) (w : World) (h1 : IntsAt w oa x.ids.length cap x.ids) (h2 : IntsAt w ob y.ids.length cap' y.ids) :
    Calls Try.prog 34 #[outv x.d x.a (.slice oa x.ids.length cap), outv y.d y.a (.slice ob y.ids.length cap')] w fun e w' => e = .returned (.bool (eqB x y)) ∧ Below w.heap.size w w' := by
  obtain ⟨hA, hB, hb0⟩ := two_new w #[.int .i64 x.d, .int .i64 x.a, .slice oa x.ids.length cap] #[.int .i64 y.d, .int .i64 y.a, .slice ob y.ids.length cap'] 48 48
  have HEI := hide (fun w2 (hb2 : Below ((w.alloc (.cells #[.int .i64 x.d, .int .i64 x.a, .slice oa x.ids.length cap] 48)).alloc (.cells #[.int .i64 y.d, .int .i64 y.a, .slice ob y.ids.length cap'] 48)).heap.size ((w.alloc (.cells #[.int .i64 x.d, .int .i64 x.a, .slice oa x.ids.length cap] 48)).alloc (.cells #[.int .i64 y.d, .int .i64 y.a, .slice ob y.ids.length cap'] 48)) w2) => equalInts_any oa x.ids.length cap x.ids ob y.ids.length cap' y.ids hn20 w2 ((h1.below hb0).below hb2) ((h2.below hb0).below hb2))
  have HA := hide hA
  have HB := hide hB
  have HB0 := hide hb0
  clear h1 h2 hA hB hb0
  have HS := hide (out_same x y)
  by_cases c1 : x.d = y.d
  · have q1 : (x.d == y.d) = true := by simpa using c1
    by_cases c2 : x.a = y.a
    · have q2 : (x.a == y.a) = true := by simpa using c2
      have HS1 := hide (show eqB x.ids y.ids = eqB x y by rw [← HS.out, q1, q2]; simp)
      clear c1 c2 HS
      generalize eqB x.ids y.ids = q at HEI HS1
      have x0 := blk_cell HA.out 0 rfl
      have x1 := blk_cell HA.out 1 rfl
      have x2 := blk_cell HA.out 2 rfl
      have y0 := blk_cell HB.out 0 rfl
      have y1 := blk_cell HB.out 1 rfl
      have y2 := blk_cell HB.out 2 rfl
      go_enter Try.func34, Try.ntmps34
      go_wp2_with fail
      refine (HEI.out _ (Below.refl _ _)).mono ?_
      rintro e w1 ⟨rfl, hb1⟩
      have HB1 := hide (HB0.out.trans (hb1.mono HB0.out.size))
      clear hb1
      go_wp2_with fail
      go_ret
      exact ⟨by rw [← HS1.out]; rfl, HB1.out⟩
    · have q2 : (x.a == y.a) = false := by simpa using c2
      have HS1 := hide (show false = eqB x y by rw [← HS.out, q1, q2]; simp)
      clear c1 c2 HS
      have x0 := blk_cell HA.out 0 rfl
      have x1 := blk_cell HA.out 1 rfl
      have x2 := blk_cell HA.out 2 rfl
      have y0 := blk_cell HB.out 0 rfl
      have y1 := blk_cell HB.out 1 rfl
      have y2 := blk_cell HB.out 2 rfl
      go_enter Try.func34, Try.ntmps34
      go_wp2_with fail
      go_ret
      exact ⟨by rw [← HS1.out]; rfl, HB0.out⟩
  · have q1 : (x.d == y.d) = false := by simpa using c1
    have HS1 := hide (show false = eqB x y by rw [← HS.out, q1]; simp)
    clear c1 HS
    have x0 := blk_cell HA.out 0 rfl
    have x1 := blk_cell HA.out 1 rfl
    have x2 := blk_cell HA.out 2 rfl
    have y0 := blk_cell HB.out 0 rfl
    have y1 := blk_cell HB.out 1 rfl
    have y2 := blk_cell HB.out 2 rfl
    go_enter Try.func34, Try.ntmps34
    go_wp2_with fail
    go_ret
    exact ⟨by rw [← HS1.out]; rfl, HB0.out⟩

set_option maxRecDepth 100000 in
set_option maxHeartbeats 8000000 in
theorem sameEvent_any (x y : EvV) (xa : Option Addr) (xc : Nat) (ya : Option Addr) (yc : Nat) (xa' : Option Addr) (xc' : Nat) (ya' : Option Addr) (yc' : Nat) (l1 : x.levels.length ≤ 1048576) (l2 : x.prev.length ≤ 1048576) (w : World) (h1 : IntsAt w xa x.levels.length xc x.levels) (h2 : IntsAt w xa' y.levels.length xc' y.levels) (h3 : IntsAt w ya x.prev.length yc x.prev) (h4 : IntsAt w ya' y.prev.length yc' y.prev) :
    Calls Try.prog 62 #[evval x.id x.kind x.sender x.user x.member x.depth (.slice xa x.levels.length xc) (.slice ya x.prev.length yc) x.text, evval y.id y.kind y.sender y.user y.member y.depth (.slice xa' y.levels.length xc') (.slice ya' y.prev.length yc') y.text] w fun e w' => e = .returned (.bool (eqB x y)) ∧ Below w.heap.size w w' := by
  obtain ⟨hA, hB, hb0⟩ := two_new w #[.int .i64 x.id, .int .i64 x.kind, .int .i64 x.sender, .int .i64 x.user, .int .i64 x.member, .slice xa x.levels.length xc, .string ⟨x.text.toArray⟩, .slice ya x.prev.length yc, .int .i64 x.depth] #[.int .i64 y.id, .int .i64 y.kind, .int .i64 y.sender, .int .i64 y.user, .int .i64 y.member, .slice xa' y.levels.length xc', .string ⟨y.text.toArray⟩, .slice ya' y.prev.length yc', .int .i64 y.depth] 83 83
  have HEL := hide (fun w2 (hb2 : Below ((w.alloc (.cells #[.int .i64 x.id, .int .i64 x.kind, .int .i64 x.sender, .int .i64 x.user, .int .i64 x.member, .slice xa x.levels.length xc, .string ⟨x.text.toArray⟩, .slice ya x.prev.length yc, .int .i64 x.depth] 83)).alloc (.cells #[.int .i64 y.id, .int .i64 y.kind, .int .i64 y.sender, .int .i64 y.user, .int .i64 y.member, .slice xa' y.levels.length xc', .string ⟨y.text.toArray⟩, .slice ya' y.prev.length yc', .int .i64 y.depth] 83)).heap.size ((w.alloc (.cells #[.int .i64 x.id, .int .i64 x.kind, .int .i64 x.sender, .int .i64 x.user, .int .i64 x.member, .slice xa x.levels.length xc, .string ⟨x.text.toArray⟩, .slice ya x.prev.length yc, .int .i64 x.depth] 83)).alloc (.cells #[.int .i64 y.id, .int .i64 y.kind, .int .i64 y.sender, .int .i64 y.user, .int .i64 y.member, .slice xa' y.levels.length xc', .string ⟨y.text.toArray⟩, .slice ya' y.prev.length yc', .int .i64 y.depth] 83)) w2) => equalInts_any xa x.levels.length xc x.levels xa' y.levels.length xc' y.levels l1 w2 ((h1.below hb0).below hb2) ((h2.below hb0).below hb2))
  have HEP := hide (fun w2 (hb2 : Below ((w.alloc (.cells #[.int .i64 x.id, .int .i64 x.kind, .int .i64 x.sender, .int .i64 x.user, .int .i64 x.member, .slice xa x.levels.length xc, .string ⟨x.text.toArray⟩, .slice ya x.prev.length yc, .int .i64 x.depth] 83)).alloc (.cells #[.int .i64 y.id, .int .i64 y.kind, .int .i64 y.sender, .int .i64 y.user, .int .i64 y.member, .slice xa' y.levels.length xc', .string ⟨y.text.toArray⟩, .slice ya' y.prev.length yc', .int .i64 y.depth] 83)).heap.size ((w.alloc (.cells #[.int .i64 x.id, .int .i64 x.kind, .int .i64 x.sender, .int .i64 x.user, .int .i64 x.member, .slice xa x.levels.length xc, .string ⟨x.text.toArray⟩, .slice ya x.prev.length yc, .int .i64 x.depth] 83)).alloc (.cells #[.int .i64 y.id, .int .i64 y.kind, .int .i64 y.sender, .int .i64 y.user, .int .i64 y.member, .slice xa' y.levels.length xc', .string ⟨y.text.toArray⟩, .slice ya' y.prev.length yc', .int .i64 y.depth] 83)) w2) => equalInts_any ya x.prev.length yc x.prev ya' y.prev.length yc' y.prev l2 w2 ((h3.below hb0).below hb2) ((h4.below hb0).below hb2))
  have HA := hide hA
  have HB := hide hB
  have HB0 := hide hb0
  clear h1 h2 h3 h4 hA hB hb0
  have HS := hide (ev_same x y)
  unfold numsB at HS
  have HN1 := hide (fun w => numbers_any x.id x.kind x.sender x.user x.member x.depth xa x.levels.length xc x.text ya x.prev.length yc w)
  have HN2 := hide (fun w => numbers_any y.id y.kind y.sender y.user y.member y.depth xa' y.levels.length xc' y.text ya' y.prev.length yc' w)
  have hEq := nv_eql x.id x.kind x.sender x.user x.member x.depth y.id y.kind y.sender y.user y.member y.depth
  have hGd := fun p q wx => nv_guard15 x.id x.kind x.sender x.user x.member x.depth y.id y.kind y.sender y.user y.member y.depth p q wx
  have hT := text_same x.text y.text
  generalize (decide (x.id = y.id) && (decide (x.kind = y.kind) && (decide (x.sender = y.sender) && (decide (x.user = y.user) && (decide (x.member = y.member) && decide (x.depth = y.depth)))))) = nb at hEq HS
  generalize decide (x.text = y.text) = tb at hT HS
  generalize eqB x.levels y.levels = lb at HEL HS
  generalize eqB x.prev y.prev = pb at HEP HS
  generalize eqB x y = rb at HS ⊢
  have hr := HS.out
  clear HS
  subst hr
  cases nb with
  | false =>
    simp only [Bool.false_and]
    unfold evval at HN1 HN2 ⊢
    generalize (⟨x.text.toArray⟩ : ByteArray) = X at HA HB HB0 HEL HEP HN1 hT ⊢
    generalize (⟨y.text.toArray⟩ : ByteArray) = Y at HA HB HB0 HEL HEP HN2 hT ⊢
    go_enter Try.func62, Try.ntmps62
    go_wp2_with fail
    generalize ((w.alloc (.cells #[.int .i64 x.id, .int .i64 x.kind, .int .i64 x.sender, .int .i64 x.user, .int .i64 x.member, .slice xa x.levels.length xc, .string X, .slice ya x.prev.length yc, .int .i64 x.depth] 83)).alloc (.cells #[.int .i64 y.id, .int .i64 y.kind, .int .i64 y.sender, .int .i64 y.user, .int .i64 y.member, .slice xa' y.levels.length xc', .string Y, .slice ya' y.prev.length yc', .int .i64 y.depth] 83)) = w0 at HA HB HB0 HEL HEP ⊢
    refine wp_region_in (F := fun w' => Below w0.heap.size w0 w') (by kernel_rfl) (by kernel_rfl) (Below.refl _ _).drew ?_
    have hne : Nonempty (InW (fun w' => Below w0.heap.size w0 w')) := ⟨⟨_, Below.refl _ _⟩⟩
    have k0 := fun mw : InW (fun w' => Below w0.heap.size w0 w') => blk_cell ((mw.h.block _ (blk_lt HA.out)).trans HA.out) 0 rfl
    have m0 := fun mw : InW (fun w' => Below w0.heap.size w0 w') => blk_cell ((mw.h.block _ (blk_lt HB.out)).trans HB.out) 0 rfl
    have k1 := fun mw : InW (fun w' => Below w0.heap.size w0 w') => blk_cell ((mw.h.block _ (blk_lt HA.out)).trans HA.out) 1 rfl
    have m1 := fun mw : InW (fun w' => Below w0.heap.size w0 w') => blk_cell ((mw.h.block _ (blk_lt HB.out)).trans HB.out) 1 rfl
    have k2 := fun mw : InW (fun w' => Below w0.heap.size w0 w') => blk_cell ((mw.h.block _ (blk_lt HA.out)).trans HA.out) 2 rfl
    have m2 := fun mw : InW (fun w' => Below w0.heap.size w0 w') => blk_cell ((mw.h.block _ (blk_lt HB.out)).trans HB.out) 2 rfl
    have k3 := fun mw : InW (fun w' => Below w0.heap.size w0 w') => blk_cell ((mw.h.block _ (blk_lt HA.out)).trans HA.out) 3 rfl
    have m3 := fun mw : InW (fun w' => Below w0.heap.size w0 w') => blk_cell ((mw.h.block _ (blk_lt HB.out)).trans HB.out) 3 rfl
    have k4 := fun mw : InW (fun w' => Below w0.heap.size w0 w') => blk_cell ((mw.h.block _ (blk_lt HA.out)).trans HA.out) 4 rfl
    have m4 := fun mw : InW (fun w' => Below w0.heap.size w0 w') => blk_cell ((mw.h.block _ (blk_lt HB.out)).trans HB.out) 4 rfl
    have k5 := fun mw : InW (fun w' => Below w0.heap.size w0 w') => blk_cell ((mw.h.block _ (blk_lt HA.out)).trans HA.out) 5 rfl
    have m5 := fun mw : InW (fun w' => Below w0.heap.size w0 w') => blk_cell ((mw.h.block _ (blk_lt HB.out)).trans HB.out) 5 rfl
    have k6 := fun mw : InW (fun w' => Below w0.heap.size w0 w') => blk_cell ((mw.h.block _ (blk_lt HA.out)).trans HA.out) 6 rfl
    have m6 := fun mw : InW (fun w' => Below w0.heap.size w0 w') => blk_cell ((mw.h.block _ (blk_lt HB.out)).trans HB.out) 6 rfl
    have k7 := fun mw : InW (fun w' => Below w0.heap.size w0 w') => blk_cell ((mw.h.block _ (blk_lt HA.out)).trans HA.out) 7 rfl
    have m7 := fun mw : InW (fun w' => Below w0.heap.size w0 w') => blk_cell ((mw.h.block _ (blk_lt HB.out)).trans HB.out) 7 rfl
    have k8 := fun mw : InW (fun w' => Below w0.heap.size w0 w') => blk_cell ((mw.h.block _ (blk_lt HA.out)).trans HA.out) 8 rfl
    have m8 := fun mw : InW (fun w' => Below w0.heap.size w0 w') => blk_cell ((mw.h.block _ (blk_lt HB.out)).trans HB.out) 8 rfl
    unfold nval at hEq hGd HN1 HN2
    repeat (go_big_quiet_step (first
      | fail
      | (go_at_call 78; (with_reducible refine (HN1.out _).mono ?_); rintro e w3 ⟨rfl, hb3⟩; exact ⟨rfl, ⟨w3, inw_more15 _ hb3⟩, rfl⟩)
      | (go_at_call 78; (with_reducible refine (HN2.out _).mono ?_); rintro e w3 ⟨rfl, hb3⟩; exact ⟨rfl, ⟨w3, inw_more15 _ hb3⟩, rfl⟩)
      | (go_at_call 66; (with_reducible refine (HEL.out _ (InW.h _)).mono ?_); rintro e w3 ⟨rfl, hb3⟩; exact ⟨rfl, ⟨w3, inw_more15 _ hb3⟩, rfl⟩)
      | (go_at_call 66; (with_reducible refine (HEP.out _ (InW.h _)).mono ?_); rintro e w3 ⟨rfl, hb3⟩; exact ⟨rfl, ⟨w3, inw_more15 _ hb3⟩, rfl⟩)
      ))
    refine wpQuiet_nil ?_
    intro _ hw'
    obtain ⟨nq, hw''⟩ := hw'
    subst hw''
    have HB1 := hide (HB0.out.trans (nq.h.mono HB0.out.size))
    clear hne k0 m0 k1 m1 k2 m2 k3 m3 k4 m4 k5 m5 k6 m6 k7 m7 k8 m8
    generalize nq.w = w1 at HB1 ⊢
    go_wp2_with fail
    go_ret
    exact ⟨rfl, HB1.out⟩
  | true =>
    simp only [Bool.true_and]
    cases lb with
    | false =>
      simp only [Bool.false_and]
      unfold evval at HN1 HN2 ⊢
      generalize (⟨x.text.toArray⟩ : ByteArray) = X at HA HB HB0 HEL HEP HN1 hT ⊢
      generalize (⟨y.text.toArray⟩ : ByteArray) = Y at HA HB HB0 HEL HEP HN2 hT ⊢
      go_enter Try.func62, Try.ntmps62
      go_wp2_with fail
      generalize ((w.alloc (.cells #[.int .i64 x.id, .int .i64 x.kind, .int .i64 x.sender, .int .i64 x.user, .int .i64 x.member, .slice xa x.levels.length xc, .string X, .slice ya x.prev.length yc, .int .i64 x.depth] 83)).alloc (.cells #[.int .i64 y.id, .int .i64 y.kind, .int .i64 y.sender, .int .i64 y.user, .int .i64 y.member, .slice xa' y.levels.length xc', .string Y, .slice ya' y.prev.length yc', .int .i64 y.depth] 83)) = w0 at HA HB HB0 HEL HEP ⊢
      refine wp_region_in (F := fun w' => Below w0.heap.size w0 w') (by kernel_rfl) (by kernel_rfl) (Below.refl _ _).drew ?_
      have hne : Nonempty (InW (fun w' => Below w0.heap.size w0 w')) := ⟨⟨_, Below.refl _ _⟩⟩
      have k0 := fun mw : InW (fun w' => Below w0.heap.size w0 w') => blk_cell ((mw.h.block _ (blk_lt HA.out)).trans HA.out) 0 rfl
      have m0 := fun mw : InW (fun w' => Below w0.heap.size w0 w') => blk_cell ((mw.h.block _ (blk_lt HB.out)).trans HB.out) 0 rfl
      have k1 := fun mw : InW (fun w' => Below w0.heap.size w0 w') => blk_cell ((mw.h.block _ (blk_lt HA.out)).trans HA.out) 1 rfl
      have m1 := fun mw : InW (fun w' => Below w0.heap.size w0 w') => blk_cell ((mw.h.block _ (blk_lt HB.out)).trans HB.out) 1 rfl
      have k2 := fun mw : InW (fun w' => Below w0.heap.size w0 w') => blk_cell ((mw.h.block _ (blk_lt HA.out)).trans HA.out) 2 rfl
      have m2 := fun mw : InW (fun w' => Below w0.heap.size w0 w') => blk_cell ((mw.h.block _ (blk_lt HB.out)).trans HB.out) 2 rfl
      have k3 := fun mw : InW (fun w' => Below w0.heap.size w0 w') => blk_cell ((mw.h.block _ (blk_lt HA.out)).trans HA.out) 3 rfl
      have m3 := fun mw : InW (fun w' => Below w0.heap.size w0 w') => blk_cell ((mw.h.block _ (blk_lt HB.out)).trans HB.out) 3 rfl
      have k4 := fun mw : InW (fun w' => Below w0.heap.size w0 w') => blk_cell ((mw.h.block _ (blk_lt HA.out)).trans HA.out) 4 rfl
      have m4 := fun mw : InW (fun w' => Below w0.heap.size w0 w') => blk_cell ((mw.h.block _ (blk_lt HB.out)).trans HB.out) 4 rfl
      have k5 := fun mw : InW (fun w' => Below w0.heap.size w0 w') => blk_cell ((mw.h.block _ (blk_lt HA.out)).trans HA.out) 5 rfl
      have m5 := fun mw : InW (fun w' => Below w0.heap.size w0 w') => blk_cell ((mw.h.block _ (blk_lt HB.out)).trans HB.out) 5 rfl
      have k6 := fun mw : InW (fun w' => Below w0.heap.size w0 w') => blk_cell ((mw.h.block _ (blk_lt HA.out)).trans HA.out) 6 rfl
      have m6 := fun mw : InW (fun w' => Below w0.heap.size w0 w') => blk_cell ((mw.h.block _ (blk_lt HB.out)).trans HB.out) 6 rfl
      have k7 := fun mw : InW (fun w' => Below w0.heap.size w0 w') => blk_cell ((mw.h.block _ (blk_lt HA.out)).trans HA.out) 7 rfl
      have m7 := fun mw : InW (fun w' => Below w0.heap.size w0 w') => blk_cell ((mw.h.block _ (blk_lt HB.out)).trans HB.out) 7 rfl
      have k8 := fun mw : InW (fun w' => Below w0.heap.size w0 w') => blk_cell ((mw.h.block _ (blk_lt HA.out)).trans HA.out) 8 rfl
      have m8 := fun mw : InW (fun w' => Below w0.heap.size w0 w') => blk_cell ((mw.h.block _ (blk_lt HB.out)).trans HB.out) 8 rfl
      unfold nval at hEq hGd HN1 HN2
      repeat (go_big_quiet_step (first
        | fail
        | (go_at_call 78; (with_reducible refine (HN1.out _).mono ?_); rintro e w3 ⟨rfl, hb3⟩; exact ⟨rfl, ⟨w3, inw_more15 _ hb3⟩, rfl⟩)
        | (go_at_call 78; (with_reducible refine (HN2.out _).mono ?_); rintro e w3 ⟨rfl, hb3⟩; exact ⟨rfl, ⟨w3, inw_more15 _ hb3⟩, rfl⟩)
        | (go_at_call 66; (with_reducible refine (HEL.out _ (InW.h _)).mono ?_); rintro e w3 ⟨rfl, hb3⟩; exact ⟨rfl, ⟨w3, inw_more15 _ hb3⟩, rfl⟩)
        | (go_at_call 66; (with_reducible refine (HEP.out _ (InW.h _)).mono ?_); rintro e w3 ⟨rfl, hb3⟩; exact ⟨rfl, ⟨w3, inw_more15 _ hb3⟩, rfl⟩)
        ))
      refine wpQuiet_nil ?_
      intro _ hw'
      obtain ⟨nq, hw''⟩ := hw'
      subst hw''
      have HB1 := hide (HB0.out.trans (nq.h.mono HB0.out.size))
      clear hne k0 m0 k1 m1 k2 m2 k3 m3 k4 m4 k5 m5 k6 m6 k7 m7 k8 m8
      generalize nq.w = w1 at HB1 ⊢
      go_wp2_with fail
      go_ret
      exact ⟨rfl, HB1.out⟩
    | true =>
      simp only [Bool.true_and]
      cases tb with
      | false =>
        simp only [Bool.false_and]
        unfold evval at HN1 HN2 ⊢
        generalize (⟨x.text.toArray⟩ : ByteArray) = X at HA HB HB0 HEL HEP HN1 hT ⊢
        generalize (⟨y.text.toArray⟩ : ByteArray) = Y at HA HB HB0 HEL HEP HN2 hT ⊢
        go_enter Try.func62, Try.ntmps62
        go_wp2_with fail
        generalize ((w.alloc (.cells #[.int .i64 x.id, .int .i64 x.kind, .int .i64 x.sender, .int .i64 x.user, .int .i64 x.member, .slice xa x.levels.length xc, .string X, .slice ya x.prev.length yc, .int .i64 x.depth] 83)).alloc (.cells #[.int .i64 y.id, .int .i64 y.kind, .int .i64 y.sender, .int .i64 y.user, .int .i64 y.member, .slice xa' y.levels.length xc', .string Y, .slice ya' y.prev.length yc', .int .i64 y.depth] 83)) = w0 at HA HB HB0 HEL HEP ⊢
        refine wp_region_in (F := fun w' => Below w0.heap.size w0 w') (by kernel_rfl) (by kernel_rfl) (Below.refl _ _).drew ?_
        have hne : Nonempty (InW (fun w' => Below w0.heap.size w0 w')) := ⟨⟨_, Below.refl _ _⟩⟩
        have k0 := fun mw : InW (fun w' => Below w0.heap.size w0 w') => blk_cell ((mw.h.block _ (blk_lt HA.out)).trans HA.out) 0 rfl
        have m0 := fun mw : InW (fun w' => Below w0.heap.size w0 w') => blk_cell ((mw.h.block _ (blk_lt HB.out)).trans HB.out) 0 rfl
        have k1 := fun mw : InW (fun w' => Below w0.heap.size w0 w') => blk_cell ((mw.h.block _ (blk_lt HA.out)).trans HA.out) 1 rfl
        have m1 := fun mw : InW (fun w' => Below w0.heap.size w0 w') => blk_cell ((mw.h.block _ (blk_lt HB.out)).trans HB.out) 1 rfl
        have k2 := fun mw : InW (fun w' => Below w0.heap.size w0 w') => blk_cell ((mw.h.block _ (blk_lt HA.out)).trans HA.out) 2 rfl
        have m2 := fun mw : InW (fun w' => Below w0.heap.size w0 w') => blk_cell ((mw.h.block _ (blk_lt HB.out)).trans HB.out) 2 rfl
        have k3 := fun mw : InW (fun w' => Below w0.heap.size w0 w') => blk_cell ((mw.h.block _ (blk_lt HA.out)).trans HA.out) 3 rfl
        have m3 := fun mw : InW (fun w' => Below w0.heap.size w0 w') => blk_cell ((mw.h.block _ (blk_lt HB.out)).trans HB.out) 3 rfl
        have k4 := fun mw : InW (fun w' => Below w0.heap.size w0 w') => blk_cell ((mw.h.block _ (blk_lt HA.out)).trans HA.out) 4 rfl
        have m4 := fun mw : InW (fun w' => Below w0.heap.size w0 w') => blk_cell ((mw.h.block _ (blk_lt HB.out)).trans HB.out) 4 rfl
        have k5 := fun mw : InW (fun w' => Below w0.heap.size w0 w') => blk_cell ((mw.h.block _ (blk_lt HA.out)).trans HA.out) 5 rfl
        have m5 := fun mw : InW (fun w' => Below w0.heap.size w0 w') => blk_cell ((mw.h.block _ (blk_lt HB.out)).trans HB.out) 5 rfl
        have k6 := fun mw : InW (fun w' => Below w0.heap.size w0 w') => blk_cell ((mw.h.block _ (blk_lt HA.out)).trans HA.out) 6 rfl
        have m6 := fun mw : InW (fun w' => Below w0.heap.size w0 w') => blk_cell ((mw.h.block _ (blk_lt HB.out)).trans HB.out) 6 rfl
        have k7 := fun mw : InW (fun w' => Below w0.heap.size w0 w') => blk_cell ((mw.h.block _ (blk_lt HA.out)).trans HA.out) 7 rfl
        have m7 := fun mw : InW (fun w' => Below w0.heap.size w0 w') => blk_cell ((mw.h.block _ (blk_lt HB.out)).trans HB.out) 7 rfl
        have k8 := fun mw : InW (fun w' => Below w0.heap.size w0 w') => blk_cell ((mw.h.block _ (blk_lt HA.out)).trans HA.out) 8 rfl
        have m8 := fun mw : InW (fun w' => Below w0.heap.size w0 w') => blk_cell ((mw.h.block _ (blk_lt HB.out)).trans HB.out) 8 rfl
        unfold nval at hEq hGd HN1 HN2
        repeat (go_big_quiet_step (first
          | fail
          | (go_at_call 78; (with_reducible refine (HN1.out _).mono ?_); rintro e w3 ⟨rfl, hb3⟩; exact ⟨rfl, ⟨w3, inw_more15 _ hb3⟩, rfl⟩)
          | (go_at_call 78; (with_reducible refine (HN2.out _).mono ?_); rintro e w3 ⟨rfl, hb3⟩; exact ⟨rfl, ⟨w3, inw_more15 _ hb3⟩, rfl⟩)
          | (go_at_call 66; (with_reducible refine (HEL.out _ (InW.h _)).mono ?_); rintro e w3 ⟨rfl, hb3⟩; exact ⟨rfl, ⟨w3, inw_more15 _ hb3⟩, rfl⟩)
          | (go_at_call 66; (with_reducible refine (HEP.out _ (InW.h _)).mono ?_); rintro e w3 ⟨rfl, hb3⟩; exact ⟨rfl, ⟨w3, inw_more15 _ hb3⟩, rfl⟩)
          ))
        refine wpQuiet_nil ?_
        intro _ hw'
        obtain ⟨nq, hw''⟩ := hw'
        subst hw''
        have HB1 := hide (HB0.out.trans (nq.h.mono HB0.out.size))
        clear hne k0 m0 k1 m1 k2 m2 k3 m3 k4 m4 k5 m5 k6 m6 k7 m7 k8 m8
        generalize nq.w = w1 at HB1 ⊢
        go_wp2_with fail
        go_ret
        exact ⟨rfl, HB1.out⟩
      | true =>
        simp only [Bool.true_and]
        unfold evval at HN1 HN2 ⊢
        generalize (⟨x.text.toArray⟩ : ByteArray) = X at HA HB HB0 HEL HEP HN1 hT ⊢
        generalize (⟨y.text.toArray⟩ : ByteArray) = Y at HA HB HB0 HEL HEP HN2 hT ⊢
        go_enter Try.func62, Try.ntmps62
        go_wp2_with fail
        generalize ((w.alloc (.cells #[.int .i64 x.id, .int .i64 x.kind, .int .i64 x.sender, .int .i64 x.user, .int .i64 x.member, .slice xa x.levels.length xc, .string X, .slice ya x.prev.length yc, .int .i64 x.depth] 83)).alloc (.cells #[.int .i64 y.id, .int .i64 y.kind, .int .i64 y.sender, .int .i64 y.user, .int .i64 y.member, .slice xa' y.levels.length xc', .string Y, .slice ya' y.prev.length yc', .int .i64 y.depth] 83)) = w0 at HA HB HB0 HEL HEP ⊢
        refine wp_region_in (F := fun w' => Below w0.heap.size w0 w') (by kernel_rfl) (by kernel_rfl) (Below.refl _ _).drew ?_
        have hne : Nonempty (InW (fun w' => Below w0.heap.size w0 w')) := ⟨⟨_, Below.refl _ _⟩⟩
        have k0 := fun mw : InW (fun w' => Below w0.heap.size w0 w') => blk_cell ((mw.h.block _ (blk_lt HA.out)).trans HA.out) 0 rfl
        have m0 := fun mw : InW (fun w' => Below w0.heap.size w0 w') => blk_cell ((mw.h.block _ (blk_lt HB.out)).trans HB.out) 0 rfl
        have k1 := fun mw : InW (fun w' => Below w0.heap.size w0 w') => blk_cell ((mw.h.block _ (blk_lt HA.out)).trans HA.out) 1 rfl
        have m1 := fun mw : InW (fun w' => Below w0.heap.size w0 w') => blk_cell ((mw.h.block _ (blk_lt HB.out)).trans HB.out) 1 rfl
        have k2 := fun mw : InW (fun w' => Below w0.heap.size w0 w') => blk_cell ((mw.h.block _ (blk_lt HA.out)).trans HA.out) 2 rfl
        have m2 := fun mw : InW (fun w' => Below w0.heap.size w0 w') => blk_cell ((mw.h.block _ (blk_lt HB.out)).trans HB.out) 2 rfl
        have k3 := fun mw : InW (fun w' => Below w0.heap.size w0 w') => blk_cell ((mw.h.block _ (blk_lt HA.out)).trans HA.out) 3 rfl
        have m3 := fun mw : InW (fun w' => Below w0.heap.size w0 w') => blk_cell ((mw.h.block _ (blk_lt HB.out)).trans HB.out) 3 rfl
        have k4 := fun mw : InW (fun w' => Below w0.heap.size w0 w') => blk_cell ((mw.h.block _ (blk_lt HA.out)).trans HA.out) 4 rfl
        have m4 := fun mw : InW (fun w' => Below w0.heap.size w0 w') => blk_cell ((mw.h.block _ (blk_lt HB.out)).trans HB.out) 4 rfl
        have k5 := fun mw : InW (fun w' => Below w0.heap.size w0 w') => blk_cell ((mw.h.block _ (blk_lt HA.out)).trans HA.out) 5 rfl
        have m5 := fun mw : InW (fun w' => Below w0.heap.size w0 w') => blk_cell ((mw.h.block _ (blk_lt HB.out)).trans HB.out) 5 rfl
        have k6 := fun mw : InW (fun w' => Below w0.heap.size w0 w') => blk_cell ((mw.h.block _ (blk_lt HA.out)).trans HA.out) 6 rfl
        have m6 := fun mw : InW (fun w' => Below w0.heap.size w0 w') => blk_cell ((mw.h.block _ (blk_lt HB.out)).trans HB.out) 6 rfl
        have k7 := fun mw : InW (fun w' => Below w0.heap.size w0 w') => blk_cell ((mw.h.block _ (blk_lt HA.out)).trans HA.out) 7 rfl
        have m7 := fun mw : InW (fun w' => Below w0.heap.size w0 w') => blk_cell ((mw.h.block _ (blk_lt HB.out)).trans HB.out) 7 rfl
        have k8 := fun mw : InW (fun w' => Below w0.heap.size w0 w') => blk_cell ((mw.h.block _ (blk_lt HA.out)).trans HA.out) 8 rfl
        have m8 := fun mw : InW (fun w' => Below w0.heap.size w0 w') => blk_cell ((mw.h.block _ (blk_lt HB.out)).trans HB.out) 8 rfl
        unfold nval at hEq hGd HN1 HN2
        repeat (go_big_quiet_step (first
          | fail
          | (go_at_call 78; (with_reducible refine (HN1.out _).mono ?_); rintro e w3 ⟨rfl, hb3⟩; exact ⟨rfl, ⟨w3, inw_more15 _ hb3⟩, rfl⟩)
          | (go_at_call 78; (with_reducible refine (HN2.out _).mono ?_); rintro e w3 ⟨rfl, hb3⟩; exact ⟨rfl, ⟨w3, inw_more15 _ hb3⟩, rfl⟩)
          | (go_at_call 66; (with_reducible refine (HEL.out _ (InW.h _)).mono ?_); rintro e w3 ⟨rfl, hb3⟩; exact ⟨rfl, ⟨w3, inw_more15 _ hb3⟩, rfl⟩)
          | (go_at_call 66; (with_reducible refine (HEP.out _ (InW.h _)).mono ?_); rintro e w3 ⟨rfl, hb3⟩; exact ⟨rfl, ⟨w3, inw_more15 _ hb3⟩, rfl⟩)
          ))
        refine wpQuiet_nil ?_
        intro _ hw'
        obtain ⟨nq, hw''⟩ := hw'
        subst hw''
        have HB1 := hide (HB0.out.trans (nq.h.mono HB0.out.size))
        clear hne k0 m0 k1 m1 k2 m2 k3 m3 k4 m4 k5 m5 k6 m6 k7 m7 k8 m8
        generalize nq.w = w1 at HB1 ⊢
        go_wp2_with fail
        go_ret
        exact ⟨rfl, HB1.out⟩

theorem sameState_any (oa : Option Addr) (cap : Nat) (s : List (Int × Int)) (ob : Option Addr) (cap' : Nat) (t : List (Int × Int)) (hn20 : s.length ≤ 1048576) (w : World) (hs : ItemsAt w oa s.length cap s) (ht : ItemsAt w ob t.length cap' t) :
    Calls Try.prog 64 #[.slice oa s.length cap, .slice ob t.length cap'] w fun e w' => e = .returned (.bool (eqB s t)) ∧ Below w.heap.size w w' := by
  have H := hide (equalItems_any14 oa s.length cap s ob t.length cap' t hn20 w hs ht)
  clear hs ht
  generalize eqB s t = q at H ⊢
  go_enter Try.func64, Try.ntmps64
  go_wp2_with fail
  refine H.out.mono ?_
  rintro e w1 ⟨rfl, hb1⟩
  go_wp2_with fail
  go_ret
  exact ⟨rfl, hb1⟩

end Go.Proofs.Ytckkfjmjcknjdaa
