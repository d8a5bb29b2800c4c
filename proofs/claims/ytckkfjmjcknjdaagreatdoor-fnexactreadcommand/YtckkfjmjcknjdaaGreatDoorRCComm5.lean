/-
  Walks and mathematics of Comm5.
-/
import Derived.Test.YtckkfjmjcknjdaaGreatDoorRCComm3
namespace Go.Proofs.YtckkfjmjcknjdaaGreatDoor.P3
end Go.Proofs.YtckkfjmjcknjdaaGreatDoor.P3
namespace Go.Proofs.YtckkfjmjcknjdaaGreatDoor
open Go.RowKit P1 P3 P9 P11 P12 P18 K
set_option linter.unusedVariables false
set_option linter.unusedSimpArgs false

theorem wrap_mod2 (x : Int) : IntKind.i64.wrap (x.tmod 2) = x.tmod 2 := by
  have h1 : -2 < x.tmod 2 := by have := Int.tmod_lt_of_pos x (show (0 : Int) < 2 by decide); have := Int.lt_tmod_of_pos x (show (0 : Int) < 2 by decide); omega
  have h2 : x.tmod 2 < 2 := Int.tmod_lt_of_pos x (by decide)
  generalize x.tmod 2 = y at h1 h2
  rw [IntKind.wrap_i64]
  omega

theorem within_bel (x a b : Int) (w : World) :
    Calls Tryz.prog 24 #[.int .i64 x, .int .i64 a, .int .i64 b] w fun e w' => e = .returned (.bool (inR x a b)) ∧ Below w.heap.size w w' :=
  (within_any x a b w).mono fun e w' h => ⟨h.1, h.2 ▸ Below.refl _ _⟩

theorem ints_one (W : World) (G : Nat) (z : Int) (hz : (Lit.int .i64 z).wf = true) (hG : W.heap.size = G) : IntsAt (W.alloc (.cells #[.int .i64 z] 3)) (some ⟨G, 0, none⟩) 1 1 [z] := by
  subst hG
  refine ⟨rfl, Nat.le_refl _, by unfold maxLen; omega, fun y hy => by simp at hy; subst hy; exact hz, fun i y hi => ?_⟩
  match i, hi with
  | 0, hi =>
    simp at hi
    subst hi
    exact ⟨W.heap.size, 0, rfl, by simp⟩

def CB (w : World) (b : Nat) (op tk sq id kd sn us mb dp : Int) (oa : Option Addr) (n cl : Nat) (tx : List UInt8) (ob : Option Addr) (m cp : Nat) (ds up : Int) : Prop := w.heap[b]? = some (.cells #[.int .i64 op, .int .i64 tk, .int .i64 sq, .int .i64 id, .int .i64 kd, .int .i64 sn, .int .i64 us, .int .i64 mb, .slice oa n cl, .string ⟨tx.toArray⟩, .slice ob m cp, .int .i64 dp, .int .i64 ds, .int .i64 up] 31 (0, 0))

structure CC (w : World) (b : Nat) (op tk sq id kd sn us mb dp : Int) (oa : Option Addr) (n cl : Nat) (tx : List UInt8) (ob : Option Addr) (m cp : Nat) (ds up : Int) : Prop where
  c0 : w.cell? ⟨b, 0, none⟩ = some (.int .i64 op)
  c1 : w.cell? ⟨b, 1, none⟩ = some (.int .i64 tk)
  c2 : w.cell? ⟨b, 2, none⟩ = some (.int .i64 sq)
  c3 : w.cell? ⟨b, 3, none⟩ = some (.int .i64 id)
  c4 : w.cell? ⟨b, 4, none⟩ = some (.int .i64 kd)
  c5 : w.cell? ⟨b, 5, none⟩ = some (.int .i64 sn)
  c6 : w.cell? ⟨b, 6, none⟩ = some (.int .i64 us)
  c7 : w.cell? ⟨b, 7, none⟩ = some (.int .i64 mb)
  c8 : w.cell? ⟨b, 8, none⟩ = some (.slice oa n cl)
  c9 : w.cell? ⟨b, 9, none⟩ = some (.string ⟨tx.toArray⟩)
  c10 : w.cell? ⟨b, 10, none⟩ = some (.slice ob m cp)
  c11 : w.cell? ⟨b, 11, none⟩ = some (.int .i64 dp)
  c12 : w.cell? ⟨b, 12, none⟩ = some (.int .i64 ds)
  c13 : w.cell? ⟨b, 13, none⟩ = some (.int .i64 up)

theorem CB.new (w : World) (op tk sq id kd sn us mb dp : Int) (oa : Option Addr) (n cl : Nat) (tx : List UInt8) (ob : Option Addr) (m cp : Nat) (ds up : Int) : CB (w.alloc (.cells #[.int .i64 op, .int .i64 tk, .int .i64 sq, .int .i64 id, .int .i64 kd, .int .i64 sn, .int .i64 us, .int .i64 mb, .slice oa n cl, .string ⟨tx.toArray⟩, .slice ob m cp, .int .i64 dp, .int .i64 ds, .int .i64 up] 31)) w.heap.size op tk sq id kd sn us mb dp oa n cl tx ob m cp ds up := heap_alloc_new _ _

theorem CB.lt {w : World} {b : Nat} {op tk sq id kd sn us mb dp : Int} {oa : Option Addr} {n cl : Nat} {tx : List UInt8} {ob : Option Addr} {m cp : Nat} {ds up : Int} (h : CB w b op tk sq id kd sn us mb dp oa n cl tx ob m cp ds up) : b < w.heap.size := blk_lt h

theorem CB.on {w w' : World} {b B : Nat} {op tk sq id kd sn us mb dp : Int} {oa : Option Addr} {n cl : Nat} {tx : List UInt8} {ob : Option Addr} {m cp : Nat} {ds up : Int} (h : CB w b op tk sq id kd sn us mb dp oa n cl tx ob m cp ds up) (hb : Below B w w') (hlt : b < B) : CB w' b op tk sq id kd sn us mb dp oa n cl tx ob m cp ds up := (hb.block b hlt).trans h

theorem CB.cc {w : World} {b : Nat} {op tk sq id kd sn us mb dp : Int} {oa : Option Addr} {n cl : Nat} {tx : List UInt8} {ob : Option Addr} {m cp : Nat} {ds up : Int} (h : CB w b op tk sq id kd sn us mb dp oa n cl tx ob m cp ds up) : CC w b op tk sq id kd sn us mb dp oa n cl tx ob m cp ds up := ⟨blk_cell h 0 rfl, blk_cell h 1 rfl, blk_cell h 2 rfl, blk_cell h 3 rfl, blk_cell h 4 rfl, blk_cell h 5 rfl, blk_cell h 6 rfl, blk_cell h 7 rfl, blk_cell h 8 rfl, blk_cell h 9 rfl, blk_cell h 10 rfl, blk_cell h 11 rfl, blk_cell h 12 rfl, blk_cell h 13 rfl⟩

set_option maxHeartbeats 2000000 in
theorem openOk_any (op tk sq id kd sn us mb dp : Int) (oa : Option Addr) (n cl : Nat) (tx : List UInt8) (ob : Option Addr) (m cp : Nat) (ds up : Int) (zl zp : List Int) (hx : tx.length ≤ 1048576) (w : World) (hat : IntsAt w oa n cl zl) (hbt : IntsAt w ob m cp zp) :
    Calls Tryz.prog 46 #[cmval op tk sq id kd sn us mb dp (.slice oa n cl) (.slice ob m cp) tx ds up] w fun e w' => e = .returned (.bool (openOk (⟨op, tk, sq, ⟨id, kd, sn, us, mb, zl, tx, zp, dp⟩, ds, up⟩ : CmdV))) ∧ Below w.heap.size w w' := by
  have HB0 := hide ((Below.refl w.heap.size w).alloc (Nat.le_refl _) (.cells #[.int .i64 op, .int .i64 tk, .int .i64 sq, .int .i64 id, .int .i64 kd, .int .i64 sn, .int .i64 us, .int .i64 mb, .slice oa n cl, .string ⟨tx.toArray⟩, .slice ob m cp, .int .i64 dp, .int .i64 ds, .int .i64 up] 31))
  have HQ0 := hide (CB.new w op tk sq id kd sn us mb dp oa n cl tx ob m cp ds up)
  have HA0 := hide (hat.below HB0.out)
  have HC0 := hide (hbt.below HB0.out)
  have HNE := hide (fun w hat hbt => noEvent_any op tk sq id kd sn us mb dp oa n cl tx ob m cp ds up zl zp hx w hat hbt)
  have HND := hide (fun w => noDest_any op tk sq id kd sn us mb dp oa n cl tx ob m cp ds up zl zp w)
  have HEO := hide (fun w hat hbt => implEventOk_any id kd sn us mb dp oa n cl tx ob m cp zl zp hx w hat hbt)
  clear hat hbt
  unfold openOk
  simp only
  generalize blankE (⟨id, kd, sn, us, mb, zl, tx, zp, dp⟩ : EvV) = bE at HNE ⊢
  generalize noDest (⟨op, tk, sq, ⟨id, kd, sn, us, mb, zl, tx, zp, dp⟩, ds, up⟩ : CmdV) = bD at HND ⊢
  obtain ⟨b1, q1⟩ : ∃ b1, decide (tk = 0) = b1 := ⟨_, rfl⟩
  obtain ⟨b2, q2⟩ : ∃ b2, decide (sq = 0) = b2 := ⟨_, rfl⟩
  rw [q1, q2]
  have i1 : (tk == 0) = b1 := by rw [← q1, Bool.eq_iff_iff]; simp
  have i2 : (sq == 0) = b2 := by rw [← q2, Bool.eq_iff_iff]; simp
  clear q1 q2
  cases b1 with
  | false =>
    go_enter Tryz.func46, Tryz.ntmps46
    go_wp2_with fail
    go_ret
    exact ⟨rfl, HB0.out⟩
  | true =>
    cases b2 with
    | false =>
      go_enter Tryz.func46, Tryz.ntmps46
      go_wp2_with fail
      go_ret
      exact ⟨rfl, HB0.out⟩
    | true =>
      cases bE with
      | false =>
        go_enter Tryz.func46, Tryz.ntmps46
        go_wp2_with fail
        refine (HNE.out _ HA0.out HC0.out).mono ?_
        rintro e w1 ⟨rfl, hb1⟩
        have HB1 := hide (HB0.out.trans (hb1.mono HB0.out.size))
        have HQ1 := hide (HQ0.out.on hb1 HQ0.out.lt)
        have HA1 := hide (HA0.out.below hb1)
        have HC1 := hide (HC0.out.below hb1)
        obtain ⟨k0, k1, k2, k3, k4, k5, k6, k7, k8, k9, k10, k11, k12, k13⟩ := HQ1.out.cc
        clear hb1
        go_wp2_with fail
        go_ret
        exact ⟨rfl, HB1.out⟩
      | true =>
        cases bD with
        | false =>
          go_enter Tryz.func46, Tryz.ntmps46
          go_wp2_with fail
          refine (HNE.out _ HA0.out HC0.out).mono ?_
          rintro e w1 ⟨rfl, hb1⟩
          have HB1 := hide (HB0.out.trans (hb1.mono HB0.out.size))
          have HQ1 := hide (HQ0.out.on hb1 HQ0.out.lt)
          have HA1 := hide (HA0.out.below hb1)
          have HC1 := hide (HC0.out.below hb1)
          obtain ⟨k0, k1, k2, k3, k4, k5, k6, k7, k8, k9, k10, k11, k12, k13⟩ := HQ1.out.cc
          clear hb1
          go_wp2_with fail
          refine (HND.out _).mono ?_
          rintro e w2 ⟨rfl, hb2⟩
          have HB2 := hide (HB1.out.trans (hb2.mono HB1.out.size))
          have HQ2 := hide (HQ1.out.on hb2 HQ1.out.lt)
          have HA2 := hide (HA1.out.below hb2)
          have HC2 := hide (HC1.out.below hb2)
          clear k0 k1 k2 k3 k4 k5 k6 k7 k8 k9 k10 k11 k12 k13
          obtain ⟨k0, k1, k2, k3, k4, k5, k6, k7, k8, k9, k10, k11, k12, k13⟩ := HQ2.out.cc
          clear hb2
          go_wp2_with fail
          go_ret
          exact ⟨rfl, HB2.out⟩
        | true =>
          go_enter Tryz.func46, Tryz.ntmps46
          go_wp2_with fail
          refine (HNE.out _ HA0.out HC0.out).mono ?_
          rintro e w1 ⟨rfl, hb1⟩
          have HB1 := hide (HB0.out.trans (hb1.mono HB0.out.size))
          have HQ1 := hide (HQ0.out.on hb1 HQ0.out.lt)
          have HA1 := hide (HA0.out.below hb1)
          have HC1 := hide (HC0.out.below hb1)
          obtain ⟨k0, k1, k2, k3, k4, k5, k6, k7, k8, k9, k10, k11, k12, k13⟩ := HQ1.out.cc
          clear hb1
          go_wp2_with fail
          refine (HND.out _).mono ?_
          rintro e w2 ⟨rfl, hb2⟩
          have HB2 := hide (HB1.out.trans (hb2.mono HB1.out.size))
          have HQ2 := hide (HQ1.out.on hb2 HQ1.out.lt)
          have HA2 := hide (HA1.out.below hb2)
          have HC2 := hide (HC1.out.below hb2)
          clear k0 k1 k2 k3 k4 k5 k6 k7 k8 k9 k10 k11 k12 k13
          obtain ⟨k0, k1, k2, k3, k4, k5, k6, k7, k8, k9, k10, k11, k12, k13⟩ := HQ2.out.cc
          clear hb2
          go_wp2_with fail
          go_ret
          exact ⟨rfl, HB2.out⟩

set_option maxHeartbeats 2000000 in
theorem membersOk_any (op tk sq id kd sn us mb dp : Int) (oa : Option Addr) (n cl : Nat) (tx : List UInt8) (ob : Option Addr) (m cp : Nat) (ds up : Int) (zl zp : List Int) (hx : tx.length ≤ 1048576) (w : World) (hat : IntsAt w oa n cl zl) (hbt : IntsAt w ob m cp zp) :
    Calls Tryz.prog 54 #[cmval op tk sq id kd sn us mb dp (.slice oa n cl) (.slice ob m cp) tx ds up] w fun e w' => e = .returned (.bool (membOk (⟨op, tk, sq, ⟨id, kd, sn, us, mb, zl, tx, zp, dp⟩, ds, up⟩ : CmdV))) ∧ Below w.heap.size w w' := by
  have HB0 := hide ((Below.refl w.heap.size w).alloc (Nat.le_refl _) (.cells #[.int .i64 op, .int .i64 tk, .int .i64 sq, .int .i64 id, .int .i64 kd, .int .i64 sn, .int .i64 us, .int .i64 mb, .slice oa n cl, .string ⟨tx.toArray⟩, .slice ob m cp, .int .i64 dp, .int .i64 ds, .int .i64 up] 31))
  have HQ0 := hide (CB.new w op tk sq id kd sn us mb dp oa n cl tx ob m cp ds up)
  have HA0 := hide (hat.below HB0.out)
  have HC0 := hide (hbt.below HB0.out)
  have HNE := hide (fun w hat hbt => noEvent_any op tk sq id kd sn us mb dp oa n cl tx ob m cp ds up zl zp hx w hat hbt)
  have HND := hide (fun w => noDest_any op tk sq id kd sn us mb dp oa n cl tx ob m cp ds up zl zp w)
  have HEO := hide (fun w hat hbt => implEventOk_any id kd sn us mb dp oa n cl tx ob m cp zl zp hx w hat hbt)
  clear hat hbt
  unfold membOk
  simp only
  generalize blankE (⟨id, kd, sn, us, mb, zl, tx, zp, dp⟩ : EvV) = bE at HNE ⊢
  generalize noDest (⟨op, tk, sq, ⟨id, kd, sn, us, mb, zl, tx, zp, dp⟩, ds, up⟩ : CmdV) = bD at HND ⊢
  cases bE with
  | false =>
    go_enter Tryz.func54, Tryz.ntmps54
    go_wp2_with fail
    refine (HNE.out _ HA0.out HC0.out).mono ?_
    rintro e w1 ⟨rfl, hb1⟩
    have HB1 := hide (HB0.out.trans (hb1.mono HB0.out.size))
    have HQ1 := hide (HQ0.out.on hb1 HQ0.out.lt)
    have HA1 := hide (HA0.out.below hb1)
    have HC1 := hide (HC0.out.below hb1)
    obtain ⟨k0, k1, k2, k3, k4, k5, k6, k7, k8, k9, k10, k11, k12, k13⟩ := HQ1.out.cc
    clear hb1
    go_wp2_with fail
    go_ret
    exact ⟨rfl, HB1.out⟩
  | true =>
    cases bD with
    | false =>
      go_enter Tryz.func54, Tryz.ntmps54
      go_wp2_with fail
      refine (HNE.out _ HA0.out HC0.out).mono ?_
      rintro e w1 ⟨rfl, hb1⟩
      have HB1 := hide (HB0.out.trans (hb1.mono HB0.out.size))
      have HQ1 := hide (HQ0.out.on hb1 HQ0.out.lt)
      have HA1 := hide (HA0.out.below hb1)
      have HC1 := hide (HC0.out.below hb1)
      obtain ⟨k0, k1, k2, k3, k4, k5, k6, k7, k8, k9, k10, k11, k12, k13⟩ := HQ1.out.cc
      clear hb1
      go_wp2_with fail
      refine (HND.out _).mono ?_
      rintro e w2 ⟨rfl, hb2⟩
      have HB2 := hide (HB1.out.trans (hb2.mono HB1.out.size))
      have HQ2 := hide (HQ1.out.on hb2 HQ1.out.lt)
      have HA2 := hide (HA1.out.below hb2)
      have HC2 := hide (HC1.out.below hb2)
      clear k0 k1 k2 k3 k4 k5 k6 k7 k8 k9 k10 k11 k12 k13
      obtain ⟨k0, k1, k2, k3, k4, k5, k6, k7, k8, k9, k10, k11, k12, k13⟩ := HQ2.out.cc
      clear hb2
      go_wp2_with fail
      go_ret
      exact ⟨rfl, HB2.out⟩
    | true =>
      go_enter Tryz.func54, Tryz.ntmps54
      go_wp2_with fail
      refine (HNE.out _ HA0.out HC0.out).mono ?_
      rintro e w1 ⟨rfl, hb1⟩
      have HB1 := hide (HB0.out.trans (hb1.mono HB0.out.size))
      have HQ1 := hide (HQ0.out.on hb1 HQ0.out.lt)
      have HA1 := hide (HA0.out.below hb1)
      have HC1 := hide (HC0.out.below hb1)
      obtain ⟨k0, k1, k2, k3, k4, k5, k6, k7, k8, k9, k10, k11, k12, k13⟩ := HQ1.out.cc
      clear hb1
      go_wp2_with fail
      refine (HND.out _).mono ?_
      rintro e w2 ⟨rfl, hb2⟩
      have HB2 := hide (HB1.out.trans (hb2.mono HB1.out.size))
      have HQ2 := hide (HQ1.out.on hb2 HQ1.out.lt)
      have HA2 := hide (HA1.out.below hb2)
      have HC2 := hide (HC1.out.below hb2)
      clear k0 k1 k2 k3 k4 k5 k6 k7 k8 k9 k10 k11 k12 k13
      obtain ⟨k0, k1, k2, k3, k4, k5, k6, k7, k8, k9, k10, k11, k12, k13⟩ := HQ2.out.cc
      clear hb2
      go_wp2_with fail
      go_ret
      exact ⟨rfl, HB2.out⟩

set_option maxHeartbeats 2000000 in
theorem ackedOk_any (op tk sq id kd sn us mb dp : Int) (oa : Option Addr) (n cl : Nat) (tx : List UInt8) (ob : Option Addr) (m cp : Nat) (ds up : Int) (zl zp : List Int) (hx : tx.length ≤ 1048576) (w : World) (hat : IntsAt w oa n cl zl) (hbt : IntsAt w ob m cp zp) :
    Calls Tryz.prog 52 #[cmval op tk sq id kd sn us mb dp (.slice oa n cl) (.slice ob m cp) tx ds up] w fun e w' => e = .returned (.bool (ackdOk (⟨op, tk, sq, ⟨id, kd, sn, us, mb, zl, tx, zp, dp⟩, ds, up⟩ : CmdV))) ∧ Below w.heap.size w w' := by
  have HB0 := hide ((Below.refl w.heap.size w).alloc (Nat.le_refl _) (.cells #[.int .i64 op, .int .i64 tk, .int .i64 sq, .int .i64 id, .int .i64 kd, .int .i64 sn, .int .i64 us, .int .i64 mb, .slice oa n cl, .string ⟨tx.toArray⟩, .slice ob m cp, .int .i64 dp, .int .i64 ds, .int .i64 up] 31))
  have HQ0 := hide (CB.new w op tk sq id kd sn us mb dp oa n cl tx ob m cp ds up)
  have HA0 := hide (hat.below HB0.out)
  have HC0 := hide (hbt.below HB0.out)
  have HNE := hide (fun w hat hbt => noEvent_any op tk sq id kd sn us mb dp oa n cl tx ob m cp ds up zl zp hx w hat hbt)
  have HND := hide (fun w => noDest_any op tk sq id kd sn us mb dp oa n cl tx ob m cp ds up zl zp w)
  have HEO := hide (fun w hat hbt => implEventOk_any id kd sn us mb dp oa n cl tx ob m cp zl zp hx w hat hbt)
  clear hat hbt
  unfold ackdOk
  simp only
  generalize blankE (⟨id, kd, sn, us, mb, zl, tx, zp, dp⟩ : EvV) = bE at HNE ⊢
  have HW1 := hide (fun w => within_bel ds 1 2 w)
  have HW2 := hide (fun w => within_bel up 0 1000000 w)
  generalize inR ds 1 2 = b1 at HW1 ⊢
  generalize inR up 0 1000000 = b2 at HW2 ⊢
  cases b1 with
  | false =>
    go_enter Tryz.func52, Tryz.ntmps52
    go_wp2_with fail
    refine (HW1.out _).mono ?_
    rintro e w1 ⟨rfl, hb1⟩
    have HB1 := hide (HB0.out.trans (hb1.mono HB0.out.size))
    have HQ1 := hide (HQ0.out.on hb1 HQ0.out.lt)
    have HA1 := hide (HA0.out.below hb1)
    have HC1 := hide (HC0.out.below hb1)
    obtain ⟨k0, k1, k2, k3, k4, k5, k6, k7, k8, k9, k10, k11, k12, k13⟩ := HQ1.out.cc
    clear hb1
    go_wp2_with fail
    go_ret
    exact ⟨rfl, HB1.out⟩
  | true =>
    cases b2 with
    | false =>
      go_enter Tryz.func52, Tryz.ntmps52
      go_wp2_with fail
      refine (HW1.out _).mono ?_
      rintro e w1 ⟨rfl, hb1⟩
      have HB1 := hide (HB0.out.trans (hb1.mono HB0.out.size))
      have HQ1 := hide (HQ0.out.on hb1 HQ0.out.lt)
      have HA1 := hide (HA0.out.below hb1)
      have HC1 := hide (HC0.out.below hb1)
      obtain ⟨k0, k1, k2, k3, k4, k5, k6, k7, k8, k9, k10, k11, k12, k13⟩ := HQ1.out.cc
      clear hb1
      go_wp2_with fail
      refine (HW2.out _).mono ?_
      rintro e w2 ⟨rfl, hb2⟩
      have HB2 := hide (HB1.out.trans (hb2.mono HB1.out.size))
      have HQ2 := hide (HQ1.out.on hb2 HQ1.out.lt)
      have HA2 := hide (HA1.out.below hb2)
      have HC2 := hide (HC1.out.below hb2)
      clear k0 k1 k2 k3 k4 k5 k6 k7 k8 k9 k10 k11 k12 k13
      obtain ⟨k0, k1, k2, k3, k4, k5, k6, k7, k8, k9, k10, k11, k12, k13⟩ := HQ2.out.cc
      clear hb2
      go_wp2_with fail
      go_ret
      exact ⟨rfl, HB2.out⟩
    | true =>
      cases bE with
      | false =>
        go_enter Tryz.func52, Tryz.ntmps52
        go_wp2_with fail
        refine (HW1.out _).mono ?_
        rintro e w1 ⟨rfl, hb1⟩
        have HB1 := hide (HB0.out.trans (hb1.mono HB0.out.size))
        have HQ1 := hide (HQ0.out.on hb1 HQ0.out.lt)
        have HA1 := hide (HA0.out.below hb1)
        have HC1 := hide (HC0.out.below hb1)
        obtain ⟨k0, k1, k2, k3, k4, k5, k6, k7, k8, k9, k10, k11, k12, k13⟩ := HQ1.out.cc
        clear hb1
        go_wp2_with fail
        refine (HW2.out _).mono ?_
        rintro e w2 ⟨rfl, hb2⟩
        have HB2 := hide (HB1.out.trans (hb2.mono HB1.out.size))
        have HQ2 := hide (HQ1.out.on hb2 HQ1.out.lt)
        have HA2 := hide (HA1.out.below hb2)
        have HC2 := hide (HC1.out.below hb2)
        clear k0 k1 k2 k3 k4 k5 k6 k7 k8 k9 k10 k11 k12 k13
        obtain ⟨k0, k1, k2, k3, k4, k5, k6, k7, k8, k9, k10, k11, k12, k13⟩ := HQ2.out.cc
        clear hb2
        go_wp2_with fail
        refine (HNE.out _ HA2.out HC2.out).mono ?_
        rintro e w3 ⟨rfl, hb3⟩
        have HB3 := hide (HB2.out.trans (hb3.mono HB2.out.size))
        have HQ3 := hide (HQ2.out.on hb3 HQ2.out.lt)
        have HA3 := hide (HA2.out.below hb3)
        have HC3 := hide (HC2.out.below hb3)
        clear k0 k1 k2 k3 k4 k5 k6 k7 k8 k9 k10 k11 k12 k13
        obtain ⟨k0, k1, k2, k3, k4, k5, k6, k7, k8, k9, k10, k11, k12, k13⟩ := HQ3.out.cc
        clear hb3
        go_wp2_with fail
        go_ret
        exact ⟨rfl, HB3.out⟩
      | true =>
        go_enter Tryz.func52, Tryz.ntmps52
        go_wp2_with fail
        refine (HW1.out _).mono ?_
        rintro e w1 ⟨rfl, hb1⟩
        have HB1 := hide (HB0.out.trans (hb1.mono HB0.out.size))
        have HQ1 := hide (HQ0.out.on hb1 HQ0.out.lt)
        have HA1 := hide (HA0.out.below hb1)
        have HC1 := hide (HC0.out.below hb1)
        obtain ⟨k0, k1, k2, k3, k4, k5, k6, k7, k8, k9, k10, k11, k12, k13⟩ := HQ1.out.cc
        clear hb1
        go_wp2_with fail
        refine (HW2.out _).mono ?_
        rintro e w2 ⟨rfl, hb2⟩
        have HB2 := hide (HB1.out.trans (hb2.mono HB1.out.size))
        have HQ2 := hide (HQ1.out.on hb2 HQ1.out.lt)
        have HA2 := hide (HA1.out.below hb2)
        have HC2 := hide (HC1.out.below hb2)
        clear k0 k1 k2 k3 k4 k5 k6 k7 k8 k9 k10 k11 k12 k13
        obtain ⟨k0, k1, k2, k3, k4, k5, k6, k7, k8, k9, k10, k11, k12, k13⟩ := HQ2.out.cc
        clear hb2
        go_wp2_with fail
        refine (HNE.out _ HA2.out HC2.out).mono ?_
        rintro e w3 ⟨rfl, hb3⟩
        have HB3 := hide (HB2.out.trans (hb3.mono HB2.out.size))
        have HQ3 := hide (HQ2.out.on hb3 HQ2.out.lt)
        have HA3 := hide (HA2.out.below hb3)
        have HC3 := hide (HC2.out.below hb3)
        clear k0 k1 k2 k3 k4 k5 k6 k7 k8 k9 k10 k11 k12 k13
        obtain ⟨k0, k1, k2, k3, k4, k5, k6, k7, k8, k9, k10, k11, k12, k13⟩ := HQ3.out.cc
        clear hb3
        go_wp2_with fail
        go_ret
        exact ⟨rfl, HB3.out⟩

set_option maxHeartbeats 2000000 in
theorem receiveOk_any (op tk sq id kd sn us mb dp : Int) (oa : Option Addr) (n cl : Nat) (tx : List UInt8) (ob : Option Addr) (m cp : Nat) (ds up : Int) (zl zp : List Int) (hx : tx.length ≤ 1048576) (w : World) (hat : IntsAt w oa n cl zl) (hbt : IntsAt w ob m cp zp) :
    Calls Tryz.prog 50 #[cmval op tk sq id kd sn us mb dp (.slice oa n cl) (.slice ob m cp) tx ds up] w fun e w' => e = .returned (.bool (recvOk (⟨op, tk, sq, ⟨id, kd, sn, us, mb, zl, tx, zp, dp⟩, ds, up⟩ : CmdV))) ∧ Below w.heap.size w w' := by
  have HB0 := hide ((Below.refl w.heap.size w).alloc (Nat.le_refl _) (.cells #[.int .i64 op, .int .i64 tk, .int .i64 sq, .int .i64 id, .int .i64 kd, .int .i64 sn, .int .i64 us, .int .i64 mb, .slice oa n cl, .string ⟨tx.toArray⟩, .slice ob m cp, .int .i64 dp, .int .i64 ds, .int .i64 up] 31))
  have HQ0 := hide (CB.new w op tk sq id kd sn us mb dp oa n cl tx ob m cp ds up)
  have HA0 := hide (hat.below HB0.out)
  have HC0 := hide (hbt.below HB0.out)
  have HNE := hide (fun w hat hbt => noEvent_any op tk sq id kd sn us mb dp oa n cl tx ob m cp ds up zl zp hx w hat hbt)
  have HND := hide (fun w => noDest_any op tk sq id kd sn us mb dp oa n cl tx ob m cp ds up zl zp w)
  have HEO := hide (fun w hat hbt => implEventOk_any id kd sn us mb dp oa n cl tx ob m cp zl zp hx w hat hbt)
  clear hat hbt
  unfold recvOk
  simp only
  generalize evOk (⟨id, kd, sn, us, mb, zl, tx, zp, dp⟩ : EvV) = bO at HEO ⊢
  generalize noDest (⟨op, tk, sq, ⟨id, kd, sn, us, mb, zl, tx, zp, dp⟩, ds, up⟩ : CmdV) = bD at HND ⊢
  obtain ⟨b2, q2⟩ : ∃ b2, decide (id.tmod 2 = 1) = b2 := ⟨_, rfl⟩
  rw [q2]
  have i2 : (id.tmod 2 == 1) = b2 := by rw [← q2, Bool.eq_iff_iff]; simp
  have i3 : (IntKind.i64.wrap (id.tmod 2) == 1) = b2 := by rw [← i2]; congr 1; exact wrap_mod2 id
  clear q2
  cases bO with
  | false =>
    go_enter Tryz.func50, Tryz.ntmps50
    go_wp2_with fail
    refine (HEO.out _ HA0.out HC0.out).mono ?_
    rintro e w1 ⟨rfl, hb1⟩
    have HB1 := hide (HB0.out.trans (hb1.mono HB0.out.size))
    have HQ1 := hide (HQ0.out.on hb1 HQ0.out.lt)
    have HA1 := hide (HA0.out.below hb1)
    have HC1 := hide (HC0.out.below hb1)
    obtain ⟨k0, k1, k2, k3, k4, k5, k6, k7, k8, k9, k10, k11, k12, k13⟩ := HQ1.out.cc
    clear hb1
    go_wp2_with fail
    go_ret
    exact ⟨rfl, HB1.out⟩
  | true =>
    cases b2 with
    | false =>
      go_enter Tryz.func50, Tryz.ntmps50
      go_wp2_with fail
      refine (HEO.out _ HA0.out HC0.out).mono ?_
      rintro e w1 ⟨rfl, hb1⟩
      have HB1 := hide (HB0.out.trans (hb1.mono HB0.out.size))
      have HQ1 := hide (HQ0.out.on hb1 HQ0.out.lt)
      have HA1 := hide (HA0.out.below hb1)
      have HC1 := hide (HC0.out.below hb1)
      obtain ⟨k0, k1, k2, k3, k4, k5, k6, k7, k8, k9, k10, k11, k12, k13⟩ := HQ1.out.cc
      clear hb1
      go_wp2_with fail
      go_ret
      exact ⟨rfl, HB1.out⟩
    | true =>
      cases bD with
      | false =>
        go_enter Tryz.func50, Tryz.ntmps50
        go_wp2_with fail
        refine (HEO.out _ HA0.out HC0.out).mono ?_
        rintro e w1 ⟨rfl, hb1⟩
        have HB1 := hide (HB0.out.trans (hb1.mono HB0.out.size))
        have HQ1 := hide (HQ0.out.on hb1 HQ0.out.lt)
        have HA1 := hide (HA0.out.below hb1)
        have HC1 := hide (HC0.out.below hb1)
        obtain ⟨k0, k1, k2, k3, k4, k5, k6, k7, k8, k9, k10, k11, k12, k13⟩ := HQ1.out.cc
        clear hb1
        go_wp2_with fail
        refine (HND.out _).mono ?_
        rintro e w2 ⟨rfl, hb2⟩
        have HB2 := hide (HB1.out.trans (hb2.mono HB1.out.size))
        have HQ2 := hide (HQ1.out.on hb2 HQ1.out.lt)
        have HA2 := hide (HA1.out.below hb2)
        have HC2 := hide (HC1.out.below hb2)
        clear k0 k1 k2 k3 k4 k5 k6 k7 k8 k9 k10 k11 k12 k13
        obtain ⟨k0, k1, k2, k3, k4, k5, k6, k7, k8, k9, k10, k11, k12, k13⟩ := HQ2.out.cc
        clear hb2
        go_wp2_with fail
        go_ret
        exact ⟨rfl, HB2.out⟩
      | true =>
        go_enter Tryz.func50, Tryz.ntmps50
        go_wp2_with fail
        refine (HEO.out _ HA0.out HC0.out).mono ?_
        rintro e w1 ⟨rfl, hb1⟩
        have HB1 := hide (HB0.out.trans (hb1.mono HB0.out.size))
        have HQ1 := hide (HQ0.out.on hb1 HQ0.out.lt)
        have HA1 := hide (HA0.out.below hb1)
        have HC1 := hide (HC0.out.below hb1)
        obtain ⟨k0, k1, k2, k3, k4, k5, k6, k7, k8, k9, k10, k11, k12, k13⟩ := HQ1.out.cc
        clear hb1
        go_wp2_with fail
        refine (HND.out _).mono ?_
        rintro e w2 ⟨rfl, hb2⟩
        have HB2 := hide (HB1.out.trans (hb2.mono HB1.out.size))
        have HQ2 := hide (HQ1.out.on hb2 HQ1.out.lt)
        have HA2 := hide (HA1.out.below hb2)
        have HC2 := hide (HC1.out.below hb2)
        clear k0 k1 k2 k3 k4 k5 k6 k7 k8 k9 k10 k11 k12 k13
        obtain ⟨k0, k1, k2, k3, k4, k5, k6, k7, k8, k9, k10, k11, k12, k13⟩ := HQ2.out.cc
        clear hb2
        go_wp2_with fail
        go_ret
        exact ⟨rfl, HB2.out⟩

set_option maxHeartbeats 2000000 in
theorem sendOk_any (op tk sq id kd sn us mb dp : Int) (oa : Option Addr) (n cl : Nat) (tx : List UInt8) (ob : Option Addr) (m cp : Nat) (ds up : Int) (zl zp : List Int) (hx : tx.length ≤ 1048576) (w : World) (hat : IntsAt w oa n cl zl) (hbt : IntsAt w ob m cp zp) :
    Calls Tryz.prog 48 #[cmval op tk sq id kd sn us mb dp (.slice oa n cl) (.slice ob m cp) tx ds up] w fun e w' => e = .returned (.bool (sendOk (⟨op, tk, sq, ⟨id, kd, sn, us, mb, zl, tx, zp, dp⟩, ds, up⟩ : CmdV))) ∧ Below w.heap.size w w' := by
  have HB0 := hide (((Below.refl w.heap.size w).alloc (Nat.le_refl _) (.cells #[.int .i64 op, .int .i64 tk, .int .i64 sq, .int .i64 id, .int .i64 kd, .int .i64 sn, .int .i64 us, .int .i64 mb, .slice oa n cl, .string ⟨tx.toArray⟩, .slice ob m cp, .int .i64 dp, .int .i64 ds, .int .i64 up] 31)).alloc (by simp) (.cells #[.int .i64 id, .int .i64 kd, .int .i64 sn, .int .i64 us, .int .i64 mb, .slice oa n cl, .string ⟨tx.toArray⟩, .slice ob m cp, .int .i64 dp] 29))
  unfold sendOk
  simp only
  have hm := hbt.len
  by_cases c1 : id = 0
  · by_cases c2 : dp = 0
    · by_cases c3 : m = 0
      · subst c1 c2 c3
        have hz : zp = [] := List.eq_nil_of_length_eq_zero hm
        subst hz
        have HND := hide (fun w => noDest_any op tk sq 0 kd sn us mb 0 oa n cl tx ob 0 cp ds up zl [] w)
        have HSP := hide (send_place (e := (⟨0, kd, sn, us, mb, zl, tx, [], 0⟩ : EvV)) rfl rfl rfl)
        generalize noDest (⟨op, tk, sq, ⟨0, kd, sn, us, mb, zl, tx, [], 0⟩, ds, up⟩ : CmdV) = bD at HND ⊢
        generalize bodyOk (⟨0, kd, sn, us, mb, zl, tx, [], 0⟩ : EvV) = bO at HSP ⊢
        have e0 : (decide ((0 : Int) = 0) && (decide ((0 : Int) = 0) && (decide (([] : List Int).length = 0) && (bO && bD)))) = (bO && bD) := by simp
        rw [e0]
        clear e0 HB0
        by_cases c4 : kd = 1
        · subst c4
          have HEO := hide (fun w hat hbt => implEventOk_any 2 1 sn us mb 0 oa n cl tx ob 0 cp zl [] hx w hat hbt)
          rw [show evOk (⟨2, 1, sn, us, mb, zl, tx, [], 0⟩ : EvV) = bO from HSP.out] at HEO
          clear HSP
          have hb0 := ((Below.refl w.heap.size w).alloc (Nat.le_refl _) (.cells #[.int .i64 op, .int .i64 tk, .int .i64 sq, .int .i64 0, .int .i64 1, .int .i64 sn, .int .i64 us, .int .i64 mb, .slice oa n cl, .string ⟨tx.toArray⟩, .slice ob 0 cp, .int .i64 0, .int .i64 ds, .int .i64 up] 31)).alloc (by simp) (.cells #[.int .i64 2, .int .i64 1, .int .i64 sn, .int .i64 us, .int .i64 mb, .slice oa n cl, .string ⟨tx.toArray⟩, .slice ob 0 cp, .int .i64 0] 29)
          have HA0 := hide (hat.below hb0)
          have HC0 := hide (hbt.below hb0)
          have HQ0 := hide ((CB.new w op tk sq 0 1 sn us mb 0 oa n cl tx ob 0 cp ds up).on ((Below.refl _ _).alloc (Nat.le_refl _) (.cells #[.int .i64 2, .int .i64 1, .int .i64 sn, .int .i64 us, .int .i64 mb, .slice oa n cl, .string ⟨tx.toArray⟩, .slice ob 0 cp, .int .i64 0] 29)) (by simp))
          have HB0 := hide hb0
          clear hat hbt hb0
          cases bO with
          | false =>
            go_enter Tryz.func48, Tryz.ntmps48
            go_wp2_with fail
            refine (HEO.out _ HA0.out HC0.out).mono ?_
            rintro e w1 ⟨rfl, hb1⟩
            have HB1 := hide (HB0.out.trans (hb1.mono HB0.out.size))
            have HQ1 := hide (HQ0.out.on hb1 HQ0.out.lt)
            have HA1 := hide (HA0.out.below hb1)
            have HC1 := hide (HC0.out.below hb1)
            obtain ⟨k0, k1, k2, k3, k4, k5, k6, k7, k8, k9, k10, k11, k12, k13⟩ := HQ1.out.cc
            clear hb1
            go_wp2_with fail
            go_ret
            exact ⟨rfl, HB1.out⟩
          | true =>
            cases bD with
            | false =>
              go_enter Tryz.func48, Tryz.ntmps48
              go_wp2_with fail
              refine (HEO.out _ HA0.out HC0.out).mono ?_
              rintro e w1 ⟨rfl, hb1⟩
              have HB1 := hide (HB0.out.trans (hb1.mono HB0.out.size))
              have HQ1 := hide (HQ0.out.on hb1 HQ0.out.lt)
              have HA1 := hide (HA0.out.below hb1)
              have HC1 := hide (HC0.out.below hb1)
              obtain ⟨k0, k1, k2, k3, k4, k5, k6, k7, k8, k9, k10, k11, k12, k13⟩ := HQ1.out.cc
              clear hb1
              go_wp2_with fail
              refine (HND.out _).mono ?_
              rintro e w2 ⟨rfl, hb2⟩
              have HB2 := hide (HB1.out.trans (hb2.mono HB1.out.size))
              have HQ2 := hide (HQ1.out.on hb2 HQ1.out.lt)
              have HA2 := hide (HA1.out.below hb2)
              have HC2 := hide (HC1.out.below hb2)
              clear k0 k1 k2 k3 k4 k5 k6 k7 k8 k9 k10 k11 k12 k13
              obtain ⟨k0, k1, k2, k3, k4, k5, k6, k7, k8, k9, k10, k11, k12, k13⟩ := HQ2.out.cc
              clear hb2
              go_wp2_with fail
              go_ret
              exact ⟨rfl, HB2.out⟩
            | true =>
              go_enter Tryz.func48, Tryz.ntmps48
              go_wp2_with fail
              refine (HEO.out _ HA0.out HC0.out).mono ?_
              rintro e w1 ⟨rfl, hb1⟩
              have HB1 := hide (HB0.out.trans (hb1.mono HB0.out.size))
              have HQ1 := hide (HQ0.out.on hb1 HQ0.out.lt)
              have HA1 := hide (HA0.out.below hb1)
              have HC1 := hide (HC0.out.below hb1)
              obtain ⟨k0, k1, k2, k3, k4, k5, k6, k7, k8, k9, k10, k11, k12, k13⟩ := HQ1.out.cc
              clear hb1
              go_wp2_with fail
              refine (HND.out _).mono ?_
              rintro e w2 ⟨rfl, hb2⟩
              have HB2 := hide (HB1.out.trans (hb2.mono HB1.out.size))
              have HQ2 := hide (HQ1.out.on hb2 HQ1.out.lt)
              have HA2 := hide (HA1.out.below hb2)
              have HC2 := hide (HC1.out.below hb2)
              clear k0 k1 k2 k3 k4 k5 k6 k7 k8 k9 k10 k11 k12 k13
              obtain ⟨k0, k1, k2, k3, k4, k5, k6, k7, k8, k9, k10, k11, k12, k13⟩ := HQ2.out.cc
              clear hb2
              go_wp2_with fail
              go_ret
              exact ⟨rfl, HB2.out⟩
        · have c5 : (kd == 1) = false := by simpa using c4
          have HEO := hide (fun ob cp w hat hbt => implEventOk_any 2 kd sn us mb 0 oa n cl tx ob 1 cp zl [1] hx w hat hbt)
          have hsp := HSP.out
          rw [if_neg c4] at hsp
          rw [show evOk (⟨2, kd, sn, us, mb, zl, tx, [1], 0⟩ : EvV) = bO from hsp] at HEO
          clear HSP hsp
          have hb0 := (((Below.refl w.heap.size w).alloc (Nat.le_refl _) (.cells #[.int .i64 op, .int .i64 tk, .int .i64 sq, .int .i64 0, .int .i64 kd, .int .i64 sn, .int .i64 us, .int .i64 mb, .slice oa n cl, .string ⟨tx.toArray⟩, .slice ob 0 cp, .int .i64 0, .int .i64 ds, .int .i64 up] 31)).alloc (by simp) (.cells #[.int .i64 2, .int .i64 kd, .int .i64 sn, .int .i64 us, .int .i64 mb, .slice oa n cl, .string ⟨tx.toArray⟩, .slice (some ⟨w.heap.size + 1 + 1, 0, none⟩) 1 1, .int .i64 0] 29)).alloc (by simp; omega) (.cells #[.int .i64 1] 3)
          have HA0 := hide (hat.below hb0)
          have HC0 := hide (ints_one ((w.alloc (.cells #[.int .i64 op, .int .i64 tk, .int .i64 sq, .int .i64 0, .int .i64 kd, .int .i64 sn, .int .i64 us, .int .i64 mb, .slice oa n cl, .string ⟨tx.toArray⟩, .slice ob 0 cp, .int .i64 0, .int .i64 ds, .int .i64 up] 31)).alloc (.cells #[.int .i64 2, .int .i64 kd, .int .i64 sn, .int .i64 us, .int .i64 mb, .slice oa n cl, .string ⟨tx.toArray⟩, .slice (some ⟨w.heap.size + 1 + 1, 0, none⟩) 1 1, .int .i64 0] 29)) (w.heap.size + 1 + 1) 1 (by decide) (by simp))
          have HQ0 := hide (((CB.new w op tk sq 0 kd sn us mb 0 oa n cl tx ob 0 cp ds up).on ((Below.refl _ _).alloc (Nat.le_refl _) (.cells #[.int .i64 2, .int .i64 kd, .int .i64 sn, .int .i64 us, .int .i64 mb, .slice oa n cl, .string ⟨tx.toArray⟩, .slice (some ⟨w.heap.size + 1 + 1, 0, none⟩) 1 1, .int .i64 0] 29)) (by simp)).on ((Below.refl _ _).alloc (Nat.le_refl _) (.cells #[.int .i64 1] 3)) (by simp; omega))
          have HB0 := hide hb0
          clear hat hbt hb0
          cases bO with
          | false =>
            go_enter Tryz.func48, Tryz.ntmps48
            go_wp2_with fail
            refine (HEO.out _ _ _ HA0.out HC0.out).mono ?_
            rintro e w1 ⟨rfl, hb1⟩
            have HB1 := hide (HB0.out.trans (hb1.mono HB0.out.size))
            have HQ1 := hide (HQ0.out.on hb1 HQ0.out.lt)
            have HA1 := hide (HA0.out.below hb1)
            have HC1 := hide (HC0.out.below hb1)
            obtain ⟨k0, k1, k2, k3, k4, k5, k6, k7, k8, k9, k10, k11, k12, k13⟩ := HQ1.out.cc
            clear hb1
            go_wp2_with fail
            go_ret
            exact ⟨rfl, HB1.out⟩
          | true =>
            cases bD with
            | false =>
              go_enter Tryz.func48, Tryz.ntmps48
              go_wp2_with fail
              refine (HEO.out _ _ _ HA0.out HC0.out).mono ?_
              rintro e w1 ⟨rfl, hb1⟩
              have HB1 := hide (HB0.out.trans (hb1.mono HB0.out.size))
              have HQ1 := hide (HQ0.out.on hb1 HQ0.out.lt)
              have HA1 := hide (HA0.out.below hb1)
              have HC1 := hide (HC0.out.below hb1)
              obtain ⟨k0, k1, k2, k3, k4, k5, k6, k7, k8, k9, k10, k11, k12, k13⟩ := HQ1.out.cc
              clear hb1
              go_wp2_with fail
              refine (HND.out _).mono ?_
              rintro e w2 ⟨rfl, hb2⟩
              have HB2 := hide (HB1.out.trans (hb2.mono HB1.out.size))
              have HQ2 := hide (HQ1.out.on hb2 HQ1.out.lt)
              have HA2 := hide (HA1.out.below hb2)
              have HC2 := hide (HC1.out.below hb2)
              clear k0 k1 k2 k3 k4 k5 k6 k7 k8 k9 k10 k11 k12 k13
              obtain ⟨k0, k1, k2, k3, k4, k5, k6, k7, k8, k9, k10, k11, k12, k13⟩ := HQ2.out.cc
              clear hb2
              go_wp2_with fail
              go_ret
              exact ⟨rfl, HB2.out⟩
            | true =>
              go_enter Tryz.func48, Tryz.ntmps48
              go_wp2_with fail
              refine (HEO.out _ _ _ HA0.out HC0.out).mono ?_
              rintro e w1 ⟨rfl, hb1⟩
              have HB1 := hide (HB0.out.trans (hb1.mono HB0.out.size))
              have HQ1 := hide (HQ0.out.on hb1 HQ0.out.lt)
              have HA1 := hide (HA0.out.below hb1)
              have HC1 := hide (HC0.out.below hb1)
              obtain ⟨k0, k1, k2, k3, k4, k5, k6, k7, k8, k9, k10, k11, k12, k13⟩ := HQ1.out.cc
              clear hb1
              go_wp2_with fail
              refine (HND.out _).mono ?_
              rintro e w2 ⟨rfl, hb2⟩
              have HB2 := hide (HB1.out.trans (hb2.mono HB1.out.size))
              have HQ2 := hide (HQ1.out.on hb2 HQ1.out.lt)
              have HA2 := hide (HA1.out.below hb2)
              have HC2 := hide (HC1.out.below hb2)
              clear k0 k1 k2 k3 k4 k5 k6 k7 k8 k9 k10 k11 k12 k13
              obtain ⟨k0, k1, k2, k3, k4, k5, k6, k7, k8, k9, k10, k11, k12, k13⟩ := HQ2.out.cc
              clear hb2
              go_wp2_with fail
              go_ret
              exact ⟨rfl, HB2.out⟩
      · have c4 : (0 : Int) < (m : Int) := by omega
        have c5 : ¬ zp.length = 0 := by omega
        subst c1 c2
        simp only [c5, decide_false, Bool.false_and, Bool.and_false]
        clear hat hbt
        go_enter Tryz.func48, Tryz.ntmps48
        go_wp2_with fail
        go_ret
        exact ⟨rfl, HB0.out⟩
    · have c4 : (dp == 0) = false := by simpa using c2
      subst c1
      simp only [c2, decide_false, Bool.false_and, Bool.and_false]
      clear hat hbt
      go_enter Tryz.func48, Tryz.ntmps48
      go_wp2_with fail
      go_ret
      exact ⟨rfl, HB0.out⟩
  · have c4 : (id == 0) = false := by simpa using c1
    simp only [c1, decide_false, Bool.false_and, Bool.and_false]
    clear hat hbt
    go_enter Tryz.func48, Tryz.ntmps48
    go_wp2_with fail
    go_ret
    exact ⟨rfl, HB0.out⟩

end Go.Proofs.YtckkfjmjcknjdaaGreatDoor
