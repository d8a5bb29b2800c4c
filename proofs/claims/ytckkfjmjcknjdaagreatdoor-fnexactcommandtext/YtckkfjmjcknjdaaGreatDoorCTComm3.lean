/-
  Walks and mathematics of Comm3.
-/
import Derived.Test.YtckkfjmjcknjdaaGreatDoorCTComm1
import Derived.Test.YtckkfjmjcknjdaaGreatDoorCTOpenComm
import Derived.Test.YtckkfjmjcknjdaaGreatDoorCTWalk9b
namespace Go.Proofs.YtckkfjmjcknjdaaGreatDoor.P3
end Go.Proofs.YtckkfjmjcknjdaaGreatDoor.P3
namespace Go.Proofs.YtckkfjmjcknjdaaGreatDoor
open Go.RowKit P1 P3 P9 P11 P12 P18 K
set_option linter.unusedVariables false
set_option linter.unusedSimpArgs false

set_option maxHeartbeats 1000000 in
theorem noDest_any (op tk sq id kd sn us mb dp : Int) (oa : Option Addr) (n cl : Nat) (tx : List UInt8) (ob : Option Addr) (m cp : Nat) (ds up : Int) (zl zp : List Int) (w : World) :
    Calls Tryz.prog 71 #[cmval op tk sq id kd sn us mb dp (.slice oa n cl) (.slice ob m cp) tx ds up] w fun e w' => e = .returned (.bool (noDest (⟨op, tk, sq, ⟨id, kd, sn, us, mb, zl, tx, zp, dp⟩, ds, up⟩ : CmdV))) ∧ Below w.heap.size w w' := by
  have HB := hide ((Below.refl w.heap.size w).alloc (Nat.le_refl _) (.cells #[.int .i64 op, .int .i64 tk, .int .i64 sq, .int .i64 id, .int .i64 kd, .int .i64 sn, .int .i64 us, .int .i64 mb, .slice oa n cl, .string ⟨tx.toArray⟩, .slice ob m cp, .int .i64 dp, .int .i64 ds, .int .i64 up] 31))
  unfold noDest
  simp only
  by_cases c1 : ds = 0
  · subst c1
    by_cases c2 : up = 0
    · subst c2
      go_enter Tryz.func71, Tryz.ntmps71
      go_wp2_with fail
      go_ret
      exact ⟨rfl, HB.out⟩
    · have c3 : (up == 0) = false := by simpa using c2
      have c4 : decide (up = 0) = false := by simpa using c2
      rw [c4]
      go_enter Tryz.func71, Tryz.ntmps71
      go_wp2_with fail
      go_ret
      exact ⟨rfl, HB.out⟩
  · have c3 : (ds == 0) = false := by simpa using c1
    have c4 : decide (ds = 0) = false := by simpa using c1
    rw [c4]
    go_enter Tryz.func71, Tryz.ntmps71
    go_wp2_with fail
    go_ret
    exact ⟨rfl, HB.out⟩

theorem nv_guard0 (a b : Value) (x y : Operand) (wx : World) (a0 a1 a2 a3 a4 a5 b0 b1 b2 b3 b4 b5 : Int) : (eqGuard .eql 131 x y (nval a0 a1 a2 a3 a4 a5) (nval b0 b1 b2 b3 b4 b5)).run Tryz.prog wx = .ok () wx :=
  run_eqGuard_agg wx .eql _ x y _ _ (by kernel_rfl)

def nums0 (id kd sn us mb dp : Int) : Bool := decide (id = 0) && (decide (kd = 0) && (decide (sn = 0) && (decide (us = 0) && (decide (mb = 0) && decide (dp = 0)))))

theorem blank_split {id kd sn us mb dp : Int} {zl zp : List Int} {tx : List UInt8} : blankE (⟨id, kd, sn, us, mb, zl, tx, zp, dp⟩ : EvV) = (nums0 id kd sn us mb dp && (decide (zl.length = 0) && (decide (tx.length = 0) && decide (zp.length = 0)))) := by
  unfold blankE nums0
  simp only
  cases decide (id = 0) <;> cases decide (kd = 0) <;> cases decide (sn = 0) <;> cases decide (us = 0) <;> cases decide (mb = 0) <;> cases decide (dp = 0) <;> simp

theorem nv_zero (id kd sn us mb dp : Int) (wx : World) : (binOp .eql 131 (nval id kd sn us mb dp) (nval 0 0 0 0 0 0)).run Tryz.prog wx = .ok (.bool (nums0 id kd sn us mb dp)) wx := nv_eql ..

set_option maxHeartbeats 2000000 in
theorem noEvent_any (op tk sq id kd sn us mb dp : Int) (oa : Option Addr) (n cl : Nat) (tx : List UInt8) (ob : Option Addr) (m cp : Nat) (ds up : Int) (zl zp : List Int) (hx : tx.length ≤ 1048576) (w : World) (hat : IntsAt w oa n cl zl) (hbt : IntsAt w ob m cp zp) :
    Calls Tryz.prog 70 #[cmval op tk sq id kd sn us mb dp (.slice oa n cl) (.slice ob m cp) tx ds up] w fun e w' => e = .returned (.bool (blankE (⟨id, kd, sn, us, mb, zl, tx, zp, dp⟩ : EvV))) ∧ Below w.heap.size w w' := by
  have HB := hide (((Below.refl w.heap.size w).alloc (Nat.le_refl _) (.cells #[.int .i64 op, .int .i64 tk, .int .i64 sq, .int .i64 id, .int .i64 kd, .int .i64 sn, .int .i64 us, .int .i64 mb, .slice oa n cl, .string ⟨tx.toArray⟩, .slice ob m cp, .int .i64 dp, .int .i64 ds, .int .i64 up] 31)).alloc (by simp) (.cells #[.int .i64 id, .int .i64 kd, .int .i64 sn, .int .i64 us, .int .i64 mb, .slice oa n cl, .string ⟨tx.toArray⟩, .slice ob m cp, .int .i64 dp] 29))
  have hn := hat.len
  have hm := hbt.len
  have HNU := hide (fun w => numbers_any id kd sn us mb dp oa n cl tx ob m cp w)
  have hEq := nv_zero id kd sn us mb dp
  have hGd := fun x y wx => nv_guard0 (.int .i64 0) (.int .i64 0) x y wx id kd sn us mb dp 0 0 0 0 0 0
  rw [blank_split, hn, hm]
  clear hn hm hat hbt
  have hQ := EB.new (w.alloc (.cells #[.int .i64 op, .int .i64 tk, .int .i64 sq, .int .i64 id, .int .i64 kd, .int .i64 sn, .int .i64 us, .int .i64 mb, .slice oa n cl, .string ⟨tx.toArray⟩, .slice ob m cp, .int .i64 dp, .int .i64 ds, .int .i64 up] 31)) id kd sn us mb dp (.slice oa n cl) (.slice ob m cp) tx
  rw [World.size_alloc] at hQ
  have HQ := hide hQ
  clear hQ
  generalize nums0 id kd sn us mb dp = nb at hEq ⊢
  obtain ⟨b1, hb1⟩ : ∃ b1, decide (n = 0) = b1 := ⟨_, rfl⟩
  obtain ⟨b2, hb2⟩ : ∃ b2, decide (tx.length = 0) = b2 := ⟨_, rfl⟩
  obtain ⟨b3, hb3⟩ : ∃ b3, decide (m = 0) = b3 := ⟨_, rfl⟩
  rw [hb1, hb2, hb3]
  have i1 : ((n : Int) == 0) = b1 := by rw [← hb1, Bool.eq_iff_iff]; simp
  have i3 : ((m : Int) == 0) = b3 := by rw [← hb3, Bool.eq_iff_iff]; simp
  have i2 : tx.isEmpty = b2 := by rw [← hb2]; cases tx <;> simp
  clear hb1 hb2 hb3
  cases nb with
  | false =>
    go_enter Tryz.func70, Tryz.ntmps70
    go_wp2_with fail
    refine (HNU.out _).mono ?_
    rintro e w1 ⟨rfl, hb1⟩
    have HB1 := hide (HB.out.trans (hb1.mono (by simp; omega)))
    obtain ⟨k0, k1, k2, k3, k4, k5, k6, k7, k8⟩ := (HQ.out.on hb1 (by simp)).ev
    clear hb1
    unfold nval at hEq hGd
    go_wp2_with fail
    go_ret
    exact ⟨rfl, HB1.out⟩
  | true =>
    cases b1 with
    | false =>
      go_enter Tryz.func70, Tryz.ntmps70
      go_wp2_with fail
      refine (HNU.out _).mono ?_
      rintro e w1 ⟨rfl, hb1⟩
      have HB1 := hide (HB.out.trans (hb1.mono (by simp; omega)))
      obtain ⟨k0, k1, k2, k3, k4, k5, k6, k7, k8⟩ := (HQ.out.on hb1 (by simp)).ev
      clear hb1
      unfold nval at hEq hGd
      go_wp2_with fail
      go_ret
      exact ⟨rfl, HB1.out⟩
    | true =>
      cases b2 with
      | false =>
        go_enter Tryz.func70, Tryz.ntmps70
        go_wp2_with fail
        refine (HNU.out _).mono ?_
        rintro e w1 ⟨rfl, hb1⟩
        have HB1 := hide (HB.out.trans (hb1.mono (by simp; omega)))
        obtain ⟨k0, k1, k2, k3, k4, k5, k6, k7, k8⟩ := (HQ.out.on hb1 (by simp)).ev
        clear hb1
        unfold nval at hEq hGd
        go_wp2_with fail
        go_ret
        exact ⟨rfl, HB1.out⟩
      | true =>
        cases b3 with
        | false =>
          go_enter Tryz.func70, Tryz.ntmps70
          go_wp2_with fail
          refine (HNU.out _).mono ?_
          rintro e w1 ⟨rfl, hb1⟩
          have HB1 := hide (HB.out.trans (hb1.mono (by simp; omega)))
          obtain ⟨k0, k1, k2, k3, k4, k5, k6, k7, k8⟩ := (HQ.out.on hb1 (by simp)).ev
          clear hb1
          unfold nval at hEq hGd
          go_wp2_with fail
          go_ret
          exact ⟨rfl, HB1.out⟩
        | true =>
          go_enter Tryz.func70, Tryz.ntmps70
          go_wp2_with fail
          refine (HNU.out _).mono ?_
          rintro e w1 ⟨rfl, hb1⟩
          have HB1 := hide (HB.out.trans (hb1.mono (by simp; omega)))
          obtain ⟨k0, k1, k2, k3, k4, k5, k6, k7, k8⟩ := (HQ.out.on hb1 (by simp)).ev
          clear hb1
          unfold nval at hEq hGd
          go_wp2_with fail
          go_ret
          exact ⟨rfl, HB1.out⟩

end Go.Proofs.YtckkfjmjcknjdaaGreatDoor
