/-
  Walks and mathematics of Comm3, Comm4.
-/
import Derived.Test.YtckkfjmjcknjdaaGreatDoorRCComm1
import Derived.Test.YtckkfjmjcknjdaaGreatDoorRCOpenComm
import Derived.Test.YtckkfjmjcknjdaaGreatDoorRCWalk9b
namespace Go.Proofs.YtckkfjmjcknjdaaGreatDoor.P3
end Go.Proofs.YtckkfjmjcknjdaaGreatDoor.P3
namespace Go.Proofs.YtckkfjmjcknjdaaGreatDoor
open Go.RowKit P1 P3 P9 P11 P12 P18 K
set_option linter.unusedVariables false
set_option linter.unusedSimpArgs false

set_option maxHeartbeats 1000000 in
theorem noDest_any (op tk sq id kd sn us mb dp : Int) (oa : Option Addr) (n cl : Nat) (tx : List UInt8) (ob : Option Addr) (m cp : Nat) (ds up : Int) (zl zp : List Int) (w : World) :
    Calls Tryz.prog 71 #[cmval op tk sq id kd sn us mb dp (.slice oa n cl) (.slice ob m cp) tx ds up] w fun e w' => e = .returned (.bool (noDest (⟨op, tk, sq, ⟨id, kd, sn, us, mb, zl, tx, zp, dp⟩, ds, up⟩ : CmdV))) ∧ Below w.heap.size w w' := by
  have HB := hide ((Below.refl w.heap.size w).alloc (Nat.le_refl _) (.cells #[.int .i64 op, .int .i64 tk, .int .i64 sq, .int .i64 id, .int .i64 kd, .int .i64 sn, .int .i64 us, .int .i64 mb, .slice oa n cl, .string ⟨tx.toArray⟩, .slice ob m cp, .int .i64 dp, .int .i64 ds, .int .i64 up] 31))
  unfold noDest
  simp only
  by_cases c1 : ds = 0
  · subst c1
    by_cases c2 : up = 0
    · subst c2
      go_enter Tryz.func71, Tryz.ntmps71
      go_wp2_with fail
      go_ret
      exact ⟨rfl, HB.out⟩
    · have c3 : (up == 0) = false := by simpa using c2
      have c4 : decide (up = 0) = false := by simpa using c2
      rw [c4]
      go_enter Tryz.func71, Tryz.ntmps71
      go_wp2_with fail
      go_ret
      exact ⟨rfl, HB.out⟩
  · have c3 : (ds == 0) = false := by simpa using c1
    have c4 : decide (ds = 0) = false := by simpa using c1
    rw [c4]
    go_enter Tryz.func71, Tryz.ntmps71
    go_wp2_with fail
    go_ret
    exact ⟨rfl, HB.out⟩

theorem nv_guard0 (a b : Value) (x y : Operand) (wx : World) (a0 a1 a2 a3 a4 a5 b0 b1 b2 b3 b4 b5 : Int) : (eqGuard .eql 131 x y (nval a0 a1 a2 a3 a4 a5) (nval b0 b1 b2 b3 b4 b5)).run Tryz.prog wx = .ok () wx :=
  run_eqGuard_agg wx .eql _ x y _ _ (by kernel_rfl)

def nums0 (id kd sn us mb dp : Int) : Bool := decide (id = 0) && (decide (kd = 0) && (decide (sn = 0) && (decide (us = 0) && (decide (mb = 0) && decide (dp = 0)))))

theorem blank_split {id kd sn us mb dp : Int} {zl zp : List Int} {tx : List UInt8} : blankE (⟨id, kd, sn, us, mb, zl, tx, zp, dp⟩ : EvV) = (nums0 id kd sn us mb dp && (decide (zl.length = 0) && (decide (tx.length = 0) && decide (zp.length = 0)))) := by
  unfold blankE nums0
  simp only
  cases decide (id = 0) <;> cases decide (kd = 0) <;> cases decide (sn = 0) <;> cases decide (us = 0) <;> cases decide (mb = 0) <;> cases decide (dp = 0) <;> simp

theorem nv_zero (id kd sn us mb dp : Int) (wx : World) : (binOp .eql 131 (nval id kd sn us mb dp) (nval 0 0 0 0 0 0)).run Tryz.prog wx = .ok (.bool (nums0 id kd sn us mb dp)) wx := nv_eql ..

set_option maxHeartbeats 2000000 in
theorem noEvent_any (op tk sq id kd sn us mb dp : Int) (oa : Option Addr) (n cl : Nat) (tx : List UInt8) (ob : Option Addr) (m cp : Nat) (ds up : Int) (zl zp : List Int) (hx : tx.length ≤ 1048576) (w : World) (hat : IntsAt w oa n cl zl) (hbt : IntsAt w ob m cp zp) :
    Calls Tryz.prog 70 #[cmval op tk sq id kd sn us mb dp (.slice oa n cl) (.slice ob m cp) tx ds up] w fun e w' => e = .returned (.bool (blankE (⟨id, kd, sn, us, mb, zl, tx, zp, dp⟩ : EvV))) ∧ Below w.heap.size w w' := by
  have HB := hide (((Below.refl w.heap.size w).alloc (Nat.le_refl _) (.cells #[.int .i64 op, .int .i64 tk, .int .i64 sq, .int .i64 id, .int .i64 kd, .int .i64 sn, .int .i64 us, .int .i64 mb, .slice oa n cl, .string ⟨tx.toArray⟩, .slice ob m cp, .int .i64 dp, .int .i64 ds, .int .i64 up] 31)).alloc (by simp) (.cells #[.int .i64 id, .int .i64 kd, .int .i64 sn, .int .i64 us, .int .i64 mb, .slice oa n cl, .string ⟨tx.toArray⟩, .slice ob m cp, .int .i64 dp] 29))
  have hn := hat.len
  have hm := hbt.len
  have HNU := hide (fun w => numbers_any id kd sn us mb dp oa n cl tx ob m cp w)
  have hEq := nv_zero id kd sn us mb dp
  have hGd := fun x y wx => nv_guard0 (.int .i64 0) (.int .i64 0) x y wx id kd sn us mb dp 0 0 0 0 0 0
  rw [blank_split, hn, hm]
  clear hn hm hat hbt
  have hQ := EB.new (w.alloc (.cells #[.int .i64 op, .int .i64 tk, .int .i64 sq, .int .i64 id, .int .i64 kd, .int .i64 sn, .int .i64 us, .int .i64 mb, .slice oa n cl, .string ⟨tx.toArray⟩, .slice ob m cp, .int .i64 dp, .int .i64 ds, .int .i64 up] 31)) id kd sn us mb dp (.slice oa n cl) (.slice ob m cp) tx
  rw [World.size_alloc] at hQ
  have HQ := hide hQ
  clear hQ
  generalize nums0 id kd sn us mb dp = nb at hEq ⊢
  obtain ⟨b1, hb1⟩ : ∃ b1, decide (n = 0) = b1 := ⟨_, rfl⟩
  obtain ⟨b2, hb2⟩ : ∃ b2, decide (tx.length = 0) = b2 := ⟨_, rfl⟩
  obtain ⟨b3, hb3⟩ : ∃ b3, decide (m = 0) = b3 := ⟨_, rfl⟩
  rw [hb1, hb2, hb3]
  have i1 : ((n : Int) == 0) = b1 := by rw [← hb1, Bool.eq_iff_iff]; simp
  have i3 : ((m : Int) == 0) = b3 := by rw [← hb3, Bool.eq_iff_iff]; simp
  have i2 : tx.isEmpty = b2 := by rw [← hb2]; cases tx <;> simp
  clear hb1 hb2 hb3
  cases nb with
  | false =>
    go_enter Tryz.func70, Tryz.ntmps70
    go_wp2_with fail
    refine (HNU.out _).mono ?_
    rintro e w1 ⟨rfl, hb1⟩
    have HB1 := hide (HB.out.trans (hb1.mono (by simp; omega)))
    obtain ⟨k0, k1, k2, k3, k4, k5, k6, k7, k8⟩ := (HQ.out.on hb1 (by simp)).ev
    clear hb1
    unfold nval at hEq hGd
    go_wp2_with fail
    go_ret
    exact ⟨rfl, HB1.out⟩
  | true =>
    cases b1 with
    | false =>
      go_enter Tryz.func70, Tryz.ntmps70
      go_wp2_with fail
      refine (HNU.out _).mono ?_
      rintro e w1 ⟨rfl, hb1⟩
      have HB1 := hide (HB.out.trans (hb1.mono (by simp; omega)))
      obtain ⟨k0, k1, k2, k3, k4, k5, k6, k7, k8⟩ := (HQ.out.on hb1 (by simp)).ev
      clear hb1
      unfold nval at hEq hGd
      go_wp2_with fail
      go_ret
      exact ⟨rfl, HB1.out⟩
    | true =>
      cases b2 with
      | false =>
        go_enter Tryz.func70, Tryz.ntmps70
        go_wp2_with fail
        refine (HNU.out _).mono ?_
        rintro e w1 ⟨rfl, hb1⟩
        have HB1 := hide (HB.out.trans (hb1.mono (by simp; omega)))
        obtain ⟨k0, k1, k2, k3, k4, k5, k6, k7, k8⟩ := (HQ.out.on hb1 (by simp)).ev
        clear hb1
        unfold nval at hEq hGd
        go_wp2_with fail
        go_ret
        exact ⟨rfl, HB1.out⟩
      | true =>
        cases b3 with
        | false =>
          go_enter Tryz.func70, Tryz.ntmps70
          go_wp2_with fail
          refine (HNU.out _).mono ?_
          rintro e w1 ⟨rfl, hb1⟩
          have HB1 := hide (HB.out.trans (hb1.mono (by simp; omega)))
          obtain ⟨k0, k1, k2, k3, k4, k5, k6, k7, k8⟩ := (HQ.out.on hb1 (by simp)).ev
          clear hb1
          unfold nval at hEq hGd
          go_wp2_with fail
          go_ret
          exact ⟨rfl, HB1.out⟩
        | true =>
          go_enter Tryz.func70, Tryz.ntmps70
          go_wp2_with fail
          refine (HNU.out _).mono ?_
          rintro e w1 ⟨rfl, hb1⟩
          have HB1 := hide (HB.out.trans (hb1.mono (by simp; omega)))
          obtain ⟨k0, k1, k2, k3, k4, k5, k6, k7, k8⟩ := (HQ.out.on hb1 (by simp)).ev
          clear hb1
          unfold nval at hEq hGd
          go_wp2_with fail
          go_ret
          exact ⟨rfl, HB1.out⟩

end Go.Proofs.YtckkfjmjcknjdaaGreatDoor

namespace Go.Proofs.YtckkfjmjcknjdaaGreatDoor
open Go.RowKit P1 P3 P9 P11 P12 P18 K
set_option linter.unusedVariables false
set_option linter.unusedSimpArgs false

theorem store_newF {P : Program} (w : World) (cs : Array Value) (T : TypeId) (k : Nat) (f : FuncId) (hk : k < cs.size) : (store ⟨w.heap.size, k, none⟩ (.func (.func f) #[] #[])).run P (w.alloc (.cells cs T)) = .ok () (w.alloc (.cells (cs.setIfInBounds k (.func (.func f) #[] #[])) T)) := by
  have hc : (w.alloc (.cells cs T)).heap[w.heap.size]? = some (.cells cs T (0, 0)) := heap_alloc_new _ _
  rw [run_store _ _ _ _ _ rfl, blk_cell hc k (u := cs[k]) (by simp [hk]), blk_free hc k, World.setCell_alloc_new]
  rfl

theorem store_newN {P : Program} (w : World) (cs : Array Value) (T : TypeId) (k : Nat) (hk : k < cs.size) : (store ⟨w.heap.size, k, none⟩ .nilFunc).run P (w.alloc (.cells cs T)) = .ok () (w.alloc (.cells (cs.setIfInBounds k .nilFunc) T)) := by
  have hc : (w.alloc (.cells cs T)).heap[w.heap.size]? = some (.cells cs T (0, 0)) := heap_alloc_new _ _
  rw [run_store _ _ _ _ _ rfl, blk_cell hc k (u := cs[k]) (by simp [hk]), blk_free hc k, World.setCell_alloc_new]
  rfl

theorem setCell_old (w : World) (cs : Array Value) (T : TypeId) (o : Obj) (k : Nat) (x : Value) : ((w.alloc (.cells cs T)).alloc o).setCell ⟨w.heap.size, k, none⟩ x = (w.alloc (.cells (cs.setIfInBounds k x) T)).alloc o := by
  rw [← World.setCell_alloc_new, World.setCell_alloc_past _ _ _ _ (by simp)]

theorem store_oldF {P : Program} (w : World) (cs : Array Value) (T : TypeId) (o : Obj) (k : Nat) (f : FuncId) (hk : k < cs.size) : (store ⟨w.heap.size, k, none⟩ (.func (.func f) #[] #[])).run P ((w.alloc (.cells cs T)).alloc o) = .ok () ((w.alloc (.cells (cs.setIfInBounds k (.func (.func f) #[] #[])) T)).alloc o) := by
  have hc : ((w.alloc (.cells cs T)).alloc o).heap[w.heap.size]? = some (.cells cs T (0, 0)) := (((Below.refl _ _).alloc (Nat.le_refl _) _ : Below (w.alloc (.cells cs T)).heap.size _ _).block _ (by simp)).trans (heap_alloc_new _ _)
  rw [run_store _ _ _ _ _ rfl, blk_cell hc k (u := cs[k]) (by simp [hk]), blk_free hc k, setCell_old]
  rfl

theorem store_oldN {P : Program} (w : World) (cs : Array Value) (T : TypeId) (o : Obj) (k : Nat) (hk : k < cs.size) : (store ⟨w.heap.size, k, none⟩ .nilFunc).run P ((w.alloc (.cells cs T)).alloc o) = .ok () ((w.alloc (.cells (cs.setIfInBounds k .nilFunc) T)).alloc o) := by
  have hc : ((w.alloc (.cells cs T)).alloc o).heap[w.heap.size]? = some (.cells cs T (0, 0)) := (((Below.refl _ _).alloc (Nat.le_refl _) _ : Below (w.alloc (.cells cs T)).heap.size _ _).block _ (by simp)).trans (heap_alloc_new _ _)
  rw [run_store _ _ _ _ _ rfl, blk_cell hc k (u := cs[k]) (by simp [hk]), blk_free hc k, setCell_old]
  rfl

set_option maxHeartbeats 2000000 in
theorem doingOf_1 (w : World) :
    Calls Tryz.prog 23 #[.int .i64 1] w fun e w' => e = .returned (.tuple #[.agg #[.func (.func 46) #[] #[], .func (.func 47) #[] #[]], .bool true]) ∧ Below w.heap.size w w' := by
  have HB := hide (((Below.refl w.heap.size w).alloc (Nat.le_refl _) (.cells #[.func (.func 46) #[] #[], .func (.func 47) #[] #[]] 47)).alloc (by simp) (.cells #[.nilFunc, .nilFunc, .func (.func 46) #[] #[], .func (.func 47) #[] #[], .func (.func 48) #[] #[], .func (.func 49) #[] #[], .func (.func 50) #[] #[], .func (.func 51) #[] #[], .func (.func 52) #[] #[], .func (.func 53) #[] #[], .func (.func 54) #[] #[], .func (.func 55) #[] #[]] 83))
  have s0 : (store ⟨w.heap.size + 1, 0, none⟩ (.nilFunc)).run Tryz.prog ((w.alloc (.cells #[.nilFunc, .nilFunc] 47)).alloc (.cells #[.nilFunc, .nilFunc, .nilFunc, .nilFunc, .nilFunc, .nilFunc, .nilFunc, .nilFunc, .nilFunc, .nilFunc, .nilFunc, .nilFunc] 83)) = .ok () ((w.alloc (.cells #[.nilFunc, .nilFunc] 47)).alloc (.cells #[.nilFunc, .nilFunc, .nilFunc, .nilFunc, .nilFunc, .nilFunc, .nilFunc, .nilFunc, .nilFunc, .nilFunc, .nilFunc, .nilFunc] 83)) := by
    have := store_newN (P := Tryz.prog) (w.alloc (.cells #[.nilFunc, .nilFunc] 47)) #[.nilFunc, .nilFunc, .nilFunc, .nilFunc, .nilFunc, .nilFunc, .nilFunc, .nilFunc, .nilFunc, .nilFunc, .nilFunc, .nilFunc] 83 0  (by simp)
    rw [World.size_alloc] at this
    exact this
  have s1 : (store ⟨w.heap.size + 1, 1, none⟩ (.nilFunc)).run Tryz.prog ((w.alloc (.cells #[.nilFunc, .nilFunc] 47)).alloc (.cells #[.nilFunc, .nilFunc, .nilFunc, .nilFunc, .nilFunc, .nilFunc, .nilFunc, .nilFunc, .nilFunc, .nilFunc, .nilFunc, .nilFunc] 83)) = .ok () ((w.alloc (.cells #[.nilFunc, .nilFunc] 47)).alloc (.cells #[.nilFunc, .nilFunc, .nilFunc, .nilFunc, .nilFunc, .nilFunc, .nilFunc, .nilFunc, .nilFunc, .nilFunc, .nilFunc, .nilFunc] 83)) := by
    have := store_newN (P := Tryz.prog) (w.alloc (.cells #[.nilFunc, .nilFunc] 47)) #[.nilFunc, .nilFunc, .nilFunc, .nilFunc, .nilFunc, .nilFunc, .nilFunc, .nilFunc, .nilFunc, .nilFunc, .nilFunc, .nilFunc] 83 1  (by simp)
    rw [World.size_alloc] at this
    exact this
  have s2 : (store ⟨w.heap.size + 1, 2, none⟩ (.func (.func 46) #[] #[])).run Tryz.prog ((w.alloc (.cells #[.nilFunc, .nilFunc] 47)).alloc (.cells #[.nilFunc, .nilFunc, .nilFunc, .nilFunc, .nilFunc, .nilFunc, .nilFunc, .nilFunc, .nilFunc, .nilFunc, .nilFunc, .nilFunc] 83)) = .ok () ((w.alloc (.cells #[.nilFunc, .nilFunc] 47)).alloc (.cells #[.nilFunc, .nilFunc, .func (.func 46) #[] #[], .nilFunc, .nilFunc, .nilFunc, .nilFunc, .nilFunc, .nilFunc, .nilFunc, .nilFunc, .nilFunc] 83)) := by
    have := store_newF (P := Tryz.prog) (w.alloc (.cells #[.nilFunc, .nilFunc] 47)) #[.nilFunc, .nilFunc, .nilFunc, .nilFunc, .nilFunc, .nilFunc, .nilFunc, .nilFunc, .nilFunc, .nilFunc, .nilFunc, .nilFunc] 83 2  46 (by simp)
    rw [World.size_alloc] at this
    exact this
  have s3 : (store ⟨w.heap.size + 1, 3, none⟩ (.func (.func 47) #[] #[])).run Tryz.prog ((w.alloc (.cells #[.nilFunc, .nilFunc] 47)).alloc (.cells #[.nilFunc, .nilFunc, .func (.func 46) #[] #[], .nilFunc, .nilFunc, .nilFunc, .nilFunc, .nilFunc, .nilFunc, .nilFunc, .nilFunc, .nilFunc] 83)) = .ok () ((w.alloc (.cells #[.nilFunc, .nilFunc] 47)).alloc (.cells #[.nilFunc, .nilFunc, .func (.func 46) #[] #[], .func (.func 47) #[] #[], .nilFunc, .nilFunc, .nilFunc, .nilFunc, .nilFunc, .nilFunc, .nilFunc, .nilFunc] 83)) := by
    have := store_newF (P := Tryz.prog) (w.alloc (.cells #[.nilFunc, .nilFunc] 47)) #[.nilFunc, .nilFunc, .func (.func 46) #[] #[], .nilFunc, .nilFunc, .nilFunc, .nilFunc, .nilFunc, .nilFunc, .nilFunc, .nilFunc, .nilFunc] 83 3  47 (by simp)
    rw [World.size_alloc] at this
    exact this
  have s4 : (store ⟨w.heap.size + 1, 4, none⟩ (.func (.func 48) #[] #[])).run Tryz.prog ((w.alloc (.cells #[.nilFunc, .nilFunc] 47)).alloc (.cells #[.nilFunc, .nilFunc, .func (.func 46) #[] #[], .func (.func 47) #[] #[], .nilFunc, .nilFunc, .nilFunc, .nilFunc, .nilFunc, .nilFunc, .nilFunc, .nilFunc] 83)) = .ok () ((w.alloc (.cells #[.nilFunc, .nilFunc] 47)).alloc (.cells #[.nilFunc, .nilFunc, .func (.func 46) #[] #[], .func (.func 47) #[] #[], .func (.func 48) #[] #[], .nilFunc, .nilFunc, .nilFunc, .nilFunc, .nilFunc, .nilFunc, .nilFunc] 83)) := by
    have := store_newF (P := Tryz.prog) (w.alloc (.cells #[.nilFunc, .nilFunc] 47)) #[.nilFunc, .nilFunc, .func (.func 46) #[] #[], .func (.func 47) #[] #[], .nilFunc, .nilFunc, .nilFunc, .nilFunc, .nilFunc, .nilFunc, .nilFunc, .nilFunc] 83 4  48 (by simp)
    rw [World.size_alloc] at this
    exact this
  have s5 : (store ⟨w.heap.size + 1, 5, none⟩ (.func (.func 49) #[] #[])).run Tryz.prog ((w.alloc (.cells #[.nilFunc, .nilFunc] 47)).alloc (.cells #[.nilFunc, .nilFunc, .func (.func 46) #[] #[], .func (.func 47) #[] #[], .func (.func 48) #[] #[], .nilFunc, .nilFunc, .nilFunc, .nilFunc, .nilFunc, .nilFunc, .nilFunc] 83)) = .ok () ((w.alloc (.cells #[.nilFunc, .nilFunc] 47)).alloc (.cells #[.nilFunc, .nilFunc, .func (.func 46) #[] #[], .func (.func 47) #[] #[], .func (.func 48) #[] #[], .func (.func 49) #[] #[], .nilFunc, .nilFunc, .nilFunc, .nilFunc, .nilFunc, .nilFunc] 83)) := by
    have := store_newF (P := Tryz.prog) (w.alloc (.cells #[.nilFunc, .nilFunc] 47)) #[.nilFunc, .nilFunc, .func (.func 46) #[] #[], .func (.func 47) #[] #[], .func (.func 48) #[] #[], .nilFunc, .nilFunc, .nilFunc, .nilFunc, .nilFunc, .nilFunc, .nilFunc] 83 5  49 (by simp)
    rw [World.size_alloc] at this
    exact this
  have s6 : (store ⟨w.heap.size + 1, 6, none⟩ (.func (.func 50) #[] #[])).run Tryz.prog ((w.alloc (.cells #[.nilFunc, .nilFunc] 47)).alloc (.cells #[.nilFunc, .nilFunc, .func (.func 46) #[] #[], .func (.func 47) #[] #[], .func (.func 48) #[] #[], .func (.func 49) #[] #[], .nilFunc, .nilFunc, .nilFunc, .nilFunc, .nilFunc, .nilFunc] 83)) = .ok () ((w.alloc (.cells #[.nilFunc, .nilFunc] 47)).alloc (.cells #[.nilFunc, .nilFunc, .func (.func 46) #[] #[], .func (.func 47) #[] #[], .func (.func 48) #[] #[], .func (.func 49) #[] #[], .func (.func 50) #[] #[], .nilFunc, .nilFunc, .nilFunc, .nilFunc, .nilFunc] 83)) := by
    have := store_newF (P := Tryz.prog) (w.alloc (.cells #[.nilFunc, .nilFunc] 47)) #[.nilFunc, .nilFunc, .func (.func 46) #[] #[], .func (.func 47) #[] #[], .func (.func 48) #[] #[], .func (.func 49) #[] #[], .nilFunc, .nilFunc, .nilFunc, .nilFunc, .nilFunc, .nilFunc] 83 6  50 (by simp)
    rw [World.size_alloc] at this
    exact this
  have s7 : (store ⟨w.heap.size + 1, 7, none⟩ (.func (.func 51) #[] #[])).run Tryz.prog ((w.alloc (.cells #[.nilFunc, .nilFunc] 47)).alloc (.cells #[.nilFunc, .nilFunc, .func (.func 46) #[] #[], .func (.func 47) #[] #[], .func (.func 48) #[] #[], .func (.func 49) #[] #[], .func (.func 50) #[] #[], .nilFunc, .nilFunc, .nilFunc, .nilFunc, .nilFunc] 83)) = .ok () ((w.alloc (.cells #[.nilFunc, .nilFunc] 47)).alloc (.cells #[.nilFunc, .nilFunc, .func (.func 46) #[] #[], .func (.func 47) #[] #[], .func (.func 48) #[] #[], .func (.func 49) #[] #[], .func (.func 50) #[] #[], .func (.func 51) #[] #[], .nilFunc, .nilFunc, .nilFunc, .nilFunc] 83)) := by
    have := store_newF (P := Tryz.prog) (w.alloc (.cells #[.nilFunc, .nilFunc] 47)) #[.nilFunc, .nilFunc, .func (.func 46) #[] #[], .func (.func 47) #[] #[], .func (.func 48) #[] #[], .func (.func 49) #[] #[], .func (.func 50) #[] #[], .nilFunc, .nilFunc, .nilFunc, .nilFunc, .nilFunc] 83 7  51 (by simp)
    rw [World.size_alloc] at this
    exact this
  have s8 : (store ⟨w.heap.size + 1, 8, none⟩ (.func (.func 52) #[] #[])).run Tryz.prog ((w.alloc (.cells #[.nilFunc, .nilFunc] 47)).alloc (.cells #[.nilFunc, .nilFunc, .func (.func 46) #[] #[], .func (.func 47) #[] #[], .func (.func 48) #[] #[], .func (.func 49) #[] #[], .func (.func 50) #[] #[], .func (.func 51) #[] #[], .nilFunc, .nilFunc, .nilFunc, .nilFunc] 83)) = .ok () ((w.alloc (.cells #[.nilFunc, .nilFunc] 47)).alloc (.cells #[.nilFunc, .nilFunc, .func (.func 46) #[] #[], .func (.func 47) #[] #[], .func (.func 48) #[] #[], .func (.func 49) #[] #[], .func (.func 50) #[] #[], .func (.func 51) #[] #[], .func (.func 52) #[] #[], .nilFunc, .nilFunc, .nilFunc] 83)) := by
    have := store_newF (P := Tryz.prog) (w.alloc (.cells #[.nilFunc, .nilFunc] 47)) #[.nilFunc, .nilFunc, .func (.func 46) #[] #[], .func (.func 47) #[] #[], .func (.func 48) #[] #[], .func (.func 49) #[] #[], .func (.func 50) #[] #[], .func (.func 51) #[] #[], .nilFunc, .nilFunc, .nilFunc, .nilFunc] 83 8  52 (by simp)
    rw [World.size_alloc] at this
    exact this
  have s9 : (store ⟨w.heap.size + 1, 9, none⟩ (.func (.func 53) #[] #[])).run Tryz.prog ((w.alloc (.cells #[.nilFunc, .nilFunc] 47)).alloc (.cells #[.nilFunc, .nilFunc, .func (.func 46) #[] #[], .func (.func 47) #[] #[], .func (.func 48) #[] #[], .func (.func 49) #[] #[], .func (.func 50) #[] #[], .func (.func 51) #[] #[], .func (.func 52) #[] #[], .nilFunc, .nilFunc, .nilFunc] 83)) = .ok () ((w.alloc (.cells #[.nilFunc, .nilFunc] 47)).alloc (.cells #[.nilFunc, .nilFunc, .func (.func 46) #[] #[], .func (.func 47) #[] #[], .func (.func 48) #[] #[], .func (.func 49) #[] #[], .func (.func 50) #[] #[], .func (.func 51) #[] #[], .func (.func 52) #[] #[], .func (.func 53) #[] #[], .nilFunc, .nilFunc] 83)) := by
    have := store_newF (P := Tryz.prog) (w.alloc (.cells #[.nilFunc, .nilFunc] 47)) #[.nilFunc, .nilFunc, .func (.func 46) #[] #[], .func (.func 47) #[] #[], .func (.func 48) #[] #[], .func (.func 49) #[] #[], .func (.func 50) #[] #[], .func (.func 51) #[] #[], .func (.func 52) #[] #[], .nilFunc, .nilFunc, .nilFunc] 83 9  53 (by simp)
    rw [World.size_alloc] at this
    exact this
  have s10 : (store ⟨w.heap.size + 1, 10, none⟩ (.func (.func 54) #[] #[])).run Tryz.prog ((w.alloc (.cells #[.nilFunc, .nilFunc] 47)).alloc (.cells #[.nilFunc, .nilFunc, .func (.func 46) #[] #[], .func (.func 47) #[] #[], .func (.func 48) #[] #[], .func (.func 49) #[] #[], .func (.func 50) #[] #[], .func (.func 51) #[] #[], .func (.func 52) #[] #[], .func (.func 53) #[] #[], .nilFunc, .nilFunc] 83)) = .ok () ((w.alloc (.cells #[.nilFunc, .nilFunc] 47)).alloc (.cells #[.nilFunc, .nilFunc, .func (.func 46) #[] #[], .func (.func 47) #[] #[], .func (.func 48) #[] #[], .func (.func 49) #[] #[], .func (.func 50) #[] #[], .func (.func 51) #[] #[], .func (.func 52) #[] #[], .func (.func 53) #[] #[], .func (.func 54) #[] #[], .nilFunc] 83)) := by
    have := store_newF (P := Tryz.prog) (w.alloc (.cells #[.nilFunc, .nilFunc] 47)) #[.nilFunc, .nilFunc, .func (.func 46) #[] #[], .func (.func 47) #[] #[], .func (.func 48) #[] #[], .func (.func 49) #[] #[], .func (.func 50) #[] #[], .func (.func 51) #[] #[], .func (.func 52) #[] #[], .func (.func 53) #[] #[], .nilFunc, .nilFunc] 83 10  54 (by simp)
    rw [World.size_alloc] at this
    exact this
  have s11 : (store ⟨w.heap.size + 1, 11, none⟩ (.func (.func 55) #[] #[])).run Tryz.prog ((w.alloc (.cells #[.nilFunc, .nilFunc] 47)).alloc (.cells #[.nilFunc, .nilFunc, .func (.func 46) #[] #[], .func (.func 47) #[] #[], .func (.func 48) #[] #[], .func (.func 49) #[] #[], .func (.func 50) #[] #[], .func (.func 51) #[] #[], .func (.func 52) #[] #[], .func (.func 53) #[] #[], .func (.func 54) #[] #[], .nilFunc] 83)) = .ok () ((w.alloc (.cells #[.nilFunc, .nilFunc] 47)).alloc (.cells #[.nilFunc, .nilFunc, .func (.func 46) #[] #[], .func (.func 47) #[] #[], .func (.func 48) #[] #[], .func (.func 49) #[] #[], .func (.func 50) #[] #[], .func (.func 51) #[] #[], .func (.func 52) #[] #[], .func (.func 53) #[] #[], .func (.func 54) #[] #[], .func (.func 55) #[] #[]] 83)) := by
    have := store_newF (P := Tryz.prog) (w.alloc (.cells #[.nilFunc, .nilFunc] 47)) #[.nilFunc, .nilFunc, .func (.func 46) #[] #[], .func (.func 47) #[] #[], .func (.func 48) #[] #[], .func (.func 49) #[] #[], .func (.func 50) #[] #[], .func (.func 51) #[] #[], .func (.func 52) #[] #[], .func (.func 53) #[] #[], .func (.func 54) #[] #[], .nilFunc] 83 11  55 (by simp)
    rw [World.size_alloc] at this
    exact this
  have t0 := store_oldF (P := Tryz.prog) w #[.nilFunc, .nilFunc] 47 (.cells #[.nilFunc, .nilFunc, .func (.func 46) #[] #[], .func (.func 47) #[] #[], .func (.func 48) #[] #[], .func (.func 49) #[] #[], .func (.func 50) #[] #[], .func (.func 51) #[] #[], .func (.func 52) #[] #[], .func (.func 53) #[] #[], .func (.func 54) #[] #[], .func (.func 55) #[] #[]] 83) 0 46 (by simp)
  have t1 := store_oldF (P := Tryz.prog) w #[.func (.func 46) #[] #[], .nilFunc] 47 (.cells #[.nilFunc, .nilFunc, .func (.func 46) #[] #[], .func (.func 47) #[] #[], .func (.func 48) #[] #[], .func (.func 49) #[] #[], .func (.func 50) #[] #[], .func (.func 51) #[] #[], .func (.func 52) #[] #[], .func (.func 53) #[] #[], .func (.func 54) #[] #[], .func (.func 55) #[] #[]] 83) 1 47 (by simp)
  simp only [List.setIfInBounds_toArray, List.set] at t0 t1
  go_enter Tryz.func23, Tryz.ntmps23
  go_wp2_with (go_at_call 24; refine (within_yes _ _ _ (by omega) (by omega) _).mono ?_; rintro e w' ⟨rfl, rfl⟩)
  exact bodyPost_ret (v := .tuple #[.agg #[.func (.func 46) #[] #[], .func (.func 47) #[] #[]], .bool true]) (by simp [results, Tryz.results23, go_sem]) rfl ⟨rfl, HB.out⟩

set_option maxHeartbeats 2000000 in
theorem doingOf_2 (w : World) :
    Calls Tryz.prog 23 #[.int .i64 2] w fun e w' => e = .returned (.tuple #[.agg #[.func (.func 48) #[] #[], .func (.func 49) #[] #[]], .bool true]) ∧ Below w.heap.size w w' := by
  have HB := hide (((Below.refl w.heap.size w).alloc (Nat.le_refl _) (.cells #[.func (.func 48) #[] #[], .func (.func 49) #[] #[]] 47)).alloc (by simp) (.cells #[.nilFunc, .nilFunc, .func (.func 46) #[] #[], .func (.func 47) #[] #[], .func (.func 48) #[] #[], .func (.func 49) #[] #[], .func (.func 50) #[] #[], .func (.func 51) #[] #[], .func (.func 52) #[] #[], .func (.func 53) #[] #[], .func (.func 54) #[] #[], .func (.func 55) #[] #[]] 83))
  have s0 : (store ⟨w.heap.size + 1, 0, none⟩ (.nilFunc)).run Tryz.prog ((w.alloc (.cells #[.nilFunc, .nilFunc] 47)).alloc (.cells #[.nilFunc, .nilFunc, .nilFunc, .nilFunc, .nilFunc, .nilFunc, .nilFunc, .nilFunc, .nilFunc, .nilFunc, .nilFunc, .nilFunc] 83)) = .ok () ((w.alloc (.cells #[.nilFunc, .nilFunc] 47)).alloc (.cells #[.nilFunc, .nilFunc, .nilFunc, .nilFunc, .nilFunc, .nilFunc, .nilFunc, .nilFunc, .nilFunc, .nilFunc, .nilFunc, .nilFunc] 83)) := by
    have := store_newN (P := Tryz.prog) (w.alloc (.cells #[.nilFunc, .nilFunc] 47)) #[.nilFunc, .nilFunc, .nilFunc, .nilFunc, .nilFunc, .nilFunc, .nilFunc, .nilFunc, .nilFunc, .nilFunc, .nilFunc, .nilFunc] 83 0  (by simp)
    rw [World.size_alloc] at this
    exact this
  have s1 : (store ⟨w.heap.size + 1, 1, none⟩ (.nilFunc)).run Tryz.prog ((w.alloc (.cells #[.nilFunc, .nilFunc] 47)).alloc (.cells #[.nilFunc, .nilFunc, .nilFunc, .nilFunc, .nilFunc, .nilFunc, .nilFunc, .nilFunc, .nilFunc, .nilFunc, .nilFunc, .nilFunc] 83)) = .ok () ((w.alloc (.cells #[.nilFunc, .nilFunc] 47)).alloc (.cells #[.nilFunc, .nilFunc, .nilFunc, .nilFunc, .nilFunc, .nilFunc, .nilFunc, .nilFunc, .nilFunc, .nilFunc, .nilFunc, .nilFunc] 83)) := by
    have := store_newN (P := Tryz.prog) (w.alloc (.cells #[.nilFunc, .nilFunc] 47)) #[.nilFunc, .nilFunc, .nilFunc, .nilFunc, .nilFunc, .nilFunc, .nilFunc, .nilFunc, .nilFunc, .nilFunc, .nilFunc, .nilFunc] 83 1  (by simp)
    rw [World.size_alloc] at this
    exact this
  have s2 : (store ⟨w.heap.size + 1, 2, none⟩ (.func (.func 46) #[] #[])).run Tryz.prog ((w.alloc (.cells #[.nilFunc, .nilFunc] 47)).alloc (.cells #[.nilFunc, .nilFunc, .nilFunc, .nilFunc, .nilFunc, .nilFunc, .nilFunc, .nilFunc, .nilFunc, .nilFunc, .nilFunc, .nilFunc] 83)) = .ok () ((w.alloc (.cells #[.nilFunc, .nilFunc] 47)).alloc (.cells #[.nilFunc, .nilFunc, .func (.func 46) #[] #[], .nilFunc, .nilFunc, .nilFunc, .nilFunc, .nilFunc, .nilFunc, .nilFunc, .nilFunc, .nilFunc] 83)) := by
    have := store_newF (P := Tryz.prog) (w.alloc (.cells #[.nilFunc, .nilFunc] 47)) #[.nilFunc, .nilFunc, .nilFunc, .nilFunc, .nilFunc, .nilFunc, .nilFunc, .nilFunc, .nilFunc, .nilFunc, .nilFunc, .nilFunc] 83 2  46 (by simp)
    rw [World.size_alloc] at this
    exact this
  have s3 : (store ⟨w.heap.size + 1, 3, none⟩ (.func (.func 47) #[] #[])).run Tryz.prog ((w.alloc (.cells #[.nilFunc, .nilFunc] 47)).alloc (.cells #[.nilFunc, .nilFunc, .func (.func 46) #[] #[], .nilFunc, .nilFunc, .nilFunc, .nilFunc, .nilFunc, .nilFunc, .nilFunc, .nilFunc, .nilFunc] 83)) = .ok () ((w.alloc (.cells #[.nilFunc, .nilFunc] 47)).alloc (.cells #[.nilFunc, .nilFunc, .func (.func 46) #[] #[], .func (.func 47) #[] #[], .nilFunc, .nilFunc, .nilFunc, .nilFunc, .nilFunc, .nilFunc, .nilFunc, .nilFunc] 83)) := by
    have := store_newF (P := Tryz.prog) (w.alloc (.cells #[.nilFunc, .nilFunc] 47)) #[.nilFunc, .nilFunc, .func (.func 46) #[] #[], .nilFunc, .nilFunc, .nilFunc, .nilFunc, .nilFunc, .nilFunc, .nilFunc, .nilFunc, .nilFunc] 83 3  47 (by simp)
    rw [World.size_alloc] at this
    exact this
  have s4 : (store ⟨w.heap.size + 1, 4, none⟩ (.func (.func 48) #[] #[])).run Tryz.prog ((w.alloc (.cells #[.nilFunc, .nilFunc] 47)).alloc (.cells #[.nilFunc, .nilFunc, .func (.func 46) #[] #[], .func (.func 47) #[] #[], .nilFunc, .nilFunc, .nilFunc, .nilFunc, .nilFunc, .nilFunc, .nilFunc, .nilFunc] 83)) = .ok () ((w.alloc (.cells #[.nilFunc, .nilFunc] 47)).alloc (.cells #[.nilFunc, .nilFunc, .func (.func 46) #[] #[], .func (.func 47) #[] #[], .func (.func 48) #[] #[], .nilFunc, .nilFunc, .nilFunc, .nilFunc, .nilFunc, .nilFunc, .nilFunc] 83)) := by
    have := store_newF (P := Tryz.prog) (w.alloc (.cells #[.nilFunc, .nilFunc] 47)) #[.nilFunc, .nilFunc, .func (.func 46) #[] #[], .func (.func 47) #[] #[], .nilFunc, .nilFunc, .nilFunc, .nilFunc, .nilFunc, .nilFunc, .nilFunc, .nilFunc] 83 4  48 (by simp)
    rw [World.size_alloc] at this
    exact this
  have s5 : (store ⟨w.heap.size + 1, 5, none⟩ (.func (.func 49) #[] #[])).run Tryz.prog ((w.alloc (.cells #[.nilFunc, .nilFunc] 47)).alloc (.cells #[.nilFunc, .nilFunc, .func (.func 46) #[] #[], .func (.func 47) #[] #[], .func (.func 48) #[] #[], .nilFunc, .nilFunc, .nilFunc, .nilFunc, .nilFunc, .nilFunc, .nilFunc] 83)) = .ok () ((w.alloc (.cells #[.nilFunc, .nilFunc] 47)).alloc (.cells #[.nilFunc, .nilFunc, .func (.func 46) #[] #[], .func (.func 47) #[] #[], .func (.func 48) #[] #[], .func (.func 49) #[] #[], .nilFunc, .nilFunc, .nilFunc, .nilFunc, .nilFunc, .nilFunc] 83)) := by
    have := store_newF (P := Tryz.prog) (w.alloc (.cells #[.nilFunc, .nilFunc] 47)) #[.nilFunc, .nilFunc, .func (.func 46) #[] #[], .func (.func 47) #[] #[], .func (.func 48) #[] #[], .nilFunc, .nilFunc, .nilFunc, .nilFunc, .nilFunc, .nilFunc, .nilFunc] 83 5  49 (by simp)
    rw [World.size_alloc] at this
    exact this
  have s6 : (store ⟨w.heap.size + 1, 6, none⟩ (.func (.func 50) #[] #[])).run Tryz.prog ((w.alloc (.cells #[.nilFunc, .nilFunc] 47)).alloc (.cells #[.nilFunc, .nilFunc, .func (.func 46) #[] #[], .func (.func 47) #[] #[], .func (.func 48) #[] #[], .func (.func 49) #[] #[], .nilFunc, .nilFunc, .nilFunc, .nilFunc, .nilFunc, .nilFunc] 83)) = .ok () ((w.alloc (.cells #[.nilFunc, .nilFunc] 47)).alloc (.cells #[.nilFunc, .nilFunc, .func (.func 46) #[] #[], .func (.func 47) #[] #[], .func (.func 48) #[] #[], .func (.func 49) #[] #[], .func (.func 50) #[] #[], .nilFunc, .nilFunc, .nilFunc, .nilFunc, .nilFunc] 83)) := by
    have := store_newF (P := Tryz.prog) (w.alloc (.cells #[.nilFunc, .nilFunc] 47)) #[.nilFunc, .nilFunc, .func (.func 46) #[] #[], .func (.func 47) #[] #[], .func (.func 48) #[] #[], .func (.func 49) #[] #[], .nilFunc, .nilFunc, .nilFunc, .nilFunc, .nilFunc, .nilFunc] 83 6  50 (by simp)
    rw [World.size_alloc] at this
    exact this
  have s7 : (store ⟨w.heap.size + 1, 7, none⟩ (.func (.func 51) #[] #[])).run Tryz.prog ((w.alloc (.cells #[.nilFunc, .nilFunc] 47)).alloc (.cells #[.nilFunc, .nilFunc, .func (.func 46) #[] #[], .func (.func 47) #[] #[], .func (.func 48) #[] #[], .func (.func 49) #[] #[], .func (.func 50) #[] #[], .nilFunc, .nilFunc, .nilFunc, .nilFunc, .nilFunc] 83)) = .ok () ((w.alloc (.cells #[.nilFunc, .nilFunc] 47)).alloc (.cells #[.nilFunc, .nilFunc, .func (.func 46) #[] #[], .func (.func 47) #[] #[], .func (.func 48) #[] #[], .func (.func 49) #[] #[], .func (.func 50) #[] #[], .func (.func 51) #[] #[], .nilFunc, .nilFunc, .nilFunc, .nilFunc] 83)) := by
    have := store_newF (P := Tryz.prog) (w.alloc (.cells #[.nilFunc, .nilFunc] 47)) #[.nilFunc, .nilFunc, .func (.func 46) #[] #[], .func (.func 47) #[] #[], .func (.func 48) #[] #[], .func (.func 49) #[] #[], .func (.func 50) #[] #[], .nilFunc, .nilFunc, .nilFunc, .nilFunc, .nilFunc] 83 7  51 (by simp)
    rw [World.size_alloc] at this
    exact this
  have s8 : (store ⟨w.heap.size + 1, 8, none⟩ (.func (.func 52) #[] #[])).run Tryz.prog ((w.alloc (.cells #[.nilFunc, .nilFunc] 47)).alloc (.cells #[.nilFunc, .nilFunc, .func (.func 46) #[] #[], .func (.func 47) #[] #[], .func (.func 48) #[] #[], .func (.func 49) #[] #[], .func (.func 50) #[] #[], .func (.func 51) #[] #[], .nilFunc, .nilFunc, .nilFunc, .nilFunc] 83)) = .ok () ((w.alloc (.cells #[.nilFunc, .nilFunc] 47)).alloc (.cells #[.nilFunc, .nilFunc, .func (.func 46) #[] #[], .func (.func 47) #[] #[], .func (.func 48) #[] #[], .func (.func 49) #[] #[], .func (.func 50) #[] #[], .func (.func 51) #[] #[], .func (.func 52) #[] #[], .nilFunc, .nilFunc, .nilFunc] 83)) := by
    have := store_newF (P := Tryz.prog) (w.alloc (.cells #[.nilFunc, .nilFunc] 47)) #[.nilFunc, .nilFunc, .func (.func 46) #[] #[], .func (.func 47) #[] #[], .func (.func 48) #[] #[], .func (.func 49) #[] #[], .func (.func 50) #[] #[], .func (.func 51) #[] #[], .nilFunc, .nilFunc, .nilFunc, .nilFunc] 83 8  52 (by simp)
    rw [World.size_alloc] at this
    exact this
  have s9 : (store ⟨w.heap.size + 1, 9, none⟩ (.func (.func 53) #[] #[])).run Tryz.prog ((w.alloc (.cells #[.nilFunc, .nilFunc] 47)).alloc (.cells #[.nilFunc, .nilFunc, .func (.func 46) #[] #[], .func (.func 47) #[] #[], .func (.func 48) #[] #[], .func (.func 49) #[] #[], .func (.func 50) #[] #[], .func (.func 51) #[] #[], .func (.func 52) #[] #[], .nilFunc, .nilFunc, .nilFunc] 83)) = .ok () ((w.alloc (.cells #[.nilFunc, .nilFunc] 47)).alloc (.cells #[.nilFunc, .nilFunc, .func (.func 46) #[] #[], .func (.func 47) #[] #[], .func (.func 48) #[] #[], .func (.func 49) #[] #[], .func (.func 50) #[] #[], .func (.func 51) #[] #[], .func (.func 52) #[] #[], .func (.func 53) #[] #[], .nilFunc, .nilFunc] 83)) := by
    have := store_newF (P := Tryz.prog) (w.alloc (.cells #[.nilFunc, .nilFunc] 47)) #[.nilFunc, .nilFunc, .func (.func 46) #[] #[], .func (.func 47) #[] #[], .func (.func 48) #[] #[], .func (.func 49) #[] #[], .func (.func 50) #[] #[], .func (.func 51) #[] #[], .func (.func 52) #[] #[], .nilFunc, .nilFunc, .nilFunc] 83 9  53 (by simp)
    rw [World.size_alloc] at this
    exact this
  have s10 : (store ⟨w.heap.size + 1, 10, none⟩ (.func (.func 54) #[] #[])).run Tryz.prog ((w.alloc (.cells #[.nilFunc, .nilFunc] 47)).alloc (.cells #[.nilFunc, .nilFunc, .func (.func 46) #[] #[], .func (.func 47) #[] #[], .func (.func 48) #[] #[], .func (.func 49) #[] #[], .func (.func 50) #[] #[], .func (.func 51) #[] #[], .func (.func 52) #[] #[], .func (.func 53) #[] #[], .nilFunc, .nilFunc] 83)) = .ok () ((w.alloc (.cells #[.nilFunc, .nilFunc] 47)).alloc (.cells #[.nilFunc, .nilFunc, .func (.func 46) #[] #[], .func (.func 47) #[] #[], .func (.func 48) #[] #[], .func (.func 49) #[] #[], .func (.func 50) #[] #[], .func (.func 51) #[] #[], .func (.func 52) #[] #[], .func (.func 53) #[] #[], .func (.func 54) #[] #[], .nilFunc] 83)) := by
    have := store_newF (P := Tryz.prog) (w.alloc (.cells #[.nilFunc, .nilFunc] 47)) #[.nilFunc, .nilFunc, .func (.func 46) #[] #[], .func (.func 47) #[] #[], .func (.func 48) #[] #[], .func (.func 49) #[] #[], .func (.func 50) #[] #[], .func (.func 51) #[] #[], .func (.func 52) #[] #[], .func (.func 53) #[] #[], .nilFunc, .nilFunc] 83 10  54 (by simp)
    rw [World.size_alloc] at this
    exact this
  have s11 : (store ⟨w.heap.size + 1, 11, none⟩ (.func (.func 55) #[] #[])).run Tryz.prog ((w.alloc (.cells #[.nilFunc, .nilFunc] 47)).alloc (.cells #[.nilFunc, .nilFunc, .func (.func 46) #[] #[], .func (.func 47) #[] #[], .func (.func 48) #[] #[], .func (.func 49) #[] #[], .func (.func 50) #[] #[], .func (.func 51) #[] #[], .func (.func 52) #[] #[], .func (.func 53) #[] #[], .func (.func 54) #[] #[], .nilFunc] 83)) = .ok () ((w.alloc (.cells #[.nilFunc, .nilFunc] 47)).alloc (.cells #[.nilFunc, .nilFunc, .func (.func 46) #[] #[], .func (.func 47) #[] #[], .func (.func 48) #[] #[], .func (.func 49) #[] #[], .func (.func 50) #[] #[], .func (.func 51) #[] #[], .func (.func 52) #[] #[], .func (.func 53) #[] #[], .func (.func 54) #[] #[], .func (.func 55) #[] #[]] 83)) := by
    have := store_newF (P := Tryz.prog) (w.alloc (.cells #[.nilFunc, .nilFunc] 47)) #[.nilFunc, .nilFunc, .func (.func 46) #[] #[], .func (.func 47) #[] #[], .func (.func 48) #[] #[], .func (.func 49) #[] #[], .func (.func 50) #[] #[], .func (.func 51) #[] #[], .func (.func 52) #[] #[], .func (.func 53) #[] #[], .func (.func 54) #[] #[], .nilFunc] 83 11  55 (by simp)
    rw [World.size_alloc] at this
    exact this
  have t0 := store_oldF (P := Tryz.prog) w #[.nilFunc, .nilFunc] 47 (.cells #[.nilFunc, .nilFunc, .func (.func 46) #[] #[], .func (.func 47) #[] #[], .func (.func 48) #[] #[], .func (.func 49) #[] #[], .func (.func 50) #[] #[], .func (.func 51) #[] #[], .func (.func 52) #[] #[], .func (.func 53) #[] #[], .func (.func 54) #[] #[], .func (.func 55) #[] #[]] 83) 0 48 (by simp)
  have t1 := store_oldF (P := Tryz.prog) w #[.func (.func 48) #[] #[], .nilFunc] 47 (.cells #[.nilFunc, .nilFunc, .func (.func 46) #[] #[], .func (.func 47) #[] #[], .func (.func 48) #[] #[], .func (.func 49) #[] #[], .func (.func 50) #[] #[], .func (.func 51) #[] #[], .func (.func 52) #[] #[], .func (.func 53) #[] #[], .func (.func 54) #[] #[], .func (.func 55) #[] #[]] 83) 1 49 (by simp)
  simp only [List.setIfInBounds_toArray, List.set] at t0 t1
  go_enter Tryz.func23, Tryz.ntmps23
  go_wp2_with (go_at_call 24; refine (within_yes _ _ _ (by omega) (by omega) _).mono ?_; rintro e w' ⟨rfl, rfl⟩)
  exact bodyPost_ret (v := .tuple #[.agg #[.func (.func 48) #[] #[], .func (.func 49) #[] #[]], .bool true]) (by simp [results, Tryz.results23, go_sem]) rfl ⟨rfl, HB.out⟩

set_option maxHeartbeats 2000000 in
theorem doingOf_3 (w : World) :
    Calls Tryz.prog 23 #[.int .i64 3] w fun e w' => e = .returned (.tuple #[.agg #[.func (.func 50) #[] #[], .func (.func 51) #[] #[]], .bool true]) ∧ Below w.heap.size w w' := by
  have HB := hide (((Below.refl w.heap.size w).alloc (Nat.le_refl _) (.cells #[.func (.func 50) #[] #[], .func (.func 51) #[] #[]] 47)).alloc (by simp) (.cells #[.nilFunc, .nilFunc, .func (.func 46) #[] #[], .func (.func 47) #[] #[], .func (.func 48) #[] #[], .func (.func 49) #[] #[], .func (.func 50) #[] #[], .func (.func 51) #[] #[], .func (.func 52) #[] #[], .func (.func 53) #[] #[], .func (.func 54) #[] #[], .func (.func 55) #[] #[]] 83))
  have s0 : (store ⟨w.heap.size + 1, 0, none⟩ (.nilFunc)).run Tryz.prog ((w.alloc (.cells #[.nilFunc, .nilFunc] 47)).alloc (.cells #[.nilFunc, .nilFunc, .nilFunc, .nilFunc, .nilFunc, .nilFunc, .nilFunc, .nilFunc, .nilFunc, .nilFunc, .nilFunc, .nilFunc] 83)) = .ok () ((w.alloc (.cells #[.nilFunc, .nilFunc] 47)).alloc (.cells #[.nilFunc, .nilFunc, .nilFunc, .nilFunc, .nilFunc, .nilFunc, .nilFunc, .nilFunc, .nilFunc, .nilFunc, .nilFunc, .nilFunc] 83)) := by
    have := store_newN (P := Tryz.prog) (w.alloc (.cells #[.nilFunc, .nilFunc] 47)) #[.nilFunc, .nilFunc, .nilFunc, .nilFunc, .nilFunc, .nilFunc, .nilFunc, .nilFunc, .nilFunc, .nilFunc, .nilFunc, .nilFunc] 83 0  (by simp)
    rw [World.size_alloc] at this
    exact this
  have s1 : (store ⟨w.heap.size + 1, 1, none⟩ (.nilFunc)).run Tryz.prog ((w.alloc (.cells #[.nilFunc, .nilFunc] 47)).alloc (.cells #[.nilFunc, .nilFunc, .nilFunc, .nilFunc, .nilFunc, .nilFunc, .nilFunc, .nilFunc, .nilFunc, .nilFunc, .nilFunc, .nilFunc] 83)) = .ok () ((w.alloc (.cells #[.nilFunc, .nilFunc] 47)).alloc (.cells #[.nilFunc, .nilFunc, .nilFunc, .nilFunc, .nilFunc, .nilFunc, .nilFunc, .nilFunc, .nilFunc, .nilFunc, .nilFunc, .nilFunc] 83)) := by
    have := store_newN (P := Tryz.prog) (w.alloc (.cells #[.nilFunc, .nilFunc] 47)) #[.nilFunc, .nilFunc, .nilFunc, .nilFunc, .nilFunc, .nilFunc, .nilFunc, .nilFunc, .nilFunc, .nilFunc, .nilFunc, .nilFunc] 83 1  (by simp)
    rw [World.size_alloc] at this
    exact this
  have s2 : (store ⟨w.heap.size + 1, 2, none⟩ (.func (.func 46) #[] #[])).run Tryz.prog ((w.alloc (.cells #[.nilFunc, .nilFunc] 47)).alloc (.cells #[.nilFunc, .nilFunc, .nilFunc, .nilFunc, .nilFunc, .nilFunc, .nilFunc, .nilFunc, .nilFunc, .nilFunc, .nilFunc, .nilFunc] 83)) = .ok () ((w.alloc (.cells #[.nilFunc, .nilFunc] 47)).alloc (.cells #[.nilFunc, .nilFunc, .func (.func 46) #[] #[], .nilFunc, .nilFunc, .nilFunc, .nilFunc, .nilFunc, .nilFunc, .nilFunc, .nilFunc, .nilFunc] 83)) := by
    have := store_newF (P := Tryz.prog) (w.alloc (.cells #[.nilFunc, .nilFunc] 47)) #[.nilFunc, .nilFunc, .nilFunc, .nilFunc, .nilFunc, .nilFunc, .nilFunc, .nilFunc, .nilFunc, .nilFunc, .nilFunc, .nilFunc] 83 2  46 (by simp)
    rw [World.size_alloc] at this
    exact this
  have s3 : (store ⟨w.heap.size + 1, 3, none⟩ (.func (.func 47) #[] #[])).run Tryz.prog ((w.alloc (.cells #[.nilFunc, .nilFunc] 47)).alloc (.cells #[.nilFunc, .nilFunc, .func (.func 46) #[] #[], .nilFunc, .nilFunc, .nilFunc, .nilFunc, .nilFunc, .nilFunc, .nilFunc, .nilFunc, .nilFunc] 83)) = .ok () ((w.alloc (.cells #[.nilFunc, .nilFunc] 47)).alloc (.cells #[.nilFunc, .nilFunc, .func (.func 46) #[] #[], .func (.func 47) #[] #[], .nilFunc, .nilFunc, .nilFunc, .nilFunc, .nilFunc, .nilFunc, .nilFunc, .nilFunc] 83)) := by
    have := store_newF (P := Tryz.prog) (w.alloc (.cells #[.nilFunc, .nilFunc] 47)) #[.nilFunc, .nilFunc, .func (.func 46) #[] #[], .nilFunc, .nilFunc, .nilFunc, .nilFunc, .nilFunc, .nilFunc, .nilFunc, .nilFunc, .nilFunc] 83 3  47 (by simp)
    rw [World.size_alloc] at this
    exact this
  have s4 : (store ⟨w.heap.size + 1, 4, none⟩ (.func (.func 48) #[] #[])).run Tryz.prog ((w.alloc (.cells #[.nilFunc, .nilFunc] 47)).alloc (.cells #[.nilFunc, .nilFunc, .func (.func 46) #[] #[], .func (.func 47) #[] #[], .nilFunc, .nilFunc, .nilFunc, .nilFunc, .nilFunc, .nilFunc, .nilFunc, .nilFunc] 83)) = .ok () ((w.alloc (.cells #[.nilFunc, .nilFunc] 47)).alloc (.cells #[.nilFunc, .nilFunc, .func (.func 46) #[] #[], .func (.func 47) #[] #[], .func (.func 48) #[] #[], .nilFunc, .nilFunc, .nilFunc, .nilFunc, .nilFunc, .nilFunc, .nilFunc] 83)) := by
    have := store_newF (P := Tryz.prog) (w.alloc (.cells #[.nilFunc, .nilFunc] 47)) #[.nilFunc, .nilFunc, .func (.func 46) #[] #[], .func (.func 47) #[] #[], .nilFunc, .nilFunc, .nilFunc, .nilFunc, .nilFunc, .nilFunc, .nilFunc, .nilFunc] 83 4  48 (by simp)
    rw [World.size_alloc] at this
    exact this
  have s5 : (store ⟨w.heap.size + 1, 5, none⟩ (.func (.func 49) #[] #[])).run Tryz.prog ((w.alloc (.cells #[.nilFunc, .nilFunc] 47)).alloc (.cells #[.nilFunc, .nilFunc, .func (.func 46) #[] #[], .func (.func 47) #[] #[], .func (.func 48) #[] #[], .nilFunc, .nilFunc, .nilFunc, .nilFunc, .nilFunc, .nilFunc, .nilFunc] 83)) = .ok () ((w.alloc (.cells #[.nilFunc, .nilFunc] 47)).alloc (.cells #[.nilFunc, .nilFunc, .func (.func 46) #[] #[], .func (.func 47) #[] #[], .func (.func 48) #[] #[], .func (.func 49) #[] #[], .nilFunc, .nilFunc, .nilFunc, .nilFunc, .nilFunc, .nilFunc] 83)) := by
    have := store_newF (P := Tryz.prog) (w.alloc (.cells #[.nilFunc, .nilFunc] 47)) #[.nilFunc, .nilFunc, .func (.func 46) #[] #[], .func (.func 47) #[] #[], .func (.func 48) #[] #[], .nilFunc, .nilFunc, .nilFunc, .nilFunc, .nilFunc, .nilFunc, .nilFunc] 83 5  49 (by simp)
    rw [World.size_alloc] at this
    exact this
  have s6 : (store ⟨w.heap.size + 1, 6, none⟩ (.func (.func 50) #[] #[])).run Tryz.prog ((w.alloc (.cells #[.nilFunc, .nilFunc] 47)).alloc (.cells #[.nilFunc, .nilFunc, .func (.func 46) #[] #[], .func (.func 47) #[] #[], .func (.func 48) #[] #[], .func (.func 49) #[] #[], .nilFunc, .nilFunc, .nilFunc, .nilFunc, .nilFunc, .nilFunc] 83)) = .ok () ((w.alloc (.cells #[.nilFunc, .nilFunc] 47)).alloc (.cells #[.nilFunc, .nilFunc, .func (.func 46) #[] #[], .func (.func 47) #[] #[], .func (.func 48) #[] #[], .func (.func 49) #[] #[], .func (.func 50) #[] #[], .nilFunc, .nilFunc, .nilFunc, .nilFunc, .nilFunc] 83)) := by
    have := store_newF (P := Tryz.prog) (w.alloc (.cells #[.nilFunc, .nilFunc] 47)) #[.nilFunc, .nilFunc, .func (.func 46) #[] #[], .func (.func 47) #[] #[], .func (.func 48) #[] #[], .func (.func 49) #[] #[], .nilFunc, .nilFunc, .nilFunc, .nilFunc, .nilFunc, .nilFunc] 83 6  50 (by simp)
    rw [World.size_alloc] at this
    exact this
  have s7 : (store ⟨w.heap.size + 1, 7, none⟩ (.func (.func 51) #[] #[])).run Tryz.prog ((w.alloc (.cells #[.nilFunc, .nilFunc] 47)).alloc (.cells #[.nilFunc, .nilFunc, .func (.func 46) #[] #[], .func (.func 47) #[] #[], .func (.func 48) #[] #[], .func (.func 49) #[] #[], .func (.func 50) #[] #[], .nilFunc, .nilFunc, .nilFunc, .nilFunc, .nilFunc] 83)) = .ok () ((w.alloc (.cells #[.nilFunc, .nilFunc] 47)).alloc (.cells #[.nilFunc, .nilFunc, .func (.func 46) #[] #[], .func (.func 47) #[] #[], .func (.func 48) #[] #[], .func (.func 49) #[] #[], .func (.func 50) #[] #[], .func (.func 51) #[] #[], .nilFunc, .nilFunc, .nilFunc, .nilFunc] 83)) := by
    have := store_newF (P := Tryz.prog) (w.alloc (.cells #[.nilFunc, .nilFunc] 47)) #[.nilFunc, .nilFunc, .func (.func 46) #[] #[], .func (.func 47) #[] #[], .func (.func 48) #[] #[], .func (.func 49) #[] #[], .func (.func 50) #[] #[], .nilFunc, .nilFunc, .nilFunc, .nilFunc, .nilFunc] 83 7  51 (by simp)
    rw [World.size_alloc] at this
    exact this
  have s8 : (store ⟨w.heap.size + 1, 8, none⟩ (.func (.func 52) #[] #[])).run Tryz.prog ((w.alloc (.cells #[.nilFunc, .nilFunc] 47)).alloc (.cells #[.nilFunc, .nilFunc, .func (.func 46) #[] #[], .func (.func 47) #[] #[], .func (.func 48) #[] #[], .func (.func 49) #[] #[], .func (.func 50) #[] #[], .func (.func 51) #[] #[], .nilFunc, .nilFunc, .nilFunc, .nilFunc] 83)) = .ok () ((w.alloc (.cells #[.nilFunc, .nilFunc] 47)).alloc (.cells #[.nilFunc, .nilFunc, .func (.func 46) #[] #[], .func (.func 47) #[] #[], .func (.func 48) #[] #[], .func (.func 49) #[] #[], .func (.func 50) #[] #[], .func (.func 51) #[] #[], .func (.func 52) #[] #[], .nilFunc, .nilFunc, .nilFunc] 83)) := by
    have := store_newF (P := Tryz.prog) (w.alloc (.cells #[.nilFunc, .nilFunc] 47)) #[.nilFunc, .nilFunc, .func (.func 46) #[] #[], .func (.func 47) #[] #[], .func (.func 48) #[] #[], .func (.func 49) #[] #[], .func (.func 50) #[] #[], .func (.func 51) #[] #[], .nilFunc, .nilFunc, .nilFunc, .nilFunc] 83 8  52 (by simp)
    rw [World.size_alloc] at this
    exact this
  have s9 : (store ⟨w.heap.size + 1, 9, none⟩ (.func (.func 53) #[] #[])).run Tryz.prog ((w.alloc (.cells #[.nilFunc, .nilFunc] 47)).alloc (.cells #[.nilFunc, .nilFunc, .func (.func 46) #[] #[], .func (.func 47) #[] #[], .func (.func 48) #[] #[], .func (.func 49) #[] #[], .func (.func 50) #[] #[], .func (.func 51) #[] #[], .func (.func 52) #[] #[], .nilFunc, .nilFunc, .nilFunc] 83)) = .ok () ((w.alloc (.cells #[.nilFunc, .nilFunc] 47)).alloc (.cells #[.nilFunc, .nilFunc, .func (.func 46) #[] #[], .func (.func 47) #[] #[], .func (.func 48) #[] #[], .func (.func 49) #[] #[], .func (.func 50) #[] #[], .func (.func 51) #[] #[], .func (.func 52) #[] #[], .func (.func 53) #[] #[], .nilFunc, .nilFunc] 83)) := by
    have := store_newF (P := Tryz.prog) (w.alloc (.cells #[.nilFunc, .nilFunc] 47)) #[.nilFunc, .nilFunc, .func (.func 46) #[] #[], .func (.func 47) #[] #[], .func (.func 48) #[] #[], .func (.func 49) #[] #[], .func (.func 50) #[] #[], .func (.func 51) #[] #[], .func (.func 52) #[] #[], .nilFunc, .nilFunc, .nilFunc] 83 9  53 (by simp)
    rw [World.size_alloc] at this
    exact this
  have s10 : (store ⟨w.heap.size + 1, 10, none⟩ (.func (.func 54) #[] #[])).run Tryz.prog ((w.alloc (.cells #[.nilFunc, .nilFunc] 47)).alloc (.cells #[.nilFunc, .nilFunc, .func (.func 46) #[] #[], .func (.func 47) #[] #[], .func (.func 48) #[] #[], .func (.func 49) #[] #[], .func (.func 50) #[] #[], .func (.func 51) #[] #[], .func (.func 52) #[] #[], .func (.func 53) #[] #[], .nilFunc, .nilFunc] 83)) = .ok () ((w.alloc (.cells #[.nilFunc, .nilFunc] 47)).alloc (.cells #[.nilFunc, .nilFunc, .func (.func 46) #[] #[], .func (.func 47) #[] #[], .func (.func 48) #[] #[], .func (.func 49) #[] #[], .func (.func 50) #[] #[], .func (.func 51) #[] #[], .func (.func 52) #[] #[], .func (.func 53) #[] #[], .func (.func 54) #[] #[], .nilFunc] 83)) := by
    have := store_newF (P := Tryz.prog) (w.alloc (.cells #[.nilFunc, .nilFunc] 47)) #[.nilFunc, .nilFunc, .func (.func 46) #[] #[], .func (.func 47) #[] #[], .func (.func 48) #[] #[], .func (.func 49) #[] #[], .func (.func 50) #[] #[], .func (.func 51) #[] #[], .func (.func 52) #[] #[], .func (.func 53) #[] #[], .nilFunc, .nilFunc] 83 10  54 (by simp)
    rw [World.size_alloc] at this
    exact this
  have s11 : (store ⟨w.heap.size + 1, 11, none⟩ (.func (.func 55) #[] #[])).run Tryz.prog ((w.alloc (.cells #[.nilFunc, .nilFunc] 47)).alloc (.cells #[.nilFunc, .nilFunc, .func (.func 46) #[] #[], .func (.func 47) #[] #[], .func (.func 48) #[] #[], .func (.func 49) #[] #[], .func (.func 50) #[] #[], .func (.func 51) #[] #[], .func (.func 52) #[] #[], .func (.func 53) #[] #[], .func (.func 54) #[] #[], .nilFunc] 83)) = .ok () ((w.alloc (.cells #[.nilFunc, .nilFunc] 47)).alloc (.cells #[.nilFunc, .nilFunc, .func (.func 46) #[] #[], .func (.func 47) #[] #[], .func (.func 48) #[] #[], .func (.func 49) #[] #[], .func (.func 50) #[] #[], .func (.func 51) #[] #[], .func (.func 52) #[] #[], .func (.func 53) #[] #[], .func (.func 54) #[] #[], .func (.func 55) #[] #[]] 83)) := by
    have := store_newF (P := Tryz.prog) (w.alloc (.cells #[.nilFunc, .nilFunc] 47)) #[.nilFunc, .nilFunc, .func (.func 46) #[] #[], .func (.func 47) #[] #[], .func (.func 48) #[] #[], .func (.func 49) #[] #[], .func (.func 50) #[] #[], .func (.func 51) #[] #[], .func (.func 52) #[] #[], .func (.func 53) #[] #[], .func (.func 54) #[] #[], .nilFunc] 83 11  55 (by simp)
    rw [World.size_alloc] at this
    exact this
  have t0 := store_oldF (P := Tryz.prog) w #[.nilFunc, .nilFunc] 47 (.cells #[.nilFunc, .nilFunc, .func (.func 46) #[] #[], .func (.func 47) #[] #[], .func (.func 48) #[] #[], .func (.func 49) #[] #[], .func (.func 50) #[] #[], .func (.func 51) #[] #[], .func (.func 52) #[] #[], .func (.func 53) #[] #[], .func (.func 54) #[] #[], .func (.func 55) #[] #[]] 83) 0 50 (by simp)
  have t1 := store_oldF (P := Tryz.prog) w #[.func (.func 50) #[] #[], .nilFunc] 47 (.cells #[.nilFunc, .nilFunc, .func (.func 46) #[] #[], .func (.func 47) #[] #[], .func (.func 48) #[] #[], .func (.func 49) #[] #[], .func (.func 50) #[] #[], .func (.func 51) #[] #[], .func (.func 52) #[] #[], .func (.func 53) #[] #[], .func (.func 54) #[] #[], .func (.func 55) #[] #[]] 83) 1 51 (by simp)
  simp only [List.setIfInBounds_toArray, List.set] at t0 t1
  go_enter Tryz.func23, Tryz.ntmps23
  go_wp2_with (go_at_call 24; refine (within_yes _ _ _ (by omega) (by omega) _).mono ?_; rintro e w' ⟨rfl, rfl⟩)
  exact bodyPost_ret (v := .tuple #[.agg #[.func (.func 50) #[] #[], .func (.func 51) #[] #[]], .bool true]) (by simp [results, Tryz.results23, go_sem]) rfl ⟨rfl, HB.out⟩

set_option maxHeartbeats 2000000 in
theorem doingOf_4 (w : World) :
    Calls Tryz.prog 23 #[.int .i64 4] w fun e w' => e = .returned (.tuple #[.agg #[.func (.func 52) #[] #[], .func (.func 53) #[] #[]], .bool true]) ∧ Below w.heap.size w w' := by
  have HB := hide (((Below.refl w.heap.size w).alloc (Nat.le_refl _) (.cells #[.func (.func 52) #[] #[], .func (.func 53) #[] #[]] 47)).alloc (by simp) (.cells #[.nilFunc, .nilFunc, .func (.func 46) #[] #[], .func (.func 47) #[] #[], .func (.func 48) #[] #[], .func (.func 49) #[] #[], .func (.func 50) #[] #[], .func (.func 51) #[] #[], .func (.func 52) #[] #[], .func (.func 53) #[] #[], .func (.func 54) #[] #[], .func (.func 55) #[] #[]] 83))
  have s0 : (store ⟨w.heap.size + 1, 0, none⟩ (.nilFunc)).run Tryz.prog ((w.alloc (.cells #[.nilFunc, .nilFunc] 47)).alloc (.cells #[.nilFunc, .nilFunc, .nilFunc, .nilFunc, .nilFunc, .nilFunc, .nilFunc, .nilFunc, .nilFunc, .nilFunc, .nilFunc, .nilFunc] 83)) = .ok () ((w.alloc (.cells #[.nilFunc, .nilFunc] 47)).alloc (.cells #[.nilFunc, .nilFunc, .nilFunc, .nilFunc, .nilFunc, .nilFunc, .nilFunc, .nilFunc, .nilFunc, .nilFunc, .nilFunc, .nilFunc] 83)) := by
    have := store_newN (P := Tryz.prog) (w.alloc (.cells #[.nilFunc, .nilFunc] 47)) #[.nilFunc, .nilFunc, .nilFunc, .nilFunc, .nilFunc, .nilFunc, .nilFunc, .nilFunc, .nilFunc, .nilFunc, .nilFunc, .nilFunc] 83 0  (by simp)
    rw [World.size_alloc] at this
    exact this
  have s1 : (store ⟨w.heap.size + 1, 1, none⟩ (.nilFunc)).run Tryz.prog ((w.alloc (.cells #[.nilFunc, .nilFunc] 47)).alloc (.cells #[.nilFunc, .nilFunc, .nilFunc, .nilFunc, .nilFunc, .nilFunc, .nilFunc, .nilFunc, .nilFunc, .nilFunc, .nilFunc, .nilFunc] 83)) = .ok () ((w.alloc (.cells #[.nilFunc, .nilFunc] 47)).alloc (.cells #[.nilFunc, .nilFunc, .nilFunc, .nilFunc, .nilFunc, .nilFunc, .nilFunc, .nilFunc, .nilFunc, .nilFunc, .nilFunc, .nilFunc] 83)) := by
    have := store_newN (P := Tryz.prog) (w.alloc (.cells #[.nilFunc, .nilFunc] 47)) #[.nilFunc, .nilFunc, .nilFunc, .nilFunc, .nilFunc, .nilFunc, .nilFunc, .nilFunc, .nilFunc, .nilFunc, .nilFunc, .nilFunc] 83 1  (by simp)
    rw [World.size_alloc] at this
    exact this
  have s2 : (store ⟨w.heap.size + 1, 2, none⟩ (.func (.func 46) #[] #[])).run Tryz.prog ((w.alloc (.cells #[.nilFunc, .nilFunc] 47)).alloc (.cells #[.nilFunc, .nilFunc, .nilFunc, .nilFunc, .nilFunc, .nilFunc, .nilFunc, .nilFunc, .nilFunc, .nilFunc, .nilFunc, .nilFunc] 83)) = .ok () ((w.alloc (.cells #[.nilFunc, .nilFunc] 47)).alloc (.cells #[.nilFunc, .nilFunc, .func (.func 46) #[] #[], .nilFunc, .nilFunc, .nilFunc, .nilFunc, .nilFunc, .nilFunc, .nilFunc, .nilFunc, .nilFunc] 83)) := by
    have := store_newF (P := Tryz.prog) (w.alloc (.cells #[.nilFunc, .nilFunc] 47)) #[.nilFunc, .nilFunc, .nilFunc, .nilFunc, .nilFunc, .nilFunc, .nilFunc, .nilFunc, .nilFunc, .nilFunc, .nilFunc, .nilFunc] 83 2  46 (by simp)
    rw [World.size_alloc] at this
    exact this
  have s3 : (store ⟨w.heap.size + 1, 3, none⟩ (.func (.func 47) #[] #[])).run Tryz.prog ((w.alloc (.cells #[.nilFunc, .nilFunc] 47)).alloc (.cells #[.nilFunc, .nilFunc, .func (.func 46) #[] #[], .nilFunc, .nilFunc, .nilFunc, .nilFunc, .nilFunc, .nilFunc, .nilFunc, .nilFunc, .nilFunc] 83)) = .ok () ((w.alloc (.cells #[.nilFunc, .nilFunc] 47)).alloc (.cells #[.nilFunc, .nilFunc, .func (.func 46) #[] #[], .func (.func 47) #[] #[], .nilFunc, .nilFunc, .nilFunc, .nilFunc, .nilFunc, .nilFunc, .nilFunc, .nilFunc] 83)) := by
    have := store_newF (P := Tryz.prog) (w.alloc (.cells #[.nilFunc, .nilFunc] 47)) #[.nilFunc, .nilFunc, .func (.func 46) #[] #[], .nilFunc, .nilFunc, .nilFunc, .nilFunc, .nilFunc, .nilFunc, .nilFunc, .nilFunc, .nilFunc] 83 3  47 (by simp)
    rw [World.size_alloc] at this
    exact this
  have s4 : (store ⟨w.heap.size + 1, 4, none⟩ (.func (.func 48) #[] #[])).run Tryz.prog ((w.alloc (.cells #[.nilFunc, .nilFunc] 47)).alloc (.cells #[.nilFunc, .nilFunc, .func (.func 46) #[] #[], .func (.func 47) #[] #[], .nilFunc, .nilFunc, .nilFunc, .nilFunc, .nilFunc, .nilFunc, .nilFunc, .nilFunc] 83)) = .ok () ((w.alloc (.cells #[.nilFunc, .nilFunc] 47)).alloc (.cells #[.nilFunc, .nilFunc, .func (.func 46) #[] #[], .func (.func 47) #[] #[], .func (.func 48) #[] #[], .nilFunc, .nilFunc, .nilFunc, .nilFunc, .nilFunc, .nilFunc, .nilFunc] 83)) := by
    have := store_newF (P := Tryz.prog) (w.alloc (.cells #[.nilFunc, .nilFunc] 47)) #[.nilFunc, .nilFunc, .func (.func 46) #[] #[], .func (.func 47) #[] #[], .nilFunc, .nilFunc, .nilFunc, .nilFunc, .nilFunc, .nilFunc, .nilFunc, .nilFunc] 83 4  48 (by simp)
    rw [World.size_alloc] at this
    exact this
  have s5 : (store ⟨w.heap.size + 1, 5, none⟩ (.func (.func 49) #[] #[])).run Tryz.prog ((w.alloc (.cells #[.nilFunc, .nilFunc] 47)).alloc (.cells #[.nilFunc, .nilFunc, .func (.func 46) #[] #[], .func (.func 47) #[] #[], .func (.func 48) #[] #[], .nilFunc, .nilFunc, .nilFunc, .nilFunc, .nilFunc, .nilFunc, .nilFunc] 83)) = .ok () ((w.alloc (.cells #[.nilFunc, .nilFunc] 47)).alloc (.cells #[.nilFunc, .nilFunc, .func (.func 46) #[] #[], .func (.func 47) #[] #[], .func (.func 48) #[] #[], .func (.func 49) #[] #[], .nilFunc, .nilFunc, .nilFunc, .nilFunc, .nilFunc, .nilFunc] 83)) := by
    have := store_newF (P := Tryz.prog) (w.alloc (.cells #[.nilFunc, .nilFunc] 47)) #[.nilFunc, .nilFunc, .func (.func 46) #[] #[], .func (.func 47) #[] #[], .func (.func 48) #[] #[], .nilFunc, .nilFunc, .nilFunc, .nilFunc, .nilFunc, .nilFunc, .nilFunc] 83 5  49 (by simp)
    rw [World.size_alloc] at this
    exact this
  have s6 : (store ⟨w.heap.size + 1, 6, none⟩ (.func (.func 50) #[] #[])).run Tryz.prog ((w.alloc (.cells #[.nilFunc, .nilFunc] 47)).alloc (.cells #[.nilFunc, .nilFunc, .func (.func 46) #[] #[], .func (.func 47) #[] #[], .func (.func 48) #[] #[], .func (.func 49) #[] #[], .nilFunc, .nilFunc, .nilFunc, .nilFunc, .nilFunc, .nilFunc] 83)) = .ok () ((w.alloc (.cells #[.nilFunc, .nilFunc] 47)).alloc (.cells #[.nilFunc, .nilFunc, .func (.func 46) #[] #[], .func (.func 47) #[] #[], .func (.func 48) #[] #[], .func (.func 49) #[] #[], .func (.func 50) #[] #[], .nilFunc, .nilFunc, .nilFunc, .nilFunc, .nilFunc] 83)) := by
    have := store_newF (P := Tryz.prog) (w.alloc (.cells #[.nilFunc, .nilFunc] 47)) #[.nilFunc, .nilFunc, .func (.func 46) #[] #[], .func (.func 47) #[] #[], .func (.func 48) #[] #[], .func (.func 49) #[] #[], .nilFunc, .nilFunc, .nilFunc, .nilFunc, .nilFunc, .nilFunc] 83 6  50 (by simp)
    rw [World.size_alloc] at this
    exact this
  have s7 : (store ⟨w.heap.size + 1, 7, none⟩ (.func (.func 51) #[] #[])).run Tryz.prog ((w.alloc (.cells #[.nilFunc, .nilFunc] 47)).alloc (.cells #[.nilFunc, .nilFunc, .func (.func 46) #[] #[], .func (.func 47) #[] #[], .func (.func 48) #[] #[], .func (.func 49) #[] #[], .func (.func 50) #[] #[], .nilFunc, .nilFunc, .nilFunc, .nilFunc, .nilFunc] 83)) = .ok () ((w.alloc (.cells #[.nilFunc, .nilFunc] 47)).alloc (.cells #[.nilFunc, .nilFunc, .func (.func 46) #[] #[], .func (.func 47) #[] #[], .func (.func 48) #[] #[], .func (.func 49) #[] #[], .func (.func 50) #[] #[], .func (.func 51) #[] #[], .nilFunc, .nilFunc, .nilFunc, .nilFunc] 83)) := by
    have := store_newF (P := Tryz.prog) (w.alloc (.cells #[.nilFunc, .nilFunc] 47)) #[.nilFunc, .nilFunc, .func (.func 46) #[] #[], .func (.func 47) #[] #[], .func (.func 48) #[] #[], .func (.func 49) #[] #[], .func (.func 50) #[] #[], .nilFunc, .nilFunc, .nilFunc, .nilFunc, .nilFunc] 83 7  51 (by simp)
    rw [World.size_alloc] at this
    exact this
  have s8 : (store ⟨w.heap.size + 1, 8, none⟩ (.func (.func 52) #[] #[])).run Tryz.prog ((w.alloc (.cells #[.nilFunc, .nilFunc] 47)).alloc (.cells #[.nilFunc, .nilFunc, .func (.func 46) #[] #[], .func (.func 47) #[] #[], .func (.func 48) #[] #[], .func (.func 49) #[] #[], .func (.func 50) #[] #[], .func (.func 51) #[] #[], .nilFunc, .nilFunc, .nilFunc, .nilFunc] 83)) = .ok () ((w.alloc (.cells #[.nilFunc, .nilFunc] 47)).alloc (.cells #[.nilFunc, .nilFunc, .func (.func 46) #[] #[], .func (.func 47) #[] #[], .func (.func 48) #[] #[], .func (.func 49) #[] #[], .func (.func 50) #[] #[], .func (.func 51) #[] #[], .func (.func 52) #[] #[], .nilFunc, .nilFunc, .nilFunc] 83)) := by
    have := store_newF (P := Tryz.prog) (w.alloc (.cells #[.nilFunc, .nilFunc] 47)) #[.nilFunc, .nilFunc, .func (.func 46) #[] #[], .func (.func 47) #[] #[], .func (.func 48) #[] #[], .func (.func 49) #[] #[], .func (.func 50) #[] #[], .func (.func 51) #[] #[], .nilFunc, .nilFunc, .nilFunc, .nilFunc] 83 8  52 (by simp)
    rw [World.size_alloc] at this
    exact this
  have s9 : (store ⟨w.heap.size + 1, 9, none⟩ (.func (.func 53) #[] #[])).run Tryz.prog ((w.alloc (.cells #[.nilFunc, .nilFunc] 47)).alloc (.cells #[.nilFunc, .nilFunc, .func (.func 46) #[] #[], .func (.func 47) #[] #[], .func (.func 48) #[] #[], .func (.func 49) #[] #[], .func (.func 50) #[] #[], .func (.func 51) #[] #[], .func (.func 52) #[] #[], .nilFunc, .nilFunc, .nilFunc] 83)) = .ok () ((w.alloc (.cells #[.nilFunc, .nilFunc] 47)).alloc (.cells #[.nilFunc, .nilFunc, .func (.func 46) #[] #[], .func (.func 47) #[] #[], .func (.func 48) #[] #[], .func (.func 49) #[] #[], .func (.func 50) #[] #[], .func (.func 51) #[] #[], .func (.func 52) #[] #[], .func (.func 53) #[] #[], .nilFunc, .nilFunc] 83)) := by
    have := store_newF (P := Tryz.prog) (w.alloc (.cells #[.nilFunc, .nilFunc] 47)) #[.nilFunc, .nilFunc, .func (.func 46) #[] #[], .func (.func 47) #[] #[], .func (.func 48) #[] #[], .func (.func 49) #[] #[], .func (.func 50) #[] #[], .func (.func 51) #[] #[], .func (.func 52) #[] #[], .nilFunc, .nilFunc, .nilFunc] 83 9  53 (by simp)
    rw [World.size_alloc] at this
    exact this
  have s10 : (store ⟨w.heap.size + 1, 10, none⟩ (.func (.func 54) #[] #[])).run Tryz.prog ((w.alloc (.cells #[.nilFunc, .nilFunc] 47)).alloc (.cells #[.nilFunc, .nilFunc, .func (.func 46) #[] #[], .func (.func 47) #[] #[], .func (.func 48) #[] #[], .func (.func 49) #[] #[], .func (.func 50) #[] #[], .func (.func 51) #[] #[], .func (.func 52) #[] #[], .func (.func 53) #[] #[], .nilFunc, .nilFunc] 83)) = .ok () ((w.alloc (.cells #[.nilFunc, .nilFunc] 47)).alloc (.cells #[.nilFunc, .nilFunc, .func (.func 46) #[] #[], .func (.func 47) #[] #[], .func (.func 48) #[] #[], .func (.func 49) #[] #[], .func (.func 50) #[] #[], .func (.func 51) #[] #[], .func (.func 52) #[] #[], .func (.func 53) #[] #[], .func (.func 54) #[] #[], .nilFunc] 83)) := by
    have := store_newF (P := Tryz.prog) (w.alloc (.cells #[.nilFunc, .nilFunc] 47)) #[.nilFunc, .nilFunc, .func (.func 46) #[] #[], .func (.func 47) #[] #[], .func (.func 48) #[] #[], .func (.func 49) #[] #[], .func (.func 50) #[] #[], .func (.func 51) #[] #[], .func (.func 52) #[] #[], .func (.func 53) #[] #[], .nilFunc, .nilFunc] 83 10  54 (by simp)
    rw [World.size_alloc] at this
    exact this
  have s11 : (store ⟨w.heap.size + 1, 11, none⟩ (.func (.func 55) #[] #[])).run Tryz.prog ((w.alloc (.cells #[.nilFunc, .nilFunc] 47)).alloc (.cells #[.nilFunc, .nilFunc, .func (.func 46) #[] #[], .func (.func 47) #[] #[], .func (.func 48) #[] #[], .func (.func 49) #[] #[], .func (.func 50) #[] #[], .func (.func 51) #[] #[], .func (.func 52) #[] #[], .func (.func 53) #[] #[], .func (.func 54) #[] #[], .nilFunc] 83)) = .ok () ((w.alloc (.cells #[.nilFunc, .nilFunc] 47)).alloc (.cells #[.nilFunc, .nilFunc, .func (.func 46) #[] #[], .func (.func 47) #[] #[], .func (.func 48) #[] #[], .func (.func 49) #[] #[], .func (.func 50) #[] #[], .func (.func 51) #[] #[], .func (.func 52) #[] #[], .func (.func 53) #[] #[], .func (.func 54) #[] #[], .func (.func 55) #[] #[]] 83)) := by
    have := store_newF (P := Tryz.prog) (w.alloc (.cells #[.nilFunc, .nilFunc] 47)) #[.nilFunc, .nilFunc, .func (.func 46) #[] #[], .func (.func 47) #[] #[], .func (.func 48) #[] #[], .func (.func 49) #[] #[], .func (.func 50) #[] #[], .func (.func 51) #[] #[], .func (.func 52) #[] #[], .func (.func 53) #[] #[], .func (.func 54) #[] #[], .nilFunc] 83 11  55 (by simp)
    rw [World.size_alloc] at this
    exact this
  have t0 := store_oldF (P := Tryz.prog) w #[.nilFunc, .nilFunc] 47 (.cells #[.nilFunc, .nilFunc, .func (.func 46) #[] #[], .func (.func 47) #[] #[], .func (.func 48) #[] #[], .func (.func 49) #[] #[], .func (.func 50) #[] #[], .func (.func 51) #[] #[], .func (.func 52) #[] #[], .func (.func 53) #[] #[], .func (.func 54) #[] #[], .func (.func 55) #[] #[]] 83) 0 52 (by simp)
  have t1 := store_oldF (P := Tryz.prog) w #[.func (.func 52) #[] #[], .nilFunc] 47 (.cells #[.nilFunc, .nilFunc, .func (.func 46) #[] #[], .func (.func 47) #[] #[], .func (.func 48) #[] #[], .func (.func 49) #[] #[], .func (.func 50) #[] #[], .func (.func 51) #[] #[], .func (.func 52) #[] #[], .func (.func 53) #[] #[], .func (.func 54) #[] #[], .func (.func 55) #[] #[]] 83) 1 53 (by simp)
  simp only [List.setIfInBounds_toArray, List.set] at t0 t1
  go_enter Tryz.func23, Tryz.ntmps23
  go_wp2_with (go_at_call 24; refine (within_yes _ _ _ (by omega) (by omega) _).mono ?_; rintro e w' ⟨rfl, rfl⟩)
  exact bodyPost_ret (v := .tuple #[.agg #[.func (.func 52) #[] #[], .func (.func 53) #[] #[]], .bool true]) (by simp [results, Tryz.results23, go_sem]) rfl ⟨rfl, HB.out⟩

set_option maxHeartbeats 2000000 in
theorem doingOf_5 (w : World) :
    Calls Tryz.prog 23 #[.int .i64 5] w fun e w' => e = .returned (.tuple #[.agg #[.func (.func 54) #[] #[], .func (.func 55) #[] #[]], .bool true]) ∧ Below w.heap.size w w' := by
  have HB := hide (((Below.refl w.heap.size w).alloc (Nat.le_refl _) (.cells #[.func (.func 54) #[] #[], .func (.func 55) #[] #[]] 47)).alloc (by simp) (.cells #[.nilFunc, .nilFunc, .func (.func 46) #[] #[], .func (.func 47) #[] #[], .func (.func 48) #[] #[], .func (.func 49) #[] #[], .func (.func 50) #[] #[], .func (.func 51) #[] #[], .func (.func 52) #[] #[], .func (.func 53) #[] #[], .func (.func 54) #[] #[], .func (.func 55) #[] #[]] 83))
  have s0 : (store ⟨w.heap.size + 1, 0, none⟩ (.nilFunc)).run Tryz.prog ((w.alloc (.cells #[.nilFunc, .nilFunc] 47)).alloc (.cells #[.nilFunc, .nilFunc, .nilFunc, .nilFunc, .nilFunc, .nilFunc, .nilFunc, .nilFunc, .nilFunc, .nilFunc, .nilFunc, .nilFunc] 83)) = .ok () ((w.alloc (.cells #[.nilFunc, .nilFunc] 47)).alloc (.cells #[.nilFunc, .nilFunc, .nilFunc, .nilFunc, .nilFunc, .nilFunc, .nilFunc, .nilFunc, .nilFunc, .nilFunc, .nilFunc, .nilFunc] 83)) := by
    have := store_newN (P := Tryz.prog) (w.alloc (.cells #[.nilFunc, .nilFunc] 47)) #[.nilFunc, .nilFunc, .nilFunc, .nilFunc, .nilFunc, .nilFunc, .nilFunc, .nilFunc, .nilFunc, .nilFunc, .nilFunc, .nilFunc] 83 0  (by simp)
    rw [World.size_alloc] at this
    exact this
  have s1 : (store ⟨w.heap.size + 1, 1, none⟩ (.nilFunc)).run Tryz.prog ((w.alloc (.cells #[.nilFunc, .nilFunc] 47)).alloc (.cells #[.nilFunc, .nilFunc, .nilFunc, .nilFunc, .nilFunc, .nilFunc, .nilFunc, .nilFunc, .nilFunc, .nilFunc, .nilFunc, .nilFunc] 83)) = .ok () ((w.alloc (.cells #[.nilFunc, .nilFunc] 47)).alloc (.cells #[.nilFunc, .nilFunc, .nilFunc, .nilFunc, .nilFunc, .nilFunc, .nilFunc, .nilFunc, .nilFunc, .nilFunc, .nilFunc, .nilFunc] 83)) := by
    have := store_newN (P := Tryz.prog) (w.alloc (.cells #[.nilFunc, .nilFunc] 47)) #[.nilFunc, .nilFunc, .nilFunc, .nilFunc, .nilFunc, .nilFunc, .nilFunc, .nilFunc, .nilFunc, .nilFunc, .nilFunc, .nilFunc] 83 1  (by simp)
    rw [World.size_alloc] at this
    exact this
  have s2 : (store ⟨w.heap.size + 1, 2, none⟩ (.func (.func 46) #[] #[])).run Tryz.prog ((w.alloc (.cells #[.nilFunc, .nilFunc] 47)).alloc (.cells #[.nilFunc, .nilFunc, .nilFunc, .nilFunc, .nilFunc, .nilFunc, .nilFunc, .nilFunc, .nilFunc, .nilFunc, .nilFunc, .nilFunc] 83)) = .ok () ((w.alloc (.cells #[.nilFunc, .nilFunc] 47)).alloc (.cells #[.nilFunc, .nilFunc, .func (.func 46) #[] #[], .nilFunc, .nilFunc, .nilFunc, .nilFunc, .nilFunc, .nilFunc, .nilFunc, .nilFunc, .nilFunc] 83)) := by
    have := store_newF (P := Tryz.prog) (w.alloc (.cells #[.nilFunc, .nilFunc] 47)) #[.nilFunc, .nilFunc, .nilFunc, .nilFunc, .nilFunc, .nilFunc, .nilFunc, .nilFunc, .nilFunc, .nilFunc, .nilFunc, .nilFunc] 83 2  46 (by simp)
    rw [World.size_alloc] at this
    exact this
  have s3 : (store ⟨w.heap.size + 1, 3, none⟩ (.func (.func 47) #[] #[])).run Tryz.prog ((w.alloc (.cells #[.nilFunc, .nilFunc] 47)).alloc (.cells #[.nilFunc, .nilFunc, .func (.func 46) #[] #[], .nilFunc, .nilFunc, .nilFunc, .nilFunc, .nilFunc, .nilFunc, .nilFunc, .nilFunc, .nilFunc] 83)) = .ok () ((w.alloc (.cells #[.nilFunc, .nilFunc] 47)).alloc (.cells #[.nilFunc, .nilFunc, .func (.func 46) #[] #[], .func (.func 47) #[] #[], .nilFunc, .nilFunc, .nilFunc, .nilFunc, .nilFunc, .nilFunc, .nilFunc, .nilFunc] 83)) := by
    have := store_newF (P := Tryz.prog) (w.alloc (.cells #[.nilFunc, .nilFunc] 47)) #[.nilFunc, .nilFunc, .func (.func 46) #[] #[], .nilFunc, .nilFunc, .nilFunc, .nilFunc, .nilFunc, .nilFunc, .nilFunc, .nilFunc, .nilFunc] 83 3  47 (by simp)
    rw [World.size_alloc] at this
    exact this
  have s4 : (store ⟨w.heap.size + 1, 4, none⟩ (.func (.func 48) #[] #[])).run Tryz.prog ((w.alloc (.cells #[.nilFunc, .nilFunc] 47)).alloc (.cells #[.nilFunc, .nilFunc, .func (.func 46) #[] #[], .func (.func 47) #[] #[], .nilFunc, .nilFunc, .nilFunc, .nilFunc, .nilFunc, .nilFunc, .nilFunc, .nilFunc] 83)) = .ok () ((w.alloc (.cells #[.nilFunc, .nilFunc] 47)).alloc (.cells #[.nilFunc, .nilFunc, .func (.func 46) #[] #[], .func (.func 47) #[] #[], .func (.func 48) #[] #[], .nilFunc, .nilFunc, .nilFunc, .nilFunc, .nilFunc, .nilFunc, .nilFunc] 83)) := by
    have := store_newF (P := Tryz.prog) (w.alloc (.cells #[.nilFunc, .nilFunc] 47)) #[.nilFunc, .nilFunc, .func (.func 46) #[] #[], .func (.func 47) #[] #[], .nilFunc, .nilFunc, .nilFunc, .nilFunc, .nilFunc, .nilFunc, .nilFunc, .nilFunc] 83 4  48 (by simp)
    rw [World.size_alloc] at this
    exact this
  have s5 : (store ⟨w.heap.size + 1, 5, none⟩ (.func (.func 49) #[] #[])).run Tryz.prog ((w.alloc (.cells #[.nilFunc, .nilFunc] 47)).alloc (.cells #[.nilFunc, .nilFunc, .func (.func 46) #[] #[], .func (.func 47) #[] #[], .func (.func 48) #[] #[], .nilFunc, .nilFunc, .nilFunc, .nilFunc, .nilFunc, .nilFunc, .nilFunc] 83)) = .ok () ((w.alloc (.cells #[.nilFunc, .nilFunc] 47)).alloc (.cells #[.nilFunc, .nilFunc, .func (.func 46) #[] #[], .func (.func 47) #[] #[], .func (.func 48) #[] #[], .func (.func 49) #[] #[], .nilFunc, .nilFunc, .nilFunc, .nilFunc, .nilFunc, .nilFunc] 83)) := by
    have := store_newF (P := Tryz.prog) (w.alloc (.cells #[.nilFunc, .nilFunc] 47)) #[.nilFunc, .nilFunc, .func (.func 46) #[] #[], .func (.func 47) #[] #[], .func (.func 48) #[] #[], .nilFunc, .nilFunc, .nilFunc, .nilFunc, .nilFunc, .nilFunc, .nilFunc] 83 5  49 (by simp)
    rw [World.size_alloc] at this
    exact this
  have s6 : (store ⟨w.heap.size + 1, 6, none⟩ (.func (.func 50) #[] #[])).run Tryz.prog ((w.alloc (.cells #[.nilFunc, .nilFunc] 47)).alloc (.cells #[.nilFunc, .nilFunc, .func (.func 46) #[] #[], .func (.func 47) #[] #[], .func (.func 48) #[] #[], .func (.func 49) #[] #[], .nilFunc, .nilFunc, .nilFunc, .nilFunc, .nilFunc, .nilFunc] 83)) = .ok () ((w.alloc (.cells #[.nilFunc, .nilFunc] 47)).alloc (.cells #[.nilFunc, .nilFunc, .func (.func 46) #[] #[], .func (.func 47) #[] #[], .func (.func 48) #[] #[], .func (.func 49) #[] #[], .func (.func 50) #[] #[], .nilFunc, .nilFunc, .nilFunc, .nilFunc, .nilFunc] 83)) := by
    have := store_newF (P := Tryz.prog) (w.alloc (.cells #[.nilFunc, .nilFunc] 47)) #[.nilFunc, .nilFunc, .func (.func 46) #[] #[], .func (.func 47) #[] #[], .func (.func 48) #[] #[], .func (.func 49) #[] #[], .nilFunc, .nilFunc, .nilFunc, .nilFunc, .nilFunc, .nilFunc] 83 6  50 (by simp)
    rw [World.size_alloc] at this
    exact this
  have s7 : (store ⟨w.heap.size + 1, 7, none⟩ (.func (.func 51) #[] #[])).run Tryz.prog ((w.alloc (.cells #[.nilFunc, .nilFunc] 47)).alloc (.cells #[.nilFunc, .nilFunc, .func (.func 46) #[] #[], .func (.func 47) #[] #[], .func (.func 48) #[] #[], .func (.func 49) #[] #[], .func (.func 50) #[] #[], .nilFunc, .nilFunc, .nilFunc, .nilFunc, .nilFunc] 83)) = .ok () ((w.alloc (.cells #[.nilFunc, .nilFunc] 47)).alloc (.cells #[.nilFunc, .nilFunc, .func (.func 46) #[] #[], .func (.func 47) #[] #[], .func (.func 48) #[] #[], .func (.func 49) #[] #[], .func (.func 50) #[] #[], .func (.func 51) #[] #[], .nilFunc, .nilFunc, .nilFunc, .nilFunc] 83)) := by
    have := store_newF (P := Tryz.prog) (w.alloc (.cells #[.nilFunc, .nilFunc] 47)) #[.nilFunc, .nilFunc, .func (.func 46) #[] #[], .func (.func 47) #[] #[], .func (.func 48) #[] #[], .func (.func 49) #[] #[], .func (.func 50) #[] #[], .nilFunc, .nilFunc, .nilFunc, .nilFunc, .nilFunc] 83 7  51 (by simp)
    rw [World.size_alloc] at this
    exact this
  have s8 : (store ⟨w.heap.size + 1, 8, none⟩ (.func (.func 52) #[] #[])).run Tryz.prog ((w.alloc (.cells #[.nilFunc, .nilFunc] 47)).alloc (.cells #[.nilFunc, .nilFunc, .func (.func 46) #[] #[], .func (.func 47) #[] #[], .func (.func 48) #[] #[], .func (.func 49) #[] #[], .func (.func 50) #[] #[], .func (.func 51) #[] #[], .nilFunc, .nilFunc, .nilFunc, .nilFunc] 83)) = .ok () ((w.alloc (.cells #[.nilFunc, .nilFunc] 47)).alloc (.cells #[.nilFunc, .nilFunc, .func (.func 46) #[] #[], .func (.func 47) #[] #[], .func (.func 48) #[] #[], .func (.func 49) #[] #[], .func (.func 50) #[] #[], .func (.func 51) #[] #[], .func (.func 52) #[] #[], .nilFunc, .nilFunc, .nilFunc] 83)) := by
    have := store_newF (P := Tryz.prog) (w.alloc (.cells #[.nilFunc, .nilFunc] 47)) #[.nilFunc, .nilFunc, .func (.func 46) #[] #[], .func (.func 47) #[] #[], .func (.func 48) #[] #[], .func (.func 49) #[] #[], .func (.func 50) #[] #[], .func (.func 51) #[] #[], .nilFunc, .nilFunc, .nilFunc, .nilFunc] 83 8  52 (by simp)
    rw [World.size_alloc] at this
    exact this
  have s9 : (store ⟨w.heap.size + 1, 9, none⟩ (.func (.func 53) #[] #[])).run Tryz.prog ((w.alloc (.cells #[.nilFunc, .nilFunc] 47)).alloc (.cells #[.nilFunc, .nilFunc, .func (.func 46) #[] #[], .func (.func 47) #[] #[], .func (.func 48) #[] #[], .func (.func 49) #[] #[], .func (.func 50) #[] #[], .func (.func 51) #[] #[], .func (.func 52) #[] #[], .nilFunc, .nilFunc, .nilFunc] 83)) = .ok () ((w.alloc (.cells #[.nilFunc, .nilFunc] 47)).alloc (.cells #[.nilFunc, .nilFunc, .func (.func 46) #[] #[], .func (.func 47) #[] #[], .func (.func 48) #[] #[], .func (.func 49) #[] #[], .func (.func 50) #[] #[], .func (.func 51) #[] #[], .func (.func 52) #[] #[], .func (.func 53) #[] #[], .nilFunc, .nilFunc] 83)) := by
    have := store_newF (P := Tryz.prog) (w.alloc (.cells #[.nilFunc, .nilFunc] 47)) #[.nilFunc, .nilFunc, .func (.func 46) #[] #[], .func (.func 47) #[] #[], .func (.func 48) #[] #[], .func (.func 49) #[] #[], .func (.func 50) #[] #[], .func (.func 51) #[] #[], .func (.func 52) #[] #[], .nilFunc, .nilFunc, .nilFunc] 83 9  53 (by simp)
    rw [World.size_alloc] at this
    exact this
  have s10 : (store ⟨w.heap.size + 1, 10, none⟩ (.func (.func 54) #[] #[])).run Tryz.prog ((w.alloc (.cells #[.nilFunc, .nilFunc] 47)).alloc (.cells #[.nilFunc, .nilFunc, .func (.func 46) #[] #[], .func (.func 47) #[] #[], .func (.func 48) #[] #[], .func (.func 49) #[] #[], .func (.func 50) #[] #[], .func (.func 51) #[] #[], .func (.func 52) #[] #[], .func (.func 53) #[] #[], .nilFunc, .nilFunc] 83)) = .ok () ((w.alloc (.cells #[.nilFunc, .nilFunc] 47)).alloc (.cells #[.nilFunc, .nilFunc, .func (.func 46) #[] #[], .func (.func 47) #[] #[], .func (.func 48) #[] #[], .func (.func 49) #[] #[], .func (.func 50) #[] #[], .func (.func 51) #[] #[], .func (.func 52) #[] #[], .func (.func 53) #[] #[], .func (.func 54) #[] #[], .nilFunc] 83)) := by
    have := store_newF (P := Tryz.prog) (w.alloc (.cells #[.nilFunc, .nilFunc] 47)) #[.nilFunc, .nilFunc, .func (.func 46) #[] #[], .func (.func 47) #[] #[], .func (.func 48) #[] #[], .func (.func 49) #[] #[], .func (.func 50) #[] #[], .func (.func 51) #[] #[], .func (.func 52) #[] #[], .func (.func 53) #[] #[], .nilFunc, .nilFunc] 83 10  54 (by simp)
    rw [World.size_alloc] at this
    exact this
  have s11 : (store ⟨w.heap.size + 1, 11, none⟩ (.func (.func 55) #[] #[])).run Tryz.prog ((w.alloc (.cells #[.nilFunc, .nilFunc] 47)).alloc (.cells #[.nilFunc, .nilFunc, .func (.func 46) #[] #[], .func (.func 47) #[] #[], .func (.func 48) #[] #[], .func (.func 49) #[] #[], .func (.func 50) #[] #[], .func (.func 51) #[] #[], .func (.func 52) #[] #[], .func (.func 53) #[] #[], .func (.func 54) #[] #[], .nilFunc] 83)) = .ok () ((w.alloc (.cells #[.nilFunc, .nilFunc] 47)).alloc (.cells #[.nilFunc, .nilFunc, .func (.func 46) #[] #[], .func (.func 47) #[] #[], .func (.func 48) #[] #[], .func (.func 49) #[] #[], .func (.func 50) #[] #[], .func (.func 51) #[] #[], .func (.func 52) #[] #[], .func (.func 53) #[] #[], .func (.func 54) #[] #[], .func (.func 55) #[] #[]] 83)) := by
    have := store_newF (P := Tryz.prog) (w.alloc (.cells #[.nilFunc, .nilFunc] 47)) #[.nilFunc, .nilFunc, .func (.func 46) #[] #[], .func (.func 47) #[] #[], .func (.func 48) #[] #[], .func (.func 49) #[] #[], .func (.func 50) #[] #[], .func (.func 51) #[] #[], .func (.func 52) #[] #[], .func (.func 53) #[] #[], .func (.func 54) #[] #[], .nilFunc] 83 11  55 (by simp)
    rw [World.size_alloc] at this
    exact this
  have t0 := store_oldF (P := Tryz.prog) w #[.nilFunc, .nilFunc] 47 (.cells #[.nilFunc, .nilFunc, .func (.func 46) #[] #[], .func (.func 47) #[] #[], .func (.func 48) #[] #[], .func (.func 49) #[] #[], .func (.func 50) #[] #[], .func (.func 51) #[] #[], .func (.func 52) #[] #[], .func (.func 53) #[] #[], .func (.func 54) #[] #[], .func (.func 55) #[] #[]] 83) 0 54 (by simp)
  have t1 := store_oldF (P := Tryz.prog) w #[.func (.func 54) #[] #[], .nilFunc] 47 (.cells #[.nilFunc, .nilFunc, .func (.func 46) #[] #[], .func (.func 47) #[] #[], .func (.func 48) #[] #[], .func (.func 49) #[] #[], .func (.func 50) #[] #[], .func (.func 51) #[] #[], .func (.func 52) #[] #[], .func (.func 53) #[] #[], .func (.func 54) #[] #[], .func (.func 55) #[] #[]] 83) 1 55 (by simp)
  simp only [List.setIfInBounds_toArray, List.set] at t0 t1
  go_enter Tryz.func23, Tryz.ntmps23
  go_wp2_with (go_at_call 24; refine (within_yes _ _ _ (by omega) (by omega) _).mono ?_; rintro e w' ⟨rfl, rfl⟩)
  exact bodyPost_ret (v := .tuple #[.agg #[.func (.func 54) #[] #[], .func (.func 55) #[] #[]], .bool true]) (by simp [results, Tryz.results23, go_sem]) rfl ⟨rfl, HB.out⟩

set_option maxHeartbeats 2000000 in
theorem doingOf_no (op : Int) (hop : op < 1 ∨ 5 < op) (w : World) :
    Calls Tryz.prog 23 #[.int .i64 op] w fun e w' => e = .returned (.tuple #[.agg #[.nilFunc, .nilFunc], .bool false]) ∧ Below w.heap.size w w' := by
  have HB := hide (((Below.refl w.heap.size w).alloc (Nat.le_refl _) (.cells #[.nilFunc, .nilFunc] 47)).alloc (by simp) (.cells #[.nilFunc, .nilFunc, .func (.func 46) #[] #[], .func (.func 47) #[] #[], .func (.func 48) #[] #[], .func (.func 49) #[] #[], .func (.func 50) #[] #[], .func (.func 51) #[] #[], .func (.func 52) #[] #[], .func (.func 53) #[] #[], .func (.func 54) #[] #[], .func (.func 55) #[] #[]] 83))
  have s0 : (store ⟨w.heap.size + 1, 0, none⟩ (.nilFunc)).run Tryz.prog ((w.alloc (.cells #[.nilFunc, .nilFunc] 47)).alloc (.cells #[.nilFunc, .nilFunc, .nilFunc, .nilFunc, .nilFunc, .nilFunc, .nilFunc, .nilFunc, .nilFunc, .nilFunc, .nilFunc, .nilFunc] 83)) = .ok () ((w.alloc (.cells #[.nilFunc, .nilFunc] 47)).alloc (.cells #[.nilFunc, .nilFunc, .nilFunc, .nilFunc, .nilFunc, .nilFunc, .nilFunc, .nilFunc, .nilFunc, .nilFunc, .nilFunc, .nilFunc] 83)) := by
    have := store_newN (P := Tryz.prog) (w.alloc (.cells #[.nilFunc, .nilFunc] 47)) #[.nilFunc, .nilFunc, .nilFunc, .nilFunc, .nilFunc, .nilFunc, .nilFunc, .nilFunc, .nilFunc, .nilFunc, .nilFunc, .nilFunc] 83 0  (by simp)
    rw [World.size_alloc] at this
    exact this
  have s1 : (store ⟨w.heap.size + 1, 1, none⟩ (.nilFunc)).run Tryz.prog ((w.alloc (.cells #[.nilFunc, .nilFunc] 47)).alloc (.cells #[.nilFunc, .nilFunc, .nilFunc, .nilFunc, .nilFunc, .nilFunc, .nilFunc, .nilFunc, .nilFunc, .nilFunc, .nilFunc, .nilFunc] 83)) = .ok () ((w.alloc (.cells #[.nilFunc, .nilFunc] 47)).alloc (.cells #[.nilFunc, .nilFunc, .nilFunc, .nilFunc, .nilFunc, .nilFunc, .nilFunc, .nilFunc, .nilFunc, .nilFunc, .nilFunc, .nilFunc] 83)) := by
    have := store_newN (P := Tryz.prog) (w.alloc (.cells #[.nilFunc, .nilFunc] 47)) #[.nilFunc, .nilFunc, .nilFunc, .nilFunc, .nilFunc, .nilFunc, .nilFunc, .nilFunc, .nilFunc, .nilFunc, .nilFunc, .nilFunc] 83 1  (by simp)
    rw [World.size_alloc] at this
    exact this
  have s2 : (store ⟨w.heap.size + 1, 2, none⟩ (.func (.func 46) #[] #[])).run Tryz.prog ((w.alloc (.cells #[.nilFunc, .nilFunc] 47)).alloc (.cells #[.nilFunc, .nilFunc, .nilFunc, .nilFunc, .nilFunc, .nilFunc, .nilFunc, .nilFunc, .nilFunc, .nilFunc, .nilFunc, .nilFunc] 83)) = .ok () ((w.alloc (.cells #[.nilFunc, .nilFunc] 47)).alloc (.cells #[.nilFunc, .nilFunc, .func (.func 46) #[] #[], .nilFunc, .nilFunc, .nilFunc, .nilFunc, .nilFunc, .nilFunc, .nilFunc, .nilFunc, .nilFunc] 83)) := by
    have := store_newF (P := Tryz.prog) (w.alloc (.cells #[.nilFunc, .nilFunc] 47)) #[.nilFunc, .nilFunc, .nilFunc, .nilFunc, .nilFunc, .nilFunc, .nilFunc, .nilFunc, .nilFunc, .nilFunc, .nilFunc, .nilFunc] 83 2  46 (by simp)
    rw [World.size_alloc] at this
    exact this
  have s3 : (store ⟨w.heap.size + 1, 3, none⟩ (.func (.func 47) #[] #[])).run Tryz.prog ((w.alloc (.cells #[.nilFunc, .nilFunc] 47)).alloc (.cells #[.nilFunc, .nilFunc, .func (.func 46) #[] #[], .nilFunc, .nilFunc, .nilFunc, .nilFunc, .nilFunc, .nilFunc, .nilFunc, .nilFunc, .nilFunc] 83)) = .ok () ((w.alloc (.cells #[.nilFunc, .nilFunc] 47)).alloc (.cells #[.nilFunc, .nilFunc, .func (.func 46) #[] #[], .func (.func 47) #[] #[], .nilFunc, .nilFunc, .nilFunc, .nilFunc, .nilFunc, .nilFunc, .nilFunc, .nilFunc] 83)) := by
    have := store_newF (P := Tryz.prog) (w.alloc (.cells #[.nilFunc, .nilFunc] 47)) #[.nilFunc, .nilFunc, .func (.func 46) #[] #[], .nilFunc, .nilFunc, .nilFunc, .nilFunc, .nilFunc, .nilFunc, .nilFunc, .nilFunc, .nilFunc] 83 3  47 (by simp)
    rw [World.size_alloc] at this
    exact this
  have s4 : (store ⟨w.heap.size + 1, 4, none⟩ (.func (.func 48) #[] #[])).run Tryz.prog ((w.alloc (.cells #[.nilFunc, .nilFunc] 47)).alloc (.cells #[.nilFunc, .nilFunc, .func (.func 46) #[] #[], .func (.func 47) #[] #[], .nilFunc, .nilFunc, .nilFunc, .nilFunc, .nilFunc, .nilFunc, .nilFunc, .nilFunc] 83)) = .ok () ((w.alloc (.cells #[.nilFunc, .nilFunc] 47)).alloc (.cells #[.nilFunc, .nilFunc, .func (.func 46) #[] #[], .func (.func 47) #[] #[], .func (.func 48) #[] #[], .nilFunc, .nilFunc, .nilFunc, .nilFunc, .nilFunc, .nilFunc, .nilFunc] 83)) := by
    have := store_newF (P := Tryz.prog) (w.alloc (.cells #[.nilFunc, .nilFunc] 47)) #[.nilFunc, .nilFunc, .func (.func 46) #[] #[], .func (.func 47) #[] #[], .nilFunc, .nilFunc, .nilFunc, .nilFunc, .nilFunc, .nilFunc, .nilFunc, .nilFunc] 83 4  48 (by simp)
    rw [World.size_alloc] at this
    exact this
  have s5 : (store ⟨w.heap.size + 1, 5, none⟩ (.func (.func 49) #[] #[])).run Tryz.prog ((w.alloc (.cells #[.nilFunc, .nilFunc] 47)).alloc (.cells #[.nilFunc, .nilFunc, .func (.func 46) #[] #[], .func (.func 47) #[] #[], .func (.func 48) #[] #[], .nilFunc, .nilFunc, .nilFunc, .nilFunc, .nilFunc, .nilFunc, .nilFunc] 83)) = .ok () ((w.alloc (.cells #[.nilFunc, .nilFunc] 47)).alloc (.cells #[.nilFunc, .nilFunc, .func (.func 46) #[] #[], .func (.func 47) #[] #[], .func (.func 48) #[] #[], .func (.func 49) #[] #[], .nilFunc, .nilFunc, .nilFunc, .nilFunc, .nilFunc, .nilFunc] 83)) := by
    have := store_newF (P := Tryz.prog) (w.alloc (.cells #[.nilFunc, .nilFunc] 47)) #[.nilFunc, .nilFunc, .func (.func 46) #[] #[], .func (.func 47) #[] #[], .func (.func 48) #[] #[], .nilFunc, .nilFunc, .nilFunc, .nilFunc, .nilFunc, .nilFunc, .nilFunc] 83 5  49 (by simp)
    rw [World.size_alloc] at this
    exact this
  have s6 : (store ⟨w.heap.size + 1, 6, none⟩ (.func (.func 50) #[] #[])).run Tryz.prog ((w.alloc (.cells #[.nilFunc, .nilFunc] 47)).alloc (.cells #[.nilFunc, .nilFunc, .func (.func 46) #[] #[], .func (.func 47) #[] #[], .func (.func 48) #[] #[], .func (.func 49) #[] #[], .nilFunc, .nilFunc, .nilFunc, .nilFunc, .nilFunc, .nilFunc] 83)) = .ok () ((w.alloc (.cells #[.nilFunc, .nilFunc] 47)).alloc (.cells #[.nilFunc, .nilFunc, .func (.func 46) #[] #[], .func (.func 47) #[] #[], .func (.func 48) #[] #[], .func (.func 49) #[] #[], .func (.func 50) #[] #[], .nilFunc, .nilFunc, .nilFunc, .nilFunc, .nilFunc] 83)) := by
    have := store_newF (P := Tryz.prog) (w.alloc (.cells #[.nilFunc, .nilFunc] 47)) #[.nilFunc, .nilFunc, .func (.func 46) #[] #[], .func (.func 47) #[] #[], .func (.func 48) #[] #[], .func (.func 49) #[] #[], .nilFunc, .nilFunc, .nilFunc, .nilFunc, .nilFunc, .nilFunc] 83 6  50 (by simp)
    rw [World.size_alloc] at this
    exact this
  have s7 : (store ⟨w.heap.size + 1, 7, none⟩ (.func (.func 51) #[] #[])).run Tryz.prog ((w.alloc (.cells #[.nilFunc, .nilFunc] 47)).alloc (.cells #[.nilFunc, .nilFunc, .func (.func 46) #[] #[], .func (.func 47) #[] #[], .func (.func 48) #[] #[], .func (.func 49) #[] #[], .func (.func 50) #[] #[], .nilFunc, .nilFunc, .nilFunc, .nilFunc, .nilFunc] 83)) = .ok () ((w.alloc (.cells #[.nilFunc, .nilFunc] 47)).alloc (.cells #[.nilFunc, .nilFunc, .func (.func 46) #[] #[], .func (.func 47) #[] #[], .func (.func 48) #[] #[], .func (.func 49) #[] #[], .func (.func 50) #[] #[], .func (.func 51) #[] #[], .nilFunc, .nilFunc, .nilFunc, .nilFunc] 83)) := by
    have := store_newF (P := Tryz.prog) (w.alloc (.cells #[.nilFunc, .nilFunc] 47)) #[.nilFunc, .nilFunc, .func (.func 46) #[] #[], .func (.func 47) #[] #[], .func (.func 48) #[] #[], .func (.func 49) #[] #[], .func (.func 50) #[] #[], .nilFunc, .nilFunc, .nilFunc, .nilFunc, .nilFunc] 83 7  51 (by simp)
    rw [World.size_alloc] at this
    exact this
  have s8 : (store ⟨w.heap.size + 1, 8, none⟩ (.func (.func 52) #[] #[])).run Tryz.prog ((w.alloc (.cells #[.nilFunc, .nilFunc] 47)).alloc (.cells #[.nilFunc, .nilFunc, .func (.func 46) #[] #[], .func (.func 47) #[] #[], .func (.func 48) #[] #[], .func (.func 49) #[] #[], .func (.func 50) #[] #[], .func (.func 51) #[] #[], .nilFunc, .nilFunc, .nilFunc, .nilFunc] 83)) = .ok () ((w.alloc (.cells #[.nilFunc, .nilFunc] 47)).alloc (.cells #[.nilFunc, .nilFunc, .func (.func 46) #[] #[], .func (.func 47) #[] #[], .func (.func 48) #[] #[], .func (.func 49) #[] #[], .func (.func 50) #[] #[], .func (.func 51) #[] #[], .func (.func 52) #[] #[], .nilFunc, .nilFunc, .nilFunc] 83)) := by
    have := store_newF (P := Tryz.prog) (w.alloc (.cells #[.nilFunc, .nilFunc] 47)) #[.nilFunc, .nilFunc, .func (.func 46) #[] #[], .func (.func 47) #[] #[], .func (.func 48) #[] #[], .func (.func 49) #[] #[], .func (.func 50) #[] #[], .func (.func 51) #[] #[], .nilFunc, .nilFunc, .nilFunc, .nilFunc] 83 8  52 (by simp)
    rw [World.size_alloc] at this
    exact this
  have s9 : (store ⟨w.heap.size + 1, 9, none⟩ (.func (.func 53) #[] #[])).run Tryz.prog ((w.alloc (.cells #[.nilFunc, .nilFunc] 47)).alloc (.cells #[.nilFunc, .nilFunc, .func (.func 46) #[] #[], .func (.func 47) #[] #[], .func (.func 48) #[] #[], .func (.func 49) #[] #[], .func (.func 50) #[] #[], .func (.func 51) #[] #[], .func (.func 52) #[] #[], .nilFunc, .nilFunc, .nilFunc] 83)) = .ok () ((w.alloc (.cells #[.nilFunc, .nilFunc] 47)).alloc (.cells #[.nilFunc, .nilFunc, .func (.func 46) #[] #[], .func (.func 47) #[] #[], .func (.func 48) #[] #[], .func (.func 49) #[] #[], .func (.func 50) #[] #[], .func (.func 51) #[] #[], .func (.func 52) #[] #[], .func (.func 53) #[] #[], .nilFunc, .nilFunc] 83)) := by
    have := store_newF (P := Tryz.prog) (w.alloc (.cells #[.nilFunc, .nilFunc] 47)) #[.nilFunc, .nilFunc, .func (.func 46) #[] #[], .func (.func 47) #[] #[], .func (.func 48) #[] #[], .func (.func 49) #[] #[], .func (.func 50) #[] #[], .func (.func 51) #[] #[], .func (.func 52) #[] #[], .nilFunc, .nilFunc, .nilFunc] 83 9  53 (by simp)
    rw [World.size_alloc] at this
    exact this
  have s10 : (store ⟨w.heap.size + 1, 10, none⟩ (.func (.func 54) #[] #[])).run Tryz.prog ((w.alloc (.cells #[.nilFunc, .nilFunc] 47)).alloc (.cells #[.nilFunc, .nilFunc, .func (.func 46) #[] #[], .func (.func 47) #[] #[], .func (.func 48) #[] #[], .func (.func 49) #[] #[], .func (.func 50) #[] #[], .func (.func 51) #[] #[], .func (.func 52) #[] #[], .func (.func 53) #[] #[], .nilFunc, .nilFunc] 83)) = .ok () ((w.alloc (.cells #[.nilFunc, .nilFunc] 47)).alloc (.cells #[.nilFunc, .nilFunc, .func (.func 46) #[] #[], .func (.func 47) #[] #[], .func (.func 48) #[] #[], .func (.func 49) #[] #[], .func (.func 50) #[] #[], .func (.func 51) #[] #[], .func (.func 52) #[] #[], .func (.func 53) #[] #[], .func (.func 54) #[] #[], .nilFunc] 83)) := by
    have := store_newF (P := Tryz.prog) (w.alloc (.cells #[.nilFunc, .nilFunc] 47)) #[.nilFunc, .nilFunc, .func (.func 46) #[] #[], .func (.func 47) #[] #[], .func (.func 48) #[] #[], .func (.func 49) #[] #[], .func (.func 50) #[] #[], .func (.func 51) #[] #[], .func (.func 52) #[] #[], .func (.func 53) #[] #[], .nilFunc, .nilFunc] 83 10  54 (by simp)
    rw [World.size_alloc] at this
    exact this
  have s11 : (store ⟨w.heap.size + 1, 11, none⟩ (.func (.func 55) #[] #[])).run Tryz.prog ((w.alloc (.cells #[.nilFunc, .nilFunc] 47)).alloc (.cells #[.nilFunc, .nilFunc, .func (.func 46) #[] #[], .func (.func 47) #[] #[], .func (.func 48) #[] #[], .func (.func 49) #[] #[], .func (.func 50) #[] #[], .func (.func 51) #[] #[], .func (.func 52) #[] #[], .func (.func 53) #[] #[], .func (.func 54) #[] #[], .nilFunc] 83)) = .ok () ((w.alloc (.cells #[.nilFunc, .nilFunc] 47)).alloc (.cells #[.nilFunc, .nilFunc, .func (.func 46) #[] #[], .func (.func 47) #[] #[], .func (.func 48) #[] #[], .func (.func 49) #[] #[], .func (.func 50) #[] #[], .func (.func 51) #[] #[], .func (.func 52) #[] #[], .func (.func 53) #[] #[], .func (.func 54) #[] #[], .func (.func 55) #[] #[]] 83)) := by
    have := store_newF (P := Tryz.prog) (w.alloc (.cells #[.nilFunc, .nilFunc] 47)) #[.nilFunc, .nilFunc, .func (.func 46) #[] #[], .func (.func 47) #[] #[], .func (.func 48) #[] #[], .func (.func 49) #[] #[], .func (.func 50) #[] #[], .func (.func 51) #[] #[], .func (.func 52) #[] #[], .func (.func 53) #[] #[], .func (.func 54) #[] #[], .nilFunc] 83 11  55 (by simp)
    rw [World.size_alloc] at this
    exact this
  have t0 := store_oldN (P := Tryz.prog) w #[.nilFunc, .nilFunc] 47 (.cells #[.nilFunc, .nilFunc, .func (.func 46) #[] #[], .func (.func 47) #[] #[], .func (.func 48) #[] #[], .func (.func 49) #[] #[], .func (.func 50) #[] #[], .func (.func 51) #[] #[], .func (.func 52) #[] #[], .func (.func 53) #[] #[], .func (.func 54) #[] #[], .func (.func 55) #[] #[]] 83) 0 (by simp)
  have t1 := store_oldN (P := Tryz.prog) w #[.nilFunc, .nilFunc] 47 (.cells #[.nilFunc, .nilFunc, .func (.func 46) #[] #[], .func (.func 47) #[] #[], .func (.func 48) #[] #[], .func (.func 49) #[] #[], .func (.func 50) #[] #[], .func (.func 51) #[] #[], .func (.func 52) #[] #[], .func (.func 53) #[] #[], .func (.func 54) #[] #[], .func (.func 55) #[] #[]] 83) 1 (by simp)
  simp only [List.setIfInBounds_toArray, List.set] at t0 t1
  go_enter Tryz.func23, Tryz.ntmps23
  go_wp2_with (go_at_call 24; refine (within_no _ _ _ (by omega) _).mono ?_; rintro e w' ⟨rfl, rfl⟩)
  exact bodyPost_ret (v := .tuple #[.agg #[.nilFunc, .nilFunc], .bool false]) (by simp [results, Tryz.results23, go_sem]) rfl ⟨rfl, HB.out⟩

end Go.Proofs.YtckkfjmjcknjdaaGreatDoor
