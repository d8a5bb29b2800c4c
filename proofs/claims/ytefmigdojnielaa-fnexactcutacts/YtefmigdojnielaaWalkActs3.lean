/-
  The laws' own small functions over slices of acts: comparison, marks.
-/
import Derived.Test.YtefmigdojnielaaWalkActs2
import Derived.Test.YtefmigdojnielaaWalk3e
import Derived.Test.YtefmigdojnielaaMarks
namespace Go.Proofs.Ytefmigdojnielaa
open Go.RowKit P1 P5 K
set_option linter.unusedVariables false
set_option linter.unusedSimpArgs false

set_option maxHeartbeats 1000000 in
theorem eqAct_same (a : ActV) (w : World) :
    Calls Try.prog 68 #[aval a, aval a] w fun e w' => e = .returned (.bool true) ∧ Below w.heap.size w w' := by
  obtain ⟨kd, nm, tx, tt⟩ := a
  simp only [aval] at *
  have hb := ((Below.refl w.heap.size w).alloc (Nat.le_refl _) (.cells #[.int .i64 kd, .string ⟨nm.toArray⟩, .string ⟨tx.toArray⟩, .string ⟨tt.toArray⟩] 45)).alloc (by simp) (.cells #[.int .i64 kd, .string ⟨nm.toArray⟩, .string ⟨tx.toArray⟩, .string ⟨tt.toArray⟩] 45)
  have HB := hide hb
  clear hb
  go_enter Try.func68, Try.ntmps68
  go_wp2_with fail
  go_ret
  exact ⟨rfl, HB.out⟩

set_option maxHeartbeats 1000000 in
theorem eqActS_same (oa : Option Addr) (n cap : Nat) (ob : Option Addr) (cap' : Nat) (fs : List ActV) (hn20 : n ≤ 1048576) (w : World) (hat : ActsAt w oa n cap fs) (hbt : ActsAt w ob n cap' fs) :
    Calls Try.prog 34 #[.slice oa n cap, .slice ob n cap'] w fun e w' => e = .returned (.bool true) ∧ Below w.heap.size w w' := by
  have HAT := hide hat
  have HBT := hide hbt
  clear hat hbt
  go_enter Try.func34, Try.ntmps34
  go_wp2_with fail
  go_loopw [5] (fun i wr => ∃ (j : Nat), i = .int .i64 (j : Int) ∧ j ≤ n ∧ Below w.heap.size w wr) (fun i _ => n - (intOf i).toNat)
  case atStart => exact ⟨0, rfl, Nat.zero_le _, Below.refl _ _⟩
  case round =>
    obtain ⟨j, rfl, hj, hbel⟩ := hrel
    by_cases hlt : j < n
    · have j0 : (j : Int) < (n : Int) := by omega
      obtain ⟨f, b, q, hf, hidx, hb, c0, c1, c2, c3⟩ := (HAT.out.below hbel).get Try.underlying38 infoIA j hlt
      obtain ⟨f', b', q', hf', hidx', hb', c0', c1', c2', c3'⟩ := (HBT.out.below hbel).get Try.underlying38 infoIA j hlt
      rw [hf] at hf'
      cases hf'
      have hEQ := hide (eqAct_same f)
      unfold aval at hEQ
      have hsz := hbel.size
      clear hf
      go_wp2_with fail
      refine wp_region_in (F := fun w' => Below wr.heap.size wr w') (by kernel_rfl) (by kernel_rfl) (Below.refl _ _).drew ?_
      have hne : Nonempty (InW (fun w' => Below wr.heap.size wr w')) := ⟨⟨_, Below.refl _ _⟩⟩
      have k0 : ∀ m : InW (fun w' => Below wr.heap.size wr w'), m.w.cell? ⟨b, q, none⟩ = some (.int .i64 f.kind) := fun m => (m.h.cell hb).trans c0
      have k1 : ∀ m : InW (fun w' => Below wr.heap.size wr w'), m.w.cell? ⟨b, q + 1, none⟩ = some (.string ⟨f.name.toArray⟩) := fun m => (m.h.cell hb).trans c1
      have k2 : ∀ m : InW (fun w' => Below wr.heap.size wr w'), m.w.cell? ⟨b, q + 2, none⟩ = some (.string ⟨f.text.toArray⟩) := fun m => (m.h.cell hb).trans c2
      have k3 : ∀ m : InW (fun w' => Below wr.heap.size wr w'), m.w.cell? ⟨b, q + 3, none⟩ = some (.string ⟨f.to.toArray⟩) := fun m => (m.h.cell hb).trans c3
      have k4 : ∀ m : InW (fun w' => Below wr.heap.size wr w'), m.w.cell? ⟨b', q', none⟩ = some (.int .i64 f.kind) := fun m => (m.h.cell hb').trans c0'
      have k5 : ∀ m : InW (fun w' => Below wr.heap.size wr w'), m.w.cell? ⟨b', q' + 1, none⟩ = some (.string ⟨f.name.toArray⟩) := fun m => (m.h.cell hb').trans c1'
      have k6 : ∀ m : InW (fun w' => Below wr.heap.size wr w'), m.w.cell? ⟨b', q' + 2, none⟩ = some (.string ⟨f.text.toArray⟩) := fun m => (m.h.cell hb').trans c2'
      have k7 : ∀ m : InW (fun w' => Below wr.heap.size wr w'), m.w.cell? ⟨b', q' + 3, none⟩ = some (.string ⟨f.to.toArray⟩) := fun m => (m.h.cell hb').trans c3'
      repeat (go_big_quiet_step (first | (go_at_call 68; refine (hEQ.out _).mono ?_; rintro e w2 ⟨rfl, hb2⟩; exact ⟨rfl, ⟨w2, Below.trans (InW.h _) (hb2.mono (Below.size (InW.h (F := fun w' => Below wr.heap.size wr w') ‹_›)))⟩, rfl⟩)))
      refine wpQuiet_nil ?_
      intro _ hw'
      obtain ⟨nq, hw''⟩ := hw'
      subst hw''
      have hb3 := hbel.trans (nq.h.mono hsz)
      generalize nq.w = w2 at hb3 ⊢
      clear hne k0 k1 k2 k3 k4 k5 k6 k7
      go_wp2_with fail
      go_roundw
      case rel => exact ⟨j + 1, by go_num, by omega, hb3⟩
      case measure => simp [intOf]; omega
    · have hjn : j = n := by omega
      go_wp2_with fail
      go_ret
      exact ⟨rfl, hbel⟩

set_option maxHeartbeats 1000000 in
theorem markActS_any (g n cap base k : Nat) (hn : n ≤ 1048576) (hk : k ≤ 4194304) (w : World) (xs : List Value) (hown : w.ownsRow base 45 4 (.slice (some ⟨g, 0, none⟩) n cap) n xs) :
    Calls Try.prog 35 #[.slice (some ⟨g, 0, none⟩) n cap, .int .i64 (k : Int)] w fun e w' => e = .returned (.int .i64 ((k + 4 * n : Nat) : Int)) ∧ w.grownBy w' (some g) := by
  have HO0 := hide hown
  clear hown
  go_enter Try.func35, Try.ntmps35
  go_wp2_with fail
  go_loopw [1, 5] (fun x i wr => ∃ (j : Nat) (ys : List Value), i = .int .i64 (j : Int) ∧ x = .int .i64 ((k + 4 * j : Nat) : Int) ∧ j ≤ n ∧ wr.ownsRow base 45 4 (.slice (some ⟨g, 0, none⟩) n cap) n ys ∧ w.grownBy wr (some g)) (fun _ i _ => n - (intOf i).toNat)
  case atStart => exact ⟨0, xs, rfl, rfl, Nat.zero_le _, HO0.out, grown_below (Below.refl _ _)⟩
  case round =>
    obtain ⟨j, ys, rfl, rfl, hj, hown, hgr⟩ := hrel
    by_cases hlt : j < n
    · have j0 : (j : Int) < (n : Int) := by omega
      have hidx2 : ∀ wx, (Instr.indexAt 38 (.slice (some ⟨g, 0, none⟩) n cap) (.int .i64 (j : Int))).run Try.prog wx = .ok (.pointer (some ⟨g, j * 4, none⟩)) wx := fun wx => by
        have := run_indexAt_slice wx 38 45 4 Try.underlying38 infoIA g 0 n cap j hlt
        rwa [Nat.zero_add] at this
      obtain ⟨y0, z0⟩ := own_four hown (j * 4) (by omega)
      have f0 := hown.frozenAt (j * 4)
      have st1 := hown.stored (j * 4) (.int .i64 ((k + 4 * j : Nat) : Int))
      have HO := hide st1.1
      have HG := hide (grown_trans hgr st1.2)
      clear hown hgr st1
      go_wp2_with fail
      refine (markText_any (k + 4 * j + 1) (by omega) _).mono ?_
      rintro e w2 ⟨rfl, hb2⟩
      have ho2 := own_below HO.out hb2
      obtain ⟨y1, z1⟩ := own_four ho2 (j * 4 + 1) (by omega)
      have f1 := ho2.frozenAt (j * 4 + 1)
      have st2 := ho2.stored (j * 4 + 1) (.string ⟨(markB (k + 4 * j + 1)).toArray⟩)
      have HO2 := hide st2.1
      have HG2 := hide (grown_trans HG.out (grown_trans (grown_below hb2) st2.2))
      clear hb2 ho2 st2 z0 f0
      go_wp2_with fail
      refine (markText_any (k + 4 * j + 2) (by omega) _).mono ?_
      rintro e w3 ⟨rfl, hb3⟩
      have ho3 := own_below HO2.out hb3
      obtain ⟨y2, z2⟩ := own_four ho3 (j * 4 + 2) (by omega)
      have f2 := ho3.frozenAt (j * 4 + 2)
      have st3 := ho3.stored (j * 4 + 2) (.string ⟨(markB (k + 4 * j + 2)).toArray⟩)
      have HO3 := hide st3.1
      have HG3 := hide (grown_trans HG2.out (grown_trans (grown_below hb3) st3.2))
      clear hb3 ho3 st3 z1 f1
      go_wp2_with fail
      refine (markText_any (k + 4 * j + 3) (by omega) _).mono ?_
      rintro e w4 ⟨rfl, hb4⟩
      have ho4 := own_below HO3.out hb4
      obtain ⟨y3, z3⟩ := own_four ho4 (j * 4 + 3) (by omega)
      have f3 := ho4.frozenAt (j * 4 + 3)
      have st4 := ho4.stored (j * 4 + 3) (.string ⟨(markB (k + 4 * j + 3)).toArray⟩)
      have HO4 := hide st4.1
      have HG4 := hide (grown_trans HG3.out (grown_trans (grown_below hb4) st4.2))
      clear hb4 ho4 st4 z2 f2
      go_wp2_with fail
      go_roundw
      case rel => exact ⟨j + 1, _, by go_num, by go_num, by omega, HO4.out, HG4.out⟩
      case measure => simp [intOf]; omega
    · have ej : j = n := by omega
      subst ej
      go_wp2_with fail
      go_ret
      exact ⟨by go_num, hgr⟩

end Go.Proofs.Ytefmigdojnielaa
