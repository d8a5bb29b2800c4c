/-
  Walks and mathematics of Walk5h.
-/
import Derived.Test.YtckkfjmjcknjdaaGreatDoorRCWalk1b
import Derived.Deep.RegionHeld3
import Derived.Deep.QuietTactic
import Derived.BigQuiet
import Derived.WalkSmall
namespace Go.Proofs.YtckkfjmjcknjdaaGreatDoor
open Go.RowKit P1 K
set_option linter.unusedVariables false
set_option linter.unusedSimpArgs false

def RdC (w : World) (g : Nat) (s : ByteArray) (a : Nat) (b : Bool) : Prop :=
  a ≤ s.size ∧ w.heap[g]? = some (.cells #[.string s, .int .i64 (a : Int), .bool b] 64 (0, 0))

theorem RdC.lt {w : World} {g : Nat} {s : ByteArray} {a : Nat} {b : Bool} (h : RdC w g s a b) : g < w.heap.size := (Array.getElem?_eq_some_iff.1 h.2).1

theorem rdc_cells {w : World} {p : Nat} {v0 v1 v2 : Value} {e : TypeId} (hb : w.heap[p]? = some (.cells #[v0, v1, v2] e (0, 0))) :
    w.cell? ⟨p, 0, none⟩ = some v0 ∧ w.cell? ⟨p, 1, none⟩ = some v1 ∧ w.cell? ⟨p, 2, none⟩ = some v2 ∧ w.frozen? ⟨p, 0, none⟩ = false ∧ w.frozen? ⟨p, 1, none⟩ = false ∧ w.frozen? ⟨p, 2, none⟩ = false :=
  ⟨by rw [cell_of_row w p 0 _ _ _ hb]; rfl, by rw [cell_of_row w p 1 _ _ _ hb]; rfl, by rw [cell_of_row w p 2 _ _ _ hb]; rfl, by simp [World.frozen?, hb], by simp [World.frozen?, hb], by simp [World.frozen?, hb]⟩

theorem rdc_set {w : World} {p k : Nat} {cs : Array Value} {e : TypeId} (v : Value) (h : w.heap[p]? = some (.cells cs e (0, 0))) : (w.setCell ⟨p, k, none⟩ v).heap[p]? = some (.cells (cs.setIfInBounds k v) e (0, 0)) := by
  simp only [World.setCell, Array.getElem?_modify, if_true, h]
  rfl

theorem rdc_grown (w : World) (p k : Nat) (v : Value) : w.grownBy (w.setCell ⟨p, k, none⟩ v) (some p) :=
  ⟨rfl, rfl, rfl, by simp [World.setCell], fun j hj hne => Below.heap_setCell _ _ _ _ (fun e => hne (by rw [e]))⟩

theorem RdC.kept {w w' : World} {g : Nat} {s : ByteArray} {a : Nat} {b : Bool} (h : RdC w g s a b) (hb : w'.heap[g]? = w.heap[g]?) : RdC w' g s a b := ⟨h.1, hb.trans h.2⟩

theorem grown_drewN {w w' : World} {r : Option Nat} (h : w.grownBy w' r) (q : Nat) : w.grownBy (w'.drewN q) r :=
  ⟨h.os, h.tape, h.output, h.size, h.block⟩

def takeV (s : ByteArray) (a : Nat) (b : Bool) (n : Nat) : ByteArray × Nat × Bool :=
  if b = false ∧ a + n ≤ s.size then (s.extract a (a + n), a + n, false) else (⟨#[]⟩, a, true)

set_option maxHeartbeats 1000000 in
theorem l05Take_any (g : Nat) (s : ByteArray) (hs : s.size ≤ 1048576) (a : Nat) (b : Bool) (n : Nat) (hn : n ≤ 1000000000) (w : World) (hc : RdC w g s a b) :
    Calls Tryz.prog 61 #[.pointer (some ⟨g, 0, none⟩), .int .i64 (n : Int)] w fun e w' =>
      e = .returned (.string (takeV s a b n).1) ∧ RdC w' g s (takeV s a b n).2.1 (takeV s a b n).2.2 ∧ w.grownBy w' (some g) := by
  obtain ⟨ha, hblk⟩ := hc
  obtain ⟨c0, c1, c2, z0, z1, z2⟩ := rdc_cells hblk
  have HB := hide hblk
  clear hblk
  have hwr : IntKind.i64.wrap ((s.size : Int) - (a : Int)) = (s.size : Int) - (a : Int) := by rw [IntKind.wrap_i64]; omega
  cases b with
  | true =>
    have hv : takeV s a true n = (⟨#[]⟩, a, true) := by simp [takeV]
    rw [hv]
    clear hv
    go_enter Tryz.func61, Tryz.ntmps61
    go_wp2_with fail
    go_quiet (fail)
    go_wp2_with fail
    go_ret
    exact ⟨rfl, ⟨ha, rdc_set (w := w.drewN _) (k := 2) (.bool true) HB.out⟩, grown_trans (grown_drewN (grown_below (Below.refl _ _)) _) (rdc_grown _ g 2 _)⟩
  | false =>
    by_cases hfit : a + n ≤ s.size
    · have hv : takeV s a false n = (s.extract a (a + n), a + n, false) := by simp [takeV, hfit]
      rw [hv]
      clear hv
      have g1 : decide ((s.size : Int) - (a : Int) < (n : Int)) = false := by simp; omega
      have hw2 : IntKind.i64.wrap ((a : Int) + (n : Int) - (n : Int)) = (a : Int) := by rw [IntKind.wrap_i64]; omega
      have hw3 : (a : Int) + (n : Int) - (n : Int) = (a : Int) := by omega
      have hsl : ∀ wx, (Instr.slice 9 (.string s) (some (.int .i64 (a : Int))) (some (.int .i64 ((a : Int) + (n : Int)))) none).run Tryz.prog wx = .ok (.string (s.extract a (a + n))) wx :=
        fun wx => run_slice_string (P := Tryz.prog) (w := wx) 9 s .i64 .i64 (a : Int) ((a : Int) + (n : Int)) Tryz.underlying9 (by omega) (by omega) (by omega)
      go_enter Tryz.func61, Tryz.ntmps61
      go_wp2_with fail
      go_quiet (fail)
      go_wp2_with fail
      have hb2 := rdc_set (w := w.drewN nq) (k := 1) (.int .i64 ((a : Int) + (n : Int))) HB.out
      have hg2 := rdc_grown (w.drewN nq) g 1 (.int .i64 ((a : Int) + (n : Int)))
      obtain ⟨w2, hw2'⟩ : ∃ w2, (w.drewN nq).setCell ⟨g, 1, none⟩ (.int .i64 ((a : Int) + (n : Int))) = w2 := ⟨_, rfl⟩
      rw [hw2'] at hb2 hg2 ⊢
      have hb2' : w2.heap[g]? = some (.cells #[.string s, .int .i64 ((a : Int) + (n : Int)), .bool false] 64 (0, 0)) := hb2
      clear hw2' hb2 c0 c1 c2 z0 z1 z2
      obtain ⟨c0, c1, c2, z0, z1, z2⟩ := rdc_cells hb2'
      have HB2 := hide hb2'
      have HG2 := hide (grown_trans (grown_drewN (grown_below (Below.refl _ _)) nq) hg2)
      clear hb2' hg2
      go_quiet (fail)
      go_wp2_with fail
      go_ret
      exact ⟨rfl, ⟨hfit, HB2.out⟩, grown_drewN HG2.out _⟩
    · have hv : takeV s a false n = (⟨#[]⟩, a, true) := by simp [takeV, hfit]
      rw [hv]
      clear hv
      have g1 : decide ((s.size : Int) - (a : Int) < (n : Int)) = true := by simp; omega
      go_enter Tryz.func61, Tryz.ntmps61
      go_wp2_with fail
      go_quiet (fail)
      go_wp2_with fail
      go_ret
      exact ⟨rfl, ⟨ha, rdc_set (w := w.drewN _) (k := 2) (.bool true) HB.out⟩, grown_trans (grown_drewN (grown_below (Below.refl _ _)) _) (rdc_grown _ g 2 _)⟩

def varV (s : ByteArray) (a : Nat) (b : Bool) : Nat × Nat × Bool :=
  match b, rdGo 5 [] ((bl s).drop a) with
  | false, some (v, c) => (v, a + c, false)
  | _, _ => (0, a, true)

set_option maxHeartbeats 1000000 in
theorem l05Var_any (g : Nat) (s : ByteArray) (hs : s.size ≤ 1048576) (a : Nat) (b : Bool) (w : World) (hc : RdC w g s a b) :
    Calls Tryz.prog 34 #[.pointer (some ⟨g, 0, none⟩)] w fun e w' =>
      e = .returned (.int .i64 ((varV s a b).1 : Int)) ∧ RdC w' g s (varV s a b).2.1 (varV s a b).2.2 ∧ w.grownBy w' (some g) := by
  have hgl := hc.lt
  obtain ⟨ha, hblk⟩ := hc
  obtain ⟨c0, c1, c2, z0, z1, z2⟩ := rdc_cells hblk
  have HB := hide hblk
  clear hblk
  cases hrd : rdGo 5 [] ((bl s).drop a) with
  | none =>
    have hv : varV s a b = (0, a, true) := by unfold varV; rw [hrd]; cases b <;> rfl
    rw [hv]
    have HRD := hide hrd
    clear hv hrd
    go_enter Tryz.func34, Tryz.ntmps34
    go_wp2_with fail
    go_region_held3 (fun w' => w'.cell? ⟨g, 0, none⟩ = some (.string s) ∧ w'.cell? ⟨g, 1, none⟩ = some (.int .i64 (a : Int))) (first | go_keep | exact ⟨(hb1.cell (by simpa using hgl)).trans c0, (hb1.cell (by simpa using hgl)).trans c1⟩)
      (first | (go_at_call 62; refine (specReadVar_any s hs a ha _).mono ?_; rw [HRD.out]; unfold rvVal; rintro e w1 ⟨rfl, hb1⟩))
    have hk1 : w1.heap[g]? = some (.cells #[.string s, .int .i64 (a : Int), .bool b] 64 (0, 0)) := (hb1.block g (by simpa using hgl)).trans HB.out
    have HG1 := hide (grown_trans (grown_drewN (grown_below (row := some g) (Below.refl _ w)) 1) (grown_below hb1))
    clear c0 c1 c2 z0 z1 z2
    obtain ⟨c0, c1, c2, z0, z1, z2⟩ := rdc_cells hk1
    have HB1 := hide hk1
    clear hk1 hb1
    cases b with
    | true =>
      go_wp2_with fail
      go_ret
      exact ⟨rfl, ⟨ha, rdc_set (w := w1) (k := 2) (.bool true) HB1.out⟩, grown_trans HG1.out (rdc_grown _ g 2 _)⟩
    | false =>
      go_wp2_with fail
      go_ret
      exact ⟨rfl, ⟨ha, rdc_set (w := w1) (k := 2) (.bool true) HB1.out⟩, grown_trans HG1.out (rdc_grown _ g 2 _)⟩
  | some r =>
    obtain ⟨v, c⟩ := r
    have hbd := rdGo_some 5 [] _ v c hrd
    have hlen : ((bl s).drop a).length = s.size - a := by rw [List.length_drop, bl_length]
    rw [hlen] at hbd
    simp only [List.length_nil] at hbd
    obtain ⟨d1, d2, d3, d4⟩ := hbd
    clear hlen
    have HRD := hide hrd
    have hv : varV s a b = if b = false then (v, a + c, false) else (0, a, true) := by unfold varV; rw [hrd]; cases b <;> rfl
    rw [hv]
    clear hrd hv
    go_enter Tryz.func34, Tryz.ntmps34
    go_wp2_with fail
    go_region_held3 (fun w' => w'.cell? ⟨g, 0, none⟩ = some (.string s) ∧ w'.cell? ⟨g, 1, none⟩ = some (.int .i64 (a : Int))) (first | go_keep | exact ⟨(hb1.cell (by simpa using hgl)).trans c0, (hb1.cell (by simpa using hgl)).trans c1⟩)
      (first | (go_at_call 62; refine (specReadVar_any s hs a ha _).mono ?_; rw [HRD.out]; unfold rvVal; rintro e w1 ⟨rfl, hb1⟩))
    have hk1 : w1.heap[g]? = some (.cells #[.string s, .int .i64 (a : Int), .bool b] 64 (0, 0)) := (hb1.block g (by simpa using hgl)).trans HB.out
    have HG1 := hide (grown_trans (grown_drewN (grown_below (row := some g) (Below.refl _ w)) 1) (grown_below hb1))
    clear c0 c1 c2 z0 z1 z2
    obtain ⟨c0, c1, c2, z0, z1, z2⟩ := rdc_cells hk1
    have HB1 := hide hk1
    clear hk1 hb1
    cases b with
    | true =>
      go_wp2_with fail
      go_ret
      exact ⟨rfl, ⟨ha, rdc_set (w := w1) (k := 2) (.bool true) HB1.out⟩, grown_trans HG1.out (rdc_grown _ g 2 _)⟩
    | false =>
      go_wp2_with fail
      go_ret
      refine ⟨rfl, ⟨by show a + c ≤ s.size; omega, ?_⟩, grown_trans HG1.out (rdc_grown _ g 1 _)⟩
      have := rdc_set (w := w1) (k := 1) (.int .i64 ((a : Int) + (c : Int))) HB1.out
      simpa using this

end Go.Proofs.YtckkfjmjcknjdaaGreatDoor
