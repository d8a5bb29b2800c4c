/-
  Walks of chapter 7: names, numbers, right journals, the frame of a term and a vote, of the specification.
  Walks of chapter 5: the reader of a text (l05Cur): l05Take, l05Var.
  Walks of chapter 5: EntryText of the program.
-/
import Derived.Test.YthbgklmnmoclhaaGreatDoorPack14
import Derived.Test.YthbgklmnmoclhaaGreatDoorPack17
import Derived.Test.YthbgklmnmoclhaaGreatDoorPack19
import Derived.Deep.RegionHeld3
import Derived.Deep.QuietTactic
import Derived.BigQuiet
import Derived.WalkSmall
import Derived.Test.YthbgklmnmoclhaaGreatDoorPack8
import Derived.Deep.RegionLaw
import Derived.Deep.DrawnRows
namespace Go.Proofs.YthbgklmnmoclhaaGreatDoor
open Go.RowKit P1 P3 P9 K
set_option linter.unusedVariables false
set_option linter.unusedSimpArgs false

theorem cat_name (d : List UInt8) : (⟨#[106]⟩ : ByteArray) ++ ⟨d.toArray⟩ = ⟨(106 :: d).toArray⟩ := by
  apply ByteArray.ext
  simp

set_option maxHeartbeats 1000000 in
theorem specJournalName_any (n : Int) (h0 : -9223372036854775808 ≤ n) (h1 : n ≤ 9223372036854775807) (w : World) :
    Calls Tryz.prog 20 #[.int .i64 n] w fun e w' => e = .returned (.string ⟨(jnName n).toArray⟩) ∧ Below w.heap.size w w' := by
  by_cases hi : 0 ≤ n ∧ n ≤ 999
  · obtain ⟨i0, i1⟩ := hi
    obtain ⟨N, rfl⟩ := Int.eq_ofNat_of_zero_le i0
    have R := hide (show jnName (N : Int) = 106 :: Lib.decDigits N by unfold jnName; rw [if_pos (jnIn_iff.2 ⟨i0, i1⟩)]; rfl)
    have hr := dec_room N (by omega)
    have C := cat_name (Lib.decDigits N)
    go_enter Tryz.func20, Tryz.ntmps20
    go_wp2_with (first
      | (go_at_call 37; refine (l01In_yes _ _ _ (by omega) (by omega) _).mono ?_; rintro e w1 ⟨rfl, rfl⟩)
      | (go_at_call 39; refine (specDecimal_any (N : Int) (by omega) (by omega) _).mono ?_; rw [Lib.itoa_nonneg]; rintro e w1 ⟨rfl, hb1⟩))
    go_ret
    exact ⟨by rw [R.out]; rfl, hb1⟩
  · have R := hide (show jnName n = [] by unfold jnName; rw [if_neg (fun h => hi (jnIn_iff.1 h))])
    go_enter Tryz.func20, Tryz.ntmps20
    go_wp2_with (go_at_call 37; refine (l01In_no _ _ _ (by omega) _).mono ?_; rintro e w1 ⟨rfl, rfl⟩)
    go_ret
    exact ⟨by rw [R.out]; rfl, Below.refl _ _⟩

theorem bl_rest (l : List UInt8) : bl ((⟨l.toArray⟩ : ByteArray).extract 1 (⟨l.toArray⟩ : ByteArray).size) = l.drop 1 := by
  unfold bl
  rw [ByteArray.data_extract, Array.toList_extract, List.extract_eq_take_drop]
  show List.take (l.length - 1) (l.drop 1) = l.drop 1
  exact List.take_of_length_le (by simp)

set_option maxHeartbeats 1000000 in
theorem l07Number_any (l : List UInt8) (hl : l.length ≤ 1048576) (w : World) :
    Calls Tryz.prog 18 #[.string ⟨l.toArray⟩] w fun e w' => e = .returned (.int .i64 (jnNumber l)) ∧ Below w.heap.size w w' := by
  have hsz : (⟨l.toArray⟩ : ByteArray).size = l.length := rfl
  by_cases h2 : l.length < 2
  · have R := hide (show jnNumber l = -1 by unfold jnNumber; rw [if_pos h2])
    have g0 : (l.length : Int) < 2 := by omega
    go_enter Tryz.func18, Tryz.ntmps18
    go_wp2_with fail
    go_ret
    exact ⟨by rw [R.out]; rfl, Below.refl _ _⟩
  · have g0 : ¬ (l.length : Int) < 2 := by omega
    have HRD := hide (specReadDecimal_any ((⟨l.toArray⟩ : ByteArray).extract 1 (⟨l.toArray⟩ : ByteArray).size) (by rw [ByteArray.size_extract, hsz]; omega))
    rw [bl_rest] at HRD
    cases hrd : rdDec (l.drop 1) with
    | none =>
      have R := hide (show jnNumber l = -1 by unfold jnNumber; rw [if_neg h2, hrd])
      rw [hrd] at HRD
      go_enter Tryz.func18, Tryz.ntmps18
      go_wp2_with (go_at_call 38; refine (HRD.out _).mono ?_; unfold rdVal; rintro e w1 ⟨rfl, hb1⟩)
      go_ret
      exact ⟨by rw [R.out]; rfl, hb1⟩
    | some n =>
      rw [hrd] at HRD
      have hn := rdDec_some hrd
      have HJN := hide (specJournalName_any (n : Int) (by omega) (by omega))
      by_cases he : jnName n = l
      · have R := hide (show jnNumber l = (n : Int) by unfold jnNumber; rw [if_neg h2, hrd]; simp only; rw [if_pos he])
        rw [he] at HJN
        clear hrd he
        go_enter Tryz.func18, Tryz.ntmps18
        go_wp2_with (first
          | (go_at_call 38; refine (HRD.out _).mono ?_; unfold rdVal; rintro e w1 ⟨rfl, hb1⟩)
          | (go_at_call 20; refine (HJN.out _).mono ?_; rintro e w2 ⟨rfl, hb2⟩))
        go_ret
        exact ⟨by rw [R.out]; rfl, hb1.trans (hb2.mono hb1.size)⟩
      · have R := hide (show jnNumber l = -1 by unfold jnNumber; rw [if_neg h2, hrd]; simp only; rw [if_neg he])
        have hne : (jnName n == l) = false := by rw [beq_eq_false_iff_ne]; exact he
        clear hrd he
        go_enter Tryz.func18, Tryz.ntmps18
        go_wp2_with (first
          | (go_at_call 38; refine (HRD.out _).mono ?_; unfold rdVal; rintro e w1 ⟨rfl, hb1⟩)
          | (go_at_call 20; refine (HJN.out _).mono ?_; rintro e w2 ⟨rfl, hb2⟩))
        go_ret
        exact ⟨by rw [R.out]; rfl, hb1.trans (hb2.mono hb1.size)⟩

/-- A journal as a value. -/
abbrev jval (n t v s u : Int) (x : Value) : Value := .agg #[.int .i64 n, .int .i64 t, .int .i64 v, .int .i64 s, .int .i64 u, x]

theorem ok_false_n {j : JnV} (h : j.number < 0 ∨ 999 < j.number) : j.ok = false := by
  unfold JnV.ok
  rw [show jnIn j.number = false by simp [jnIn]; omega, Bool.false_and]
theorem ok_false_h {j : JnV} (h : j.term < 0 ∨ 100000 < j.term ∨ j.vote < 0 ∨ 4 < j.vote) : j.ok = false := by
  unfold JnV.ok
  rw [show jnHd j.term j.vote = false by simp [jnHd]; omega, Bool.false_and, Bool.and_false]
theorem ok_log {j : JnV} (h : 0 ≤ j.number ∧ j.number ≤ 999) (h2 : 0 ≤ j.term ∧ j.term ≤ 100000 ∧ 0 ≤ j.vote ∧ j.vote ≤ 4) : j.ok = lgOk j.s j.u j.es := by
  unfold JnV.ok
  rw [jnIn_iff.2 h, jnHd_iff.2 h2, Bool.true_and, Bool.true_and]

set_option maxHeartbeats 2000000 in
theorem specJournalOk_any (j : JnV) (oa : Option Addr) (n cap : Nat) (w : World) (hat : EntsAt w oa n cap j.es) (hw : ∀ f ∈ j.es, f.data.size ≤ 1048576) :
    Calls Tryz.prog 69 #[jval j.number j.term j.vote j.s j.u (.slice oa n cap)] w fun e w' => e = .returned (.bool j.ok) ∧ Below w.heap.size w w' := by
  have hb0 := (Below.refl w.heap.size w).alloc (Nat.le_refl _) (.cells #[.int .i64 j.number, .int .i64 j.term, .int .i64 j.vote, .int .i64 j.s, .int .i64 j.u, .slice oa n cap] 30)
  have HLO := hide (specLogOk_any j.s j.u oa n cap j.es _ (hat.below hb0) hw)
  have HB0 := hide hb0
  clear hat hw hb0
  by_cases c1 : 0 ≤ j.number ∧ j.number ≤ 999
  · by_cases c2 : 0 ≤ j.term ∧ j.term ≤ 100000
    · by_cases c3 : 0 ≤ j.vote ∧ j.vote ≤ 4
      · have R := hide (ok_log c1 ⟨c2.1, c2.2, c3⟩)
        go_enter Tryz.func69, Tryz.ntmps69
        go_wp2_with (go_at_call 37; refine (l01In_yes _ _ _ (by omega) (by omega) _).mono ?_; rintro e w1 ⟨rfl, rfl⟩)
        refine HLO.out.mono ?_
        rintro e w1 ⟨rfl, hb1⟩
        go_wp2_with fail
        go_ret
        exact ⟨by rw [R.out]; rfl, HB0.out.trans (hb1.mono (by simp))⟩
      · have R := hide (ok_false_h (j := j) (by omega))
        go_enter Tryz.func69, Tryz.ntmps69
        go_wp2_with (go_at_call 37; first | (refine (l01In_yes _ _ _ (by omega) (by omega) _).mono ?_; rintro e w1 ⟨rfl, rfl⟩) | (refine (l01In_no _ _ _ (by omega) _).mono ?_; rintro e w1 ⟨rfl, rfl⟩))
        go_ret
        exact ⟨by rw [R.out]; rfl, HB0.out⟩
    · have R := hide (ok_false_h (j := j) (by omega))
      go_enter Tryz.func69, Tryz.ntmps69
      go_wp2_with (go_at_call 37; first | (refine (l01In_yes _ _ _ (by omega) (by omega) _).mono ?_; rintro e w1 ⟨rfl, rfl⟩) | (refine (l01In_no _ _ _ (by omega) _).mono ?_; rintro e w1 ⟨rfl, rfl⟩))
      go_ret
      exact ⟨by rw [R.out]; rfl, HB0.out⟩
  · have R := hide (ok_false_n (j := j) (by omega))
    go_enter Tryz.func69, Tryz.ntmps69
    go_wp2_with (go_at_call 37; refine (l01In_no _ _ _ (by omega) _).mono ?_; rintro e w1 ⟨rfl, rfl⟩)
    go_ret
    exact ⟨by rw [R.out]; rfl, HB0.out⟩

theorem cat_hard (x : UInt8) (a b : Nat) : (⟨#[x]⟩ : ByteArray) ++ ⟨(varB a).toArray⟩ ++ ⟨(varB b).toArray⟩ = ⟨(twoB x a b).toArray⟩ := by
  apply ByteArray.ext
  simp [twoB]

theorem bl_mk7 (l : List UInt8) : bl ⟨l.toArray⟩ = l := rfl
theorem size_mk7 (l : List UInt8) : (⟨l.toArray⟩ : ByteArray).size = l.length := rfl

theorem specFrame_in (l : List UInt8) (h1 : 1 ≤ l.length) (h2 : l.length ≤ 9000) (w : World) :
    Calls Tryz.prog 44 #[.string ⟨l.toArray⟩] w fun e w' => e = .returned (.tuple #[.string ⟨(frameL l).toArray⟩, .bool true]) ∧ Below w.heap.size w w' := by
  have h := specFrame_any ⟨l.toArray⟩ (by rw [size_mk7]; omega) w
  rw [bl_mk7, frameVal_yes h1 h2] at h
  exact h

set_option maxHeartbeats 1000000 in
theorem l07Hard_any (t v : Int) (h : 0 ≤ t ∧ t ≤ 100000 ∧ 0 ≤ v ∧ v ≤ 4) (w : World) :
    Calls Tryz.prog 70 #[.int .i64 t, .int .i64 v] w fun e w' => e = .returned (.string ⟨(hardB t v).toArray⟩) ∧ Below w.heap.size w w' := by
  obtain ⟨t0, t1, v0, v1⟩ := h
  obtain ⟨T, rfl⟩ := Int.eq_ofNat_of_zero_le t0
  obtain ⟨V, rfl⟩ := Int.eq_ofNat_of_zero_le v0
  have C := cat_hard 72 T V
  have R := hide (show hardB (T : Int) (V : Int) = frameL (twoB 72 T V) from rfl)
  have h1 := varB_room T
  have h2 := varB_room V
  have hl := twoB_length 72 T V
  have HF := hide (specFrame_in (twoB 72 T V) hl.1 (by omega))
  generalize twoB 72 T V = L at C R hl HF
  go_enter Tryz.func70, Tryz.ntmps70
  go_wp2_with fail
  refine (l01Var_any T (by omega) _).mono ?_
  rintro e w1 ⟨rfl, hb1⟩
  go_wp2_with fail
  refine (l01Var_any V (by omega) _).mono ?_
  rintro e w2 ⟨rfl, hb2⟩
  go_wp2_with fail
  refine (HF.out _).mono ?_
  rintro e w3 ⟨rfl, hb3⟩
  go_wp2_with fail
  go_ret
  exact ⟨by rw [R.out]; rfl, (hb1.trans (hb2.mono hb1.size)).trans (hb3.mono (Nat.le_trans hb1.size hb2.size))⟩

end Go.Proofs.YthbgklmnmoclhaaGreatDoor

namespace Go.Proofs.YthbgklmnmoclhaaGreatDoor
open Go.RowKit P1 K
set_option linter.unusedVariables false
set_option linter.unusedSimpArgs false

/-- A reader at block g: its text, its place, and whether it was not of its form. -/
def RdC (w : World) (g : Nat) (s : ByteArray) (a : Nat) (b : Bool) : Prop :=
  a ≤ s.size ∧ w.heap[g]? = some (.cells #[.string s, .int .i64 (a : Int), .bool b] 106 (0, 0))

theorem RdC.lt {w : World} {g : Nat} {s : ByteArray} {a : Nat} {b : Bool} (h : RdC w g s a b) : g < w.heap.size := (Array.getElem?_eq_some_iff.1 h.2).1

theorem rdc_cells {w : World} {p : Nat} {v0 v1 v2 : Value} {e : TypeId} (hb : w.heap[p]? = some (.cells #[v0, v1, v2] e (0, 0))) :
    w.cell? ⟨p, 0, none⟩ = some v0 ∧ w.cell? ⟨p, 1, none⟩ = some v1 ∧ w.cell? ⟨p, 2, none⟩ = some v2 ∧ w.frozen? ⟨p, 0, none⟩ = false ∧ w.frozen? ⟨p, 1, none⟩ = false ∧ w.frozen? ⟨p, 2, none⟩ = false :=
  ⟨by rw [cell_of_row w p 0 _ _ _ hb]; rfl, by rw [cell_of_row w p 1 _ _ _ hb]; rfl, by rw [cell_of_row w p 2 _ _ _ hb]; rfl, by simp [World.frozen?, hb], by simp [World.frozen?, hb], by simp [World.frozen?, hb]⟩

theorem rdc_set {w : World} {p k : Nat} {cs : Array Value} {e : TypeId} (v : Value) (h : w.heap[p]? = some (.cells cs e (0, 0))) : (w.setCell ⟨p, k, none⟩ v).heap[p]? = some (.cells (cs.setIfInBounds k v) e (0, 0)) := by
  simp only [World.setCell, Array.getElem?_modify, if_true, h]
  rfl

theorem rdc_grown (w : World) (p k : Nat) (v : Value) : w.grownBy (w.setCell ⟨p, k, none⟩ v) (some p) :=
  ⟨rfl, rfl, rfl, by simp [World.setCell], fun j hj hne => Below.heap_setCell _ _ _ _ (fun e => hne (by rw [e]))⟩

theorem RdC.kept {w w' : World} {g : Nat} {s : ByteArray} {a : Nat} {b : Bool} (h : RdC w g s a b) (hb : w'.heap[g]? = w.heap[g]?) : RdC w' g s a b := ⟨h.1, hb.trans h.2⟩

theorem grown_drewN {w w' : World} {r : Option Nat} (h : w.grownBy w' r) (q : Nat) : w.grownBy (w'.drewN q) r :=
  ⟨h.os, h.tape, h.output, h.size, h.block⟩

/-- What l05Take gives: the text, the new place, and whether it was not of its form. -/
def takeV (s : ByteArray) (a : Nat) (b : Bool) (n : Nat) : ByteArray × Nat × Bool :=
  if b = false ∧ a + n ≤ s.size then (s.extract a (a + n), a + n, false) else (⟨#[]⟩, a, true)

set_option maxHeartbeats 1000000 in
theorem l05Take_any (g : Nat) (s : ByteArray) (hs : s.size ≤ 1048576) (a : Nat) (b : Bool) (n : Nat) (hn : n ≤ 1000000000) (w : World) (hc : RdC w g s a b) :
    Calls Tryz.prog 61 #[.pointer (some ⟨g, 0, none⟩), .int .i64 (n : Int)] w fun e w' =>
      e = .returned (.string (takeV s a b n).1) ∧ RdC w' g s (takeV s a b n).2.1 (takeV s a b n).2.2 ∧ w.grownBy w' (some g) := by
  obtain ⟨ha, hblk⟩ := hc
  obtain ⟨c0, c1, c2, z0, z1, z2⟩ := rdc_cells hblk
  have HB := hide hblk
  clear hblk
  have hwr : IntKind.i64.wrap ((s.size : Int) - (a : Int)) = (s.size : Int) - (a : Int) := by rw [IntKind.wrap_i64]; omega
  cases b with
  | true =>
    have hv : takeV s a true n = (⟨#[]⟩, a, true) := by simp [takeV]
    rw [hv]
    clear hv
    go_enter Tryz.func61, Tryz.ntmps61
    go_wp2_with fail
    go_quiet (fail)
    go_wp2_with fail
    go_ret
    exact ⟨rfl, ⟨ha, rdc_set (w := w.drewN _) (k := 2) (.bool true) HB.out⟩, grown_trans (grown_drewN (grown_below (Below.refl _ _)) _) (rdc_grown _ g 2 _)⟩
  | false =>
    by_cases hfit : a + n ≤ s.size
    · have hv : takeV s a false n = (s.extract a (a + n), a + n, false) := by simp [takeV, hfit]
      rw [hv]
      clear hv
      have g1 : decide ((s.size : Int) - (a : Int) < (n : Int)) = false := by simp; omega
      have hw2 : IntKind.i64.wrap ((a : Int) + (n : Int) - (n : Int)) = (a : Int) := by rw [IntKind.wrap_i64]; omega
      have hw3 : (a : Int) + (n : Int) - (n : Int) = (a : Int) := by omega
      have hsl : ∀ wx, (Instr.slice 9 (.string s) (some (.int .i64 (a : Int))) (some (.int .i64 ((a : Int) + (n : Int)))) none).run Tryz.prog wx = .ok (.string (s.extract a (a + n))) wx :=
        fun wx => run_slice_string (P := Tryz.prog) (w := wx) 9 s .i64 .i64 (a : Int) ((a : Int) + (n : Int)) Tryz.underlying9 (by omega) (by omega) (by omega)
      go_enter Tryz.func61, Tryz.ntmps61
      go_wp2_with fail
      go_quiet (fail)
      go_wp2_with fail
      have hb2 := rdc_set (w := w.drewN nq) (k := 1) (.int .i64 ((a : Int) + (n : Int))) HB.out
      have hg2 := rdc_grown (w.drewN nq) g 1 (.int .i64 ((a : Int) + (n : Int)))
      obtain ⟨w2, hw2'⟩ : ∃ w2, (w.drewN nq).setCell ⟨g, 1, none⟩ (.int .i64 ((a : Int) + (n : Int))) = w2 := ⟨_, rfl⟩
      rw [hw2'] at hb2 hg2 ⊢
      have hb2' : w2.heap[g]? = some (.cells #[.string s, .int .i64 ((a : Int) + (n : Int)), .bool false] 106 (0, 0)) := hb2
      clear hw2' hb2 c0 c1 c2 z0 z1 z2
      obtain ⟨c0, c1, c2, z0, z1, z2⟩ := rdc_cells hb2'
      have HB2 := hide hb2'
      have HG2 := hide (grown_trans (grown_drewN (grown_below (Below.refl _ _)) nq) hg2)
      clear hb2' hg2
      go_quiet (fail)
      go_wp2_with fail
      go_ret
      exact ⟨rfl, ⟨hfit, HB2.out⟩, grown_drewN HG2.out _⟩
    · have hv : takeV s a false n = (⟨#[]⟩, a, true) := by simp [takeV, hfit]
      rw [hv]
      clear hv
      have g1 : decide ((s.size : Int) - (a : Int) < (n : Int)) = true := by simp; omega
      go_enter Tryz.func61, Tryz.ntmps61
      go_wp2_with fail
      go_quiet (fail)
      go_wp2_with fail
      go_ret
      exact ⟨rfl, ⟨ha, rdc_set (w := w.drewN _) (k := 2) (.bool true) HB.out⟩, grown_trans (grown_drewN (grown_below (Below.refl _ _)) _) (rdc_grown _ g 2 _)⟩

/-- What l05Var gives: the number, the new place, and whether it was not of its form. -/
def varV (s : ByteArray) (a : Nat) (b : Bool) : Nat × Nat × Bool :=
  match b, rdGo 5 [] ((bl s).drop a) with
  | false, some (v, c) => (v, a + c, false)
  | _, _ => (0, a, true)

set_option maxHeartbeats 1000000 in
theorem l05Var_any (g : Nat) (s : ByteArray) (hs : s.size ≤ 1048576) (a : Nat) (b : Bool) (w : World) (hc : RdC w g s a b) :
    Calls Tryz.prog 62 #[.pointer (some ⟨g, 0, none⟩)] w fun e w' =>
      e = .returned (.int .i64 ((varV s a b).1 : Int)) ∧ RdC w' g s (varV s a b).2.1 (varV s a b).2.2 ∧ w.grownBy w' (some g) := by
  have hgl := hc.lt
  obtain ⟨ha, hblk⟩ := hc
  obtain ⟨c0, c1, c2, z0, z1, z2⟩ := rdc_cells hblk
  have HB := hide hblk
  clear hblk
  cases hrd : rdGo 5 [] ((bl s).drop a) with
  | none =>
    have hv : varV s a b = (0, a, true) := by unfold varV; rw [hrd]; cases b <;> rfl
    rw [hv]
    have HRD := hide hrd
    clear hv hrd
    go_enter Tryz.func62, Tryz.ntmps62
    go_wp2_with fail
    go_region_held3 (fun w' => w'.cell? ⟨g, 0, none⟩ = some (.string s) ∧ w'.cell? ⟨g, 1, none⟩ = some (.int .i64 (a : Int))) (first | go_keep | exact ⟨(hb1.cell (by simpa using hgl)).trans c0, (hb1.cell (by simpa using hgl)).trans c1⟩)
      (first | (go_at_call 60; refine (specReadVar_any s hs a ha _).mono ?_; rw [HRD.out]; unfold rvVal; rintro e w1 ⟨rfl, hb1⟩))
    have hk1 : w1.heap[g]? = some (.cells #[.string s, .int .i64 (a : Int), .bool b] 106 (0, 0)) := (hb1.block g (by simpa using hgl)).trans HB.out
    have HG1 := hide (grown_trans (grown_drewN (grown_below (row := some g) (Below.refl _ w)) 1) (grown_below hb1))
    clear c0 c1 c2 z0 z1 z2
    obtain ⟨c0, c1, c2, z0, z1, z2⟩ := rdc_cells hk1
    have HB1 := hide hk1
    clear hk1 hb1
    cases b with
    | true =>
      go_wp2_with fail
      go_ret
      exact ⟨rfl, ⟨ha, rdc_set (w := w1) (k := 2) (.bool true) HB1.out⟩, grown_trans HG1.out (rdc_grown _ g 2 _)⟩
    | false =>
      go_wp2_with fail
      go_ret
      exact ⟨rfl, ⟨ha, rdc_set (w := w1) (k := 2) (.bool true) HB1.out⟩, grown_trans HG1.out (rdc_grown _ g 2 _)⟩
  | some r =>
    obtain ⟨v, c⟩ := r
    have hbd := rdGo_some 5 [] _ v c hrd
    have hlen : ((bl s).drop a).length = s.size - a := by rw [List.length_drop, bl_length]
    rw [hlen] at hbd
    simp only [List.length_nil] at hbd
    obtain ⟨d1, d2, d3, d4⟩ := hbd
    clear hlen
    have HRD := hide hrd
    have hv : varV s a b = if b = false then (v, a + c, false) else (0, a, true) := by unfold varV; rw [hrd]; cases b <;> rfl
    rw [hv]
    clear hrd hv
    go_enter Tryz.func62, Tryz.ntmps62
    go_wp2_with fail
    go_region_held3 (fun w' => w'.cell? ⟨g, 0, none⟩ = some (.string s) ∧ w'.cell? ⟨g, 1, none⟩ = some (.int .i64 (a : Int))) (first | go_keep | exact ⟨(hb1.cell (by simpa using hgl)).trans c0, (hb1.cell (by simpa using hgl)).trans c1⟩)
      (first | (go_at_call 60; refine (specReadVar_any s hs a ha _).mono ?_; rw [HRD.out]; unfold rvVal; rintro e w1 ⟨rfl, hb1⟩))
    have hk1 : w1.heap[g]? = some (.cells #[.string s, .int .i64 (a : Int), .bool b] 106 (0, 0)) := (hb1.block g (by simpa using hgl)).trans HB.out
    have HG1 := hide (grown_trans (grown_drewN (grown_below (row := some g) (Below.refl _ w)) 1) (grown_below hb1))
    clear c0 c1 c2 z0 z1 z2
    obtain ⟨c0, c1, c2, z0, z1, z2⟩ := rdc_cells hk1
    have HB1 := hide hk1
    clear hk1 hb1
    cases b with
    | true =>
      go_wp2_with fail
      go_ret
      exact ⟨rfl, ⟨ha, rdc_set (w := w1) (k := 2) (.bool true) HB1.out⟩, grown_trans HG1.out (rdc_grown _ g 2 _)⟩
    | false =>
      go_wp2_with fail
      go_ret
      refine ⟨rfl, ⟨by show a + c ≤ s.size; omega, ?_⟩, grown_trans HG1.out (rdc_grown _ g 1 _)⟩
      have := rdc_set (w := w1) (k := 1) (.int .i64 ((a : Int) + (c : Int))) HB1.out
      simpa using this

end Go.Proofs.YthbgklmnmoclhaaGreatDoor

namespace Go.Proofs.YthbgklmnmoclhaaGreatDoor
open Go.RowKit P1 P9 K
attribute [local go_sem ↓] Go.wp_at_zero Go.wp_at_succ
set_option linter.unusedVariables false
set_option linter.unusedSimpArgs false

/-- The results of EntryText. -/
def etVal (i : Int) (e : EntV) : Value :=
  if (e.ok && indexOk i) = true then .tuple #[.string ⟨(entryB i.toNat e.term.toNat e.kind.toNat (bl e.data)).toArray⟩, .bool true] else .tuple #[.string ⟨#[]⟩, .bool false]

theorem etVal_no {i : Int} {e : EntV} (h : (e.ok && indexOk i) = false) : etVal i e = .tuple #[.string ⟨#[]⟩, .bool false] := by simp [etVal, h]
theorem etVal_yes {i : Int} {e : EntV} (h : (e.ok && indexOk i) = true) : etVal i e = .tuple #[.string ⟨(entryB i.toNat e.term.toNat e.kind.toNat (bl e.data)).toArray⟩, .bool true] := by simp [etVal, h]

theorem ent_cat (a b : List UInt8) (k : Nat) (s : ByteArray) : (⟨#[69]⟩ : ByteArray) ++ ⟨a.toArray⟩ ++ ⟨b.toArray⟩ ++ ⟨#[UInt8.ofNat k]⟩ ++ s = ⟨(69 :: (a ++ (b ++ (UInt8.ofNat k :: bl s)))).toArray⟩ := by
  apply ByteArray.ext
  simp [bl]

theorem cat_facts (P : Program) (I T : Nat) (kb : UInt8) (s : ByteArray) (hs : s.size ≤ 1048576) : ∃ A1 A2 A3 A4 : ByteArray,
    (∀ wx, (Op.stringOp .add (⟨#[69]⟩ : ByteArray) ⟨(varB I).toArray⟩).run P wx = .ok (.string A1) wx) ∧ (∀ wx, (Op.stringOp .add A1 ⟨(varB T).toArray⟩).run P wx = .ok (.string A2) wx) ∧
    (∀ wx, (Op.stringOp .add A2 ⟨#[kb]⟩).run P wx = .ok (.string A3) wx) ∧ (∀ wx, (Op.stringOp .add A3 s).run P wx = .ok (.string A4) wx) ∧
    A4 = ⟨(69 :: (varB I ++ (varB T ++ (kb :: bl s)))).toArray⟩ := by
  have hl1 : (⟨(varB I).toArray⟩ : ByteArray).size ≤ 10 := varB_length I
  have hl2 : (⟨(varB T).toArray⟩ : ByteArray).size ≤ 10 := varB_length T
  have h0 : (⟨#[69]⟩ : ByteArray).size = 1 := rfl
  have h3 : (⟨#[kb]⟩ : ByteArray).size = 1 := rfl
  refine ⟨_, _, _, _, fun wx => run_string_add_sum _ _ _ (by omega), fun wx => run_string_add_sum _ _ _ (by rw [ByteArray.size_append]; omega), fun wx => run_string_add_sum _ _ _ (by rw [ByteArray.size_append, ByteArray.size_append]; omega), fun wx => run_string_add_sum _ _ _ (by rw [ByteArray.size_append, ByteArray.size_append, ByteArray.size_append]; omega), ?_⟩
  apply ByteArray.ext
  simp [bl]

theorem m_no (wx : World) : (method 342 193 (.agg #[]) "loop.example/g00127/impl.data").run Tryz.prog wx = .ok (181, .agg #[]) wx := by kernel_rfl
theorem m_conf (g n cap : Nat) (wx : World) : (method 342 194 (.slice (some ⟨g, 0, none⟩) n cap) "loop.example/g00127/impl.data").run Tryz.prog wx = .ok (182, .slice (some ⟨g, 0, none⟩) n cap) wx := by kernel_rfl
theorem m_command (s : ByteArray) (wx : World) : (method 342 195 (.string s) "loop.example/g00127/impl.data").run Tryz.prog wx = .ok (184, .string s) wx := by kernel_rfl

theorem one_cell {w w' : World} {u : Value} {t : TypeId} (hb : Below (w.alloc (.cells #[u] t)).drew.heap.size (w.alloc (.cells #[u] t)).drew w') : w'.cell? ⟨w.heap.size, 0, none⟩ = some u :=
  (hb.cell (by simp)).trans (by simp)

theorem conv_one (wx : World) (g : Nat) (b : UInt8) (hg : wx.cell? ⟨g, 0, none⟩ = some (.int .u8 (b.toNat : Int))) :
    (convert 101 9 (.slice (some ⟨g, 0, none⟩) 1 1)).run Tryz.prog wx = .ok (.string ⟨#[b]⟩) wx := by
  refine run_convert_bytes_back wx 101 9 5 ⟨g, 0, none⟩ 1 [b] Tryz.underlying101 Tryz.underlying5 Tryz.underlying9 ?_
  intro j hj
  simp at hj
  subst hj
  simpa [Addr.add] using hg

theorem confData_bl (g cap : Nat) (s : ByteArray) (w : World) (hat : IntsAt w (some ⟨g, 0, none⟩) s.size cap (confZ (bl s))) (hok : confOk (confZ (bl s)) = true) :
    Calls Tryz.prog 182 #[.slice (some ⟨g, 0, none⟩) s.size cap] w fun e w' => e = .returned (.string s) ∧ Below w.heap.size w w' := by
  have := confData_any (some ⟨g, 0, none⟩) s.size cap (confZ (bl s)) w hat hok
  rw [confB_confZ] at this
  exact this

set_option maxHeartbeats 4000000 in
theorem implEntryText_any (i : Int) (e : EntV) (hs : e.data.size ≤ 1048576) (w : World) :
    Calls Tryz.prog 122 #[.int .i64 i, eval e] w fun r w' => r = .returned (etVal i e) ∧ Below w.heap.size w w' := by
  cases hok : e.ok with
  | false =>
    rw [etVal_no (by rw [hok]; rfl)]
    have HOK := hide hok
    clear hok
    obtain ⟨t, k, s⟩ := e
    simp only [eval] at hs ⊢
    have HB0 := hide ((Below.refl w.heap.size w).alloc (Nat.le_refl _) (.cells #[.int .i64 t, .int .i64 k, .string s] 111))
    go_enter Tryz.func122, Tryz.ntmps122
    go_wp2_with fail
    refine (implEntryOk_any ⟨t, k, s⟩ hs _).mono ?_
    rw [HOK.out]
    rintro r w1 ⟨rfl, hb1⟩
    go_wp2_with fail
    go_ret2
    exact ⟨rfl, HB0.out.trans (hb1.mono (by simp))⟩
  | true =>
    by_cases hi : 1 ≤ i ∧ i ≤ 1000000
    · obtain ⟨hi1, hi2⟩ := hi
      rw [etVal_yes (by rw [hok]; simp [indexOk, hi1, hi2])]
      obtain ⟨t, k, s⟩ := e
      simp only [eval] at hs ⊢
      have HB0 := hide ((Below.refl w.heap.size w).alloc (Nat.le_refl _) (.cells #[.int .i64 t, .int .i64 k, .string s] 111))
      obtain ⟨I, rfl⟩ := Int.eq_ofNat_of_zero_le (show 0 ≤ i by omega)
      have hok' := hok
      simp only [EntV.ok, entryOk, termOk, Bool.and_eq_true, decide_eq_true_eq] at hok'
      obtain ⟨hck, ht0, ht1⟩ := hok'
      obtain ⟨T, rfl⟩ := Int.eq_ofNat_of_zero_le ht0
      have HOK := hide hok
      have HCK := hide hck
      clear hok hck
      have hI : I ≤ 1000000000 := by omega
      have hT : T ≤ 1000000000 := by omega
      go_enter Tryz.func122, Tryz.ntmps122
      go_wp2_with fail
      refine (implEntryOk_any ⟨T, k, s⟩ hs _).mono ?_
      rw [HOK.out]
      rintro r w1 ⟨rfl, hb1⟩
      have c0 : w1.cell? ⟨w.heap.size, 0, none⟩ = some (.int .i64 T) := (hb1.cell (by simp)).trans (by simp)
      have c1 : w1.cell? ⟨w.heap.size, 1, none⟩ = some (.int .i64 k) := (hb1.cell (by simp)).trans (by simp)
      have c2 : w1.cell? ⟨w.heap.size, 2, none⟩ = some (.string s) := (hb1.cell (by simp)).trans (by simp)
      have s1 : w.heap.size < w1.heap.size := by have := hb1.size; simp at this; omega
      have B1 := hide (HB0.out.trans (hb1.mono (by simp)))
      clear hb1
      go_wp2_with (go_at_call 75; refine (within_yes _ _ _ (by omega) (by omega) _).mono ?_; rintro e w' ⟨rfl, rfl⟩)
      refine (contentOf_any k s hs _).mono ?_
      rw [HCK.out]
      rintro r w2 ⟨v, rfl, hv, hb2⟩
      have hv := hv rfl
      have d0 := (hb2.cell (p := ⟨w.heap.size, 0, none⟩) s1).trans c0
      have s2 : w.heap.size < w2.heap.size := by have := hb2.size; omega
      have B2 := hide (B1.out.trans (hb2.mono (by omega)))
      have HV := hide hv
      clear hb2 hv c0 c1 c2
      go_wp2_with fail
      refine (implVarText_yes I hI _).mono ?_
      rintro r w3 ⟨rfl, hb3⟩
      have e0 := (hb3.cell (p := ⟨w.heap.size, 0, none⟩) s2).trans d0
      have B3 := hide (B2.out.trans (hb3.mono (by omega)))
      have HV3 := hide (HV.out.below hb3)
      clear hb3 d0
      go_wp2_with fail
      refine (implVarText_yes T hT _).mono ?_
      rintro r w4 ⟨rfl, hb4⟩
      have B4 := hide (B3.out.trans (hb4.mono (by have := B3.out.size; omega)))
      have hv4 := HV3.out.below hb4
      clear hb4 e0 HV HV3
      have hvk := hv4
      rcases hv4 with ⟨rfl, rfl, rfl⟩ | ⟨rfl, hcf, g, cap, rfl, hat⟩ | ⟨rfl, h120, rfl⟩
      · have HVK := hide hvk
        have h4 := B4.out.size
        clear hvk
        obtain ⟨A1, A2, A3, A4, f1, f2, f3, f4, hA⟩ := cat_facts Tryz.prog I T 1 ⟨#[]⟩ hs
        have HA := hide hA
        clear hA
        have fc := fun wx g hg => conv_one wx g 1 hg
        have fm := m_no
        go_wp2_with fail
        go_region_law (first
          | (rw [if_pos (by rfl)]; go_simp; go_at_call 114; refine (kindOf_any 1 ⟨#[]⟩ _ _ (HVK.out.below (Below.refl _ _).drew)).mono ?_; rintro r w5 ⟨rfl, rfl⟩)
          | (rw [if_pos (by rfl)]; go_simp; go_at_call 181; refine (noData_any _).mono ?_; rintro r w6 ⟨rfl, hb6⟩; try (have k6 := one_cell hb6)))
        all_goals
          go_wp2_with fail
          go_ret2
          refine ⟨by rw [HA.out]; rfl, ?_⟩
          first
            | exact (B4.out.alloc h4 _).drew.trans (hb6.mono (by simp; omega))
            | exact (B4.out.drew.trans (hb6.mono (by simp; omega))).alloc (by have := hb6.size; simp at this; omega) _
      · have HVK := hide hvk
        have HAT := hide hat
        have h4 := B4.out.size
        clear hvk hat
        obtain ⟨A1, A2, A3, A4, f1, f2, f3, f4, hA⟩ := cat_facts Tryz.prog I T 2 s hs
        have HA := hide hA
        clear hA
        have fc := fun wx g hg => conv_one wx g 2 hg
        have fm := m_conf g s.size cap
        go_wp2_with fail
        go_region_law (first
          | (rw [if_pos (by rfl)]; go_simp; go_at_call 114; refine (kindOf_any 2 s _ _ (HVK.out.below (Below.refl _ _).drew)).mono ?_; rintro r w5 ⟨rfl, rfl⟩)
          | (rw [if_pos (by rfl)]; go_simp; go_at_call 182; (first | (refine (confData_bl g cap s _ (HAT.out.below (Below.refl _ _).drew) hcf).mono ?_) | (refine (confData_bl g cap s _ (HAT.out.below ((Below.refl _ _).alloc (Nat.le_refl _) _).drew) hcf).mono ?_)); rintro r w6 ⟨rfl, hb6⟩; try (have k6 := one_cell hb6)))
        all_goals
          go_wp2_with fail
          go_ret2
          refine ⟨by rw [HA.out]; rfl, ?_⟩
          first
            | exact (B4.out.alloc h4 _).drew.trans (hb6.mono (by simp; omega))
            | exact (B4.out.drew.trans (hb6.mono (by simp; omega))).alloc (by have := hb6.size; simp at this; omega) _
      · have HVK := hide hvk
        have h4 := B4.out.size
        clear hvk
        obtain ⟨A1, A2, A3, A4, f1, f2, f3, f4, hA⟩ := cat_facts Tryz.prog I T 3 s hs
        have HA := hide hA
        clear hA
        have fc := fun wx g hg => conv_one wx g 3 hg
        have fm := m_command s
        go_wp2_with fail
        go_region_law (first
          | (rw [if_pos (by rfl)]; go_simp; go_at_call 114; refine (kindOf_any 3 s _ _ (HVK.out.below (Below.refl _ _).drew)).mono ?_; rintro r w5 ⟨rfl, rfl⟩)
          | (rw [if_pos (by rfl)]; go_simp; go_at_call 184; refine (commandData_any s hs _).mono ?_; rintro r w6 ⟨rfl, hb6⟩; try (have k6 := one_cell hb6)))
        all_goals
          go_wp2_with fail
          go_ret2
          refine ⟨by rw [HA.out]; rfl, ?_⟩
          first
            | exact (B4.out.alloc h4 _).drew.trans (hb6.mono (by simp; omega))
            | exact (B4.out.drew.trans (hb6.mono (by simp; omega))).alloc (by have := hb6.size; simp at this; omega) _
    · rw [etVal_no (by rw [hok]; simp [indexOk]; omega)]
      have HOK := hide hok
      clear hok
      obtain ⟨t, k, s⟩ := e
      simp only [eval] at hs ⊢
      have HB0 := hide ((Below.refl w.heap.size w).alloc (Nat.le_refl _) (.cells #[.int .i64 t, .int .i64 k, .string s] 111))
      go_enter Tryz.func122, Tryz.ntmps122
      go_wp2_with fail
      refine (implEntryOk_any ⟨t, k, s⟩ hs _).mono ?_
      rw [HOK.out]
      rintro r w1 ⟨rfl, hb1⟩
      go_wp2_with (go_at_call 75; refine (within_no _ _ _ (by omega) _).mono ?_; rintro e w' ⟨rfl, rfl⟩)
      go_ret2
      exact ⟨rfl, HB0.out.trans (hb1.mono (by simp))⟩

end Go.Proofs.YthbgklmnmoclhaaGreatDoor
