/-
  Walks of chapter 5: the reader of a text (l05Cur): l05Take, l05Var.
  Walks of chapter 5: EntryText of the program.
-/
import Derived.Test.YthbgklmnmoclhaaDoorPack20
import Derived.Deep.RegionHeld3
import Derived.Deep.QuietTactic
import Derived.BigQuiet
import Derived.WalkSmall
import Derived.Test.YthbgklmnmoclhaaDoorPack12
import Derived.Deep.RegionLaw
import Derived.Deep.DrawnRows
namespace Go.Proofs.YthbgklmnmoclhaaDoor
open Go.RowKit P1 K
set_option linter.unusedVariables false
set_option linter.unusedSimpArgs false

/-- A reader at block g: its text, its place, and whether it was not of its form. -/
def RdC (w : World) (g : Nat) (s : ByteArray) (a : Nat) (b : Bool) : Prop :=
  a ≤ s.size ∧ w.heap[g]? = some (.cells #[.string s, .int .i64 (a : Int), .bool b] 89 (0, 0))

theorem RdC.lt {w : World} {g : Nat} {s : ByteArray} {a : Nat} {b : Bool} (h : RdC w g s a b) : g < w.heap.size := (Array.getElem?_eq_some_iff.1 h.2).1

theorem rdc_cells {w : World} {p : Nat} {v0 v1 v2 : Value} {e : TypeId} (hb : w.heap[p]? = some (.cells #[v0, v1, v2] e (0, 0))) :
    w.cell? ⟨p, 0, none⟩ = some v0 ∧ w.cell? ⟨p, 1, none⟩ = some v1 ∧ w.cell? ⟨p, 2, none⟩ = some v2 ∧ w.frozen? ⟨p, 0, none⟩ = false ∧ w.frozen? ⟨p, 1, none⟩ = false ∧ w.frozen? ⟨p, 2, none⟩ = false :=
  ⟨by rw [cell_of_row w p 0 _ _ _ hb]; rfl, by rw [cell_of_row w p 1 _ _ _ hb]; rfl, by rw [cell_of_row w p 2 _ _ _ hb]; rfl, by simp [World.frozen?, hb], by simp [World.frozen?, hb], by simp [World.frozen?, hb]⟩

theorem rdc_set {w : World} {p k : Nat} {cs : Array Value} {e : TypeId} (v : Value) (h : w.heap[p]? = some (.cells cs e (0, 0))) : (w.setCell ⟨p, k, none⟩ v).heap[p]? = some (.cells (cs.setIfInBounds k v) e (0, 0)) := by
  simp only [World.setCell, Array.getElem?_modify, if_true, h]
  rfl

theorem rdc_grown (w : World) (p k : Nat) (v : Value) : w.grownBy (w.setCell ⟨p, k, none⟩ v) (some p) :=
  ⟨rfl, rfl, rfl, by simp [World.setCell], fun j hj hne => Below.heap_setCell _ _ _ _ (fun e => hne (by rw [e]))⟩

theorem RdC.kept {w w' : World} {g : Nat} {s : ByteArray} {a : Nat} {b : Bool} (h : RdC w g s a b) (hb : w'.heap[g]? = w.heap[g]?) : RdC w' g s a b := ⟨h.1, hb.trans h.2⟩

theorem grown_drewN {w w' : World} {r : Option Nat} (h : w.grownBy w' r) (q : Nat) : w.grownBy (w'.drewN q) r :=
  ⟨h.os, h.tape, h.output, h.size, h.block⟩

/-- What l05Take gives: the text, the new place, and whether it was not of its form. -/
def takeV (s : ByteArray) (a : Nat) (b : Bool) (n : Nat) : ByteArray × Nat × Bool :=
  if b = false ∧ a + n ≤ s.size then (s.extract a (a + n), a + n, false) else (⟨#[]⟩, a, true)

set_option maxHeartbeats 1000000 in
theorem l05Take_any (g : Nat) (s : ByteArray) (hs : s.size ≤ 1048576) (a : Nat) (b : Bool) (n : Nat) (hn : n ≤ 1000000000) (w : World) (hc : RdC w g s a b) :
    Calls Tryd.prog 57 #[.pointer (some ⟨g, 0, none⟩), .int .i64 (n : Int)] w fun e w' =>
      e = .returned (.string (takeV s a b n).1) ∧ RdC w' g s (takeV s a b n).2.1 (takeV s a b n).2.2 ∧ w.grownBy w' (some g) := by
  obtain ⟨ha, hblk⟩ := hc
  obtain ⟨c0, c1, c2, z0, z1, z2⟩ := rdc_cells hblk
  have HB := hide hblk
  clear hblk
  have hwr : IntKind.i64.wrap ((s.size : Int) - (a : Int)) = (s.size : Int) - (a : Int) := by rw [IntKind.wrap_i64]; omega
  cases b with
  | true =>
    have hv : takeV s a true n = (⟨#[]⟩, a, true) := by simp [takeV]
    rw [hv]
    clear hv
    go_enter Tryd.func57, Tryd.ntmps57
    go_wp2_with fail
    go_quiet (fail)
    go_wp2_with fail
    go_ret
    exact ⟨rfl, ⟨ha, rdc_set (w := w.drewN _) (k := 2) (.bool true) HB.out⟩, grown_trans (grown_drewN (grown_below (Below.refl _ _)) _) (rdc_grown _ g 2 _)⟩
  | false =>
    by_cases hfit : a + n ≤ s.size
    · have hv : takeV s a false n = (s.extract a (a + n), a + n, false) := by simp [takeV, hfit]
      rw [hv]
      clear hv
      have g1 : decide ((s.size : Int) - (a : Int) < (n : Int)) = false := by simp; omega
      have hw2 : IntKind.i64.wrap ((a : Int) + (n : Int) - (n : Int)) = (a : Int) := by rw [IntKind.wrap_i64]; omega
      have hw3 : (a : Int) + (n : Int) - (n : Int) = (a : Int) := by omega
      have hsl : ∀ wx, (Instr.slice 9 (.string s) (some (.int .i64 (a : Int))) (some (.int .i64 ((a : Int) + (n : Int)))) none).run Tryd.prog wx = .ok (.string (s.extract a (a + n))) wx :=
        fun wx => run_slice_string (P := Tryd.prog) (w := wx) 9 s .i64 .i64 (a : Int) ((a : Int) + (n : Int)) Tryd.underlying9 (by omega) (by omega) (by omega)
      go_enter Tryd.func57, Tryd.ntmps57
      go_wp2_with fail
      go_quiet (fail)
      go_wp2_with fail
      have hb2 := rdc_set (w := w.drewN nq) (k := 1) (.int .i64 ((a : Int) + (n : Int))) HB.out
      have hg2 := rdc_grown (w.drewN nq) g 1 (.int .i64 ((a : Int) + (n : Int)))
      obtain ⟨w2, hw2'⟩ : ∃ w2, (w.drewN nq).setCell ⟨g, 1, none⟩ (.int .i64 ((a : Int) + (n : Int))) = w2 := ⟨_, rfl⟩
      rw [hw2'] at hb2 hg2 ⊢
      have hb2' : w2.heap[g]? = some (.cells #[.string s, .int .i64 ((a : Int) + (n : Int)), .bool false] 89 (0, 0)) := hb2
      clear hw2' hb2 c0 c1 c2 z0 z1 z2
      obtain ⟨c0, c1, c2, z0, z1, z2⟩ := rdc_cells hb2'
      have HB2 := hide hb2'
      have HG2 := hide (grown_trans (grown_drewN (grown_below (Below.refl _ _)) nq) hg2)
      clear hb2' hg2
      go_quiet (fail)
      go_wp2_with fail
      go_ret
      exact ⟨rfl, ⟨hfit, HB2.out⟩, grown_drewN HG2.out _⟩
    · have hv : takeV s a false n = (⟨#[]⟩, a, true) := by simp [takeV, hfit]
      rw [hv]
      clear hv
      have g1 : decide ((s.size : Int) - (a : Int) < (n : Int)) = true := by simp; omega
      go_enter Tryd.func57, Tryd.ntmps57
      go_wp2_with fail
      go_quiet (fail)
      go_wp2_with fail
      go_ret
      exact ⟨rfl, ⟨ha, rdc_set (w := w.drewN _) (k := 2) (.bool true) HB.out⟩, grown_trans (grown_drewN (grown_below (Below.refl _ _)) _) (rdc_grown _ g 2 _)⟩

/-- What l05Var gives: the number, the new place, and whether it was not of its form. -/
def varV (s : ByteArray) (a : Nat) (b : Bool) : Nat × Nat × Bool :=
  match b, rdGo 5 [] ((bl s).drop a) with
  | false, some (v, c) => (v, a + c, false)
  | _, _ => (0, a, true)

set_option maxHeartbeats 1000000 in
theorem l05Var_any (g : Nat) (s : ByteArray) (hs : s.size ≤ 1048576) (a : Nat) (b : Bool) (w : World) (hc : RdC w g s a b) :
    Calls Tryd.prog 58 #[.pointer (some ⟨g, 0, none⟩)] w fun e w' =>
      e = .returned (.int .i64 ((varV s a b).1 : Int)) ∧ RdC w' g s (varV s a b).2.1 (varV s a b).2.2 ∧ w.grownBy w' (some g) := by
  have hgl := hc.lt
  obtain ⟨ha, hblk⟩ := hc
  obtain ⟨c0, c1, c2, z0, z1, z2⟩ := rdc_cells hblk
  have HB := hide hblk
  clear hblk
  cases hrd : rdGo 5 [] ((bl s).drop a) with
  | none =>
    have hv : varV s a b = (0, a, true) := by unfold varV; rw [hrd]; cases b <;> rfl
    rw [hv]
    have HRD := hide hrd
    clear hv hrd
    go_enter Tryd.func58, Tryd.ntmps58
    go_wp2_with fail
    go_region_held3 (fun w' => w'.cell? ⟨g, 0, none⟩ = some (.string s) ∧ w'.cell? ⟨g, 1, none⟩ = some (.int .i64 (a : Int))) (first | go_keep | exact ⟨(hb1.cell (by simpa using hgl)).trans c0, (hb1.cell (by simpa using hgl)).trans c1⟩)
      (first | (go_at_call 56; refine (specReadVar_any s hs a ha _).mono ?_; rw [HRD.out]; unfold rvVal; rintro e w1 ⟨rfl, hb1⟩))
    have hk1 : w1.heap[g]? = some (.cells #[.string s, .int .i64 (a : Int), .bool b] 89 (0, 0)) := (hb1.block g (by simpa using hgl)).trans HB.out
    have HG1 := hide (grown_trans (grown_drewN (grown_below (row := some g) (Below.refl _ w)) 1) (grown_below hb1))
    clear c0 c1 c2 z0 z1 z2
    obtain ⟨c0, c1, c2, z0, z1, z2⟩ := rdc_cells hk1
    have HB1 := hide hk1
    clear hk1 hb1
    cases b with
    | true =>
      go_wp2_with fail
      go_ret
      exact ⟨rfl, ⟨ha, rdc_set (w := w1) (k := 2) (.bool true) HB1.out⟩, grown_trans HG1.out (rdc_grown _ g 2 _)⟩
    | false =>
      go_wp2_with fail
      go_ret
      exact ⟨rfl, ⟨ha, rdc_set (w := w1) (k := 2) (.bool true) HB1.out⟩, grown_trans HG1.out (rdc_grown _ g 2 _)⟩
  | some r =>
    obtain ⟨v, c⟩ := r
    have hbd := rdGo_some 5 [] _ v c hrd
    have hlen : ((bl s).drop a).length = s.size - a := by rw [List.length_drop, bl_length]
    rw [hlen] at hbd
    simp only [List.length_nil] at hbd
    obtain ⟨d1, d2, d3, d4⟩ := hbd
    clear hlen
    have HRD := hide hrd
    have hv : varV s a b = if b = false then (v, a + c, false) else (0, a, true) := by unfold varV; rw [hrd]; cases b <;> rfl
    rw [hv]
    clear hrd hv
    go_enter Tryd.func58, Tryd.ntmps58
    go_wp2_with fail
    go_region_held3 (fun w' => w'.cell? ⟨g, 0, none⟩ = some (.string s) ∧ w'.cell? ⟨g, 1, none⟩ = some (.int .i64 (a : Int))) (first | go_keep | exact ⟨(hb1.cell (by simpa using hgl)).trans c0, (hb1.cell (by simpa using hgl)).trans c1⟩)
      (first | (go_at_call 56; refine (specReadVar_any s hs a ha _).mono ?_; rw [HRD.out]; unfold rvVal; rintro e w1 ⟨rfl, hb1⟩))
    have hk1 : w1.heap[g]? = some (.cells #[.string s, .int .i64 (a : Int), .bool b] 89 (0, 0)) := (hb1.block g (by simpa using hgl)).trans HB.out
    have HG1 := hide (grown_trans (grown_drewN (grown_below (row := some g) (Below.refl _ w)) 1) (grown_below hb1))
    clear c0 c1 c2 z0 z1 z2
    obtain ⟨c0, c1, c2, z0, z1, z2⟩ := rdc_cells hk1
    have HB1 := hide hk1
    clear hk1 hb1
    cases b with
    | true =>
      go_wp2_with fail
      go_ret
      exact ⟨rfl, ⟨ha, rdc_set (w := w1) (k := 2) (.bool true) HB1.out⟩, grown_trans HG1.out (rdc_grown _ g 2 _)⟩
    | false =>
      go_wp2_with fail
      go_ret
      refine ⟨rfl, ⟨by show a + c ≤ s.size; omega, ?_⟩, grown_trans HG1.out (rdc_grown _ g 1 _)⟩
      have := rdc_set (w := w1) (k := 1) (.int .i64 ((a : Int) + (c : Int))) HB1.out
      simpa using this

end Go.Proofs.YthbgklmnmoclhaaDoor

namespace Go.Proofs.YthbgklmnmoclhaaDoor
open Go.RowKit P1 P9 K
attribute [local go_sem ↓] Go.wp_at_zero Go.wp_at_succ
set_option linter.unusedVariables false
set_option linter.unusedSimpArgs false

/-- The results of EntryText. -/
def etVal (i : Int) (e : EntV) : Value :=
  if (e.ok && indexOk i) = true then .tuple #[.string ⟨(entryB i.toNat e.term.toNat e.kind.toNat (bl e.data)).toArray⟩, .bool true] else .tuple #[.string ⟨#[]⟩, .bool false]

theorem etVal_no {i : Int} {e : EntV} (h : (e.ok && indexOk i) = false) : etVal i e = .tuple #[.string ⟨#[]⟩, .bool false] := by simp [etVal, h]
theorem etVal_yes {i : Int} {e : EntV} (h : (e.ok && indexOk i) = true) : etVal i e = .tuple #[.string ⟨(entryB i.toNat e.term.toNat e.kind.toNat (bl e.data)).toArray⟩, .bool true] := by simp [etVal, h]

theorem ent_cat (a b : List UInt8) (k : Nat) (s : ByteArray) : (⟨#[69]⟩ : ByteArray) ++ ⟨a.toArray⟩ ++ ⟨b.toArray⟩ ++ ⟨#[UInt8.ofNat k]⟩ ++ s = ⟨(69 :: (a ++ (b ++ (UInt8.ofNat k :: bl s)))).toArray⟩ := by
  apply ByteArray.ext
  simp [bl]

theorem cat_facts (P : Program) (I T : Nat) (kb : UInt8) (s : ByteArray) (hs : s.size ≤ 1048576) : ∃ A1 A2 A3 A4 : ByteArray,
    (∀ wx, (Op.stringOp .add (⟨#[69]⟩ : ByteArray) ⟨(varB I).toArray⟩).run P wx = .ok (.string A1) wx) ∧ (∀ wx, (Op.stringOp .add A1 ⟨(varB T).toArray⟩).run P wx = .ok (.string A2) wx) ∧
    (∀ wx, (Op.stringOp .add A2 ⟨#[kb]⟩).run P wx = .ok (.string A3) wx) ∧ (∀ wx, (Op.stringOp .add A3 s).run P wx = .ok (.string A4) wx) ∧
    A4 = ⟨(69 :: (varB I ++ (varB T ++ (kb :: bl s)))).toArray⟩ := by
  have hl1 : (⟨(varB I).toArray⟩ : ByteArray).size ≤ 10 := varB_length I
  have hl2 : (⟨(varB T).toArray⟩ : ByteArray).size ≤ 10 := varB_length T
  have h0 : (⟨#[69]⟩ : ByteArray).size = 1 := rfl
  have h3 : (⟨#[kb]⟩ : ByteArray).size = 1 := rfl
  refine ⟨_, _, _, _, fun wx => run_string_add_sum _ _ _ (by omega), fun wx => run_string_add_sum _ _ _ (by rw [ByteArray.size_append]; omega), fun wx => run_string_add_sum _ _ _ (by rw [ByteArray.size_append, ByteArray.size_append]; omega), fun wx => run_string_add_sum _ _ _ (by rw [ByteArray.size_append, ByteArray.size_append, ByteArray.size_append]; omega), ?_⟩
  apply ByteArray.ext
  simp [bl]

theorem m_no (wx : World) : (method 314 145 (.agg #[]) "loop.example/g00127/impl.data").run Tryd.prog wx = .ok (143, .agg #[]) wx := by kernel_rfl
theorem m_conf (g n cap : Nat) (wx : World) : (method 314 146 (.slice (some ⟨g, 0, none⟩) n cap) "loop.example/g00127/impl.data").run Tryd.prog wx = .ok (144, .slice (some ⟨g, 0, none⟩) n cap) wx := by kernel_rfl
theorem m_command (s : ByteArray) (wx : World) : (method 314 147 (.string s) "loop.example/g00127/impl.data").run Tryd.prog wx = .ok (146, .string s) wx := by kernel_rfl

theorem one_cell {w w' : World} {u : Value} {t : TypeId} (hb : Below (w.alloc (.cells #[u] t)).drew.heap.size (w.alloc (.cells #[u] t)).drew w') : w'.cell? ⟨w.heap.size, 0, none⟩ = some u :=
  (hb.cell (by simp)).trans (by simp)

theorem conv_one (wx : World) (g : Nat) (b : UInt8) (hg : wx.cell? ⟨g, 0, none⟩ = some (.int .u8 (b.toNat : Int))) :
    (convert 70 9 (.slice (some ⟨g, 0, none⟩) 1 1)).run Tryd.prog wx = .ok (.string ⟨#[b]⟩) wx := by
  refine run_convert_bytes_back wx 70 9 5 ⟨g, 0, none⟩ 1 [b] Tryd.underlying70 Tryd.underlying5 Tryd.underlying9 ?_
  intro j hj
  simp at hj
  subst hj
  simpa [Addr.add] using hg

theorem confData_bl (g cap : Nat) (s : ByteArray) (w : World) (hat : IntsAt w (some ⟨g, 0, none⟩) s.size cap (confZ (bl s))) (hok : confOk (confZ (bl s)) = true) :
    Calls Tryd.prog 144 #[.slice (some ⟨g, 0, none⟩) s.size cap] w fun e w' => e = .returned (.string s) ∧ Below w.heap.size w w' := by
  have := confData_any (some ⟨g, 0, none⟩) s.size cap (confZ (bl s)) w hat hok
  rw [confB_confZ] at this
  exact this

set_option maxHeartbeats 4000000 in
theorem implEntryText_any (i : Int) (e : EntV) (hs : e.data.size ≤ 1048576) (w : World) :
    Calls Tryd.prog 54 #[.int .i64 i, eval e] w fun r w' => r = .returned (etVal i e) ∧ Below w.heap.size w w' := by
  cases hok : e.ok with
  | false =>
    rw [etVal_no (by rw [hok]; rfl)]
    have HOK := hide hok
    clear hok
    obtain ⟨t, k, s⟩ := e
    simp only [eval] at hs ⊢
    have HB0 := hide ((Below.refl w.heap.size w).alloc (Nat.le_refl _) (.cells #[.int .i64 t, .int .i64 k, .string s] 77))
    go_enter Tryd.func54, Tryd.ntmps54
    go_wp2_with fail
    refine (implEntryOk_any ⟨t, k, s⟩ hs _).mono ?_
    rw [HOK.out]
    rintro r w1 ⟨rfl, hb1⟩
    go_wp2_with fail
    go_ret2
    exact ⟨rfl, HB0.out.trans (hb1.mono (by simp))⟩
  | true =>
    by_cases hi : 1 ≤ i ∧ i ≤ 1000000
    · obtain ⟨hi1, hi2⟩ := hi
      rw [etVal_yes (by rw [hok]; simp [indexOk, hi1, hi2])]
      obtain ⟨t, k, s⟩ := e
      simp only [eval] at hs ⊢
      have HB0 := hide ((Below.refl w.heap.size w).alloc (Nat.le_refl _) (.cells #[.int .i64 t, .int .i64 k, .string s] 77))
      obtain ⟨I, rfl⟩ := Int.eq_ofNat_of_zero_le (show 0 ≤ i by omega)
      have hok' := hok
      simp only [EntV.ok, entryOk, termOk, Bool.and_eq_true, decide_eq_true_eq] at hok'
      obtain ⟨hck, ht0, ht1⟩ := hok'
      obtain ⟨T, rfl⟩ := Int.eq_ofNat_of_zero_le ht0
      have HOK := hide hok
      have HCK := hide hck
      clear hok hck
      have hI : I ≤ 1000000000 := by omega
      have hT : T ≤ 1000000000 := by omega
      go_enter Tryd.func54, Tryd.ntmps54
      go_wp2_with fail
      refine (implEntryOk_any ⟨T, k, s⟩ hs _).mono ?_
      rw [HOK.out]
      rintro r w1 ⟨rfl, hb1⟩
      have c0 : w1.cell? ⟨w.heap.size, 0, none⟩ = some (.int .i64 T) := (hb1.cell (by simp)).trans (by simp)
      have c1 : w1.cell? ⟨w.heap.size, 1, none⟩ = some (.int .i64 k) := (hb1.cell (by simp)).trans (by simp)
      have c2 : w1.cell? ⟨w.heap.size, 2, none⟩ = some (.string s) := (hb1.cell (by simp)).trans (by simp)
      have s1 : w.heap.size < w1.heap.size := by have := hb1.size; simp at this; omega
      have B1 := hide (HB0.out.trans (hb1.mono (by simp)))
      clear hb1
      go_wp2_with (go_at_call 19; refine (within_yes _ _ _ (by omega) (by omega) _).mono ?_; rintro e w' ⟨rfl, rfl⟩)
      refine (contentOf_any k s hs _).mono ?_
      rw [HCK.out]
      rintro r w2 ⟨v, rfl, hv, hb2⟩
      have hv := hv rfl
      have d0 := (hb2.cell (p := ⟨w.heap.size, 0, none⟩) s1).trans c0
      have s2 : w.heap.size < w2.heap.size := by have := hb2.size; omega
      have B2 := hide (B1.out.trans (hb2.mono (by omega)))
      have HV := hide hv
      clear hb2 hv c0 c1 c2
      go_wp2_with fail
      refine (implVarText_yes I hI _).mono ?_
      rintro r w3 ⟨rfl, hb3⟩
      have e0 := (hb3.cell (p := ⟨w.heap.size, 0, none⟩) s2).trans d0
      have B3 := hide (B2.out.trans (hb3.mono (by omega)))
      have HV3 := hide (HV.out.below hb3)
      clear hb3 d0
      go_wp2_with fail
      refine (implVarText_yes T hT _).mono ?_
      rintro r w4 ⟨rfl, hb4⟩
      have B4 := hide (B3.out.trans (hb4.mono (by have := B3.out.size; omega)))
      have hv4 := HV3.out.below hb4
      clear hb4 e0 HV HV3
      have hvk := hv4
      rcases hv4 with ⟨rfl, rfl, rfl⟩ | ⟨rfl, hcf, g, cap, rfl, hat⟩ | ⟨rfl, h120, rfl⟩
      · have HVK := hide hvk
        have h4 := B4.out.size
        clear hvk
        obtain ⟨A1, A2, A3, A4, f1, f2, f3, f4, hA⟩ := cat_facts Tryd.prog I T 1 ⟨#[]⟩ hs
        have HA := hide hA
        clear hA
        have fc := fun wx g hg => conv_one wx g 1 hg
        have fm := m_no
        go_wp2_with fail
        go_region_law (first
          | (rw [if_pos (by rfl)]; go_simp; go_at_call 78; refine (kindOf_any 1 ⟨#[]⟩ _ _ (HVK.out.below (Below.refl _ _).drew)).mono ?_; rintro r w5 ⟨rfl, rfl⟩)
          | (rw [if_pos (by rfl)]; go_simp; go_at_call 143; refine (noData_any _).mono ?_; rintro r w6 ⟨rfl, hb6⟩; try (have k6 := one_cell hb6)))
        all_goals
          go_wp2_with fail
          go_ret2
          refine ⟨by rw [HA.out]; rfl, ?_⟩
          first
            | exact (B4.out.alloc h4 _).drew.trans (hb6.mono (by simp; omega))
            | exact (B4.out.drew.trans (hb6.mono (by simp; omega))).alloc (by have := hb6.size; simp at this; omega) _
      · have HVK := hide hvk
        have HAT := hide hat
        have h4 := B4.out.size
        clear hvk hat
        obtain ⟨A1, A2, A3, A4, f1, f2, f3, f4, hA⟩ := cat_facts Tryd.prog I T 2 s hs
        have HA := hide hA
        clear hA
        have fc := fun wx g hg => conv_one wx g 2 hg
        have fm := m_conf g s.size cap
        go_wp2_with fail
        go_region_law (first
          | (rw [if_pos (by rfl)]; go_simp; go_at_call 78; refine (kindOf_any 2 s _ _ (HVK.out.below (Below.refl _ _).drew)).mono ?_; rintro r w5 ⟨rfl, rfl⟩)
          | (rw [if_pos (by rfl)]; go_simp; go_at_call 144; (first | (refine (confData_bl g cap s _ (HAT.out.below (Below.refl _ _).drew) hcf).mono ?_) | (refine (confData_bl g cap s _ (HAT.out.below ((Below.refl _ _).alloc (Nat.le_refl _) _).drew) hcf).mono ?_)); rintro r w6 ⟨rfl, hb6⟩; try (have k6 := one_cell hb6)))
        all_goals
          go_wp2_with fail
          go_ret2
          refine ⟨by rw [HA.out]; rfl, ?_⟩
          first
            | exact (B4.out.alloc h4 _).drew.trans (hb6.mono (by simp; omega))
            | exact (B4.out.drew.trans (hb6.mono (by simp; omega))).alloc (by have := hb6.size; simp at this; omega) _
      · have HVK := hide hvk
        have h4 := B4.out.size
        clear hvk
        obtain ⟨A1, A2, A3, A4, f1, f2, f3, f4, hA⟩ := cat_facts Tryd.prog I T 3 s hs
        have HA := hide hA
        clear hA
        have fc := fun wx g hg => conv_one wx g 3 hg
        have fm := m_command s
        go_wp2_with fail
        go_region_law (first
          | (rw [if_pos (by rfl)]; go_simp; go_at_call 78; refine (kindOf_any 3 s _ _ (HVK.out.below (Below.refl _ _).drew)).mono ?_; rintro r w5 ⟨rfl, rfl⟩)
          | (rw [if_pos (by rfl)]; go_simp; go_at_call 146; refine (commandData_any s hs _).mono ?_; rintro r w6 ⟨rfl, hb6⟩; try (have k6 := one_cell hb6)))
        all_goals
          go_wp2_with fail
          go_ret2
          refine ⟨by rw [HA.out]; rfl, ?_⟩
          first
            | exact (B4.out.alloc h4 _).drew.trans (hb6.mono (by simp; omega))
            | exact (B4.out.drew.trans (hb6.mono (by simp; omega))).alloc (by have := hb6.size; simp at this; omega) _
    · rw [etVal_no (by rw [hok]; simp [indexOk]; omega)]
      have HOK := hide hok
      clear hok
      obtain ⟨t, k, s⟩ := e
      simp only [eval] at hs ⊢
      have HB0 := hide ((Below.refl w.heap.size w).alloc (Nat.le_refl _) (.cells #[.int .i64 t, .int .i64 k, .string s] 77))
      go_enter Tryd.func54, Tryd.ntmps54
      go_wp2_with fail
      refine (implEntryOk_any ⟨t, k, s⟩ hs _).mono ?_
      rw [HOK.out]
      rintro r w1 ⟨rfl, hb1⟩
      go_wp2_with (go_at_call 19; refine (within_no _ _ _ (by omega) _).mono ?_; rintro e w' ⟨rfl, rfl⟩)
      go_ret2
      exact ⟨rfl, HB0.out.trans (hb1.mono (by simp))⟩

end Go.Proofs.YthbgklmnmoclhaaDoor
