/-
  Walks of chapter 7: readFile of the program (made by wip/tools/gen7i.py).
-/
import Derived.Test.YthbgklmnmoclhaaGreatDoorWalk7g
import Derived.Test.YthbgklmnmoclhaaGreatDoorPack30
import Derived.Test.YthbgklmnmoclhaaGreatDoorPack31
namespace Go.Proofs.YthbgklmnmoclhaaGreatDoor
open Go.RowKit P1 P3 P9 K Go.Shelf
attribute [local go_sem] Oper.semAt_some
set_option linter.unusedVariables false
set_option linter.unusedSimpArgs false

def zeroJ : JnV := ⟨0, 0, 0, 0, 0, []⟩
/-- What is read of a file: a journal, a place, a code. -/
def rfR (n : Int) (l : List UInt8) : JnV × Nat × Int :=
  if jnIn n = true then (match rdJn n l with | none => (zeroJ, 0, 2) | some (j, e) => (j, e, if e = l.length then 0 else 3)) else (zeroJ, 0, 1)
def errV (c : Int) : Value := if c = 0 then .nilIface else faultV c
def RfPost (n : Int) (l : List UInt8) (w : World) (e : Ending) (w' : World) : Prop :=
  ∃ v, e = .returned (.tuple #[jval (rfR n l).1.number (rfR n l).1.term (rfR n l).1.vote (rfR n l).1.s (rfR n l).1.u v, .int .i64 ((rfR n l).2.1 : Int), errV (rfR n l).2.2]) ∧
    w'.ownsRow w.heap.size 111 3 v (rfR n l).1.es.length ((rfR n l).1.es.flatMap ecells) ∧ Below w.heap.size w w'

theorem RfPost.mk' {n : Int} {l : List UInt8} {w w' : World} {j : JnV} {x : Nat} {c : Int} {v e : Value} (h : rfR n l = (j, x, c)) (he : e = .tuple #[jval j.number j.term j.vote j.s j.u v, .int .i64 (x : Int), errV c])
    (ho : w'.ownsRow w.heap.size 111 3 v j.es.length (j.es.flatMap ecells)) (hb : Below w.heap.size w w') : RfPost n l w (.returned e) w' := by
  subst he
  unfold RfPost
  rw [h]
  exact ⟨v, rfl, ho, hb⟩

theorem heap_keep {A B : World} {row : Option Nat} {b : Nat} {cs : Array Value} {t : TypeId} {fz : Nat × Nat} (h : A.heap[b]? = some (.cells cs t fz)) (hg : A.grownBy B row) (hr : ∀ r, row = some r → ∃ o : Obj, A.heap[r]? = some o ∧ o.isCells = false) : B.heap[b]? = some (.cells cs t fz) :=
  (hg.block b (blk_lt h) (fun e => by
    obtain ⟨o, ho, hc⟩ := hr b e.symm
    rw [h] at ho
    cases ho
    cases hc)).trans h

theorem own_keep {A B : World} {row : Option Nat} {base : Nat} {e : TypeId} {size : Nat} {v : Value} {n : Nat} {xs : List Value} (h : A.ownsRow base e size v n xs) (hg : A.grownBy B row) (hr : ∀ r, row = some r → ∃ o : Obj, A.heap[r]? = some o ∧ o.isCells = false) : B.ownsRow base e size v n xs := by
  refine h.kept hg ?_
  rcases h.2 with ⟨rfl, -⟩ | ⟨g, cap, cur, rfl, -, hgb, -⟩
  · exact Or.inl rfl
  · refine Or.inr (fun e => ?_)
    obtain ⟨o, ho, hc⟩ := hr g e.symm
    rw [hgb] at ho
    cases ho
    cases hc

theorem JSt.keep {A B : World} {row : Option Nat} {b base : Nat} {j : JnV} (h : JSt A b base j) (hg : A.grownBy B row) (hr : ∀ r, row = some r → ∃ o : Obj, A.heap[r]? = some o ∧ o.isCells = false) : JSt B b base j := by
  obtain ⟨v, h1, h2⟩ := h
  exact ⟨v, heap_keep h1 hg hr, own_keep h2 hg hr⟩

/-- What the caller's own memory holds: the answer's block (zero yet), and where the last record ended. -/
def RB (w W : World) (x : Int) : Prop :=
  JB W w.heap.size 0 0 0 0 0 (.slice none 0 0) ∧ W.heap[w.heap.size + 2]? = some (.cells #[.int .i64 x] 3 (0, 0))

/-- Between two rounds. -/
def RI (w : World) (n : Int) (pre : List (List UInt8 × Nat)) (W : World) : Prop :=
  (∃ j, jnAt n (pre.map (·.1)) = some j ∧ JSt W (w.heap.size + 1) (w.heap.size + 3) j ∧ endOf pre = flen (pre.map (·.1)) ∧ (pre = [] ∨ 0 < endOf pre) ∧ RB w W (endOf pre : Int)) ∧ Below w.heap.size w W

/-- A round has left. -/
def RX (w : World) (n : Int) (c : Code) (xs : List (List UInt8 × Nat)) (W : World) : Prop :=
  (c = .exit 0 ∧ ∃ pre x, xs = pre ++ [x] ∧ endOf pre = flen (pre.map (·.1)) ∧ RB w W (endOf pre : Int) ∧
    ((pre = [] ∧ jnBegin n x.1 = none) ∨ (pre ≠ [] ∧ 0 < endOf pre ∧ ∃ j, jnAt n (pre.map (·.1)) = some j ∧ jnMore j x.1 = none ∧ JSt W (w.heap.size + 1) (w.heap.size + 3) j))) ∧ Below w.heap.size w W

theorem RI.own (w : World) (n : Int) (B : Nat) (hB : w.heap.size ≤ B) : OwnFrom B (RI w n) := by
  intro pre A C row h hg hr
  obtain ⟨⟨j, h1, h2, h3, h4, h5, h6⟩, h7⟩ := h
  have hr' : ∀ r, row = some r → ∃ o : Obj, A.heap[r]? = some o ∧ o.isCells = false := fun r e => (hr r e).2
  exact ⟨⟨j, h1, h2.keep hg hr', h3, h4, heap_keep h5 hg hr', heap_keep h6 hg hr'⟩, h7.grown hg h7.size (fun k e => Nat.le_trans hB (hr k e).1)⟩

theorem RX.own (w : World) (n : Int) (c : Code) (B : Nat) (hB : w.heap.size ≤ B) : OwnFrom B (RX w n c) := by
  intro xs A C row h hg hr
  obtain ⟨⟨h0, pre, x, h1, h2, ⟨h3, h4⟩, h5⟩, h7⟩ := h
  have hr' : ∀ r, row = some r → ∃ o : Obj, A.heap[r]? = some o ∧ o.isCells = false := fun r e => (hr r e).2
  refine ⟨⟨h0, pre, x, h1, h2, ⟨heap_keep h3 hg hr', heap_keep h4 hg hr'⟩, ?_⟩, h7.grown hg h7.size (fun k e => Nat.le_trans hB (hr k e).1)⟩
  rcases h5 with h5 | ⟨k1, k2, j, k3, k4, k5⟩
  · exact Or.inl h5
  · exact Or.inr ⟨k1, k2, j, k3, k4, k5.keep hg hr'⟩

theorem rf_none {n : Int} {l : List UInt8} (hi : jnIn n = true) (h : rdJn n l = none) : rfR n l = (zeroJ, 0, 2) := by
  unfold rfR; rw [if_pos hi, h]
theorem rf_some {n : Int} {l : List UInt8} {j : JnV} {e : Nat} (hi : jnIn n = true) (h : rdJn n l = some (j, e)) : rfR n l = (j, e, if e = l.length then 0 else 3) := by
  unfold rfR; rw [if_pos hi, h]

theorem RI.done {w : World} {n : Int} {l : List UInt8} {xs : List (List UInt8 × Nat)} {W : World} (hi : jnIn n = true) (hS : allCame l xs) (h : RI w n xs W) :
    (endOf xs = 0 ∧ rfR n l = (zeroJ, 0, 2) ∧ RB w W 0 ∧ Below w.heap.size w W) ∨ ∃ j e, 0 < e ∧ rfR n l = (j, e, if e = l.length then 0 else 3) ∧ RB w W (e : Int) ∧ JSt W (w.heap.size + 1) (w.heap.size + 3) j ∧ Below w.heap.size w W := by
  obtain ⟨⟨j, h1, h2, h3, h4, h5⟩, h7⟩ := h
  unfold allCame at hS
  rcases h4 with rfl | h4
  · exact Or.inl ⟨rfl, rf_none hi (rdJn_none hS), h5, h7⟩
  · refine Or.inr ⟨j, endOf xs, h4, ?_, h5, h2, h7⟩
    have hne : xs.map (·.1) ≠ [] := fun e => by
      have : xs = [] := by simpa using e
      subst this
      simp [endOf] at h4
    refine rf_some hi ?_
    rw [rdJn_more (ys := []) hi (by rw [List.append_nil]; exact hS) h1 hne, ← h3]
    rfl

theorem RX.done {w : World} {n : Int} {l : List UInt8} {xs : List (List UInt8 × Nat)} {c : Code} {W : World} (hi : jnIn n = true) (hS : partCame l xs) (h : RX w n c xs W) : c = .exit 0 ∧
    ((rfR n l = (zeroJ, 0, 2) ∧ RB w W 0 ∧ Below w.heap.size w W) ∨ ∃ j e, 0 < e ∧ rfR n l = (j, e, if e = l.length then 0 else 3) ∧ RB w W (e : Int) ∧ JSt W (w.heap.size + 1) (w.heap.size + 3) j ∧ Below w.heap.size w W) := by
  obtain ⟨⟨h0, pre, x, rfl, h2, h3, h5⟩, h7⟩ := h
  refine ⟨h0, ?_⟩
  obtain ⟨rest, e, hu⟩ := hS
  rw [List.map_append, List.append_assoc] at hu
  rcases h5 with ⟨rfl, h5⟩ | ⟨k1, k2, j, k3, k4, k5⟩
  · exact Or.inl ⟨rf_none hi (rdJn_first hu h5), h3, h7⟩
  · refine Or.inr ⟨j, endOf pre, k2, rf_some hi ?_, h3, k5, h7⟩
    have hne : pre.map (·.1) ≠ [] := fun e => k1 (by simpa using e)
    rw [rdJn_more hi hu k3 hne, ← h2]
    exact congrArg some (jnFold_stop k4)

theorem rf_shut {w W Wf : World} {D : Nat} {n t v s u : Int} {x : Value} (hD : w.heap.size + 3 ≤ D) (hd : W.heap[D]? = some (.deferred (some []))) (hj : JB Wf w.heap.size n t v s u x) (hg : W.grownBy Wf (some w.heap.size)) (hb : Below w.heap.size w W) :
    Wf.heap[D]? = some (.deferred (some [])) ∧ JB (Wf.putObj D (.deferred none)) w.heap.size n t v s u x ∧ Below w.heap.size w (Wf.putObj D (.deferred none)) := by
  have h1 : Wf.heap[D]? = some (.deferred (some [])) := (hg.block D (blk_lt hd) (fun e => by cases e; omega)).trans hd
  refine ⟨h1, (World.putObj_heap_other (by omega)).trans hj, ?_⟩
  exact (hb.grown hg hb.size (fun k e => by cases e; exact Nat.le_refl _)).trans (belowK_b (w := w) (Nat.le_refl _) Wf D _ _ (by omega) h1 rfl rfl)

theorem RB.kept {w W W1 : World} {x : Int} (h : RB w W x) (hg : W.grownBy W1 (some (w.heap.size + 1))) : RB w W1 x :=
  ⟨h.1.kept hg (fun e => by injection e with e; omega), (hg.block _ (blk_lt h.2) (fun e => by injection e with e; omega)).trans h.2⟩

/-- Where the last record ended is written. -/
theorem RB.put {w W : World} {x : Int} {n t v s u : Int} {q : Value} (h : RB w W x) (hj : JB W (w.heap.size + 1) n t v s u q) (y : Int) :
    RB w (W.setCell ⟨w.heap.size + 2, 0, none⟩ (.int .i64 y)) y ∧ JB (W.setCell ⟨w.heap.size + 2, 0, none⟩ (.int .i64 y)) (w.heap.size + 1) n t v s u q ∧ W.grownBy (W.setCell ⟨w.heap.size + 2, 0, none⟩ (.int .i64 y)) (some (w.heap.size + 2)) := by
  have hg := blk_grown W (w.heap.size + 2) 0 (.int .i64 y)
  exact ⟨⟨h.1.kept hg (fun e => by injection e with e; omega), blk_set (k := 0) (.int .i64 y) h.2⟩, hj.kept hg (fun e => by injection e with e; omega), hg⟩

theorem flen_snoc (xs : List (List UInt8)) (x : List UInt8) : flen (xs ++ [x]) = flen xs + (frameL x).length := by simp [flen]

set_option maxHeartbeats 1000000 in
theorem readFile_out (n : Int) (s : ByteArray) (hi : ¬ (0 ≤ n ∧ n ≤ 999)) (w : World) :
    Calls Tryz.prog 51 #[.int .i64 n, .string s] w fun e w' => RfPost n (bl s) w e w' := by
  have HR := hide (show rfR n (bl s) = (zeroJ, 0, 1) by unfold rfR; rw [if_neg (fun h => hi (jnIn_iff.1 h))])
  have HB := hide ((Below.refl w.heap.size w).alloc (Nat.le_refl _) (.cells (jcells 0 0 0 0 0 (.slice none 0 0)) 30))
  go_enter Tryz.func51, Tryz.ntmps51
  go_wp2_with (go_at_call 75; refine (within_no _ _ _ (by omega) _).mono ?_; rintro e w1 ⟨rfl, rfl⟩)
  refine bodyPost_ret (v := .tuple #[jval 0 0 0 0 0 (.slice none 0 0), .int .i64 0, faultV 1]) (by simp [results, Tryz.results51, go_sem]) rfl ?_
  exact RfPost.mk' HR.out rfl (World.ownsRow_nil _ _ _ _) HB.out

set_option maxRecDepth 100000 in
set_option maxHeartbeats 8000000 in
theorem readFile_in (n : Int) (s : ByteArray) (hs : s.size ≤ 1048576) (h0 : 0 ≤ n) (h1 : n ≤ 999) (w : World) (htab : SumTabIs w) :
    Calls Tryz.prog 51 #[.int .i64 n, .string s] w fun e w' => RfPost n (bl s) w e w' := by
  have HI := hide (jnIn_iff.2 ⟨h0, h1⟩)
  have HLEN := hide (bl_length s)
  have HTAB := hide htab
  clear htab
  have b1 := (Below.refl w.heap.size w).alloc (Nat.le_refl _) (.cells (jcells 0 0 0 0 0 (.slice none 0 0)) 30)
  have b2 := b1.alloc (by simp) (.cells (jcells n 0 0 0 0 (.slice none 0 0)) 30)
  have b3 := b2.alloc (by simp; omega) (.cells #[.int .i64 0] 3)
  have j0 : JB (((w.alloc (.cells (jcells 0 0 0 0 0 (.slice none 0 0)) 30)).alloc (.cells (jcells n 0 0 0 0 (.slice none 0 0)) 30)).alloc (.cells #[.int .i64 0] 3)) w.heap.size 0 0 0 0 0 (.slice none 0 0) := (Below.heap_alloc _ _ _ (by simp; omega)).trans ((Below.heap_alloc _ _ _ (by simp)).trans (heap_alloc_new _ _))
  have j1 : JB (((w.alloc (.cells (jcells 0 0 0 0 0 (.slice none 0 0)) 30)).alloc (.cells (jcells n 0 0 0 0 (.slice none 0 0)) 30)).alloc (.cells #[.int .i64 0] 3)) (w.heap.size + 1) n 0 0 0 0 (.slice none 0 0) := (Below.heap_alloc _ _ _ (by simp)).trans (by have := heap_alloc_new (w.alloc (.cells (jcells 0 0 0 0 0 (.slice none 0 0)) 30)) (.cells (jcells n 0 0 0 0 (.slice none 0 0)) 30); rwa [World.size_alloc] at this)
  have j2 : (((w.alloc (.cells (jcells 0 0 0 0 0 (.slice none 0 0)) 30)).alloc (.cells (jcells n 0 0 0 0 (.slice none 0 0)) 30)).alloc (.cells #[.int .i64 0] 3)).heap[w.heap.size + 2]? = some (.cells #[.int .i64 0] 3 (0, 0)) := by have := heap_alloc_new ((w.alloc (.cells (jcells 0 0 0 0 0 (.slice none 0 0)) 30)).alloc (.cells (jcells n 0 0 0 0 (.slice none 0 0)) 30)) (.cells #[.int .i64 0] 3); rwa [World.size_alloc, World.size_alloc] at this
  have HI0 := hide (show RI w n [] _ from ⟨⟨_, rfl, ⟨_, j1, World.ownsRow_nil _ _ _ _⟩, rfl, Or.inl rfl, j0, j2⟩, b3⟩)
  clear b1 b2 b3 j0 j1 j2
  refine (callsIn_wide (n := 4)).1 ?_
  refine callsIn_of_wp_marks Tryz.func51 rfl trivial ?_ rfl
  simp only [Tryz.ntmps51, List.size_toArray, List.length_cons, List.length_nil, Nat.reduceAdd, Nat.reduceSub, Array.replicate_succ, Array.replicate_zero, List.push_toArray, List.append_toArray, List.nil_append, List.cons_append]
  gi_wp2_with (refine ⟨trivial, ?_⟩; gi_at_call 75; refine (callsIn_wide.2 (within_yes n 0 999 (by omega) (by omega) _)).mono ?_; rintro e w1 ⟨rfl, rfl⟩)
  rename_i Q0 K hK
  have HK := hide hK
  clear hK
  have AFT := hide (show ∀ (D : Nat) (W : World), w.heap.size + 3 ≤ D → W.heap[D]? = some (.deferred (some [])) → Below w.heap.size w W →
      ((rfR n (bl s) = (zeroJ, 0, 2) ∧ RB w W 0) ∨ ∃ j e, 0 < e ∧ rfR n (bl s) = (j, e, if e = (bl s).length then 0 else 3) ∧ RB w W (e : Int) ∧ JSt W (w.heap.size + 1) (w.heap.size + 3) j) →
      K { tmps := #[.int .i64 n, .string s, undef, undef, .pointer (some ⟨w.heap.size, 0, none⟩), .int .i64 0, .nilIface, .pointer (some ⟨w.heap.size + 1, 0, none⟩), .pointer (some ⟨w.heap.size + 1 + 1, 0, none⟩), undef, undef, .int .i64 n, .bool true, .bool false, undef, undef, undef, .int .i64 n, .agg #[.int .i64 n, .int .i64 0, .int .i64 0, .int .i64 0, .int .i64 0, .slice none 0 0], .string s, .func (.func 77) #[.string s] #[], undef, undef, undef, undef, undef, undef, undef, undef, undef, undef, undef, undef, undef, undef, undef, undef, undef, undef, undef, undef, undef, undef, undef, undef, undef, undef, undef, undef, undef, undef, undef, undef, undef, undef, undef], defers := [{ target := .collected D, args := #[] }] } W from by
    intro D W hD hdef hbel hst
    have HDF := hide hdef
    have HBL := hide hbel
    clear hdef hbel HI0
    refine HK.out _ _ ?_
    clear HK
    rcases hst with ⟨hr, hrb⟩ | ⟨j, e, he, hr, hrb, hjs⟩
    · have HR := hide hr
      have HRB := hide hrb
      have c0 := blk_cell hrb.2 0 rfl
      have r0 := hrb.1.jv.c0
      have r1 := hrb.1.jv.c1
      have r2 := hrb.1.jv.c2
      have r3 := hrb.1.jv.c3
      have r4 := hrb.1.jv.c4
      have r5 := hrb.1.jv.c5
      have f0 := hrb.1.free 0
      have f1 := hrb.1.free 1
      have f2 := hrb.1.free 2
      have f3 := hrb.1.free 3
      have f4 := hrb.1.free 4
      have f5 := hrb.1.free 5
      simp only [List.getElem_toArray, List.getElem_cons_zero] at c0
      clear hr hrb
      have HE := hide (HRB.out.1.all 0 0 0 0 0 (.slice none 0 0))
      clear HRB
      gi_wp2
      generalize ((((((W.setCell ⟨w.heap.size, 0, none⟩ (Value.int IntKind.i64 0)).setCell ⟨w.heap.size, 1, none⟩ (Value.int IntKind.i64 0)).setCell ⟨w.heap.size, 2, none⟩ (Value.int IntKind.i64 0)).setCell ⟨w.heap.size, 3, none⟩ (Value.int IntKind.i64 0)).setCell ⟨w.heap.size, 4, none⟩ (Value.int IntKind.i64 0)).setCell ⟨w.heap.size, 5, none⟩ (Value.slice none 0 0)) = Wf at HE ⊢
      obtain ⟨hd2, hj2, hb2⟩ := rf_shut hD HDF.out HE.out.1 HE.out.2 HBL.out
      have HD2 := hide hd2
      have HB2 := hide hb2
      clear HE HDF HBL hd2 hb2
      refine ⟨by simp, .inl ⟨_, _, rfl, run_takeDeferred HD2.out, ?_⟩⟩
      generalize Wf.putObj D (.deferred none) = W2 at hj2 HB2 ⊢
      obtain ⟨k0, k1, k2, k3, k4, k5⟩ := hj2.jv
      clear hj2
      refine ⟨.tuple #[jval 0 0 0 0 0 (.slice none 0 0), .int .i64 0, faultV 2], by simp [results, Tryz.results51, go_sem, k0, k1, k2, k3, k4, k5], RfPost.mk' HR.out rfl (World.ownsRow_nil _ _ _ _) HB2.out⟩
    · obtain ⟨v, hjb, hown⟩ := hjs
      obtain ⟨oa, cap, rfl⟩ := own_form3 hown
      have HOW := hide hown
      have HRB := hide hrb
      have HJB := hide hjb
      have c0 := blk_cell hrb.2 0 rfl
      obtain ⟨r0, r1, r2, r3, r4, r5⟩ := hrb.1.jv
      have f0 := hrb.1.free 0
      have f1 := hrb.1.free 1
      have f2 := hrb.1.free 2
      have f3 := hrb.1.free 3
      have f4 := hrb.1.free 4
      have f5 := hrb.1.free 5
      obtain ⟨d0, d1, d2, d3, d4, d5⟩ := hjb.jv
      simp only [List.getElem_toArray, List.getElem_cons_zero] at c0
      have g0 : ((e : Int) == 0) = false := by rw [beq_eq_false_iff_ne]; omega
      clear hrb hjb hown
      by_cases hle : e = s.size
      · have HR := hide (show rfR n (bl s) = (j, e, 0) by rw [hr, if_pos (by rw [HLEN.out]; exact hle)])
        have g1 : ((e : Int) == (s.size : Int)) = true := by simp [hle]
        have g2 : (e == s.size) = true := by simp [hle]
        clear hr
        have HLE := hide hle
        clear hle
        have HE := hide (HRB.out.1.all j.number j.term j.vote j.s j.u (.slice oa j.es.length cap))
        clear HRB HJB
        gi_wp2
        gi_region
        gi_wp2
        have hX := HE.out.1
        have hY := HE.out.2
        have hO1 := own_keptb HOW.out hY (by omega)
        clear HE HOW
        generalize ((((((W.setCell ⟨w.heap.size, 0, none⟩ (Value.int IntKind.i64 j.number)).setCell ⟨w.heap.size, 1, none⟩ (Value.int IntKind.i64 j.term)).setCell ⟨w.heap.size, 2, none⟩ (Value.int IntKind.i64 j.vote)).setCell ⟨w.heap.size, 3, none⟩ (Value.int IntKind.i64 j.s)).setCell ⟨w.heap.size, 4, none⟩ (Value.int IntKind.i64 j.u)).setCell ⟨w.heap.size, 5, none⟩ (Value.slice oa j.es.length cap)) = Wf at hX hY hO1 ⊢
        replace hX : JB Wf.drew w.heap.size j.number j.term j.vote j.s j.u (.slice oa j.es.length cap) := hX
        replace hY := grown_trans hY (grown_below (Below.refl _ Wf).drew)
        replace hO1 := own_below hO1 (Below.refl _ Wf).drew
        generalize Wf.drew = Wg at hX hY hO1 ⊢
        obtain ⟨hd2, hj2, hb2⟩ := rf_shut hD HDF.out hX hY HBL.out
        have HD2 := hide hd2
        have HB2 := hide hb2
        have HO2 := hide (own_base (ownsRow_putObj hO1 (.deferred none) hd2 rfl) (show w.heap.size ≤ w.heap.size + 3 by omega))
        clear HDF HBL hd2 hb2 hX hY hO1
        refine ⟨by simp, .inl ⟨_, _, rfl, run_takeDeferred HD2.out, ?_⟩⟩
        generalize Wg.putObj D (.deferred none) = W2 at hj2 HB2 HO2 ⊢
        obtain ⟨k0, k1, k2, k3, k4, k5⟩ := hj2.jv
        clear hj2
        refine ⟨.tuple #[jval j.number j.term j.vote j.s j.u (.slice oa j.es.length cap), .int .i64 (e : Int), .nilIface], by simp [results, Tryz.results51, go_sem, k0, k1, k2, k3, k4, k5], RfPost.mk' HR.out rfl HO2.out HB2.out⟩
      · have HR := hide (show rfR n (bl s) = (j, e, 3) by rw [hr, if_neg (by rw [HLEN.out]; exact hle)])
        have g1 : ((e : Int) == (s.size : Int)) = false := by rw [beq_eq_false_iff_ne]; omega
        have g2 : (e == s.size) = false := by rw [beq_eq_false_iff_ne]; exact hle
        clear hr hle
        have HE := hide (HRB.out.1.all j.number j.term j.vote j.s j.u (.slice oa j.es.length cap))
        clear HRB HJB
        gi_wp2
        gi_region
        gi_wp2
        have hX := HE.out.1
        have hY := HE.out.2
        have hO1 := own_keptb HOW.out hY (by omega)
        clear HE HOW
        generalize ((((((W.setCell ⟨w.heap.size, 0, none⟩ (Value.int IntKind.i64 j.number)).setCell ⟨w.heap.size, 1, none⟩ (Value.int IntKind.i64 j.term)).setCell ⟨w.heap.size, 2, none⟩ (Value.int IntKind.i64 j.vote)).setCell ⟨w.heap.size, 3, none⟩ (Value.int IntKind.i64 j.s)).setCell ⟨w.heap.size, 4, none⟩ (Value.int IntKind.i64 j.u)).setCell ⟨w.heap.size, 5, none⟩ (Value.slice oa j.es.length cap)) = Wf at hX hY hO1 ⊢
        replace hX : JB Wf.drew w.heap.size j.number j.term j.vote j.s j.u (.slice oa j.es.length cap) := hX
        replace hY := grown_trans hY (grown_below (Below.refl _ Wf).drew)
        replace hO1 := own_below hO1 (Below.refl _ Wf).drew
        generalize Wf.drew = Wg at hX hY hO1 ⊢
        obtain ⟨hd2, hj2, hb2⟩ := rf_shut hD HDF.out hX hY HBL.out
        have HD2 := hide hd2
        have HB2 := hide hb2
        have HO2 := hide (own_base (ownsRow_putObj hO1 (.deferred none) hd2 rfl) (show w.heap.size ≤ w.heap.size + 3 by omega))
        clear HDF HBL hd2 hb2 hX hY hO1
        refine ⟨by simp, .inl ⟨_, _, rfl, run_takeDeferred HD2.out, ?_⟩⟩
        generalize Wg.putObj D (.deferred none) = W2 at hj2 HB2 HO2 ⊢
        obtain ⟨k0, k1, k2, k3, k4, k5⟩ := hj2.jv
        clear hj2
        refine ⟨.tuple #[jval j.number j.term j.vote j.s j.u (.slice oa j.es.length cap), .int .i64 (e : Int), faultV 3], by simp [results, Tryz.results51, go_sem, k0, k1, k2, k3, k4, k5], RfPost.mk' HR.out rfl HO2.out HB2.out⟩)
  clear HK
  refine wpIn_rangeStop rfl (by omega) (gf := 77) (fb := #[.string s]) rfl trivial (enters_of Tryz.func77 (by kernel_rfl) rfl) (each_stop s hs _ (by omega)) (fun _ => rfl)
    (RI w n) (RX w n) (RI.own w n _ (by simp; omega)) (fun c => RX.own w n c _ (by simp; omega)) (fun xs W h => tab_below HTAB.out h.2) HI0.out
    (fun x => { tmps := #[.int .i64 n, .string s, undef, undef, .pointer (some ⟨w.heap.size, 0, none⟩), .int .i64 0, .nilIface, .pointer (some ⟨w.heap.size + 1, 0, none⟩), .pointer (some ⟨w.heap.size + 1 + 1, 0, none⟩), .string ⟨x.1.toArray⟩, .int .i64 (x.2 : Int), .int .i64 n, .bool true, .bool false, undef, undef, undef, .int .i64 n, .agg #[.int .i64 n, .int .i64 0, .int .i64 0, .int .i64 0, .int .i64 0, .slice none 0 0], .string s, .func (.func 77) #[.string s] #[], .string ⟨x.1.toArray⟩, .int .i64 (x.2 : Int), undef, undef, undef, undef, undef, undef, undef, undef, undef, undef, undef, undef, undef, undef, undef, undef, undef, undef, undef, undef, undef, undef, undef, undef, undef, undef, undef, undef, undef, undef, undef, undef, undef], defers := [] }) ?assign ?body ?done ?stop
  case assign =>
    intro l x W K' hK'
    unfold handed
    gi_wp2
    exact hK'
  case body =>
    rintro l pre x W hI ⟨hG1, hG2, hG3⟩
    obtain ⟨⟨j, h1, ⟨v, hjb, hown⟩, h3, h4, h5⟩, h7⟩ := hI
    have hsz : (⟨x.1.toArray⟩ : ByteArray).size ≤ 1048576 := by rw [size_mk7]; omega
    have hfp : 0 < (frameL x.1).length := by rw [frameL_length]; omega
    have hk0 : (((w.alloc (.cells (jcells 0 0 0 0 0 (.slice none 0 0)) 30)).alloc (.cells (jcells n 0 0 0 0 (.slice none 0 0)) 30)).alloc (.cells #[.int .i64 0] 3)).heap.size = w.heap.size + 3 := by simp
    have HK0 := hide hk0
    clear hk0
    have H7 := hide h7
    have H5 := hide h5
    have HG2 := hide hG2
    clear hG2
    have c0 := blk_cell h5.2 0 rfl
    simp only [List.getElem_toArray, List.getElem_cons_zero] at c0
    have hw3 : w.heap.size + 3 ≤ W.heap.size := by have := blk_lt h5.2; omega
    clear h7 h5 HI0 AFT
    by_cases hpe : pre = []
    · subst hpe
      have e0 : endOf ([] : List (List UInt8 × Nat)) = 0 := rfl
      rw [e0] at H5 c0 HG2
      replace c0 : W.cell? ⟨w.heap.size + 2, 0, none⟩ = some (.int .i64 0) := c0
      have hj0 : j = ⟨n, 0, 0, 0, 0, []⟩ := by simpa [jnAt] using h1.symm
      subst hj0
      have HBG := hide (begin_any ⟨x.1.toArray⟩ hsz W (w.heap.size + 1) _ _ _ _ _ _ hjb)
      rw [bl_mk7] at HBG
      clear h1 hjb hown h3 h4
      cases hp : rdPair 66 x.1 1000000 100000 with
      | none =>
        have HP := hide hp
        unfold BgPost at HBG
        rw [hp, show (none : Option (Nat × Nat)).isSome = false from rfl] at HBG
        clear hp
        gi_wp2_with (first | (refine ⟨trivial, ?_⟩; gi_at_call 78; refine (CallsIn.inRound l (callsIn_wide.2 HBG.out)).mono ?_; rintro e W1 ⟨s', u', rfl, -, hj1, hg1⟩) | (refine ⟨trivial, ?_⟩; rename_i K9 h9; refine h9 _ _ ?_; clear h9))
        refine ⟨KeepsFrom.of_grownBy hg1 (fun k e => by cases e; simp), ⟨rfl, [], x, rfl, rfl, RB.kept H5.out hg1, Or.inl ⟨rfl, ?_⟩⟩, H7.out.grown hg1 H7.out.size (fun k e => by cases e; omega)⟩
        unfold jnBegin
        rw [HP.out]
      | some q =>
        obtain ⟨a, c⟩ := q
        have HP := hide hp
        unfold BgPost at HBG
        rw [hp, show (some (a, c) : Option (Nat × Nat)).isSome = true from rfl] at HBG
        clear hp
        gi_wp2_with (first | (refine ⟨trivial, ?_⟩; gi_at_call 78; refine (CallsIn.inRound l (callsIn_wide.2 HBG.out)).mono ?_; rintro e W1 ⟨s', u', rfl, hq, hj1, hg1⟩; have hb5 := RB.kept H5.out hg1; have c1 := blk_cell hb5.2 0 rfl; have f1 := blk_free hb5.2 0; simp only [List.getElem_toArray, List.getElem_cons_zero] at c1; replace c1 : W1.cell? ⟨w.heap.size + 2, 0, none⟩ = some (.int .i64 0) := c1) | (refine ⟨trivial, ?_⟩; rename_i K9 h9; refine h9 _ _ ?_; clear h9))
        have hqe := hq (a, c) rfl
        cases hqe
        obtain ⟨hb6, hj6, hg6⟩ := RB.put hb5 hj1 (x.2 : Int)
        refine ⟨(KeepsFrom.of_grownBy hg1 (fun k e => by cases e; simp)).trans (KeepsFrom.of_grownBy hg6 (fun k e => by cases e; simp)), ⟨⟨n, 0, 0, a, c, []⟩, ?_, ⟨_, hj6, World.ownsRow_nil _ _ _ _⟩, ?_, Or.inr ?_, ?_⟩, (H7.out.grown hg1 H7.out.size (fun k e => by cases e; omega)).grown hg6 (Nat.le_trans H7.out.size hg1.size) (fun k e => by cases e; omega)⟩
        · show jnAt n [x.1] = _
          rw [jnAt_first]
          unfold jnBegin
          rw [HP.out]
        · show endOf ([] ++ [x]) = flen [x.1]
          rw [endOf_snoc]
          simp [flen, HG2.out]
        · rw [endOf_snoc, HG2.out]
          omega
        · rw [endOf_snoc]
          exact hb6
    · have hE : 0 < endOf pre := h4.resolve_left hpe
      obtain ⟨hlg, -, -⟩ := jnAt_ok h1
      have HGO := hide (goOn_any ⟨x.1.toArray⟩ hsz W (w.heap.size + 1) (w.heap.size + 3) j ⟨v, hjb, hown⟩ (by omega) hw3 hlg)
      rw [bl_mk7] at HGO
      have HPE := hide hpe
      have H1 := hide h1
      have H3 := hide h3
      have HSN := hide (jnAt_snoc (x := x.1) h1 (fun e => hpe (by simpa using e)))
      have hE' := hE
      obtain ⟨E, hEe⟩ : ∃ E, endOf pre = E := ⟨_, rfl⟩
      rw [hEe] at c0 hE'
      have g0 : ((E : Int) == 0) = false := by rw [beq_eq_false_iff_ne]; omega
      have g1 : (E == 0) = false := by rw [beq_eq_false_iff_ne]; omega
      have g2 : decide (0 < E) = true := by simpa using hE'
      have HEE := hide hEe
      clear hEe h1 hjb hown h3 h4 hpe hlg
      cases hm : jnMore j x.1 with
      | none =>
        have HM := hide hm
        unfold GoPost jnNext at HGO
        rw [hm, show (none : Option JnV).isSome = false from rfl, Option.getD_none] at HGO
        clear hm
        gi_wp2_with (first | (refine ⟨trivial, ?_⟩; gi_at_call 79; refine (CallsIn.inRound l (callsIn_wide.2 HGO.out)).mono ?_; rintro e W1 ⟨rfl, hj1, hg1⟩) | (refine ⟨trivial, ?_⟩; rename_i K9 h9; refine h9 _ _ ?_; clear h9))
        exact ⟨KeepsFrom.of_grownBy hg1 (fun k e => by cases e; simp), ⟨rfl, pre, x, rfl, H3.out, RB.kept H5.out hg1, Or.inr ⟨HPE.out, hE, j, H1.out, HM.out, hj1⟩⟩, H7.out.grown hg1 H7.out.size (fun k e => by cases e; omega)⟩
      | some j' =>
        rw [hm] at HSN
        unfold GoPost jnNext at HGO
        rw [hm, show (some j' : Option JnV).isSome = true from rfl, Option.getD_some] at HGO
        clear hm
        gi_wp2_with (first | (refine ⟨trivial, ?_⟩; gi_at_call 79; refine (CallsIn.inRound l (callsIn_wide.2 HGO.out)).mono ?_; rintro e W1 ⟨rfl, hj1, hg1⟩; have hb5 := RB.kept H5.out hg1; have c1 := blk_cell hb5.2 0 rfl; have f1 := blk_free hb5.2 0; simp only [List.getElem_toArray, List.getElem_cons_zero] at c1; rw [HEE.out] at c1) | (refine ⟨trivial, ?_⟩; rename_i K9 h9; refine h9 _ _ ?_; clear h9))
        obtain ⟨v1, hjb1, hown1⟩ := hj1
        obtain ⟨hb6, hj6, hg6⟩ := RB.put hb5 hjb1 (x.2 : Int)
        refine ⟨(KeepsFrom.of_grownBy hg1 (fun k e => by cases e; simp)).trans (KeepsFrom.of_grownBy hg6 (fun k e => by cases e; simp)), ⟨j', ?_, ⟨v1, hj6, own_keptb hown1 hg6 (by omega)⟩, ?_, Or.inr ?_, ?_⟩, (H7.out.grown hg1 H7.out.size (fun k e => by cases e; omega)).grown hg6 (Nat.le_trans H7.out.size hg1.size) (fun k e => by cases e; omega)⟩
        · rw [List.map_append]
          exact HSN.out
        · rw [endOf_snoc, List.map_append, show List.map (·.1) [x] = [x.1] from rfl, flen_snoc, ← H3.out]
          exact HG2.out
        · rw [endOf_snoc, HG2.out]
          omega
        · rw [endOf_snoc]
          exact hb6
  case done =>
    rintro D xs W hD hS hI hdef
    refine AFT.out D W (by simpa using hD) hdef hI.2 ?_
    rcases RI.done HI.out hS hI with ⟨-, k1, k2, -⟩ | ⟨j, e, k1, k2, k3, k4, -⟩
    · exact Or.inl ⟨k1, k2⟩
    · exact Or.inr ⟨j, e, k1, k2, k3, k4⟩
  case stop =>
    rintro D c xs W hD hS hI hdef
    obtain ⟨rfl, hst⟩ := RX.done HI.out hS hI
    gi_wp2
    refine AFT.out D W (by simpa using hD) hdef hI.2 ?_
    rcases hst with ⟨k1, k2, -⟩ | ⟨j, e, k1, k2, k3, k4, -⟩
    · exact Or.inl ⟨k1, k2⟩
    · exact Or.inr ⟨j, e, k1, k2, k3, k4⟩

theorem readFile_any (n : Int) (s : ByteArray) (hs : s.size ≤ 1048576) (w : World) (htab : SumTabIs w) :
    Calls Tryz.prog 51 #[.int .i64 n, .string s] w fun e w' => RfPost n (bl s) w e w' := by
  by_cases hi : 0 ≤ n ∧ n ≤ 999
  · exact readFile_in n s hs hi.1 hi.2 w htab
  · exact readFile_out n s hi w

end Go.Proofs.YthbgklmnmoclhaaGreatDoor
