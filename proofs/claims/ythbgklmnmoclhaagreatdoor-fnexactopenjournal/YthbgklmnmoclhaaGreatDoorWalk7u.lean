/-
  Walks of chapter 7: a journal copied, a journal written as a new file, of the specification (made by wip/tools/gen7u.py).
-/
import Derived.Test.YthbgklmnmoclhaaGreatDoorPack33
import Derived.Test.YthbgklmnmoclhaaGreatDoorPack12
namespace Go.Proofs.YthbgklmnmoclhaaGreatDoor
open Go.RowKit P1 P3 P5 P9 K
attribute [local go_sem ↓] Go.wp_at_zero Go.wp_at_succ
set_option linter.unusedVariables false
set_option linter.unusedSimpArgs false

/-- A journal that is handed back, its entries the call's own. -/
def CpPost (w : World) (jn jt jv s u : Int) (es : List EntV) (e : Ending) (w' : World) : Prop :=
  ∃ v, e = .returned (jval jn jt jv s u v) ∧ w'.ownsRow w.heap.size 111 3 v es.length (es.flatMap ecells) ∧ Below w.heap.size w w'

set_option maxHeartbeats 4000000 in
theorem l07Copy_any (jn jt jv s u : Int) (oa : Option Addr) (n cap : Nat) (es : List EntV) (hn : n ≤ 1048576) (w : World) (hat : EntsAt w oa n cap es) :
    Calls Tryz.prog 23 #[jval jn jt jv s u (.slice oa n cap)] w fun e w' => CpPost w jn jt jv s u es e w' := by
  have hlen := hat.len
  have hb0 := ((Below.refl w.heap.size w).alloc (Nat.le_refl _) (.cells (jcells jn jt jv s u (.slice oa n cap)) 30)).alloc (by simp) (.cells (jcells 0 0 0 0 0 (.slice none 0 0)) 30)
  have hj0 : JB ((w.alloc (.cells (jcells jn jt jv s u (.slice oa n cap)) 30)).alloc (.cells (jcells 0 0 0 0 0 (.slice none 0 0)) 30)) w.heap.size jn jt jv s u (.slice oa n cap) := (Below.heap_alloc _ _ _ (by simp)).trans (heap_alloc_new _ _)
  have hr0 : JB ((w.alloc (.cells (jcells jn jt jv s u (.slice oa n cap)) 30)).alloc (.cells (jcells 0 0 0 0 0 (.slice none 0 0)) 30)) (w.heap.size + 1) 0 0 0 0 0 (.slice none 0 0) := by have := heap_alloc_new (w.alloc (.cells (jcells jn jt jv s u (.slice oa n cap)) 30)) (.cells (jcells 0 0 0 0 0 (.slice none 0 0)) 30); rwa [World.size_alloc] at this
  have hb1 := hb0.alloc (by simp; omega) (.cells #[] 111)
  have hbx := (Below.refl ((w.alloc (.cells (jcells jn jt jv s u (.slice oa n cap)) 30)).alloc (.cells (jcells 0 0 0 0 0 (.slice none 0 0)) 30)).heap.size ((w.alloc (.cells (jcells jn jt jv s u (.slice oa n cap)) 30)).alloc (.cells (jcells 0 0 0 0 0 (.slice none 0 0)) 30))).alloc (Nat.le_refl _) (.cells #[] 111)
  have hj1 := hj0.on hbx hj0.lt
  have hr1 := hr0.on hbx hr0.lt
  have hg1 := heap_alloc_new ((w.alloc (.cells (jcells jn jt jv s u (.slice oa n cap)) 30)).alloc (.cells (jcells 0 0 0 0 0 (.slice none 0 0)) 30)) (.cells #[] 111)
  simp only [World.size_alloc] at hg1
  have HAT1 := hide (hat.below hb1)
  have HB1 := hide hb1
  have HJ1 := hide hj1
  have HR1 := hide hr1
  have HG1 := hide hg1
  have HLE := hide hlen
  clear hat hb0 hj0 hr0 hb1 hbx hj1 hr1 hg1 hlen
  go_enter Tryz.func23, Tryz.ntmps23
  go_wp2_with (at_builtin; refine wpList_append_piece rfl _ _ rfl _ HG1.out rfl oa n cap es rfl HAT1.out hn w.heap.size (by omega) ?_; intro v' w2 ho2 hg2; obtain ⟨ov, cv, hv⟩ := own_form3 ho2; subst hv; have HJ2 := hide (HJ1.out.kept hg2 (fun e => by injection e with e; omega)); have HR2 := hide (HR1.out.kept hg2 (fun e => by injection e with e; omega)); have B2 := hide (HB1.out.grown hg2 (by simp; omega) (fun k e => by cases e; omega)); have HO2 := hide ho2; obtain ⟨a0, a1, a2, a3, a4, a5⟩ := HJ2.out.jv; have g5 := HJ2.out.free 5; obtain ⟨b0, b1, b2, b3, b4, b5⟩ := HR2.out.jv; have f0 := HR2.out.free 0; have f1 := HR2.out.free 1; have f2 := HR2.out.free 2; have f3 := HR2.out.free 3; have f4 := HR2.out.free 4; have f5 := HR2.out.free 5; clear ho2 hg2)
  have hj3 : JB (w2.setCell ⟨w.heap.size, 5, none⟩ (.slice ov n cv)) w.heap.size jn jt jv s u (.slice ov n cv) := blk_set (k := 5) (.slice ov n cv) HJ2.out
  have hg3 := blk_grown w2 w.heap.size 5 (.slice ov n cv)
  have hr3 := HR2.out.kept hg3 (fun e => by injection e with e; omega)
  have HO3 := hide (own_keptJA HO2.out HJ2.out (by decide) hg3)
  have B3 := hide (B2.out.grown hg3 B2.out.size (fun k e => by cases e; exact Nat.le_refl _))
  have HJ3 := hide hj3
  have HR3 := hide hr3
  clear hj3 hg3 hr3 HJ2 HR2 HO2 B2
  have HE := hide (HR3.out.all jn jt jv s u (.slice ov n cv))
  have hX := HE.out.1
  have hY := HE.out.2
  have HO9 := hide (own_keptJA HO3.out HR3.out (by decide) hY)
  have B9 := hide (B3.out.grown hY B3.out.size (fun k e => by cases e; omega))
  clear HE HR3 HO3 B3 HJ3
  generalize ((((((((w2.setCell ⟨w.heap.size, 5, none⟩ (Value.slice ov n cv)).setCell ⟨w.heap.size + 1, 0, none⟩ (Value.int IntKind.i64 jn)).setCell ⟨w.heap.size + 1, 1, none⟩ (Value.int IntKind.i64 jt)).setCell ⟨w.heap.size + 1, 2, none⟩ (Value.int IntKind.i64 jv)).setCell ⟨w.heap.size + 1, 3, none⟩ (Value.int IntKind.i64 s)).setCell ⟨w.heap.size + 1, 4, none⟩ (Value.int IntKind.i64 u)).setCell ⟨w.heap.size + 1, 5, none⟩ (Value.slice ov n cv))) = wf at hX HO9 B9 ⊢
  obtain ⟨k0, k1, k2, k3, k4, k5⟩ := hX.jv
  refine bodyPost_ret (v := jval jn jt jv s u (.slice ov n cv)) (by simp [results, Tryz.results23, go_sem, k0, k1, k2, k3, k4, k5]) rfl ?_
  exact ⟨_, rfl, by rw [HLE.out]; exact HO9.out, B9.out⟩

/-- The acts by which a journal is written as a new file behind a number. -/
def anewG (on : Int) (j : JnV) : List ActV := [⟨1, nmNew, JnV.text { j with number := on + 1 }, []⟩, ⟨2, nmNew, [], []⟩, ⟨3, nmNew, [], jnName (on + 1)⟩, ⟨4, jnName on, [], []⟩]
theorem anewG_self (j : JnV) : anewG j.number j = anewA j := rfl
theorem anewG_cells (on : Int) (j : JnV) : (anewG on j).length = 4 ∧ (anewG on j).flatMap akc = [.int .i64 1, .string ⟨#[106, 43]⟩, .string ⟨(JnV.text { j with number := on + 1 }).toArray⟩, .string ⟨#[]⟩, .int .i64 2, .string ⟨#[106, 43]⟩, .string ⟨#[]⟩, .string ⟨#[]⟩, .int .i64 3, .string ⟨#[106, 43]⟩, .string ⟨#[]⟩, .string ⟨(jnName (on + 1)).toArray⟩, .int .i64 4, .string ⟨(jnName on).toArray⟩, .string ⟨#[]⟩, .string ⟨#[]⟩] := ⟨rfl, rfl⟩

/-- What is held: the new journal, and the old one's number. -/
structure AnS (b0 b3 : Nat) (on t v s u : Int) (x : Value) (w : World) : Prop where
  nx : JB w b3 (on + 1) t v s u x
  od : w.cell? ⟨b0, 0, none⟩ = some (.int .i64 on)
theorem AnS.on {b0 b3 : Nat} {on t v s u : Int} {x : Value} {w w' : World} (h : AnS b0 b3 on t v s u x w) (hb : Below w.heap.size w w') : AnS b0 b3 on t v s u x w' := ⟨h.nx.on hb h.nx.lt, (hb.cell (cell_lt h.od)).trans h.od⟩
theorem AnS.kept {b0 b3 b : Nat} {on t v s u : Int} {x : Value} {w w' : World} (h : AnS b0 b3 on t v s u x w) (hg : w.grownBy w' (some b)) (h1 : b ≠ b3) (h2 : b ≠ b0) : AnS b0 b3 on t v s u x w' :=
  ⟨h.nx.kept hg (fun e => by injection e with e; exact h1 e), (cell_block (p := ⟨b0, 0, none⟩) (hg.block b0 (cell_lt h.od) (fun e => by injection e with e; exact h2 e.symm))).trans h.od⟩

/-- What l07Anew leaves. -/
def AnYes (w : World) (on : Int) (j : JnV) (e : Ending) (w' : World) : Prop :=
  ∃ va v, e = .returned (.tuple #[va, jval (on + 1) j.term j.vote j.s j.u v, .bool true]) ∧ w'.ownsRow w.heap.size 57 4 va (anewG on j).length ((anewG on j).flatMap akc) ∧ w'.ownsRow w.heap.size 111 3 v j.es.length (j.es.flatMap ecells) ∧ Below w.heap.size w w'

theorem an_end {w wf : World} {on : Int} {j : JnV} {Y : List ActV} {cs : List Value} {va v : Value} {L : Nat} (h : Y.length = 4 ∧ Y.flatMap akc = cs) (hA : wf.ownsRow w.heap.size 57 4 va 4 cs) (hO : wf.ownsRow w.heap.size 111 3 v L (j.es.flatMap ecells)) (hB : Below w.heap.size w wf) :
    ∃ va' v', Ending.returned (.tuple #[va, jval (on + 1) j.term j.vote j.s j.u v, .bool true]) = .returned (.tuple #[va', jval (on + 1) j.term j.vote j.s j.u v', .bool true]) ∧ wf.ownsRow w.heap.size 57 4 va' Y.length (Y.flatMap akc) ∧ wf.ownsRow w.heap.size 111 3 v' L (j.es.flatMap ecells) ∧ Below w.heap.size w wf := by
  rw [h.1, h.2]
  exact ⟨_, _, rfl, hA, hO, hB⟩

theorem nextG_ok {on : Int} {j : JnV} (h0 : 0 ≤ on) (hh : jnHd j.term j.vote = true) (hl : lgOk j.s j.u j.es = true) : JnV.ok { j with number := on + 1 } = decide (on < 999) := by
  by_cases hc : on < 999
  · rw [decide_eq_true hc, ok_log (j := { j with number := on + 1 }) (by show 0 ≤ on + 1 ∧ on + 1 ≤ 999; omega) (jnHd_iff.1 hh)]
    exact hl
  · rw [decide_eq_false hc]
    exact ok_false_n (j := { j with number := on + 1 }) (by show on + 1 < 0 ∨ 999 < on + 1; omega)

set_option maxHeartbeats 1500000 in
theorem l07Anew_yes (on ot ovt os ou : Int) (ox : Value) (hox : ox.oneCell' = true) (j : JnV) (oa : Option Addr) (n cap : Nat) (w : World) (h0 : 0 ≤ on) (h9 : on ≤ 999) (hh : jnHd j.term j.vote = true) (hl : lgOk j.s j.u j.es = true) (hat : EntsAt w oa n cap j.es) (hc : on < 999) :
    Calls Tryz.prog 24 #[jval on ot ovt os ou ox, jval j.number j.term j.vote j.s j.u (.slice oa n cap)] w fun e w' => AnYes w on j e w' := by
  have hw : ∀ f ∈ j.es, f.data.size ≤ 1048576 := fun f hf => by have := ok_data (lgOk_ok hl f hf); omega
  have hl60 := (lgOk_rm hl).2.2.2.2.1
  have hlen := hat.len
  have hno := nextG_ok h0 hh hl
  have hb0 := (((Below.refl w.heap.size w).alloc (Nat.le_refl _) (.cells (jcells on ot ovt os ou ox) 30)).alloc (by simp) (.cells (jcells j.number j.term j.vote j.s j.u (.slice oa n cap)) 30)).alloc (by simp; omega) (.cells (jcells 0 0 0 0 0 (.slice none 0 0)) 30)
  have ho0 : JB (((w.alloc (.cells (jcells on ot ovt os ou ox) 30)).alloc (.cells (jcells j.number j.term j.vote j.s j.u (.slice oa n cap)) 30)).alloc (.cells (jcells 0 0 0 0 0 (.slice none 0 0)) 30)) w.heap.size on ot ovt os ou ox := (Below.heap_alloc _ _ _ (by simp; omega)).trans ((Below.heap_alloc _ _ _ (by simp)).trans (heap_alloc_new _ _))
  have hj0 : JB (((w.alloc (.cells (jcells on ot ovt os ou ox) 30)).alloc (.cells (jcells j.number j.term j.vote j.s j.u (.slice oa n cap)) 30)).alloc (.cells (jcells 0 0 0 0 0 (.slice none 0 0)) 30)) (w.heap.size + 1) j.number j.term j.vote j.s j.u (.slice oa n cap) := (Below.heap_alloc _ _ _ (by simp)).trans (by have := heap_alloc_new (w.alloc (.cells (jcells on ot ovt os ou ox) 30)) (.cells (jcells j.number j.term j.vote j.s j.u (.slice oa n cap)) 30); rwa [World.size_alloc] at this)
  have hr0 : JB (((w.alloc (.cells (jcells on ot ovt os ou ox) 30)).alloc (.cells (jcells j.number j.term j.vote j.s j.u (.slice oa n cap)) 30)).alloc (.cells (jcells 0 0 0 0 0 (.slice none 0 0)) 30)) (w.heap.size + 1 + 1) 0 0 0 0 0 (.slice none 0 0) := by have := heap_alloc_new ((w.alloc (.cells (jcells on ot ovt os ou ox) 30)).alloc (.cells (jcells j.number j.term j.vote j.s j.u (.slice oa n cap)) 30)) (.cells (jcells 0 0 0 0 0 (.slice none 0 0)) 30); rwa [World.size_alloc, World.size_alloc] at this
  have hb1 := hb0.alloc (by simp; omega) (.cells (jcells (on + 1) j.term j.vote j.s j.u (.slice oa n cap)) 30)
  have hbx := (Below.refl (((w.alloc (.cells (jcells on ot ovt os ou ox) 30)).alloc (.cells (jcells j.number j.term j.vote j.s j.u (.slice oa n cap)) 30)).alloc (.cells (jcells 0 0 0 0 0 (.slice none 0 0)) 30)).heap.size (((w.alloc (.cells (jcells on ot ovt os ou ox) 30)).alloc (.cells (jcells j.number j.term j.vote j.s j.u (.slice oa n cap)) 30)).alloc (.cells (jcells 0 0 0 0 0 (.slice none 0 0)) 30))).alloc (Nat.le_refl _) (.cells (jcells (on + 1) j.term j.vote j.s j.u (.slice oa n cap)) 30)
  have ho1 := ho0.on hbx ho0.lt
  have hr1 := hr0.on hbx hr0.lt
  have hx1 : JB ((((w.alloc (.cells (jcells on ot ovt os ou ox) 30)).alloc (.cells (jcells j.number j.term j.vote j.s j.u (.slice oa n cap)) 30)).alloc (.cells (jcells 0 0 0 0 0 (.slice none 0 0)) 30)).alloc (.cells (jcells (on + 1) j.term j.vote j.s j.u (.slice oa n cap)) 30)) (w.heap.size + 1 + 1 + 1) (on + 1) j.term j.vote j.s j.u (.slice oa n cap) := by have := heap_alloc_new (((w.alloc (.cells (jcells on ot ovt os ou ox) 30)).alloc (.cells (jcells j.number j.term j.vote j.s j.u (.slice oa n cap)) 30)).alloc (.cells (jcells 0 0 0 0 0 (.slice none 0 0)) 30)) (.cells (jcells (on + 1) j.term j.vote j.s j.u (.slice oa n cap)) 30); rwa [World.size_alloc, World.size_alloc, World.size_alloc] at this
  have HJT0 := hide (fun w hat => specJournalText_any { j with number := on + 1 } oa n cap w hat hw)
  have HNM1 := hide (fun w => specJournalName_any on (by omega) (by omega) w)
  have HNM2 := hide (fun w => specJournalName_any (on + 1) (by omega) (by omega) w)
  have HCP := hide (fun w hat => l07Copy_any (on + 1) j.term j.vote j.s j.u oa n cap j.es (by omega) w hat)
  have HO1 := hide ho1
  have HR1 := hide hr1
  have HX1 := hide hx1
  have HB1 := hide hb1
  have HAT := hide hat
  clear hat hb0 ho0 hj0 hr0 hb1 hbx ho1 hr1 hx1 hw
  have hal := jnName_length on
  have hal2 := jnName_length (on + 1)
  rw [decide_eq_true hc] at hno
  have hjt : jtVal { j with number := on + 1 } = .tuple #[.string ⟨(JnV.text { j with number := on + 1 }).toArray⟩, .bool true] := by unfold jtVal; rw [if_pos hno]
  rw [hjt] at HJT0
  have HJT := hide HJT0.out
  have HAN := hide (anewG_cells on j)
  unfold AnYes
  clear hjt HJT0 hno hh hl
  generalize (⟨(JnV.text { j with number := on + 1 }).toArray⟩ : ByteArray) = TX at HJT HAN
  generalize anewG on j = Y at HAN ⊢
  generalize (⟨(jnName on).toArray⟩ : ByteArray) = N1 at HNM1 HAN
  generalize (⟨(jnName (on + 1)).toArray⟩ : ByteArray) = N2 at HNM2 HAN
  simp only at HJT
  go_enter Tryz.func24, Tryz.ntmps24
  go_wp2_with fail
  generalize (((w.alloc (Obj.cells #[Value.int IntKind.i64 on, Value.int IntKind.i64 ot, Value.int IntKind.i64 ovt, Value.int IntKind.i64 os, Value.int IntKind.i64 ou, ox] 30)).alloc (Obj.cells #[Value.int IntKind.i64 j.number, Value.int IntKind.i64 j.term, Value.int IntKind.i64 j.vote, Value.int IntKind.i64 j.s, Value.int IntKind.i64 j.u, Value.slice oa n cap] 30)).alloc (Obj.cells #[Value.int IntKind.i64 0, Value.int IntKind.i64 0, Value.int IntKind.i64 0, Value.int IntKind.i64 0, Value.int IntKind.i64 0, Value.slice none 0 0] 30)).alloc (Obj.cells #[Value.int IntKind.i64 (on + 1), Value.int IntKind.i64 j.term, Value.int IntKind.i64 j.vote, Value.int IntKind.i64 j.s, Value.int IntKind.i64 j.u, Value.slice oa n cap] 30) = w1 at HO1 HR1 HX1 HB1 ⊢
  refine (HJT.out _ (HAT.out.below HB1.out)).mono ?_
  rintro e x4 ⟨rfl, hb4⟩
  have HO4 := hide (HO1.out.on hb4 HO1.out.lt)
  have HRZ := hide (HR1.out.on hb4 HR1.out.lt)
  have HX4 := hide (HX1.out.on hb4 HX1.out.lt)
  have B4 := hide (HB1.out.trans (hb4.mono HB1.out.size))
  clear hb4 HO1 HR1 HX1 HB1
  go_wp2_with fail
  have hwx := B4.out.size
  have HS := hide (AnS.mk (b0 := w.heap.size) HX4.out HO4.out.jv.c0)
  refine wp_region_held_drew (S := AnS w.heap.size (w.heap.size + 1 + 1 + 1) on j.term j.vote j.s j.u (.slice oa n cap)) (by kernel_rfl) (HS.out.on (Below.refl _ _).drew) (fun hHeld => ?_)
  have HBd := hide ((Below.refl x4.heap.size x4).drew)
  clear HS HX4 HO4
  generalize x4.drew = xd at hHeld HBd ⊢
  refine wpAnyH_take (i := 0) (v := ?_) rfl (by kernel_rfl) (by kernel_rfl) (by kernel_rfl) (fun _ _ _ h => h) (Or.inl ⟨by rfl, ?_⟩) (by assumption) ?_; rotate_left
  · (intro wz hSw; obtain ⟨z0, z1, z2, z3, z4, z5⟩ := hSw.nx.jv; have y0 := hSw.od; clear hSw; go_simp; first | done | with_reducible rfl)
  try simp only [Act.put, List.getElem_toArray, List.getElem_cons_zero, List.getElem_cons_succ, List.setIfInBounds_toArray, List.set_cons_zero, List.set_cons_succ]
  refine wpAnyH_take (i := 1) (v := ?_) rfl (by kernel_rfl) (by kernel_rfl) (by kernel_rfl) (fun _ _ _ h => h) (Or.inl ⟨by rfl, ?_⟩) (by assumption) ?_; rotate_left
  · (intro wz hSw; obtain ⟨z0, z1, z2, z3, z4, z5⟩ := hSw.nx.jv; have y0 := hSw.od; clear hSw; go_simp; first | done | with_reducible rfl)
  try simp only [Act.put, List.getElem_toArray, List.getElem_cons_zero, List.getElem_cons_succ, List.setIfInBounds_toArray, List.set_cons_zero, List.set_cons_succ]
  refine wpAnyH_take (i := 2) (v := ?_) rfl (by kernel_rfl) (by kernel_rfl) (by kernel_rfl) (fun _ _ _ h => h) (Or.inl ⟨by rfl, ?_⟩) (by assumption) ?_; rotate_left
  · (intro wz hSw; obtain ⟨z0, z1, z2, z3, z4, z5⟩ := hSw.nx.jv; have y0 := hSw.od; clear hSw; go_simp; first | done | with_reducible rfl)
  try simp only [Act.put, List.getElem_toArray, List.getElem_cons_zero, List.getElem_cons_succ, List.setIfInBounds_toArray, List.set_cons_zero, List.set_cons_succ]
  refine wpAnyH_take (i := 3) (v := ?_) rfl (by kernel_rfl) (by kernel_rfl) (by kernel_rfl) (fun _ _ _ h => h) (Or.inl ⟨by rfl, ?_⟩) (by assumption) ?_; rotate_left
  · (intro wz hSw; obtain ⟨z0, z1, z2, z3, z4, z5⟩ := hSw.nx.jv; have y0 := hSw.od; clear hSw; go_simp; first | done | with_reducible rfl)
  try simp only [Act.put, List.getElem_toArray, List.getElem_cons_zero, List.getElem_cons_succ, List.setIfInBounds_toArray, List.set_cons_zero, List.set_cons_succ]
  refine wpAnyH_take (i := 4) (v := ?_) rfl (by kernel_rfl) (by kernel_rfl) (by kernel_rfl) (fun _ _ _ h => h) (Or.inl ⟨by rfl, ?_⟩) (by assumption) ?_; rotate_left
  · (intro wz hSw; obtain ⟨z0, z1, z2, z3, z4, z5⟩ := hSw.nx.jv; have y0 := hSw.od; clear hSw; go_simp; first | done | with_reducible rfl)
  try simp only [Act.put, List.getElem_toArray, List.getElem_cons_zero, List.getElem_cons_succ, List.setIfInBounds_toArray, List.set_cons_zero, List.set_cons_succ]
  refine wpAnyH_take (i := 7) (v := ?_) rfl (by kernel_rfl) (by kernel_rfl) (by kernel_rfl) (fun _ _ _ h => h) (Or.inl ⟨by rfl, ?_⟩) (by assumption) ?_; rotate_left
  · (intro wz hSw; obtain ⟨z0, z1, z2, z3, z4, z5⟩ := hSw.nx.jv; have y0 := hSw.od; clear hSw; go_simp; first | done | with_reducible rfl)
  try simp only [Act.put, List.getElem_toArray, List.getElem_cons_zero, List.getElem_cons_succ, List.setIfInBounds_toArray, List.set_cons_zero, List.set_cons_succ]
  refine wpAnyH_take (i := 8) (v := ?_) rfl (by kernel_rfl) (by kernel_rfl) (by kernel_rfl) (fun _ _ _ h => h) (Or.inl ⟨by rfl, ?_⟩) (by assumption) ?_; rotate_left
  · (intro wz hSw; obtain ⟨z0, z1, z2, z3, z4, z5⟩ := hSw.nx.jv; have y0 := hSw.od; clear hSw; go_simp; first | done | with_reducible rfl)
  try simp only [Act.put, List.getElem_toArray, List.getElem_cons_zero, List.getElem_cons_succ, List.setIfInBounds_toArray, List.set_cons_zero, List.set_cons_succ]
  refine wpAnyH_take (i := 12) (v := ?_) rfl (by kernel_rfl) (by kernel_rfl) (by kernel_rfl) (fun _ _ _ h => h) (Or.inl ⟨by rfl, ?_⟩) (by assumption) ?_; rotate_left
  · (intro wz hSw; obtain ⟨z0, z1, z2, z3, z4, z5⟩ := hSw.nx.jv; have y0 := hSw.od; clear hSw; go_simp; first | done | with_reducible rfl)
  try simp only [Act.put, List.getElem_toArray, List.getElem_cons_zero, List.getElem_cons_succ, List.setIfInBounds_toArray, List.set_cons_zero, List.set_cons_succ]
  refine wpAnyH_ready (rs := [5]) (by kernel_rfl) (by simp) ?_
  refine AllReadyH.cons rfl (fun K hK => ?_) ?_
  · rw [if_pos (by rfl)]
    go_simp
    go_at_call 20
    refine (HNM2.out _).mono ?_
    rintro r x5 ⟨rfl, hb5⟩
    have HB5 := hide (HBd.out.trans (hb5.mono HBd.out.size))
    try go_simp
    refine hK.out _ _ ?_ (fun hHeld => ?_)
    · exact AnS.on hHeld hb5
    clear hK K
    try simp only [Act.put, List.getElem_toArray, List.getElem_cons_zero, List.getElem_cons_succ, List.setIfInBounds_toArray, List.set_cons_zero, List.set_cons_succ]
    clear hb5 HBd
    refine wpAnyH_take (i := 6) (v := ?_) rfl (by kernel_rfl) (by kernel_rfl) (by kernel_rfl) (fun _ _ _ h => h) (Or.inl ⟨by rfl, ?_⟩) (by assumption) ?_; rotate_left
    · (intro wz hSw; obtain ⟨z0, z1, z2, z3, z4, z5⟩ := hSw.nx.jv; have y0 := hSw.od; clear hSw; go_simp; first | done | with_reducible rfl)
    try simp only [Act.put, List.getElem_toArray, List.getElem_cons_zero, List.getElem_cons_succ, List.setIfInBounds_toArray, List.set_cons_zero, List.set_cons_succ]
    refine wpAnyH_ready (rs := [9]) (by kernel_rfl) (by simp) ?_
    refine AllReadyH.cons rfl (fun K hK => ?_) ?_
    · rw [if_pos (by rfl)]
      go_simp
      go_at_call 20
      refine (HNM1.out _).mono ?_
      rintro r x9 ⟨rfl, hb9⟩
      have HB9 := hide (HB5.out.trans (hb9.mono HB5.out.size))
      try go_simp
      refine hK.out _ _ ?_ (fun hHeld => ?_)
      · exact AnS.on hHeld hb9
      clear hK K
      try simp only [Act.put, List.getElem_toArray, List.getElem_cons_zero, List.getElem_cons_succ, List.setIfInBounds_toArray, List.set_cons_zero, List.set_cons_succ]
      clear hb9 HB5
      refine wpAnyH_take (i := 10) (v := ?_) rfl (by kernel_rfl) (by kernel_rfl) (by kernel_rfl) (fun _ _ _ h => h) (Or.inl ⟨by rfl, ?_⟩) (by assumption) ?_; rotate_left
      · (intro wz hSw; obtain ⟨z0, z1, z2, z3, z4, z5⟩ := hSw.nx.jv; have y0 := hSw.od; clear hSw; go_simp; first | done | with_reducible rfl)
      try simp only [Act.put, List.getElem_toArray, List.getElem_cons_zero, List.getElem_cons_succ, List.setIfInBounds_toArray, List.set_cons_zero, List.set_cons_succ]
      refine wpAnyH_ready (rs := [11, 13]) (by kernel_rfl) (by simp) ?_
      refine AllReadyH.cons rfl (fun K hK => ?_) ?_
      · have hz11 := (Below.refl x9.heap.size x9).alloc (Nat.le_refl _) (.cells #[Value.int IntKind.i64 1, Value.string ⟨#[106, 43]⟩, Value.string TX, Value.string ⟨#[]⟩, Value.int IntKind.i64 2, Value.string ⟨#[106, 43]⟩, Value.string ⟨#[]⟩, Value.string ⟨#[]⟩, Value.int IntKind.i64 3, Value.string ⟨#[106, 43]⟩, Value.string ⟨#[]⟩, Value.string N2, Value.int IntKind.i64 4, Value.string N1, Value.string ⟨#[]⟩, Value.string ⟨#[]⟩] 57)
        have HB11 := hide (HB9.out.trans (hz11.mono HB9.out.size))
        have HA11 := hide (World.ownsRow_lit (base := w.heap.size) (size := 4) (e := 57) x9 #[Value.int IntKind.i64 1, Value.string ⟨#[106, 43]⟩, Value.string TX, Value.string ⟨#[]⟩, Value.int IntKind.i64 2, Value.string ⟨#[106, 43]⟩, Value.string ⟨#[]⟩, Value.string ⟨#[]⟩, Value.int IntKind.i64 3, Value.string ⟨#[106, 43]⟩, Value.string ⟨#[]⟩, Value.string N2, Value.int IntKind.i64 4, Value.string N1, Value.string ⟨#[]⟩, Value.string ⟨#[]⟩] 4 (Nat.le_trans hwx HB9.out.size) (by decide) rfl)
        rw [if_pos (by rfl)]
        go_simp
        refine hK.out _ _ ?_ (fun hHeld => ?_)
        · exact AnS.on hHeld hz11
        clear hK K
        try simp only [Act.put, List.getElem_toArray, List.getElem_cons_zero, List.getElem_cons_succ, List.setIfInBounds_toArray, List.set_cons_zero, List.set_cons_succ]
        clear hz11
        generalize x9.alloc (Obj.cells #[Value.int IntKind.i64 1, Value.string ⟨#[106, 43]⟩, Value.string TX, Value.string ⟨#[]⟩, Value.int IntKind.i64 2, Value.string ⟨#[106, 43]⟩, Value.string ⟨#[]⟩, Value.string ⟨#[]⟩, Value.int IntKind.i64 3, Value.string ⟨#[106, 43]⟩, Value.string ⟨#[]⟩, Value.string N2, Value.int IntKind.i64 4, Value.string N1, Value.string ⟨#[]⟩, Value.string ⟨#[]⟩] 57) = x11 at HB11 HA11 hHeld ⊢
        generalize x9.heap.size = g11 at HA11 ⊢
        clear HB9
        refine wpAnyH_ready (rs := [13]) (by kernel_rfl) (by simp) ?_
        refine AllReadyH.cons rfl (fun K hK => ?_) ?_
        · rw [if_pos (by rfl)]
          go_simp
          go_at_call 23
          refine (HCP.out _ (HAT.out.below (B4.out.trans (HB11.out.mono B4.out.size)))).mono ?_
          rintro r x13 ⟨v13, rfl, ho13, hb13⟩
          have HB13 := hide (HB11.out.trans (hb13.mono HB11.out.size))
          rw [hlen] at ho13
          obtain ⟨ov, cv, hv13⟩ := own_form3 ho13
          subst hv13
          have HO13 := hide (own_base ho13 (Nat.le_trans hwx (show x4.heap.size ≤ x11.heap.size from HB11.out.size)))
          clear ho13
          have HA13 := hide (own_below HA11.out hb13)
          clear HA11
          try go_simp
          refine hK.out _ _ ?_ (fun hHeld => ?_)
          · exact AnS.on hHeld hb13
          clear hK K
          try simp only [Act.put, List.getElem_toArray, List.getElem_cons_zero, List.getElem_cons_succ, List.setIfInBounds_toArray, List.set_cons_zero, List.set_cons_succ]
          clear hb13 HB11
          refine wpAnyH_take (i := 14) (v := ?_) rfl (by kernel_rfl) (by kernel_rfl) (by kernel_rfl) (fun _ _ _ h => h) (Or.inl ⟨by rfl, ?_⟩) (by assumption) ?_; rotate_left
          · (intro wz hSw; obtain ⟨z0, z1, z2, z3, z4, z5⟩ := hSw.nx.jv; have y0 := hSw.od; clear hSw; go_simp; first | done | with_reducible rfl)
          try simp only [Act.put, List.getElem_toArray, List.getElem_cons_zero, List.getElem_cons_succ, List.setIfInBounds_toArray, List.set_cons_zero, List.set_cons_succ]
          refine wpAnyH_ready (rs := [15]) (by kernel_rfl) (by simp) ?_
          refine AllReadyH.cons rfl (fun K hK => ?_) ?_
          · have hr9 := HRZ.out.on HB13.out HRZ.out.lt
            have q0 := hr9.jv.c0
            have q1 := hr9.jv.c1
            have q2 := hr9.jv.c2
            have q3 := hr9.jv.c3
            have q4 := hr9.jv.c4
            have q5 := hr9.jv.c5
            have f0 := hr9.free 0
            have f1 := hr9.free 1
            have f2 := hr9.free 2
            have f3 := hr9.free 3
            have f4 := hr9.free 4
            have f5 := hr9.free 5
            have HE := hide (hr9.all (on + 1) j.term j.vote j.s j.u (.slice ov n cv))
            have HO15 := hide (own_keptJA HO13.out hr9 (by decide) HE.out.2)
            have HA15 := hide (own_keptJA HA13.out hr9 (by decide) HE.out.2)
            have HB15 := hide ((B4.out.trans (HB13.out.mono B4.out.size)).grown HE.out.2 (Nat.le_trans B4.out.size HB13.out.size) (fun k e => by cases e; omega))
            rw [if_pos (by rfl)]
            go_simp
            refine hK.out _ _ ?_ (fun hHeld => ?_)
            · exact AnS.kept hHeld HE.out.2 (by omega) (by omega)
            clear hK K
            try simp only [Act.put, List.getElem_toArray, List.getElem_cons_zero, List.getElem_cons_succ, List.setIfInBounds_toArray, List.set_cons_zero, List.set_cons_succ]
            clear q0 q1 q2 q3 q4 q5 f0 f1 f2 f3 f4 f5 hr9
            refine wpAnyH_take (i := 16) (v := ?_) rfl (by kernel_rfl) (by kernel_rfl) (by kernel_rfl) (fun _ _ _ h => h) (Or.inl ⟨by rfl, ?_⟩) (by assumption) ?_; rotate_left
            · (intro wz hSw; obtain ⟨z0, z1, z2, z3, z4, z5⟩ := hSw.nx.jv; have y0 := hSw.od; clear hSw; go_simp; first | done | with_reducible rfl)
            try simp only [Act.put, List.getElem_toArray, List.getElem_cons_zero, List.getElem_cons_succ, List.setIfInBounds_toArray, List.set_cons_zero, List.set_cons_succ]
            refine wpAnyH_done (by kernel_rfl) ?_ _
            have hX := HE.out.1
            generalize ((((((x13.setCell ⟨w.heap.size + 1 + 1, 0, none⟩ (Value.int IntKind.i64 (on + 1))).setCell ⟨w.heap.size + 1 + 1, 1, none⟩ (Value.int IntKind.i64 j.term)).setCell ⟨w.heap.size + 1 + 1, 2, none⟩ (Value.int IntKind.i64 j.vote)).setCell ⟨w.heap.size + 1 + 1, 3, none⟩ (Value.int IntKind.i64 j.s)).setCell ⟨w.heap.size + 1 + 1, 4, none⟩ (Value.int IntKind.i64 j.u)).setCell ⟨w.heap.size + 1 + 1, 5, none⟩ (Value.slice ov n cv)) = wf at hX HO15 HA15 HB15 ⊢
            have k0 := hX.jv.c0
            have k1 := hX.jv.c1
            have k2 := hX.jv.c2
            have k3 := hX.jv.c3
            have k4 := hX.jv.c4
            have k5 := hX.jv.c5
            clear hHeld HE
            go_wp2_with fail
            refine bodyPost_ret (v := .tuple #[.slice (some ⟨g11, 0, none⟩) 4 4, jval (on + 1) j.term j.vote j.s j.u (.slice ov n cv), .bool true]) (by simp [results, Tryz.results24, go_sem, k0, k1, k2, k3, k4, k5]) rfl ?_
            exact an_end HAN.out HA15.out HO15.out HB15.out
          exact AllReadyH.nil
        exact AllReadyH.nil
      refine AllReadyH.cons rfl (fun K hK => ?_) ?_
      · rw [if_pos (by rfl)]
        go_simp
        go_at_call 23
        refine (HCP.out _ (HAT.out.below (B4.out.trans (HB9.out.mono B4.out.size)))).mono ?_
        rintro r x13 ⟨v13, rfl, ho13, hb13⟩
        have HB13 := hide (HB9.out.trans (hb13.mono HB9.out.size))
        rw [hlen] at ho13
        obtain ⟨ov, cv, hv13⟩ := own_form3 ho13
        subst hv13
        have HO13 := hide (own_base ho13 (Nat.le_trans hwx (show x4.heap.size ≤ x9.heap.size from HB9.out.size)))
        clear ho13
        try go_simp
        refine hK.out _ _ ?_ (fun hHeld => ?_)
        · exact AnS.on hHeld hb13
        clear hK K
        try simp only [Act.put, List.getElem_toArray, List.getElem_cons_zero, List.getElem_cons_succ, List.setIfInBounds_toArray, List.set_cons_zero, List.set_cons_succ]
        clear hb13 HB9
        refine wpAnyH_ready (rs := [11]) (by kernel_rfl) (by simp) ?_
        refine AllReadyH.cons rfl (fun K hK => ?_) ?_
        · have hz11 := (Below.refl x13.heap.size x13).alloc (Nat.le_refl _) (.cells #[Value.int IntKind.i64 1, Value.string ⟨#[106, 43]⟩, Value.string TX, Value.string ⟨#[]⟩, Value.int IntKind.i64 2, Value.string ⟨#[106, 43]⟩, Value.string ⟨#[]⟩, Value.string ⟨#[]⟩, Value.int IntKind.i64 3, Value.string ⟨#[106, 43]⟩, Value.string ⟨#[]⟩, Value.string N2, Value.int IntKind.i64 4, Value.string N1, Value.string ⟨#[]⟩, Value.string ⟨#[]⟩] 57)
          have HB11 := hide (HB13.out.trans (hz11.mono HB13.out.size))
          have HA11 := hide (World.ownsRow_lit (base := w.heap.size) (size := 4) (e := 57) x13 #[Value.int IntKind.i64 1, Value.string ⟨#[106, 43]⟩, Value.string TX, Value.string ⟨#[]⟩, Value.int IntKind.i64 2, Value.string ⟨#[106, 43]⟩, Value.string ⟨#[]⟩, Value.string ⟨#[]⟩, Value.int IntKind.i64 3, Value.string ⟨#[106, 43]⟩, Value.string ⟨#[]⟩, Value.string N2, Value.int IntKind.i64 4, Value.string N1, Value.string ⟨#[]⟩, Value.string ⟨#[]⟩] 4 (Nat.le_trans hwx HB13.out.size) (by decide) rfl)
          have HO11 := hide (own_below HO13.out hz11)
          clear HO13
          rw [if_pos (by rfl)]
          go_simp
          refine hK.out _ _ ?_ (fun hHeld => ?_)
          · exact AnS.on hHeld hz11
          clear hK K
          try simp only [Act.put, List.getElem_toArray, List.getElem_cons_zero, List.getElem_cons_succ, List.setIfInBounds_toArray, List.set_cons_zero, List.set_cons_succ]
          clear hz11
          generalize x13.alloc (Obj.cells #[Value.int IntKind.i64 1, Value.string ⟨#[106, 43]⟩, Value.string TX, Value.string ⟨#[]⟩, Value.int IntKind.i64 2, Value.string ⟨#[106, 43]⟩, Value.string ⟨#[]⟩, Value.string ⟨#[]⟩, Value.int IntKind.i64 3, Value.string ⟨#[106, 43]⟩, Value.string ⟨#[]⟩, Value.string N2, Value.int IntKind.i64 4, Value.string N1, Value.string ⟨#[]⟩, Value.string ⟨#[]⟩] 57) = x11 at HB11 HA11 hHeld HO11 ⊢
          generalize x13.heap.size = g11 at HA11 ⊢
          clear HB13
          refine wpAnyH_take (i := 14) (v := ?_) rfl (by kernel_rfl) (by kernel_rfl) (by kernel_rfl) (fun _ _ _ h => h) (Or.inl ⟨by rfl, ?_⟩) (by assumption) ?_; rotate_left
          · (intro wz hSw; obtain ⟨z0, z1, z2, z3, z4, z5⟩ := hSw.nx.jv; have y0 := hSw.od; clear hSw; go_simp; first | done | with_reducible rfl)
          try simp only [Act.put, List.getElem_toArray, List.getElem_cons_zero, List.getElem_cons_succ, List.setIfInBounds_toArray, List.set_cons_zero, List.set_cons_succ]
          refine wpAnyH_ready (rs := [15]) (by kernel_rfl) (by simp) ?_
          refine AllReadyH.cons rfl (fun K hK => ?_) ?_
          · have hr9 := HRZ.out.on HB11.out HRZ.out.lt
            have q0 := hr9.jv.c0
            have q1 := hr9.jv.c1
            have q2 := hr9.jv.c2
            have q3 := hr9.jv.c3
            have q4 := hr9.jv.c4
            have q5 := hr9.jv.c5
            have f0 := hr9.free 0
            have f1 := hr9.free 1
            have f2 := hr9.free 2
            have f3 := hr9.free 3
            have f4 := hr9.free 4
            have f5 := hr9.free 5
            have HE := hide (hr9.all (on + 1) j.term j.vote j.s j.u (.slice ov n cv))
            have HO15 := hide (own_keptJA HO11.out hr9 (by decide) HE.out.2)
            have HA15 := hide (own_keptJA HA11.out hr9 (by decide) HE.out.2)
            have HB15 := hide ((B4.out.trans (HB11.out.mono B4.out.size)).grown HE.out.2 (Nat.le_trans B4.out.size HB11.out.size) (fun k e => by cases e; omega))
            rw [if_pos (by rfl)]
            go_simp
            refine hK.out _ _ ?_ (fun hHeld => ?_)
            · exact AnS.kept hHeld HE.out.2 (by omega) (by omega)
            clear hK K
            try simp only [Act.put, List.getElem_toArray, List.getElem_cons_zero, List.getElem_cons_succ, List.setIfInBounds_toArray, List.set_cons_zero, List.set_cons_succ]
            clear q0 q1 q2 q3 q4 q5 f0 f1 f2 f3 f4 f5 hr9
            refine wpAnyH_take (i := 16) (v := ?_) rfl (by kernel_rfl) (by kernel_rfl) (by kernel_rfl) (fun _ _ _ h => h) (Or.inl ⟨by rfl, ?_⟩) (by assumption) ?_; rotate_left
            · (intro wz hSw; obtain ⟨z0, z1, z2, z3, z4, z5⟩ := hSw.nx.jv; have y0 := hSw.od; clear hSw; go_simp; first | done | with_reducible rfl)
            try simp only [Act.put, List.getElem_toArray, List.getElem_cons_zero, List.getElem_cons_succ, List.setIfInBounds_toArray, List.set_cons_zero, List.set_cons_succ]
            refine wpAnyH_done (by kernel_rfl) ?_ _
            have hX := HE.out.1
            generalize ((((((x11.setCell ⟨w.heap.size + 1 + 1, 0, none⟩ (Value.int IntKind.i64 (on + 1))).setCell ⟨w.heap.size + 1 + 1, 1, none⟩ (Value.int IntKind.i64 j.term)).setCell ⟨w.heap.size + 1 + 1, 2, none⟩ (Value.int IntKind.i64 j.vote)).setCell ⟨w.heap.size + 1 + 1, 3, none⟩ (Value.int IntKind.i64 j.s)).setCell ⟨w.heap.size + 1 + 1, 4, none⟩ (Value.int IntKind.i64 j.u)).setCell ⟨w.heap.size + 1 + 1, 5, none⟩ (Value.slice ov n cv)) = wf at hX HO15 HA15 HB15 ⊢
            have k0 := hX.jv.c0
            have k1 := hX.jv.c1
            have k2 := hX.jv.c2
            have k3 := hX.jv.c3
            have k4 := hX.jv.c4
            have k5 := hX.jv.c5
            clear hHeld HE
            go_wp2_with fail
            refine bodyPost_ret (v := .tuple #[.slice (some ⟨g11, 0, none⟩) 4 4, jval (on + 1) j.term j.vote j.s j.u (.slice ov n cv), .bool true]) (by simp [results, Tryz.results24, go_sem, k0, k1, k2, k3, k4, k5]) rfl ?_
            exact an_end HAN.out HA15.out HO15.out HB15.out
          exact AllReadyH.nil
        exact AllReadyH.nil
      exact AllReadyH.nil
    exact AllReadyH.nil
  exact AllReadyH.nil

set_option maxHeartbeats 4000000 in
theorem l07Anew_no (on ot ovt os ou : Int) (ox : Value) (hox : ox.oneCell' = true) (j : JnV) (oa : Option Addr) (n cap : Nat) (w : World) (h0 : 0 ≤ on) (h9 : on ≤ 999) (hh : jnHd j.term j.vote = true) (hl : lgOk j.s j.u j.es = true) (hat : EntsAt w oa n cap j.es) (hc : ¬ on < 999) :
    Calls Tryz.prog 24 #[jval on ot ovt os ou ox, jval j.number j.term j.vote j.s j.u (.slice oa n cap)] w fun e w' => ∃ va, e = .returned (.tuple #[va, jval 0 0 0 0 0 (.slice none 0 0), .bool false]) ∧ w'.ownsRow w.heap.size 57 4 va 0 [] ∧ Below w.heap.size w w' := by
  have hw : ∀ f ∈ j.es, f.data.size ≤ 1048576 := fun f hf => by have := ok_data (lgOk_ok hl f hf); omega
  have hl60 := (lgOk_rm hl).2.2.2.2.1
  have hlen := hat.len
  have hno := nextG_ok h0 hh hl
  have hb0 := (((Below.refl w.heap.size w).alloc (Nat.le_refl _) (.cells (jcells on ot ovt os ou ox) 30)).alloc (by simp) (.cells (jcells j.number j.term j.vote j.s j.u (.slice oa n cap)) 30)).alloc (by simp; omega) (.cells (jcells 0 0 0 0 0 (.slice none 0 0)) 30)
  have ho0 : JB (((w.alloc (.cells (jcells on ot ovt os ou ox) 30)).alloc (.cells (jcells j.number j.term j.vote j.s j.u (.slice oa n cap)) 30)).alloc (.cells (jcells 0 0 0 0 0 (.slice none 0 0)) 30)) w.heap.size on ot ovt os ou ox := (Below.heap_alloc _ _ _ (by simp; omega)).trans ((Below.heap_alloc _ _ _ (by simp)).trans (heap_alloc_new _ _))
  have hj0 : JB (((w.alloc (.cells (jcells on ot ovt os ou ox) 30)).alloc (.cells (jcells j.number j.term j.vote j.s j.u (.slice oa n cap)) 30)).alloc (.cells (jcells 0 0 0 0 0 (.slice none 0 0)) 30)) (w.heap.size + 1) j.number j.term j.vote j.s j.u (.slice oa n cap) := (Below.heap_alloc _ _ _ (by simp)).trans (by have := heap_alloc_new (w.alloc (.cells (jcells on ot ovt os ou ox) 30)) (.cells (jcells j.number j.term j.vote j.s j.u (.slice oa n cap)) 30); rwa [World.size_alloc] at this)
  have hr0 : JB (((w.alloc (.cells (jcells on ot ovt os ou ox) 30)).alloc (.cells (jcells j.number j.term j.vote j.s j.u (.slice oa n cap)) 30)).alloc (.cells (jcells 0 0 0 0 0 (.slice none 0 0)) 30)) (w.heap.size + 1 + 1) 0 0 0 0 0 (.slice none 0 0) := by have := heap_alloc_new ((w.alloc (.cells (jcells on ot ovt os ou ox) 30)).alloc (.cells (jcells j.number j.term j.vote j.s j.u (.slice oa n cap)) 30)) (.cells (jcells 0 0 0 0 0 (.slice none 0 0)) 30); rwa [World.size_alloc, World.size_alloc] at this
  have hb1 := hb0.alloc (by simp; omega) (.cells (jcells (on + 1) j.term j.vote j.s j.u (.slice oa n cap)) 30)
  have hbx := (Below.refl (((w.alloc (.cells (jcells on ot ovt os ou ox) 30)).alloc (.cells (jcells j.number j.term j.vote j.s j.u (.slice oa n cap)) 30)).alloc (.cells (jcells 0 0 0 0 0 (.slice none 0 0)) 30)).heap.size (((w.alloc (.cells (jcells on ot ovt os ou ox) 30)).alloc (.cells (jcells j.number j.term j.vote j.s j.u (.slice oa n cap)) 30)).alloc (.cells (jcells 0 0 0 0 0 (.slice none 0 0)) 30))).alloc (Nat.le_refl _) (.cells (jcells (on + 1) j.term j.vote j.s j.u (.slice oa n cap)) 30)
  have ho1 := ho0.on hbx ho0.lt
  have hr1 := hr0.on hbx hr0.lt
  have hx1 : JB ((((w.alloc (.cells (jcells on ot ovt os ou ox) 30)).alloc (.cells (jcells j.number j.term j.vote j.s j.u (.slice oa n cap)) 30)).alloc (.cells (jcells 0 0 0 0 0 (.slice none 0 0)) 30)).alloc (.cells (jcells (on + 1) j.term j.vote j.s j.u (.slice oa n cap)) 30)) (w.heap.size + 1 + 1 + 1) (on + 1) j.term j.vote j.s j.u (.slice oa n cap) := by have := heap_alloc_new (((w.alloc (.cells (jcells on ot ovt os ou ox) 30)).alloc (.cells (jcells j.number j.term j.vote j.s j.u (.slice oa n cap)) 30)).alloc (.cells (jcells 0 0 0 0 0 (.slice none 0 0)) 30)) (.cells (jcells (on + 1) j.term j.vote j.s j.u (.slice oa n cap)) 30); rwa [World.size_alloc, World.size_alloc, World.size_alloc] at this
  have HJT0 := hide (fun w hat => specJournalText_any { j with number := on + 1 } oa n cap w hat hw)
  have HNM1 := hide (fun w => specJournalName_any on (by omega) (by omega) w)
  have HNM2 := hide (fun w => specJournalName_any (on + 1) (by omega) (by omega) w)
  have HCP := hide (fun w hat => l07Copy_any (on + 1) j.term j.vote j.s j.u oa n cap j.es (by omega) w hat)
  have HO1 := hide ho1
  have HR1 := hide hr1
  have HX1 := hide hx1
  have HB1 := hide hb1
  have HAT := hide hat
  clear hat hb0 ho0 hj0 hr0 hb1 hbx ho1 hr1 hx1 hw
  have hal := jnName_length on
  have hal2 := jnName_length (on + 1)
  rw [decide_eq_false hc] at hno
  have hjt : jtVal { j with number := on + 1 } = .tuple #[.string ⟨#[]⟩, .bool false] := by unfold jtVal; rw [if_neg (by rw [hno]; decide)]
  rw [hjt] at HJT0
  have HJT := hide HJT0.out
  clear hjt HJT0 hno hh hl
  simp only at HJT
  go_enter Tryz.func24, Tryz.ntmps24
  go_wp2_with fail
  generalize (((w.alloc (Obj.cells #[Value.int IntKind.i64 on, Value.int IntKind.i64 ot, Value.int IntKind.i64 ovt, Value.int IntKind.i64 os, Value.int IntKind.i64 ou, ox] 30)).alloc (Obj.cells #[Value.int IntKind.i64 j.number, Value.int IntKind.i64 j.term, Value.int IntKind.i64 j.vote, Value.int IntKind.i64 j.s, Value.int IntKind.i64 j.u, Value.slice oa n cap] 30)).alloc (Obj.cells #[Value.int IntKind.i64 0, Value.int IntKind.i64 0, Value.int IntKind.i64 0, Value.int IntKind.i64 0, Value.int IntKind.i64 0, Value.slice none 0 0] 30)).alloc (Obj.cells #[Value.int IntKind.i64 (on + 1), Value.int IntKind.i64 j.term, Value.int IntKind.i64 j.vote, Value.int IntKind.i64 j.s, Value.int IntKind.i64 j.u, Value.slice oa n cap] 30) = w1 at HO1 HR1 HX1 HB1 ⊢
  refine (HJT.out _ (HAT.out.below HB1.out)).mono ?_
  rintro e x4 ⟨rfl, hb4⟩
  have HO4 := hide (HO1.out.on hb4 HO1.out.lt)
  have HRZ := hide (HR1.out.on hb4 HR1.out.lt)
  have HX4 := hide (HX1.out.on hb4 HX1.out.lt)
  have B4 := hide (HB1.out.trans (hb4.mono HB1.out.size))
  clear hb4 HO1 HR1 HX1 HB1
  have hr9 := HRZ.out
  obtain ⟨r0, r1, r2, r3, r4, r5⟩ := hr9.jv
  have f0 := hr9.free 0
  have f1 := hr9.free 1
  have f2 := hr9.free 2
  have f3 := hr9.free 3
  have f4 := hr9.free 4
  have f5 := hr9.free 5
  have HE := hide (hr9.all 0 0 0 0 0 (.slice none 0 0))
  have hlt := hr9.lt
  clear hr9
  go_wp2_with fail
  refine bodyPost_ret (v := .tuple #[.slice (some ⟨x4.heap.size, 0, none⟩) 0 0, jval 0 0 0 0 0 (.slice none 0 0), .bool false]) (by simp [results, Tryz.results24, go_sem, hlt, r0, r1, r2, r3, r4, r5, f0, f1, f2, f3, f4, f5]) rfl ?_
  have hB := B4.out.grown HE.out.2 B4.out.size (fun k e => by cases e; omega)
  refine ⟨_, rfl, ?_, hB.alloc (Nat.le_trans B4.out.size HE.out.2.size) _⟩
  have hz : x4.heap.size = ((((((x4.setCell ⟨w.heap.size + 1 + 1, 0, none⟩ (Value.int IntKind.i64 0)).setCell ⟨w.heap.size + 1 + 1, 1, none⟩ (Value.int IntKind.i64 0)).setCell ⟨w.heap.size + 1 + 1, 2, none⟩ (Value.int IntKind.i64 0)).setCell ⟨w.heap.size + 1 + 1, 3, none⟩ (Value.int IntKind.i64 0)).setCell ⟨w.heap.size + 1 + 1, 4, none⟩ (Value.int IntKind.i64 0)).setCell ⟨w.heap.size + 1 + 1, 5, none⟩ (Value.slice none 0 0)).heap.size := by simp [World.setCell]
  have hm := World.ownsRow_made (w := ((((((x4.setCell ⟨w.heap.size + 1 + 1, 0, none⟩ (Value.int IntKind.i64 0)).setCell ⟨w.heap.size + 1 + 1, 1, none⟩ (Value.int IntKind.i64 0)).setCell ⟨w.heap.size + 1 + 1, 2, none⟩ (Value.int IntKind.i64 0)).setCell ⟨w.heap.size + 1 + 1, 3, none⟩ (Value.int IntKind.i64 0)).setCell ⟨w.heap.size + 1 + 1, 4, none⟩ (Value.int IntKind.i64 0)).setCell ⟨w.heap.size + 1 + 1, 5, none⟩ (Value.slice none 0 0))) (e := 57) (base := w.heap.size) (size := 4) #[] 0 (Nat.le_trans B4.out.size (Nat.le_of_eq hz)) (by decide) rfl
  rw [← hz] at hm
  exact hm

end Go.Proofs.YthbgklmnmoclhaaGreatDoor
