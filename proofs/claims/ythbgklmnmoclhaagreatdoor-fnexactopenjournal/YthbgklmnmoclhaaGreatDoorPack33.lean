/-
  Walks of chapter 7: a journal written as a new file, of the program.
  Walks of chapter 7: ReadJournal of the program (made by wip/tools/gen7j.py).
-/
import Derived.Test.YthbgklmnmoclhaaGreatDoorPack25
import Derived.Test.YthbgklmnmoclhaaGreatDoorPack26
import Derived.Test.YthbgklmnmoclhaaGreatDoorPack27
import Derived.Test.YthbgklmnmoclhaaGreatDoorWalk7i
namespace Go.Proofs.YthbgklmnmoclhaaGreatDoor
open Go.RowKit P1 P3 P5 P9 K
attribute [local go_sem ↓] Go.wp_at_zero Go.wp_at_succ
set_option linter.unusedVariables false
set_option linter.unusedSimpArgs false

/-- 'out = append(out, x, y ..)' of m structs of k cells, in a region that does not draw: they lie in a new block. -/
theorem wpList_pushM {P : Program} {W0 : World} {ops : Array Oper} {rest : List Oper} {o : Oper} {a : Act} {Q : Exit → Act → World → Prop} (hgd : o.guard = none) (s x : Operand) (t : TypeId)
    (ho : o.op = .call { callee := .builtin .append, args := #[s, x], argTypes := #[t, t] })
    {base k m : Nat} (hk0 : 0 < k) {e : TypeId} {z : Value} {bytes : Nat} (ht : P.underlying t = some (.slice e)) (hi : (P.info? e).map (fun i => (i.zero, i.size, i.bytes)) = some (some z, k, bytes)) (hzs : z.cells.size = k)
    {v : Value} {n : Nat} {xs : List Value} (hs : a.eval s = v) (hown : W0.ownsRow base e k v n xs)
    {cs : Array Value} (hx : a.eval x = .slice (some ⟨W0.heap.size, 0, none⟩) m m) (hm : cs.toList.length = m * k) (hu : ∀ u ∈ cs.toList, u.oneCell' = true)
    (hbase : base ≤ W0.heap.size) (h63 : n + m ≤ maxLen) (hbytes : (n + m) * bytes ≤ 140737488355328)
    (h : ∀ v' w', w'.ownsRow base e k v' (n + m) (xs ++ cs.toList) → W0.grownBy w' v.ownBlock → wpList P ops Q rest (a.put o.dst v') w') : wpList P ops Q (o :: rest) a (W0.alloc (.cells cs e)) := by
  obtain ⟨i, hi, hz, h1, h2⟩ := info_parts hi
  refine wpList_append_own _ hgd s x t ho base e i z k bytes ht hi hz h1 h2 hzs hk0 v n xs hs (hown.alloc _) ⟨W0.heap.size, 0, none⟩ m m cs.toList hx hm (World.news_of_block (heap_alloc_new W0 _)) hu h63 hbytes (by simp; omega) ?_
  intro v' w' hown' hgrow _
  exact h v' w' hown' (grown_trans (World.grownBy_alloc _ _ _) hgrow)

/-- Rows of unlike elements are not the same. -/
theorem own_apart {w : World} {b1 b2 : Nat} {e1 e2 : TypeId} {k1 k2 : Nat} {v1 v2 : Value} {n1 n2 : Nat} {xs1 xs2 : List Value} (h1 : w.ownsRow b1 e1 k1 v1 n1 xs1) (h2 : w.ownsRow b2 e2 k2 v2 n2 xs2) (hne : e1 ≠ e2) : ∀ g, v1.ownBlock = some g → v2.ownBlock ≠ some g := by
  intro g hg e
  rcases h1.2 with ⟨rfl, -⟩ | ⟨q, cap, cur, rfl, -, hqb, -⟩
  · cases hg
  · rcases h2.2 with ⟨rfl, -⟩ | ⟨q2, cap2, cur2, rfl, -, hqb2, -⟩
    · cases e
    · cases hg
      cases e
      rw [hqb] at hqb2
      cases hqb2
      exact hne rfl

theorem own_stays {w w' : World} {b1 b2 : Nat} {e1 e2 : TypeId} {k1 k2 : Nat} {v1 v2 : Value} {n1 n2 : Nat} {xs1 xs2 : List Value} (h1 : w.ownsRow b1 e1 k1 v1 n1 xs1) (h2 : w.ownsRow b2 e2 k2 v2 n2 xs2) (hne : e1 ≠ e2) (hg : w.grownBy w' v2.ownBlock) : w'.ownsRow b1 e1 k1 v1 n1 xs1 := by
  refine h1.kept hg ?_
  cases hv : v1.ownBlock with
  | none => exact Or.inl rfl
  | some g => exact Or.inr (fun e => own_apart h1 h2 hne g hv e.symm)

theorem jb_rowA {w : World} {b : Nat} {n t v0 s u : Int} {v : Value} {base2 : Nat} {e2 : TypeId} {k2 : Nat} {v2 : Value} {n2 : Nat} {xs2 : List Value} (hj : JB w b n t v0 s u v) (ho : w.ownsRow base2 e2 k2 v2 n2 xs2) (hne : e2 ≠ 30) : v2.ownBlock ≠ some b := by
  intro e1
  rcases ho.2 with ⟨rfl, -⟩ | ⟨g, cap, cur, rfl, -, hgb, -⟩
  · cases e1
  · cases e1
    unfold JB at hj
    rw [hgb] at hj
    cases hj
    exact hne rfl

/-- What nextFile leaves, where there is a next number. -/
def NfYes (w : World) (j : JnV) (x : Value) (va : Value) (base : Nat) (X : List ActV) (e : Ending) (w' : World) : Prop :=
  ∃ v', e = .returned (.tuple #[v', jval (j.number + 1) j.term j.vote j.s j.u x, .nilIface]) ∧ w'.ownsRow base 57 4 v' (X ++ anewA j).length ((X ++ anewA j).flatMap akc) ∧ w.grownBy w' va.ownBlock

theorem grown_new {w w1 w2 : World} {r : Option Nat} {b : Nat} (h : w.grownBy w1 r) (hg : w1.grownBy w2 (some b)) (hb : w.heap.size ≤ b) : w.grownBy w2 r :=
  ⟨hg.os.trans h.os, hg.tape.trans h.tape, hg.output.trans h.output, Nat.le_trans h.size hg.size, fun i hi hne => (hg.block i (Nat.lt_of_lt_of_le hi h.size) (fun e => by injection e with e; omega)).trans (h.block i hi hne)⟩

theorem own_keptJA {w w' : World} {base b : Nat} {e2 : TypeId} {k2 : Nat} {v2 : Value} {m : Nat} {xs : List Value} {n t v0 s u : Int} {x : Value} (ho : w.ownsRow base e2 k2 v2 m xs) (hj : JB w b n t v0 s u x) (hne : e2 ≠ 30) (hg : w.grownBy w' (some b)) : w'.ownsRow base e2 k2 v2 m xs := by
  refine ho.kept hg ?_
  cases hv : v2.ownBlock with
  | none => exact Or.inl rfl
  | some g => exact Or.inr (fun e => jb_rowA hj ho hne (by rw [hv, e]))

theorem next_ok {j : JnV} (h : j.ok = true) : JnV.ok { j with number := j.number + 1 } = decide (j.number < 999) := by
  obtain ⟨h1, h2, h3⟩ := JnV.parts h
  by_cases hc : j.number < 999
  · rw [decide_eq_true hc]
    rw [ok_log (j := { j with number := j.number + 1 }) (by show 0 ≤ j.number + 1 ∧ j.number + 1 ≤ 999; omega) h2]
    exact h3
  · rw [decide_eq_false hc]
    exact ok_false_n (j := { j with number := j.number + 1 }) (by show j.number + 1 < 0 ∨ 999 < j.number + 1; omega)

theorem anew_cells (j : JnV) (X : List ActV) : (X ++ anewA j).length = X.length + 4 ∧ (X ++ anewA j).flatMap akc = X.flatMap akc ++ [.int .i64 1, .string ⟨#[106, 43]⟩, .string ⟨(JnV.text { j with number := j.number + 1 }).toArray⟩, .string ⟨#[]⟩, .int .i64 2, .string ⟨#[106, 43]⟩, .string ⟨#[]⟩, .string ⟨#[]⟩, .int .i64 3, .string ⟨#[106, 43]⟩, .string ⟨#[]⟩, .string ⟨(jnName (j.number + 1)).toArray⟩, .int .i64 4, .string ⟨(jnName j.number).toArray⟩, .string ⟨#[]⟩, .string ⟨#[]⟩] := by
  rw [List.length_append, List.flatMap_append]
  exact ⟨rfl, rfl⟩

set_option maxHeartbeats 4000000 in
theorem nextFile_yes (j : JnV) (oa : Option Addr) (n cap : Nat) (va : Value) (base : Nat) (X : List ActV) (w : World) (hok : j.ok = true) (hat : EntsAt w oa n cap j.es) (hX : X.length ≤ 1000) (hown : w.ownsRow base 57 4 va X.length (X.flatMap akc)) (hbw : base ≤ w.heap.size) (htb : SumTabIs w) (hpw : PowIs w) (hc : j.number < 999) :
    Calls Tryz.prog 53 #[jval j.number j.term j.vote j.s j.u (.slice oa n cap), va] w fun e w' => NfYes w j (.slice oa n cap) va base X e w' := by
  obtain ⟨hnum, -, hlg⟩ := JnV.parts hok
  obtain ⟨oaA, capA, hva⟩ := own_form3 hown
  subst hva
  have hw : ∀ f ∈ j.es, f.data.size ≤ 1048576 := fun f hf => by have := ok_data (lgOk_ok hlg f hf); omega
  have hb0 := ((Below.refl w.heap.size w).alloc (Nat.le_refl _) (.cells (jcells j.number j.term j.vote j.s j.u (.slice oa n cap)) 30)).alloc (by simp) (.cells (jcells 0 0 0 0 0 (.slice none 0 0)) 30)
  have hj0 : JB ((w.alloc (.cells (jcells j.number j.term j.vote j.s j.u (.slice oa n cap)) 30)).alloc (.cells (jcells 0 0 0 0 0 (.slice none 0 0)) 30)) w.heap.size j.number j.term j.vote j.s j.u (.slice oa n cap) := (Below.heap_alloc _ _ _ (by simp)).trans (heap_alloc_new _ _)
  have hr0 : JB ((w.alloc (.cells (jcells j.number j.term j.vote j.s j.u (.slice oa n cap)) 30)).alloc (.cells (jcells 0 0 0 0 0 (.slice none 0 0)) 30)) (w.heap.size + 1) 0 0 0 0 0 (.slice none 0 0) := by have := heap_alloc_new (w.alloc (.cells (jcells j.number j.term j.vote j.s j.u (.slice oa n cap)) 30)) (.cells (jcells 0 0 0 0 0 (.slice none 0 0)) 30); rwa [World.size_alloc] at this
  have HNM := hide (fun w ht => implJournalName_any j.number (by omega) (by omega) w ht)
  have HNM2 := hide (fun w ht => implJournalName_any (j.number + 1) (by omega) (by omega) w ht)
  have hJT := fun w hat htb => implJournalText_any { j with number := j.number + 1 } oa n cap w hat hw htb
  have HB0 := hide hb0
  have HJ0 := hide hj0
  have HR0 := hide hr0
  have HAT := hide hat
  have HTB := hide htb
  have HPW := hide hpw
  have HOW := hide hown
  clear hb0 hj0 hr0 hat htb hpw hown hw
  have hno := next_ok hok
  have hal := jnName_length j.number
  have hal2 := jnName_length (j.number + 1)
  rw [decide_eq_true hc] at hno
  have hjt : jtVal { j with number := j.number + 1 } = .tuple #[.string ⟨(JnV.text { j with number := j.number + 1 }).toArray⟩, .bool true] := by unfold jtVal; rw [if_pos hno]
  rw [hjt] at hJT
  have HJT := hide hJT
  have HAN := hide (anew_cells j X)
  unfold NfYes
  clear hjt hJT hno hok hlg
  generalize (⟨(JnV.text { j with number := j.number + 1 }).toArray⟩ : ByteArray) = TX at HJT HAN
  generalize X ++ anewA j = Y at HAN ⊢
  generalize (⟨(jnName j.number).toArray⟩ : ByteArray) = N1 at HNM HAN
  generalize (⟨(jnName (j.number + 1)).toArray⟩ : ByteArray) = N2 at HNM2 HAN
  simp only at HJT
  go_enter Tryz.func53, Tryz.ntmps53
  go_wp2_with fail
  refine (HNM.out _ (tab_below HPW.out HB0.out)).mono ?_
  rintro e w1 ⟨rfl, hb1⟩
  have hj1 := HJ0.out.on hb1 (by simp; omega)
  have hr1 := HR0.out.on hb1 (by simp)
  have B1 := hide (HB0.out.trans (hb1.mono (by simp; omega)))
  clear hb1 HJ0 HR0 HB0
  obtain ⟨jN, hjN⟩ : ∃ jN, j.number = jN := ⟨_, rfl⟩
  rw [hjN] at hj1 hnum hc HNM2 HJT ⊢
  have HJN := hide hjN
  clear hjN
  have HJ1 := hide hj1
  have HR1 := hide hr1
  obtain ⟨a0, a1, a2, a3, a4, a5⟩ := hj1.jv
  have g0 := hj1.free 0
  have hj2 : JB (w1.setCell ⟨w.heap.size, 0, none⟩ (.int .i64 (jN + 1))) w.heap.size (jN + 1) j.term j.vote j.s j.u (.slice oa n cap) := blk_set (k := 0) (.int .i64 (jN + 1)) hj1
  have hg2 := blk_grown w1 w.heap.size 0 (.int .i64 (jN + 1))
  have hr2 := hr1.kept hg2 (fun e => by injection e with e; omega)
  have B2 := hide (B1.out.grown hg2 B1.out.size (fun k e => by cases e; exact Nat.le_refl _))
  have HJ2 := hide hj2
  have HR2 := hide hr2
  clear hj1 hr1 hj2 hg2 hr2 B1 HJ1 HR1
  go_wp2_with fail
  generalize w1.setCell ⟨w.heap.size, 0, none⟩ (Value.int IntKind.i64 (jN + 1)) = w2 at HJ2 HR2 B2 ⊢
  clear a0 a1 a2 a3 a4 a5 g0
  refine (HJT.out _ (HAT.out.below B2.out) (tab_below HTB.out B2.out)).mono ?_
  rintro e w3 ⟨rfl, hb3⟩
  have hj3 := HJ2.out.on hb3 HJ2.out.lt
  have hr3 := HR2.out.on hb3 HR2.out.lt
  have B3 := hide (B2.out.trans (hb3.mono B2.out.size))
  clear hb3 HJ2 HR2 B2
  obtain ⟨a0, a1, a2, a3, a4, a5⟩ := hj3.jv
  obtain ⟨r0, r1, r2, r3, r4, r5⟩ := hr3.jv
  have HJ3 := hide hj3
  have HR3 := hide hr3
  clear hj3 hr3
  go_wp2_with fail
  refine (HNM2.out _ (tab_below HPW.out B3.out)).mono ?_
  rintro e w4 ⟨rfl, hb4⟩
  have hj4 := HJ3.out.on hb4 HJ3.out.lt
  have hr4 := HR3.out.on hb4 HR3.out.lt
  have B4 := hide (B3.out.trans (hb4.mono B3.out.size))
  have HO4 := hide (own_below HOW.out B4.out)
  have HJ4 := hide hj4
  have HR4 := hide hr4
  have hs4 := B4.out.size
  clear hb4 hj4 hr4 HJ3 HR3 B3 a0 a1 a2 a3 a4 a5 r0 r1 r2 r3 r4 r5
  go_wp2_with (at_builtin; refine wpList_pushM (m := 4) (cs := #[.int .i64 1, .string ⟨#[106, 43]⟩, .string TX, .string ⟨#[]⟩, .int .i64 2, .string ⟨#[106, 43]⟩, .string ⟨#[]⟩, .string ⟨#[]⟩, .int .i64 3, .string ⟨#[106, 43]⟩, .string ⟨#[]⟩, .string N2, .int .i64 4, .string N1, .string ⟨#[]⟩, .string ⟨#[]⟩]) rfl _ _ 31 rfl (by decide) Tryz.underlying31 infoKAz rfl rfl HO4.out rfl rfl (by simp [Value.oneCell']) (Nat.le_trans hbw hs4) (by unfold maxLen; omega) (by omega) ?_)
  intro v' w5 ho5 hg5
  have ho5' : w5.ownsRow base 57 4 v' Y.length (Y.flatMap akc) := by rw [HAN.out.1, HAN.out.2]; exact ho5
  have hj5 := HJ4.out.kept hg5 (jb_rowA HJ4.out HO4.out (by decide))
  have hr5 := HR4.out.kept hg5 (jb_rowA HR4.out HO4.out (by decide))
  have HG5 := hide (grown_trans (grown_below B4.out) hg5)
  have HO5 := hide ho5'
  obtain ⟨ov, cv, hv⟩ := own_form3 ho5'
  subst hv
  obtain ⟨a0, a1, a2, a3, a4, a5⟩ := hj5.jv
  obtain ⟨r0, r1, r2, r3, r4, r5⟩ := hr5.jv
  have f0 := hr5.free 0
  have f1 := hr5.free 1
  have f2 := hr5.free 2
  have f3 := hr5.free 3
  have f4 := hr5.free 4
  have f5 := hr5.free 5
  have HR5 := hide hr5
  clear ho5 ho5' hg5 hj5 hr5 HJ4 HR4 HO4 HOW B4
  have HE := hide (HR5.out.all (jN + 1) j.term j.vote j.s j.u (.slice oa n cap))
  go_wp2_with fail
  go_region
  go_wp2_with fail
  have hX := HE.out.1
  have hY := HE.out.2
  have HO6 := hide (own_keptJA HO5.out HR5.out (by decide) hY)
  have HG6 := hide (grown_new HG5.out hY (by omega))
  clear HE HR5 HO5 HG5
  generalize ((((((w5.setCell ⟨w.heap.size + 1, 0, none⟩ (Value.int IntKind.i64 (jN + 1))).setCell ⟨w.heap.size + 1, 1, none⟩ (Value.int IntKind.i64 j.term)).setCell ⟨w.heap.size + 1, 2, none⟩ (Value.int IntKind.i64 j.vote)).setCell ⟨w.heap.size + 1, 3, none⟩ (Value.int IntKind.i64 j.s)).setCell ⟨w.heap.size + 1, 4, none⟩ (Value.int IntKind.i64 j.u)).setCell ⟨w.heap.size + 1, 5, none⟩ (Value.slice oa n cap)) = wf at hX HO6 HG6 ⊢
  replace hX : JB wf.drew (w.heap.size + 1) (jN + 1) j.term j.vote j.s j.u (.slice oa n cap) := hX
  obtain ⟨k0, k1, k2, k3, k4, k5⟩ := hX.jv
  refine bodyPost_ret (v := .tuple #[.slice ov Y.length cv, jval (jN + 1) j.term j.vote j.s j.u (.slice oa n cap), .nilIface]) (by simp [results, Tryz.results53, go_sem, k0, k1, k2, k3, k4, k5]) rfl ?_
  exact ⟨_, by rw [HJN.out], own_below HO6.out (Below.refl _ _).drew, grown_trans HG6.out (grown_below (Below.refl _ _).drew)⟩

set_option maxHeartbeats 4000000 in
theorem nextFile_no (j : JnV) (oa : Option Addr) (n cap : Nat) (va : Value) (base : Nat) (X : List ActV) (w : World) (hok : j.ok = true) (hat : EntsAt w oa n cap j.es) (hX : X.length ≤ 1000) (hown : w.ownsRow base 57 4 va X.length (X.flatMap akc)) (hbw : base ≤ w.heap.size) (htb : SumTabIs w) (hpw : PowIs w) (hc : ¬ j.number < 999) :
    Calls Tryz.prog 53 #[jval j.number j.term j.vote j.s j.u (.slice oa n cap), va] w fun e w' => e = .returned (.tuple #[.slice none 0 0, jval 0 0 0 0 0 (.slice none 0 0), faultV 6]) ∧ Below w.heap.size w w' := by
  obtain ⟨hnum, -, hlg⟩ := JnV.parts hok
  obtain ⟨oaA, capA, hva⟩ := own_form3 hown
  subst hva
  have hw : ∀ f ∈ j.es, f.data.size ≤ 1048576 := fun f hf => by have := ok_data (lgOk_ok hlg f hf); omega
  have hb0 := ((Below.refl w.heap.size w).alloc (Nat.le_refl _) (.cells (jcells j.number j.term j.vote j.s j.u (.slice oa n cap)) 30)).alloc (by simp) (.cells (jcells 0 0 0 0 0 (.slice none 0 0)) 30)
  have hj0 : JB ((w.alloc (.cells (jcells j.number j.term j.vote j.s j.u (.slice oa n cap)) 30)).alloc (.cells (jcells 0 0 0 0 0 (.slice none 0 0)) 30)) w.heap.size j.number j.term j.vote j.s j.u (.slice oa n cap) := (Below.heap_alloc _ _ _ (by simp)).trans (heap_alloc_new _ _)
  have hr0 : JB ((w.alloc (.cells (jcells j.number j.term j.vote j.s j.u (.slice oa n cap)) 30)).alloc (.cells (jcells 0 0 0 0 0 (.slice none 0 0)) 30)) (w.heap.size + 1) 0 0 0 0 0 (.slice none 0 0) := by have := heap_alloc_new (w.alloc (.cells (jcells j.number j.term j.vote j.s j.u (.slice oa n cap)) 30)) (.cells (jcells 0 0 0 0 0 (.slice none 0 0)) 30); rwa [World.size_alloc] at this
  have HNM := hide (fun w ht => implJournalName_any j.number (by omega) (by omega) w ht)
  have HNM2 := hide (fun w ht => implJournalName_any (j.number + 1) (by omega) (by omega) w ht)
  have hJT := fun w hat htb => implJournalText_any { j with number := j.number + 1 } oa n cap w hat hw htb
  have HB0 := hide hb0
  have HJ0 := hide hj0
  have HR0 := hide hr0
  have HAT := hide hat
  have HTB := hide htb
  have HPW := hide hpw
  have HOW := hide hown
  clear hb0 hj0 hr0 hat htb hpw hown hw
  have hno := next_ok hok
  have hal := jnName_length j.number
  have hal2 := jnName_length (j.number + 1)
  rw [decide_eq_false hc] at hno
  have hjt : jtVal { j with number := j.number + 1 } = .tuple #[.string ⟨#[]⟩, .bool false] := by unfold jtVal; rw [if_neg (by rw [hno]; decide)]
  rw [hjt] at hJT
  have HJT := hide hJT
  clear hjt hJT hno hok hlg
  generalize (⟨(jnName j.number).toArray⟩ : ByteArray) = N1 at HNM
  simp only at HJT
  go_enter Tryz.func53, Tryz.ntmps53
  go_wp2_with fail
  refine (HNM.out _ (tab_below HPW.out HB0.out)).mono ?_
  rintro e w1 ⟨rfl, hb1⟩
  have hj1 := HJ0.out.on hb1 (by simp; omega)
  have hr1 := HR0.out.on hb1 (by simp)
  have B1 := hide (HB0.out.trans (hb1.mono (by simp; omega)))
  clear hb1 HJ0 HR0 HB0
  obtain ⟨jN, hjN⟩ : ∃ jN, j.number = jN := ⟨_, rfl⟩
  rw [hjN] at hj1 hnum hc HNM2 HJT ⊢
  have HJN := hide hjN
  clear hjN
  have HJ1 := hide hj1
  have HR1 := hide hr1
  obtain ⟨a0, a1, a2, a3, a4, a5⟩ := hj1.jv
  have g0 := hj1.free 0
  have hj2 : JB (w1.setCell ⟨w.heap.size, 0, none⟩ (.int .i64 (jN + 1))) w.heap.size (jN + 1) j.term j.vote j.s j.u (.slice oa n cap) := blk_set (k := 0) (.int .i64 (jN + 1)) hj1
  have hg2 := blk_grown w1 w.heap.size 0 (.int .i64 (jN + 1))
  have hr2 := hr1.kept hg2 (fun e => by injection e with e; omega)
  have B2 := hide (B1.out.grown hg2 B1.out.size (fun k e => by cases e; exact Nat.le_refl _))
  have HJ2 := hide hj2
  have HR2 := hide hr2
  clear hj1 hr1 hj2 hg2 hr2 B1 HJ1 HR1
  go_wp2_with fail
  generalize w1.setCell ⟨w.heap.size, 0, none⟩ (Value.int IntKind.i64 (jN + 1)) = w2 at HJ2 HR2 B2 ⊢
  clear a0 a1 a2 a3 a4 a5 g0
  refine (HJT.out _ (HAT.out.below B2.out) (tab_below HTB.out B2.out)).mono ?_
  rintro e w3 ⟨rfl, hb3⟩
  have hj3 := HJ2.out.on hb3 HJ2.out.lt
  have hr3 := HR2.out.on hb3 HR2.out.lt
  have B3 := hide (B2.out.trans (hb3.mono B2.out.size))
  clear hb3 HJ2 HR2 B2
  obtain ⟨a0, a1, a2, a3, a4, a5⟩ := hj3.jv
  obtain ⟨r0, r1, r2, r3, r4, r5⟩ := hr3.jv
  have f0 := hr3.free 0
  have f1 := hr3.free 1
  have f2 := hr3.free 2
  have f3 := hr3.free 3
  have f4 := hr3.free 4
  have f5 := hr3.free 5
  have HE := hide (hr3.all 0 0 0 0 0 (.slice none 0 0))
  clear hj3 hr3
  go_wp2_with fail
  refine bodyPost_ret (v := .tuple #[.slice none 0 0, jval 0 0 0 0 0 (.slice none 0 0), faultV 6]) (by simp [results, Tryz.results53, go_sem, r0, r1, r2, r3, r4, r5, f0, f1, f2, f3, f4, f5]) rfl ⟨rfl, ?_⟩
  exact B3.out.grown HE.out.2 B3.out.size (fun k e => by cases e; omega)

end Go.Proofs.YthbgklmnmoclhaaGreatDoor

namespace Go.Proofs.YthbgklmnmoclhaaGreatDoor
open Go.RowKit P1 P3 P9 K
set_option linter.unusedVariables false
set_option linter.unusedSimpArgs false

/-- What ReadJournal answers. -/
def jrR (n : Int) (l : List UInt8) : JnV × Nat × Bool := match rdJn n l with | none => (zeroJ, 0, false) | some (j, e) => (j, e, true)
def JrPost (n : Int) (l : List UInt8) (w : World) (e : Ending) (w' : World) : Prop :=
  ∃ v, e = .returned (.tuple #[jval (jrR n l).1.number (jrR n l).1.term (jrR n l).1.vote (jrR n l).1.s (jrR n l).1.u v, .int .i64 ((jrR n l).2.1 : Int), .bool (jrR n l).2.2]) ∧
    w'.ownsRow w.heap.size 111 3 v (jrR n l).1.es.length ((jrR n l).1.es.flatMap ecells) ∧ Below w.heap.size w w'

theorem JrPost.mk' {n : Int} {l : List UInt8} {w w' : World} {j : JnV} {x : Nat} {c : Bool} {v e : Value} (h : jrR n l = (j, x, c)) (he : e = .tuple #[jval j.number j.term j.vote j.s j.u v, .int .i64 (x : Int), .bool c])
    (ho : w'.ownsRow w.heap.size 111 3 v j.es.length (j.es.flatMap ecells)) (hb : Below w.heap.size w w') : JrPost n l w (.returned e) w' := by
  subst he
  unfold JrPost
  rw [h]
  exact ⟨v, rfl, ho, hb⟩

/-- How the two answers hang together. -/
theorem rf_cases (n : Int) (l : List UInt8) : (∃ j e, rfR n l = (j, e, 0) ∧ jrR n l = (j, e, true)) ∨ (∃ j e, rfR n l = (j, e, 3) ∧ jrR n l = (j, e, true)) ∨ (rfR n l = (zeroJ, 0, 1) ∧ jrR n l = (zeroJ, 0, false)) ∨ (rfR n l = (zeroJ, 0, 2) ∧ jrR n l = (zeroJ, 0, false)) := by
  unfold rfR jrR
  cases hi : jnIn n with
  | false =>
    rw [rdJn_out hi]
    exact Or.inr (Or.inr (Or.inl ⟨rfl, rfl⟩))
  | true =>
    rw [if_pos rfl]
    cases hr : rdJn n l with
    | none => exact Or.inr (Or.inr (Or.inr ⟨rfl, rfl⟩))
    | some p =>
      obtain ⟨j, e⟩ := p
      simp only
      by_cases he : e = l.length
      · rw [if_pos he]
        exact Or.inl ⟨j, e, rfl, rfl⟩
      · rw [if_neg he]
        exact Or.inr (Or.inl ⟨j, e, rfl, rfl⟩)

end Go.Proofs.YthbgklmnmoclhaaGreatDoor
