/-
  Walks of chapter 7: OpenJournal of the program (made by wip/tools/gen7s.py).
-/
import Derived.Test.YthbgklmnmoclhaaGreatDoorWalk7r
namespace Go.Proofs.YthbgklmnmoclhaaGreatDoor
open Go.RowKit P1 P3 P5 P9 K
set_option linter.unusedVariables false
set_option linter.unusedSimpArgs false

/-- What OpenJournal answers. -/
def ojR (fs : List FileV) : JnV × List ActV × Bool := if (opR fs).2.2 = 0 then ((opR fs).2.1, (opR fs).1, true) else (zeroJ, [], false)
def OjPost (fs : List FileV) (w : World) (e : Ending) (w' : World) : Prop :=
  ∃ v va, e = .returned (.tuple #[jval (ojR fs).1.number (ojR fs).1.term (ojR fs).1.vote (ojR fs).1.s (ojR fs).1.u v, va, .bool (ojR fs).2.2]) ∧
    w'.ownsRow w.heap.size 111 3 v (ojR fs).1.es.length ((ojR fs).1.es.flatMap ecells) ∧ w'.ownsRow w.heap.size 57 4 va (ojR fs).2.1.length ((ojR fs).2.1.flatMap akc) ∧ Below w.heap.size w w'

theorem OjPost.mk' {fs : List FileV} {w w' : World} {acts : List ActV} {j : JnV} {c : Bool} {va v e : Value} (h : ojR fs = (j, acts, c)) (he : e = .tuple #[jval j.number j.term j.vote j.s j.u v, va, .bool c])
    (ho : w'.ownsRow w.heap.size 111 3 v j.es.length (j.es.flatMap ecells)) (ha : w'.ownsRow w.heap.size 57 4 va acts.length (acts.flatMap akc)) (hb : Below w.heap.size w w') : OjPost fs w (.returned e) w' := by
  subst he
  unfold OjPost
  rw [h]
  exact ⟨v, va, rfl, ho, ha, hb⟩

set_option maxHeartbeats 8000000 in
theorem implOpenJournal_any (oa : Option Addr) (n cap : Nat) (fs : List FileV) (w : World) (hat : FilesAt w oa n cap fs) (hw : ∀ f ∈ fs, Fine f) (htb : SumTabIs w) (hpw : PowIs w) (herr : ErrVar w) :
    Calls Tryz.prog 7 #[.agg #[.slice oa n cap]] w fun e w' => OjPost fs w e w' := by
  have hb0 := ((Below.refl w.heap.size w).alloc (Nat.le_refl _) (.cells #[.slice oa n cap] 36)).alloc (by simp) (.cells (jcells 0 0 0 0 0 (.slice none 0 0)) 30)
  have hr0 : JB ((w.alloc (.cells #[.slice oa n cap] 36)).alloc (.cells (jcells 0 0 0 0 0 (.slice none 0 0)) 30)) (w.heap.size + 1) 0 0 0 0 0 (.slice none 0 0) := by have := heap_alloc_new (w.alloc (.cells #[.slice oa n cap] 36)) (.cells (jcells 0 0 0 0 0 (.slice none 0 0)) 30); rwa [World.size_alloc] at this
  have HOP := hide (open_any oa n cap fs _ (hat.below hb0) hw (tab_below htb hb0) (tab_below hpw hb0) (herr.on hb0))
  have HB0 := hide hb0
  have HR0 := hide hr0
  have HER := hide herr
  clear hb0 hr0 hat htb hpw herr hw
  obtain ⟨acts, j, c, hop⟩ : ∃ acts j c, opR fs = (acts, j, c) := ⟨_, _, _, rfl⟩
  unfold OpPost at HOP
  rw [hop] at HOP
  simp only at HOP
  by_cases hc : c = 0
  · subst hc
    have HR := hide (show ojR fs = (j, acts, true) by unfold ojR; rw [hop]; rfl)
    rw [show errV 0 = .nilIface from rfl] at HOP
    clear hop
    go_enter Tryz.func7, Tryz.ntmps7
    go_wp2_with fail
    refine HOP.out.mono ?_
    rintro e w1 ⟨va, v, rfl, ha1, ho1, hb1⟩
    obtain ⟨oaA, capA, hvA⟩ := own_form3 ha1
    subst hvA
    obtain ⟨oa1, cap1, hv1⟩ := own_form3 ho1
    subst hv1
    have hb2 := (Below.refl w1.heap.size w1).alloc (Nat.le_refl _) (.cells (jcells j.number j.term j.vote j.s j.u (.slice oa1 j.es.length cap1)) 30)
    have hx2 := JB.new w1 j.number j.term j.vote j.s j.u (.slice oa1 j.es.length cap1)
    have hbb := hb1.trans (hb2.mono hb1.size)
    have HR2 := hide (HR0.out.on hbb (by simp))
    have B2 := hide (HB0.out.trans (hbb.mono (by simp; omega)))
    have HO2 := hide (own_base (own_below ho1 hb2) (show w.heap.size ≤ _ by simp; omega))
    have HA2 := hide (own_base (own_below ha1 hb2) (show w.heap.size ≤ _ by simp; omega))
    have HX2 := hide hx2
    clear ha1 ho1 hb1 hb2 hx2 hbb HOP HR0 HB0
    go_wp2_with fail
    generalize w1.alloc (Obj.cells #[Value.int IntKind.i64 j.number, Value.int IntKind.i64 j.term, Value.int IntKind.i64 j.vote, Value.int IntKind.i64 j.s, Value.int IntKind.i64 j.u, Value.slice oa1 j.es.length cap1] 30) = w2 at HR2 B2 HO2 HA2 HX2 ⊢
    generalize w1.heap.size = b6 at HX2 ⊢
    refine (faultOf_nil _).mono ?_
    rintro e w3 ⟨rfl, hb3⟩
    have hr3 := HR2.out.on hb3 HR2.out.lt
    have hx3 := HX2.out.on hb3 HX2.out.lt
    have B3 := hide (B2.out.trans (hb3.mono B2.out.size))
    have HO3 := hide (own_below HO2.out hb3)
    have HA3 := hide (own_below HA2.out hb3)
    clear hb3 HR2 HX2 B2 HO2 HA2
    obtain ⟨r0, r1, r2, r3, r4, r5⟩ := hr3.jv
    have f0 := hr3.free 0
    have f1 := hr3.free 1
    have f2 := hr3.free 2
    have f3 := hr3.free 3
    have f4 := hr3.free 4
    have f5 := hr3.free 5
    obtain ⟨x0, x1, x2, x3, x4, x5⟩ := hx3.jv
    have HE := hide (hr3.all j.number j.term j.vote j.s j.u (.slice oa1 j.es.length cap1))
    have HR3 := hide hr3
    clear hr3 hx3
    go_wp2_with fail
    have hX := HE.out.1
    have hY := HE.out.2
    have HO9 := hide (own_keptJA HO3.out HR3.out (by decide) hY)
    have HA9 := hide (own_keptJA HA3.out HR3.out (by decide) hY)
    have B9 := hide (B3.out.grown hY B3.out.size (fun k e => by cases e; omega))
    clear HE HR3 HO3 HA3 B3
    generalize ((((((w3.setCell ⟨w.heap.size + 1, 0, none⟩ (Value.int IntKind.i64 j.number)).setCell ⟨w.heap.size + 1, 1, none⟩ (Value.int IntKind.i64 j.term)).setCell ⟨w.heap.size + 1, 2, none⟩ (Value.int IntKind.i64 j.vote)).setCell ⟨w.heap.size + 1, 3, none⟩ (Value.int IntKind.i64 j.s)).setCell ⟨w.heap.size + 1, 4, none⟩ (Value.int IntKind.i64 j.u)).setCell ⟨w.heap.size + 1, 5, none⟩ (Value.slice oa1 j.es.length cap1)) = wf at hX HO9 HA9 B9 ⊢
    obtain ⟨k0, k1, k2, k3, k4, k5⟩ := hX.jv
    refine bodyPost_ret (v := .tuple #[jval j.number j.term j.vote j.s j.u (.slice oa1 j.es.length cap1), .slice oaA acts.length capA, .bool true]) (by simp [results, Tryz.results7, go_sem, k0, k1, k2, k3, k4, k5]) rfl ?_
    exact OjPost.mk' HR.out rfl HO9.out HA9.out B9.out
  · have HR := hide (show ojR fs = (zeroJ, [], false) by unfold ojR; rw [hop]; exact if_neg hc)
    rw [show errV c = faultV c by unfold errV; rw [if_neg hc]] at HOP
    have gc : (c == 0) = false := by simpa using hc
    clear hop hc
    go_enter Tryz.func7, Tryz.ntmps7
    go_wp2_with fail
    refine HOP.out.mono ?_
    rintro e w1 ⟨va, v, rfl, ha1, ho1, hb1⟩
    obtain ⟨oaA, capA, hvA⟩ := own_form3 ha1
    subst hvA
    obtain ⟨oa1, cap1, hv1⟩ := own_form3 ho1
    subst hv1
    have hb2 := (Below.refl w1.heap.size w1).alloc (Nat.le_refl _) (.cells (jcells j.number j.term j.vote j.s j.u (.slice oa1 j.es.length cap1)) 30)
    have hx2 := JB.new w1 j.number j.term j.vote j.s j.u (.slice oa1 j.es.length cap1)
    have hbb := hb1.trans (hb2.mono hb1.size)
    have HR2 := hide (HR0.out.on hbb (by simp))
    have B2 := hide (HB0.out.trans (hbb.mono (by simp; omega)))
    have HO2 := hide (own_base (own_below ho1 hb2) (show w.heap.size ≤ _ by simp; omega))
    have HA2 := hide (own_base (own_below ha1 hb2) (show w.heap.size ≤ _ by simp; omega))
    have HX2 := hide hx2
    clear ha1 ho1 hb1 hb2 hx2 hbb HOP HR0 HB0
    go_wp2_with fail
    generalize w1.alloc (Obj.cells #[Value.int IntKind.i64 j.number, Value.int IntKind.i64 j.term, Value.int IntKind.i64 j.vote, Value.int IntKind.i64 j.s, Value.int IntKind.i64 j.u, Value.slice oa1 j.es.length cap1] 30) = w2 at HR2 B2 HO2 HA2 HX2 ⊢
    generalize w1.heap.size = b6 at HX2 ⊢
    refine (faultOf_code c _ (HER.out.on B2.out)).mono ?_
    rintro e w3 ⟨rfl, hb3⟩
    have hr3 := HR2.out.on hb3 HR2.out.lt
    have hx3 := HX2.out.on hb3 HX2.out.lt
    have B3 := hide (B2.out.trans (hb3.mono B2.out.size))
    have HO3 := hide (own_below HO2.out hb3)
    have HA3 := hide (own_below HA2.out hb3)
    clear hb3 HR2 HX2 B2 HO2 HA2
    obtain ⟨r0, r1, r2, r3, r4, r5⟩ := hr3.jv
    have f0 := hr3.free 0
    have f1 := hr3.free 1
    have f2 := hr3.free 2
    have f3 := hr3.free 3
    have f4 := hr3.free 4
    have f5 := hr3.free 5
    obtain ⟨x0, x1, x2, x3, x4, x5⟩ := hx3.jv
    have HE := hide (hr3.all 0 0 0 0 0 (.slice none 0 0))
    have hlt := hr3.lt
    clear hr3 hx3 x0 x1 x2 x3 x4 x5
    go_wp2_with fail
    refine bodyPost_ret (v := .tuple #[jval 0 0 0 0 0 (.slice none 0 0), .slice (some ⟨w3.heap.size, 0, none⟩) 0 0, .bool false]) (by simp [results, Tryz.results7, go_sem, hlt, r0, r1, r2, r3, r4, r5, f0, f1, f2, f3, f4, f5]) rfl ?_
    have hB := B3.out.grown HE.out.2 B3.out.size (fun k e => by cases e; omega)
    refine OjPost.mk' HR.out rfl (World.ownsRow_nil _ _ _ _) ?_ (hB.alloc (Nat.le_trans B3.out.size HE.out.2.size) _)
    have hz : w3.heap.size = ((((((w3.setCell ⟨w.heap.size + 1, 0, none⟩ (Value.int IntKind.i64 0)).setCell ⟨w.heap.size + 1, 1, none⟩ (Value.int IntKind.i64 0)).setCell ⟨w.heap.size + 1, 2, none⟩ (Value.int IntKind.i64 0)).setCell ⟨w.heap.size + 1, 3, none⟩ (Value.int IntKind.i64 0)).setCell ⟨w.heap.size + 1, 4, none⟩ (Value.int IntKind.i64 0)).setCell ⟨w.heap.size + 1, 5, none⟩ (Value.slice none 0 0)).heap.size := by simp [World.setCell]
    have hm := World.ownsRow_made (w := ((((((w3.setCell ⟨w.heap.size + 1, 0, none⟩ (Value.int IntKind.i64 0)).setCell ⟨w.heap.size + 1, 1, none⟩ (Value.int IntKind.i64 0)).setCell ⟨w.heap.size + 1, 2, none⟩ (Value.int IntKind.i64 0)).setCell ⟨w.heap.size + 1, 3, none⟩ (Value.int IntKind.i64 0)).setCell ⟨w.heap.size + 1, 4, none⟩ (Value.int IntKind.i64 0)).setCell ⟨w.heap.size + 1, 5, none⟩ (Value.slice none 0 0))) (e := 57) (base := w.heap.size) (size := 4) #[] 0 (Nat.le_trans B3.out.size (Nat.le_of_eq hz)) (by decide) rfl
    rw [← hz] at hm
    exact hm

end Go.Proofs.YthbgklmnmoclhaaGreatDoor
