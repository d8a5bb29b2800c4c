/-
  Walks of chapter 7: ReadJournal of the program (made by wip/tools/gen7j.py).
  JournalOk of the program.
  strings.Builder: what is written goes behind what was written (the shelf's contract of WriteString is not laid at this translation).
-/
import Derived.Test.YthbgklmnmoclhaaDoorWalk7i
import Derived.Test.YthbgklmnmoclhaaDoorPack26
import Derived.Test.YthbgklmnmoclhaaDoorWalk5a
import Derived.Test.YthbgklmnmoclhaaDoorPack15
import Derived.Test.YthbgklmnmoclhaaDoorShelf
import Derived.Test.YthbgklmnmoclhaaDoorPack1
import Derived.Test.YthbgklmnmoclhaaDoorPack18
namespace Go.Proofs.YthbgklmnmoclhaaDoor
open Go.RowKit P1 P3 P9 K
set_option linter.unusedVariables false
set_option linter.unusedSimpArgs false

/-- What ReadJournal answers. -/
def jrR (n : Int) (l : List UInt8) : JnV × Nat × Bool := match rdJn n l with | none => (zeroJ, 0, false) | some (j, e) => (j, e, true)
def JrPost (n : Int) (l : List UInt8) (w : World) (e : Ending) (w' : World) : Prop :=
  ∃ v, e = .returned (.tuple #[jval (jrR n l).1.number (jrR n l).1.term (jrR n l).1.vote (jrR n l).1.s (jrR n l).1.u v, .int .i64 ((jrR n l).2.1 : Int), .bool (jrR n l).2.2]) ∧
    w'.ownsRow w.heap.size 77 3 v (jrR n l).1.es.length ((jrR n l).1.es.flatMap ecells) ∧ Below w.heap.size w w'

theorem JrPost.mk' {n : Int} {l : List UInt8} {w w' : World} {j : JnV} {x : Nat} {c : Bool} {v e : Value} (h : jrR n l = (j, x, c)) (he : e = .tuple #[jval j.number j.term j.vote j.s j.u v, .int .i64 (x : Int), .bool c])
    (ho : w'.ownsRow w.heap.size 77 3 v j.es.length (j.es.flatMap ecells)) (hb : Below w.heap.size w w') : JrPost n l w (.returned e) w' := by
  subst he
  unfold JrPost
  rw [h]
  exact ⟨v, rfl, ho, hb⟩

/-- How the two answers hang together. -/
theorem rf_cases (n : Int) (l : List UInt8) : (∃ j e, rfR n l = (j, e, 0) ∧ jrR n l = (j, e, true)) ∨ (∃ j e, rfR n l = (j, e, 3) ∧ jrR n l = (j, e, true)) ∨ (rfR n l = (zeroJ, 0, 1) ∧ jrR n l = (zeroJ, 0, false)) ∨ (rfR n l = (zeroJ, 0, 2) ∧ jrR n l = (zeroJ, 0, false)) := by
  unfold rfR jrR
  cases hi : jnIn n with
  | false =>
    rw [rdJn_out hi]
    exact Or.inr (Or.inr (Or.inl ⟨rfl, rfl⟩))
  | true =>
    rw [if_pos rfl]
    cases hr : rdJn n l with
    | none => exact Or.inr (Or.inr (Or.inr ⟨rfl, rfl⟩))
    | some p =>
      obtain ⟨j, e⟩ := p
      simp only
      by_cases he : e = l.length
      · rw [if_pos he]
        exact Or.inl ⟨j, e, rfl, rfl⟩
      · rw [if_neg he]
        exact Or.inr (Or.inl ⟨j, e, rfl, rfl⟩)

set_option maxHeartbeats 4000000 in
theorem implReadJournal_any (n : Int) (s : ByteArray) (hs : s.size ≤ 1048576) (w : World) (htab : SumTabIs w) (herr : ErrVar w) :
    Calls Tryd.prog 14 #[.int .i64 n, .string s] w fun e w' => JrPost n (bl s) w e w' := by
  have hb0 := (Below.refl w.heap.size w).alloc (Nat.le_refl _) (.cells (jcells 0 0 0 0 0 (.slice none 0 0)) 36)
  have HRF := hide (readFile_any n s hs _ (tab_below htab hb0))
  have HJ0 := hide (JB.new w 0 0 0 0 0 (.slice none 0 0))
  have HB0 := hide hb0
  have HER := hide herr
  clear hb0 htab herr
  rcases rf_cases n (bl s) with ⟨j, e, hf, hr⟩ | ⟨j, e, hf, hr⟩ | ⟨hf, hr⟩ | ⟨hf, hr⟩
  · have HR := hide hr
    unfold RfPost at HRF
    rw [hf] at HRF
    clear hf hr
    simp only at HRF
    rw [show errV 0 = .nilIface from rfl] at HRF
    go_enter Tryd.func14, Tryd.ntmps14
    go_wp2_with fail
    refine HRF.out.mono ?_
    rintro r w1 ⟨v, rfl, hown, hb1⟩
    obtain ⟨oa, cap, hv⟩ := own_form3 hown
    subst hv
    have hj1 := HJ0.out.on hb1 (by simp)
    have B1 := hide (HB0.out.trans (hb1.mono (by simp)))
    clear hb1 HRF HJ0 HB0
    have hb2 := (Below.refl w1.heap.size w1).alloc (Nat.le_refl _) (.cells (jcells j.number j.term j.vote j.s j.u (.slice oa j.es.length cap)) 36)
    have hx2 := JB.new w1 j.number j.term j.vote j.s j.u (.slice oa j.es.length cap)
    have hj2 := hj1.on hb2 hj1.lt
    have ho2 := own_below hown hb2
    have B2 := hide (B1.out.trans (hb2.mono B1.out.size))
    have HER2 := hide (HER.out.on B2.out)
    have HX2 := hide hx2
    have HJ2 := hide hj2
    have HO2 := hide ho2
    clear hj1 hown hb2 hx2 hj2 ho2 B1 HER
    go_wp2_with fail
    generalize w1.alloc (Obj.cells #[Value.int IntKind.i64 j.number, Value.int IntKind.i64 j.term, Value.int IntKind.i64 j.vote, Value.int IntKind.i64 j.s, Value.int IntKind.i64 j.u, Value.slice oa j.es.length cap] 36) = w2 at B2 HER2 HX2 HJ2 HO2 ⊢
    refine (faultOf_nil _).mono ?_
    rintro r w3 ⟨rfl, hb3⟩
    have hx3 := HX2.out.on hb3 HX2.out.lt
    have hj3 := HJ2.out.on hb3 HJ2.out.lt
    have HO3 := hide (own_below HO2.out hb3)
    have B3 := hide (B2.out.trans (hb3.mono B2.out.size))
    obtain ⟨x0, x1, x2, x3, x4, x5⟩ := hx3.jv
    obtain ⟨r0, r1, r2, r3, r4, r5⟩ := hj3.jv
    have f0 := hj3.free 0
    have f1 := hj3.free 1
    have f2 := hj3.free 2
    have f3 := hj3.free 3
    have f4 := hj3.free 4
    have f5 := hj3.free 5
    have HJ3 := hide hj3
    clear hb3 hx3 hj3 HX2 HJ2 HO2 HER2 B2
    have HE := hide (HJ3.out.all j.number j.term j.vote j.s j.u (.slice oa j.es.length cap))
    go_wp2_with fail
    refine bodyPost_ret (v := .tuple #[jval j.number j.term j.vote j.s j.u (.slice oa j.es.length cap), .int .i64 (e : Int), .bool true]) (by simp [results, Tryd.results14, go_sem, r0, r1, r2, r3, r4, r5, f0, f1, f2, f3, f4, f5]) rfl ?_
    exact JrPost.mk' HR.out rfl (own_base (own_keptb HO3.out HE.out.2 (by simp)) (by simp)) (B3.out.grown HE.out.2 B3.out.size (fun k e => by cases e; exact Nat.le_refl _))
  · have HR := hide hr
    unfold RfPost at HRF
    rw [hf] at HRF
    clear hf hr
    simp only at HRF
    rw [show errV 3 = faultV 3 from rfl] at HRF
    go_enter Tryd.func14, Tryd.ntmps14
    go_wp2_with fail
    refine HRF.out.mono ?_
    rintro r w1 ⟨v, rfl, hown, hb1⟩
    obtain ⟨oa, cap, hv⟩ := own_form3 hown
    subst hv
    have hj1 := HJ0.out.on hb1 (by simp)
    have B1 := hide (HB0.out.trans (hb1.mono (by simp)))
    clear hb1 HRF HJ0 HB0
    have hb2 := (Below.refl w1.heap.size w1).alloc (Nat.le_refl _) (.cells (jcells j.number j.term j.vote j.s j.u (.slice oa j.es.length cap)) 36)
    have hx2 := JB.new w1 j.number j.term j.vote j.s j.u (.slice oa j.es.length cap)
    have hj2 := hj1.on hb2 hj1.lt
    have ho2 := own_below hown hb2
    have B2 := hide (B1.out.trans (hb2.mono B1.out.size))
    have HER2 := hide (HER.out.on B2.out)
    have HX2 := hide hx2
    have HJ2 := hide hj2
    have HO2 := hide ho2
    clear hj1 hown hb2 hx2 hj2 ho2 B1 HER
    go_wp2_with fail
    generalize w1.alloc (Obj.cells #[Value.int IntKind.i64 j.number, Value.int IntKind.i64 j.term, Value.int IntKind.i64 j.vote, Value.int IntKind.i64 j.s, Value.int IntKind.i64 j.u, Value.slice oa j.es.length cap] 36) = w2 at B2 HER2 HX2 HJ2 HO2 ⊢
    refine (faultOf_code 3 _ HER2.out).mono ?_
    rintro r w3 ⟨rfl, hb3⟩
    have hx3 := HX2.out.on hb3 HX2.out.lt
    have hj3 := HJ2.out.on hb3 HJ2.out.lt
    have HO3 := hide (own_below HO2.out hb3)
    have B3 := hide (B2.out.trans (hb3.mono B2.out.size))
    obtain ⟨x0, x1, x2, x3, x4, x5⟩ := hx3.jv
    obtain ⟨r0, r1, r2, r3, r4, r5⟩ := hj3.jv
    have f0 := hj3.free 0
    have f1 := hj3.free 1
    have f2 := hj3.free 2
    have f3 := hj3.free 3
    have f4 := hj3.free 4
    have f5 := hj3.free 5
    have HJ3 := hide hj3
    clear hb3 hx3 hj3 HX2 HJ2 HO2 HER2 B2
    have HE := hide (HJ3.out.all j.number j.term j.vote j.s j.u (.slice oa j.es.length cap))
    go_wp2_with fail
    refine bodyPost_ret (v := .tuple #[jval j.number j.term j.vote j.s j.u (.slice oa j.es.length cap), .int .i64 (e : Int), .bool true]) (by simp [results, Tryd.results14, go_sem, r0, r1, r2, r3, r4, r5, f0, f1, f2, f3, f4, f5]) rfl ?_
    exact JrPost.mk' HR.out rfl (own_base (own_keptb HO3.out HE.out.2 (by simp)) (by simp)) (B3.out.grown HE.out.2 B3.out.size (fun k e => by cases e; exact Nat.le_refl _))
  · have HR := hide hr
    unfold RfPost at HRF
    rw [hf] at HRF
    clear hf hr
    simp only at HRF
    simp only [zeroJ] at HRF
    rw [show errV 1 = faultV 1 from rfl] at HRF
    go_enter Tryd.func14, Tryd.ntmps14
    go_wp2_with fail
    refine HRF.out.mono ?_
    rintro r w1 ⟨v, rfl, hown, hb1⟩
    obtain ⟨oa, cap, hv⟩ := own_form3 hown
    subst hv
    have hj1 := HJ0.out.on hb1 (by simp)
    have B1 := hide (HB0.out.trans (hb1.mono (by simp)))
    clear hb1 HRF HJ0 HB0
    replace hown : w1.ownsRow (w.alloc (.cells (jcells 0 0 0 0 0 (.slice none 0 0)) 36)).heap.size 77 3 (.slice oa 0 cap) 0 (([] : List EntV).flatMap ecells) := hown
    have hb2 := (Below.refl w1.heap.size w1).alloc (Nat.le_refl _) (.cells (jcells 0 0 0 0 0 (.slice oa 0 cap)) 36)
    have hx2 := JB.new w1 0 0 0 0 0 (.slice oa 0 cap)
    have hj2 := hj1.on hb2 hj1.lt
    have ho2 := own_below hown hb2
    have B2 := hide (B1.out.trans (hb2.mono B1.out.size))
    have HER2 := hide (HER.out.on B2.out)
    have HX2 := hide hx2
    have HJ2 := hide hj2
    have HO2 := hide ho2
    clear hj1 hown hb2 hx2 hj2 ho2 B1 HER
    go_wp2_with fail
    generalize w1.alloc (Obj.cells #[Value.int IntKind.i64 0, Value.int IntKind.i64 0, Value.int IntKind.i64 0, Value.int IntKind.i64 0, Value.int IntKind.i64 0, Value.slice oa 0 cap] 36) = w2 at B2 HER2 HX2 HJ2 HO2 ⊢
    refine (faultOf_code 1 _ HER2.out).mono ?_
    rintro r w3 ⟨rfl, hb3⟩
    have hx3 := HX2.out.on hb3 HX2.out.lt
    have hj3 := HJ2.out.on hb3 HJ2.out.lt
    have HO3 := hide (own_below HO2.out hb3)
    have B3 := hide (B2.out.trans (hb3.mono B2.out.size))
    obtain ⟨x0, x1, x2, x3, x4, x5⟩ := hx3.jv
    obtain ⟨r0, r1, r2, r3, r4, r5⟩ := hj3.jv
    have f0 := hj3.free 0
    have f1 := hj3.free 1
    have f2 := hj3.free 2
    have f3 := hj3.free 3
    have f4 := hj3.free 4
    have f5 := hj3.free 5
    have HJ3 := hide hj3
    clear hb3 hx3 hj3 HX2 HJ2 HO2 HER2 B2
    have HE := hide (HJ3.out.all 0 0 0 0 0 (.slice none 0 0))
    go_wp2_with fail
    refine bodyPost_ret (v := .tuple #[jval 0 0 0 0 0 (.slice none 0 0), .int .i64 0, .bool false]) (by simp [results, Tryd.results14, go_sem, r0, r1, r2, r3, r4, r5, f0, f1, f2, f3, f4, f5]) rfl ?_
    exact JrPost.mk' HR.out rfl (World.ownsRow_nil _ _ _ _) (B3.out.grown HE.out.2 B3.out.size (fun k e => by cases e; exact Nat.le_refl _))
  · have HR := hide hr
    unfold RfPost at HRF
    rw [hf] at HRF
    clear hf hr
    simp only at HRF
    simp only [zeroJ] at HRF
    rw [show errV 2 = faultV 2 from rfl] at HRF
    go_enter Tryd.func14, Tryd.ntmps14
    go_wp2_with fail
    refine HRF.out.mono ?_
    rintro r w1 ⟨v, rfl, hown, hb1⟩
    obtain ⟨oa, cap, hv⟩ := own_form3 hown
    subst hv
    have hj1 := HJ0.out.on hb1 (by simp)
    have B1 := hide (HB0.out.trans (hb1.mono (by simp)))
    clear hb1 HRF HJ0 HB0
    replace hown : w1.ownsRow (w.alloc (.cells (jcells 0 0 0 0 0 (.slice none 0 0)) 36)).heap.size 77 3 (.slice oa 0 cap) 0 (([] : List EntV).flatMap ecells) := hown
    have hb2 := (Below.refl w1.heap.size w1).alloc (Nat.le_refl _) (.cells (jcells 0 0 0 0 0 (.slice oa 0 cap)) 36)
    have hx2 := JB.new w1 0 0 0 0 0 (.slice oa 0 cap)
    have hj2 := hj1.on hb2 hj1.lt
    have ho2 := own_below hown hb2
    have B2 := hide (B1.out.trans (hb2.mono B1.out.size))
    have HER2 := hide (HER.out.on B2.out)
    have HX2 := hide hx2
    have HJ2 := hide hj2
    have HO2 := hide ho2
    clear hj1 hown hb2 hx2 hj2 ho2 B1 HER
    go_wp2_with fail
    generalize w1.alloc (Obj.cells #[Value.int IntKind.i64 0, Value.int IntKind.i64 0, Value.int IntKind.i64 0, Value.int IntKind.i64 0, Value.int IntKind.i64 0, Value.slice oa 0 cap] 36) = w2 at B2 HER2 HX2 HJ2 HO2 ⊢
    refine (faultOf_code 2 _ HER2.out).mono ?_
    rintro r w3 ⟨rfl, hb3⟩
    have hx3 := HX2.out.on hb3 HX2.out.lt
    have hj3 := HJ2.out.on hb3 HJ2.out.lt
    have HO3 := hide (own_below HO2.out hb3)
    have B3 := hide (B2.out.trans (hb3.mono B2.out.size))
    obtain ⟨x0, x1, x2, x3, x4, x5⟩ := hx3.jv
    obtain ⟨r0, r1, r2, r3, r4, r5⟩ := hj3.jv
    have f0 := hj3.free 0
    have f1 := hj3.free 1
    have f2 := hj3.free 2
    have f3 := hj3.free 3
    have f4 := hj3.free 4
    have f5 := hj3.free 5
    have HJ3 := hide hj3
    clear hb3 hx3 hj3 HX2 HJ2 HO2 HER2 B2
    have HE := hide (HJ3.out.all 0 0 0 0 0 (.slice none 0 0))
    go_wp2_with fail
    refine bodyPost_ret (v := .tuple #[jval 0 0 0 0 0 (.slice none 0 0), .int .i64 0, .bool false]) (by simp [results, Tryd.results14, go_sem, r0, r1, r2, r3, r4, r5, f0, f1, f2, f3, f4, f5]) rfl ?_
    exact JrPost.mk' HR.out rfl (World.ownsRow_nil _ _ _ _) (B3.out.grown HE.out.2 B3.out.size (fun k e => by cases e; exact Nat.le_refl _))

end Go.Proofs.YthbgklmnmoclhaaDoor

namespace Go.Proofs.YthbgklmnmoclhaaDoor
open Go.RowKit P1 P3 P9 K
set_option linter.unusedVariables false
set_option linter.unusedSimpArgs false

set_option maxHeartbeats 2000000 in
theorem implJournalOk_any (j : JnV) (oa : Option Addr) (n cap : Nat) (w : World) (hat : EntsAt w oa n cap j.es) (hw : ∀ f ∈ j.es, f.data.size ≤ 1048576) :
    Calls Tryd.prog 28 #[jval j.number j.term j.vote j.s j.u (.slice oa n cap)] w fun e w' => e = .returned (.bool j.ok) ∧ Below w.heap.size w w' := by
  have hb0 := (Below.refl w.heap.size w).alloc (Nat.le_refl _) (.cells #[.int .i64 j.number, .int .i64 j.term, .int .i64 j.vote, .int .i64 j.s, .int .i64 j.u, .slice oa n cap] 36)
  have HLO := hide (implLogOk_any j.s j.u oa n cap j.es _ (hat.below hb0) hw)
  have HB0 := hide hb0
  clear hat hw hb0
  by_cases c1 : 0 ≤ j.number ∧ j.number ≤ 999
  · by_cases c2 : 0 ≤ j.term ∧ j.term ≤ 100000
    · by_cases c3 : 0 ≤ j.vote ∧ j.vote ≤ 4
      · have R := hide (ok_log c1 ⟨c2.1, c2.2, c3⟩)
        go_enter Tryd.func28, Tryd.ntmps28
        go_wp2_with (go_at_call 19; refine (within_yes _ _ _ (by omega) (by omega) _).mono ?_; rintro e w1 ⟨rfl, rfl⟩)
        refine HLO.out.mono ?_
        rintro e w1 ⟨rfl, hb1⟩
        go_wp2_with fail
        go_ret
        exact ⟨by rw [R.out]; rfl, HB0.out.trans (hb1.mono (by simp))⟩
      · have R := hide (ok_false_h (j := j) (by omega))
        go_enter Tryd.func28, Tryd.ntmps28
        go_wp2_with (go_at_call 19; first | (refine (within_yes _ _ _ (by omega) (by omega) _).mono ?_; rintro e w1 ⟨rfl, rfl⟩) | (refine (within_no _ _ _ (by omega) _).mono ?_; rintro e w1 ⟨rfl, rfl⟩))
        go_ret
        exact ⟨by rw [R.out]; rfl, HB0.out⟩
    · have R := hide (ok_false_h (j := j) (by omega))
      go_enter Tryd.func28, Tryd.ntmps28
      go_wp2_with (go_at_call 19; first | (refine (within_yes _ _ _ (by omega) (by omega) _).mono ?_; rintro e w1 ⟨rfl, rfl⟩) | (refine (within_no _ _ _ (by omega) _).mono ?_; rintro e w1 ⟨rfl, rfl⟩))
      go_ret
      exact ⟨by rw [R.out]; rfl, HB0.out⟩
  · have R := hide (ok_false_n (j := j) (by omega))
    go_enter Tryd.func28, Tryd.ntmps28
    go_wp2_with (go_at_call 19; refine (within_no _ _ _ (by omega) _).mono ?_; rintro e w1 ⟨rfl, rfl⟩)
    go_ret
    exact ⟨by rw [R.out]; rfl, HB0.out⟩

end Go.Proofs.YthbgklmnmoclhaaDoor

namespace Go.Proofs.YthbgklmnmoclhaaDoor
open Go.RowKit K
set_option linter.unusedVariables false

theorem bw_lies : liesAt Tryd.prog Tryd.prog.depth 81 (2 / Tryd.prog.cellsOf 81) 0 81 1 = true := by kernel_rfl
theorem bw_info : ∃ j, Tryd.prog.info? 81 = some j ∧ j.size ≠ 0 := by
  have h : (Tryd.prog.info? 81).map (·.size) = some 2 := by kernel_rfl
  obtain ⟨j, hj, h2⟩ := Option.map_eq_some_iff.1 h
  exact ⟨j, hj, by rw [h2]; decide⟩
theorem bw_byte : (Tryd.prog.info? 5).map (fun i => (i.zero, i.size, i.bytes)) = some (some (.int .u8 0), 1, 1) := by kernel_rfl

set_option maxHeartbeats 1000000 in
set_option maxRecDepth 100000 in
theorem copyCheck_used (b : Nat) (w : World) (h : w.cell? ⟨b, 0, none⟩ = some (.pointer (some ⟨b, 0, none⟩))) :
    Calls Tryd.prog 76 #[.pointer (some ⟨b, 0, none⟩)] w fun e w' => e = .returned (.tuple #[]) ∧ w' = w := by
  obtain ⟨j, hj, -⟩ := bw_info
  have hne := Lib.run_neq_ptr_same w ⟨b, 0, none⟩ Tryd.underlying79 hj
  go_enter Tryd.func76, Tryd.ntmps76
  go_wp2
  go_end0
  exact ⟨rfl, rfl⟩

set_option maxHeartbeats 1000000 in
set_option maxRecDepth 100000 in
theorem copyCheck_fresh (b : Nat) (w : World) (h : w.cell? ⟨b, 0, none⟩ = some (.pointer none)) (hsh : w.shape? b = some (81, 2)) (hf : w.frozen? ⟨b, 0, none⟩ = false) :
    Calls Tryd.prog 76 #[.pointer (some ⟨b, 0, none⟩)] w fun e w' => e = .returned (.tuple #[]) ∧ w' = w.setCell ⟨b, 0, none⟩ (.pointer (some ⟨b, 0, none⟩)) := by
  obtain ⟨j, hj, hz⟩ := bw_info
  have hA := Lib.run_to_unsafe w ⟨b, 0, none⟩ Tryd.underlying79 Tryd.underlying129 hj hz hsh (Nat.zero_lt_succ 1)
  have hE := @run_callFunc_extern Tryd.prog 93 _ Extern.AbiNoEscape.same Tryd.func93 (by kernel_rfl) (by kernel_rfl) (by kernel_rfl) (by kernel_rfl)
  have hN := fun x => Lib.run_noEscape (P := Tryd.prog) w x
  have hC := Lib.run_from_unsafe w ⟨b, 0, none⟩ Tryd.underlying129 Tryd.underlying79 hj hsh bw_lies
  go_enter Tryd.func76, Tryd.ntmps76
  go_wp2
  go_end0
  exact ⟨rfl, rfl⟩

theorem copyCheck_any (B b : Nat) (bs : List Value) (w : World) (h : Lib.IsBuilder 81 5 B b bs w) :
    Calls Tryd.prog 76 #[.pointer (some ⟨b, 0, none⟩)] w fun e w' => e = .returned (.tuple #[]) ∧ Lib.BuilderAt 81 5 B b (.pointer (some ⟨b, 0, none⟩)) bs w' ∧ Below B w w' := by
  rcases h with h | h
  · refine (copyCheck_fresh b w h.cell0 h.shape h.frozen0).mono ?_
    rintro e w' ⟨rfl, rfl⟩
    exact ⟨rfl, h.used _, (Below.refl B w).setCell (p := ⟨b, 0, none⟩) h.1 _⟩
  · refine (copyCheck_used b w h.cell0).mono ?_
    rintro e w' ⟨rfl, rfl⟩
    exact ⟨rfl, h, Below.refl B _⟩

set_option maxHeartbeats 2000000 in
set_option maxRecDepth 100000 in
theorem writeString_any (B b : Nat) (bs : List Value) (s : ByteArray) (w : World) (h : Lib.IsBuilder 81 5 B b bs w) (hlen : bs.length + s.size ≤ 140737488355328) (hBw : B ≤ w.heap.size) :
    Calls Tryd.prog 51 #[.pointer (some ⟨b, 0, none⟩), .string s] w fun e w' => e = .returned (.tuple #[.int .i64 s.size, .nilIface]) ∧ Lib.IsBuilder 81 5 B b (bs ++ Lib.strCells s) w' ∧ Below B w w' := by
  obtain ⟨i0, hi, hz0, hz1, hz2⟩ := info_parts bw_byte
  have HC := hide (copyCheck_any B b bs w h)
  clear h
  go_enter Tryd.func51, Tryd.ntmps51
  go_wp2_with fail
  refine HC.out.mono ?_
  rintro e w1 ⟨rfl, h1, hb1⟩
  obtain ⟨hB, v, hbk, hown, hne⟩ := h1
  have c1 : w1.cell? ⟨b, 1, none⟩ = some v := blk_cell hbk 1 rfl
  go_wp2_with (at_builtin; refine Lib.wpList_append_own_string _ rfl _ _ 70 9 rfl B 5 i0 Tryd.underlying70 Tryd.underlying9 hi hz0 hz1 hz2 _ _ _ rfl hown s rfl ?c3 ?c4 ?c5 ?_)
  case c3 => unfold maxLen; omega
  case c4 => omega
  case c5 => have := hb1.size; omega
  intro v' w2 hown' hgrow _
  have hlt : b < w1.heap.size := blk_lt hbk
  have hb2 : w2.heap[b]? = some (.cells #[.pointer (some ⟨b, 0, none⟩), v] 81 (0, 0)) := (hgrow.block b hlt (fun e => hne e.symm)).trans hbk
  have d1 : w2.cell? ⟨b, 1, none⟩ = some v := blk_cell hb2 1 rfl
  have f1 : w2.frozen? ⟨b, 1, none⟩ = false := blk_free hb2 1
  have hend : Below B w (w2.setCell ⟨b, 1, none⟩ v') := (hb1.grown hgrow (by have := hb1.size; omega) (fun k hk => (hown.lt k hk).1)).setCell (p := ⟨b, 1, none⟩) hB _
  have hput := Lib.BuilderAt.put (T := 81) (e := 5) hB hb2 (bs' := bs ++ Lib.strCells s) (by simpa [Lib.strCells_length] using hown') (by decide)
  obtain ⟨ao, n', cap, rfl⟩ : ∃ ao n' cap, v' = .slice ao n' cap := by
    rcases hown'.2 with ⟨hv, _⟩ | ⟨g, cap, cur, hv, _⟩
    · exact ⟨_, _, _, hv⟩
    · exact ⟨_, _, _, hv⟩
  clear hown' hgrow hb2 hown hbk c1
  go_wp2_with fail
  go_ret2
  exact ⟨rfl, Or.inr hput, hend⟩

/-- New memory takes nothing from it. -/
theorem isBuilder_on {T e : TypeId} {B b : Nat} {bs : List Value} {w w' : World} (h : Lib.IsBuilder T e B b bs w) (hb : Below w.heap.size w w') : Lib.IsBuilder T e B b bs w' := by
  have key : ∀ p, Lib.BuilderAt T e B b p bs w → Lib.BuilderAt T e B b p bs w' := by
    rintro p ⟨hB, v, hbk, hown, hne⟩
    exact ⟨hB, v, (hb.block b (blk_lt hbk)).trans hbk, own_below hown hb, hne⟩
  exact h.imp (key _) (key _)

end Go.Proofs.YthbgklmnmoclhaaDoor
