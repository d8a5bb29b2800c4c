/-
  Walks of chapter 3: DoAct of the program.
-/
import Derived.Test.YtgimbffogmhbgaaWalk3r
namespace Go.Proofs.Ytgimbffogmhbgaa
open Go.RowKit P5 K
set_option linter.unusedVariables false
set_option linter.unusedSimpArgs false

theorem heap3_0 (w : World) (X Y Z : Obj) : (((w.alloc X).alloc Y).alloc Z).heap[w.heap.size]? = some X := by
  rw [Below.heap_alloc _ _ _ (by simp; omega), Below.heap_alloc _ _ _ (by simp)]; exact heap_alloc_new w X
theorem heap3_1 (w : World) (X Y Z : Obj) : (((w.alloc X).alloc Y).alloc Z).heap[w.heap.size + 1]? = some Y := by
  rw [Below.heap_alloc _ _ _ (by simp)]
  have := heap_alloc_new (w.alloc X) Y
  rwa [World.size_alloc] at this
theorem heap3_2 (w : World) (X Y Z : Obj) : (((w.alloc X).alloc Y).alloc Z).heap[w.heap.size + 1 + 1]? = some Z := by
  have := heap_alloc_new ((w.alloc X).alloc Y) Z
  rwa [World.size_alloc, World.size_alloc] at this
theorem row_cell {W w2 : World} {B q : Nat} {cs : Array Value} {t : TypeId} (hb : Below B W w2) (hq : q < B) (h : W.heap[q]? = some (.cells cs t (0, 0))) (j : Nat) : w2.cell? ⟨q, j, none⟩ = cs[j]? := by
  rw [hb.cell (p := ⟨q, j, none⟩) hq]; exact cell_of_row W q j _ _ _ h
theorem row_free {W w2 : World} {B q : Nat} {cs : Array Value} {t : TypeId} (hb : Below B W w2) (hq : q < B) (h : W.heap[q]? = some (.cells cs t (0, 0))) (j : Nat) : w2.frozen? ⟨q, j, none⟩ = false := by
  rw [hb.frozen (p := ⟨q, j, none⟩) hq]; unfold World.frozen?; rw [h]; simp

theorem DiskRes.no {w w' : World} {r : Option (List FileV)} (h : r = none) (hb : Below w.heap.size w w') : DiskRes w (r.getD []) r.isSome (.returned (.tuple #[.agg #[.slice none 0 0], .bool false])) w' := by
  subst h
  exact ⟨_, rfl, World.ownsRow_nil _ _ _ _, hb⟩

theorem DiskRes.yes {w w' : World} {r : Option (List FileV)} {gs : List FileV} {v : Value} (h : r = some gs) (ho : w'.ownsRow w.heap.size 37 3 v gs.length (gs.flatMap fcells)) (hb : Below w.heap.size w w') : DiskRes w (r.getD []) r.isSome (.returned (.tuple #[.agg #[v], .bool true])) w' := by
  subst h
  exact ⟨_, rfl, ho, hb⟩

set_option maxRecDepth 100000 in
set_option maxHeartbeats 4000000 in
theorem implDoAct_any (oa : Option Addr) (n cap : Nat) (fs : List FileV) (a : ActV) (w : World) (hat : FilesAt w oa n cap fs) (hw : ∀ f ∈ fs, Fine f) (ha : ActFine a) :
    Calls Try.prog 22 #[.agg #[.slice oa n cap], aval a] w fun e w' => DiskRes w ((actL fs a).getD []) (actL fs a).isSome e w' := by
  have hDO := hide (fun (gs : List FileV) (hg : diskOk gs = true) => tabDo_any gs hg a ha)
  obtain ⟨kd, nm, tx, tt⟩ := a
  unfold aval at hDO ⊢
  simp only at hDO ⊢
  have hb0 := (((Below.refl w.heap.size w).alloc (Nat.le_refl _) (.cells #[.slice oa n cap] 29)).alloc (by simp) (.cells #[.int .i64 kd, .string ⟨nm.toArray⟩, .string ⟨tx.toArray⟩, .string ⟨tt.toArray⟩] 46)).alloc (by simp; omega) (.cells #[.slice none 0 0] 29)
  have HAT := hide hat
  have HB0 := hide hb0
  have HW := hide hw
  clear hat hb0 hw
  cases hok : diskOk fs with
  | false =>
    have R := hide (show actL fs ⟨kd, nm, tx, tt⟩ = none by unfold actL; rw [if_neg (by rw [hok]; simp)])
    have HOK := hide hok
    clear hok
    go_enter Try.func22, Try.ntmps22
    go_wp2_with fail
    refine (implDiskOk_any oa n cap fs _ (HAT.out.below HB0.out) HW.out).mono ?_
    rw [HOK.out]
    rintro e w2 ⟨rfl, hb2⟩
    have k1 := hb2.cell (p := ⟨w.heap.size + 1 + 1, 0, none⟩) (by simp)
    have q1 := hb2.frozen (p := ⟨w.heap.size + 1 + 1, 0, none⟩) (by simp)
    go_wp2_with fail
    refine bodyPost_ret (v := .tuple #[.agg #[.slice none 0 0], .bool false]) (by simp [results, Try.results22, go_sem, k1, q1]) rfl (DiskRes.no R.out ?_)
    exact (HB0.out.trans (hb2.mono (by simp; omega))).setCell (by simp; omega) _
  | true =>
    have R := hide (show actL fs ⟨kd, nm, tx, tt⟩ = doL fs ⟨kd, nm, tx, tt⟩ by unfold actL; rw [if_pos hok])
    have HOK := hide hok
    clear hok
    go_enter Try.func22, Try.ntmps22
    go_wp2_with fail
    refine (implDiskOk_any oa n cap fs _ (HAT.out.below HB0.out) HW.out).mono ?_
    rw [HOK.out]
    rintro e w2 ⟨rfl, hb2⟩
    have k0 : w2.cell? ⟨w.heap.size, 0, none⟩ = some (.slice oa n cap) := row_cell hb2 (by simp; omega) (heap3_0 _ _ _ _) 0
    have s2 : w.heap.size + 3 ≤ w2.heap.size := by have := hb2.size; simp at this; omega
    have B2 := hide (HB0.out.trans (hb2.mono (by simp; omega)))
    have HB2 := hide hb2
    clear hb2
    go_wp2_with fail
    refine (tableOf_any oa n cap fs _ (HAT.out.below B2.out) HOK.out).mono ?_
    rintro e w3 ⟨b, rfl, hT3, hb3⟩
    have hb23 := HB2.out.trans (hb3.mono HB2.out.size)
    have e0 : w3.cell? ⟨w.heap.size + 1, 0, none⟩ = some (.int .i64 kd) := row_cell hb23 (by simp) (heap3_1 _ _ _ _) 0
    have e1 : w3.cell? ⟨w.heap.size + 1, 1, none⟩ = some (.string ⟨nm.toArray⟩) := row_cell hb23 (by simp) (heap3_1 _ _ _ _) 1
    have e2 : w3.cell? ⟨w.heap.size + 1, 2, none⟩ = some (.string ⟨tx.toArray⟩) := row_cell hb23 (by simp) (heap3_1 _ _ _ _) 2
    have e3 : w3.cell? ⟨w.heap.size + 1, 3, none⟩ = some (.string ⟨tt.toArray⟩) := row_cell hb23 (by simp) (heap3_1 _ _ _ _) 3
    have s3 := hb3.size
    have HT3 := hide hT3
    have HB23 := hide hb23
    have B3 := hide (B2.out.trans (hb3.mono B2.out.size))
    clear hT3 hb23 hb3
    cases hd : doL fs ⟨kd, nm, tx, tt⟩ with
    | none =>
      have RD := hide (R.out.trans hd)
      have hDo := hDO.out fs HOK.out w3 w2.heap.size b s3 HT3.out
      rw [hd] at hDo
      have HDO := hide hDo
      clear hDo hd
      go_wp2_with (go_at_call 45; refine HDO.out.mono ?_; rintro e w4 ⟨rfl, hT4, hb4⟩; have r0 : w4.cell? ⟨w.heap.size + 1 + 1, 0, none⟩ = some (.slice none 0 0) := (hb4.cell (by simp; omega)).trans (row_cell HB23.out (by simp) (heap3_2 _ _ _ _) 0); have r1 : w4.frozen? ⟨w.heap.size + 1 + 1, 0, none⟩ = false := (hb4.frozen (by simp; omega)).trans (row_free HB23.out (by simp) (heap3_2 _ _ _ _) 0))
      refine bodyPost_ret (v := .tuple #[.agg #[.slice none 0 0], .bool false]) (by simp [results, Try.results22, go_sem, r0, r1]) rfl (DiskRes.no RD.out ?_)
      exact (B3.out.trans (hb4.mono (by omega))).setCell (by simp; omega) _
    | some gs =>
      have RD := hide (R.out.trans hd)
      have GOK := hide (doL_ok hd)
      have hDo := hDO.out fs HOK.out w3 w2.heap.size b s3 HT3.out
      rw [hd] at hDo
      have HDO := hide hDo
      clear hDo hd
      go_wp2_with (go_at_call 45; refine HDO.out.mono ?_; rintro e w4 ⟨rfl, hT4, hb4⟩)
      have hT4' : TabOk w4 w2.heap.size b gs := hT4
      refine (tabDisk_any gs GOK.out _ w2.heap.size b hT4').mono ?_
      rintro e w5 ⟨v, rfl, ho5, hb5⟩
      have hB4 : Below w.heap.size w w4 := B3.out.trans (hb4.mono (by omega))
      have hs4 : w.heap.size + 3 ≤ w4.heap.size := by have := hb4.size; omega
      have r0 : w5.cell? ⟨w.heap.size + 1 + 1, 0, none⟩ = some (.slice none 0 0) := (hb5.cell (by simp; omega)).trans ((hb4.cell (by simp; omega)).trans (row_cell HB23.out (by simp) (heap3_2 _ _ _ _) 0))
      have r1 : w5.frozen? ⟨w.heap.size + 1 + 1, 0, none⟩ = false := (hb5.frozen (by simp; omega)).trans ((hb4.frozen (by simp; omega)).trans (row_free HB23.out (by simp) (heap3_2 _ _ _ _) 0))
      obtain ⟨ov, cv, rfl⟩ := own_form ho5
      go_wp2_with fail
      refine bodyPost_ret (v := .tuple #[.agg #[.slice ov gs.length cv], .bool true]) (by simp [results, Try.results22, go_sem, r0, r1]) rfl (DiskRes.yes RD.out (own_base (own_setCell ho5 (by simp; omega) _) (by omega)) ?_)
      exact (hB4.trans (hb5.mono (by omega))).setCell (by simp; omega) _

end Go.Proofs.Ytgimbffogmhbgaa
