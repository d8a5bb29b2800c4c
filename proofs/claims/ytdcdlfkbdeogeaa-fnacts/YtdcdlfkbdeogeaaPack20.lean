/-
  Walks of chapter 3: DoAct of the program.
  Walks of chapter 3: a disk without a file, and a file put in its place, of the specification.
-/
import Derived.Test.YtdcdlfkbdeogeaaWalk3r
namespace Go.Proofs.Ytdcdlfkbdeogeaa
open Go.RowKit P5 K
set_option linter.unusedVariables false
set_option linter.unusedSimpArgs false

theorem heap3_0 (w : World) (X Y Z : Obj) : (((w.alloc X).alloc Y).alloc Z).heap[w.heap.size]? = some X := by
  rw [Below.heap_alloc _ _ _ (by simp; omega), Below.heap_alloc _ _ _ (by simp)]; exact heap_alloc_new w X
theorem heap3_1 (w : World) (X Y Z : Obj) : (((w.alloc X).alloc Y).alloc Z).heap[w.heap.size + 1]? = some Y := by
  rw [Below.heap_alloc _ _ _ (by simp)]
  have := heap_alloc_new (w.alloc X) Y
  rwa [World.size_alloc] at this
theorem heap3_2 (w : World) (X Y Z : Obj) : (((w.alloc X).alloc Y).alloc Z).heap[w.heap.size + 1 + 1]? = some Z := by
  have := heap_alloc_new ((w.alloc X).alloc Y) Z
  rwa [World.size_alloc, World.size_alloc] at this
theorem row_cell {W w2 : World} {B q : Nat} {cs : Array Value} {t : TypeId} (hb : Below B W w2) (hq : q < B) (h : W.heap[q]? = some (.cells cs t (0, 0))) (j : Nat) : w2.cell? ⟨q, j, none⟩ = cs[j]? := by
  rw [hb.cell (p := ⟨q, j, none⟩) hq]; exact cell_of_row W q j _ _ _ h
theorem row_free {W w2 : World} {B q : Nat} {cs : Array Value} {t : TypeId} (hb : Below B W w2) (hq : q < B) (h : W.heap[q]? = some (.cells cs t (0, 0))) (j : Nat) : w2.frozen? ⟨q, j, none⟩ = false := by
  rw [hb.frozen (p := ⟨q, j, none⟩) hq]; unfold World.frozen?; rw [h]; simp

theorem DiskRes.no {w w' : World} {r : Option (List FileV)} (h : r = none) (hb : Below w.heap.size w w') : DiskRes w (r.getD []) r.isSome (.returned (.tuple #[.agg #[.slice none 0 0], .bool false])) w' := by
  subst h
  exact ⟨_, rfl, World.ownsRow_nil _ _ _ _, hb⟩

theorem DiskRes.yes {w w' : World} {r : Option (List FileV)} {gs : List FileV} {v : Value} (h : r = some gs) (ho : w'.ownsRow w.heap.size 49 3 v gs.length (gs.flatMap fcells)) (hb : Below w.heap.size w w') : DiskRes w (r.getD []) r.isSome (.returned (.tuple #[.agg #[v], .bool true])) w' := by
  subst h
  exact ⟨_, rfl, ho, hb⟩

set_option maxRecDepth 100000 in
set_option maxHeartbeats 4000000 in
theorem implDoAct_any (oa : Option Addr) (n cap : Nat) (fs : List FileV) (a : ActV) (w : World) (hat : FilesAt w oa n cap fs) (hw : ∀ f ∈ fs, Fine f) (ha : ActFine a) :
    Calls Try.prog 9 #[.agg #[.slice oa n cap], aval a] w fun e w' => DiskRes w ((actL fs a).getD []) (actL fs a).isSome e w' := by
  have hDO := hide (fun (gs : List FileV) (hg : diskOk gs = true) => tabDo_any gs hg a ha)
  obtain ⟨kd, nm, tx, tt⟩ := a
  unfold aval at hDO ⊢
  simp only at hDO ⊢
  have hb0 := (((Below.refl w.heap.size w).alloc (Nat.le_refl _) (.cells #[.slice oa n cap] 26)).alloc (by simp) (.cells #[.int .i64 kd, .string ⟨nm.toArray⟩, .string ⟨tx.toArray⟩, .string ⟨tt.toArray⟩] 37)).alloc (by simp; omega) (.cells #[.slice none 0 0] 26)
  have HAT := hide hat
  have HB0 := hide hb0
  have HW := hide hw
  clear hat hb0 hw
  cases hok : diskOk fs with
  | false =>
    have R := hide (show actL fs ⟨kd, nm, tx, tt⟩ = none by unfold actL; rw [if_neg (by rw [hok]; simp)])
    have HOK := hide hok
    clear hok
    go_enter Try.func9, Try.ntmps9
    go_wp2_with fail
    refine (implDiskOk_any oa n cap fs _ (HAT.out.below HB0.out) HW.out).mono ?_
    rw [HOK.out]
    rintro e w2 ⟨rfl, hb2⟩
    have k1 := hb2.cell (p := ⟨w.heap.size + 1 + 1, 0, none⟩) (by simp)
    have q1 := hb2.frozen (p := ⟨w.heap.size + 1 + 1, 0, none⟩) (by simp)
    go_wp2_with fail
    refine bodyPost_ret (v := .tuple #[.agg #[.slice none 0 0], .bool false]) (by simp [results, Try.results9, go_sem, k1, q1]) rfl (DiskRes.no R.out ?_)
    exact (HB0.out.trans (hb2.mono (by simp; omega))).setCell (by simp; omega) _
  | true =>
    have R := hide (show actL fs ⟨kd, nm, tx, tt⟩ = doL fs ⟨kd, nm, tx, tt⟩ by unfold actL; rw [if_pos hok])
    have HOK := hide hok
    clear hok
    go_enter Try.func9, Try.ntmps9
    go_wp2_with fail
    refine (implDiskOk_any oa n cap fs _ (HAT.out.below HB0.out) HW.out).mono ?_
    rw [HOK.out]
    rintro e w2 ⟨rfl, hb2⟩
    have k0 : w2.cell? ⟨w.heap.size, 0, none⟩ = some (.slice oa n cap) := row_cell hb2 (by simp; omega) (heap3_0 _ _ _ _) 0
    have s2 : w.heap.size + 3 ≤ w2.heap.size := by have := hb2.size; simp at this; omega
    have B2 := hide (HB0.out.trans (hb2.mono (by simp; omega)))
    have HB2 := hide hb2
    clear hb2
    go_wp2_with fail
    refine (tableOf_any oa n cap fs _ (HAT.out.below B2.out) HOK.out).mono ?_
    rintro e w3 ⟨b, rfl, hT3, hb3⟩
    have hb23 := HB2.out.trans (hb3.mono HB2.out.size)
    have e0 : w3.cell? ⟨w.heap.size + 1, 0, none⟩ = some (.int .i64 kd) := row_cell hb23 (by simp) (heap3_1 _ _ _ _) 0
    have e1 : w3.cell? ⟨w.heap.size + 1, 1, none⟩ = some (.string ⟨nm.toArray⟩) := row_cell hb23 (by simp) (heap3_1 _ _ _ _) 1
    have e2 : w3.cell? ⟨w.heap.size + 1, 2, none⟩ = some (.string ⟨tx.toArray⟩) := row_cell hb23 (by simp) (heap3_1 _ _ _ _) 2
    have e3 : w3.cell? ⟨w.heap.size + 1, 3, none⟩ = some (.string ⟨tt.toArray⟩) := row_cell hb23 (by simp) (heap3_1 _ _ _ _) 3
    have s3 := hb3.size
    have HT3 := hide hT3
    have HB23 := hide hb23
    have B3 := hide (B2.out.trans (hb3.mono B2.out.size))
    clear hT3 hb23 hb3
    cases hd : doL fs ⟨kd, nm, tx, tt⟩ with
    | none =>
      have RD := hide (R.out.trans hd)
      have hDo := hDO.out fs HOK.out w3 w2.heap.size b s3 HT3.out
      rw [hd] at hDo
      have HDO := hide hDo
      clear hDo hd
      go_wp2_with (go_at_call 21; refine HDO.out.mono ?_; rintro e w4 ⟨rfl, hT4, hb4⟩; have r0 : w4.cell? ⟨w.heap.size + 1 + 1, 0, none⟩ = some (.slice none 0 0) := (hb4.cell (by simp; omega)).trans (row_cell HB23.out (by simp) (heap3_2 _ _ _ _) 0); have r1 : w4.frozen? ⟨w.heap.size + 1 + 1, 0, none⟩ = false := (hb4.frozen (by simp; omega)).trans (row_free HB23.out (by simp) (heap3_2 _ _ _ _) 0))
      refine bodyPost_ret (v := .tuple #[.agg #[.slice none 0 0], .bool false]) (by simp [results, Try.results9, go_sem, r0, r1]) rfl (DiskRes.no RD.out ?_)
      exact (B3.out.trans (hb4.mono (by omega))).setCell (by simp; omega) _
    | some gs =>
      have RD := hide (R.out.trans hd)
      have GOK := hide (doL_ok hd)
      have hDo := hDO.out fs HOK.out w3 w2.heap.size b s3 HT3.out
      rw [hd] at hDo
      have HDO := hide hDo
      clear hDo hd
      go_wp2_with (go_at_call 21; refine HDO.out.mono ?_; rintro e w4 ⟨rfl, hT4, hb4⟩)
      have hT4' : TabOk w4 w2.heap.size b gs := hT4
      refine (tabDisk_any gs GOK.out _ w2.heap.size b hT4').mono ?_
      rintro e w5 ⟨v, rfl, ho5, hb5⟩
      have hB4 : Below w.heap.size w w4 := B3.out.trans (hb4.mono (by omega))
      have hs4 : w.heap.size + 3 ≤ w4.heap.size := by have := hb4.size; omega
      have r0 : w5.cell? ⟨w.heap.size + 1 + 1, 0, none⟩ = some (.slice none 0 0) := (hb5.cell (by simp; omega)).trans ((hb4.cell (by simp; omega)).trans (row_cell HB23.out (by simp) (heap3_2 _ _ _ _) 0))
      have r1 : w5.frozen? ⟨w.heap.size + 1 + 1, 0, none⟩ = false := (hb5.frozen (by simp; omega)).trans ((hb4.frozen (by simp; omega)).trans (row_free HB23.out (by simp) (heap3_2 _ _ _ _) 0))
      obtain ⟨ov, cv, rfl⟩ := own_form ho5
      go_wp2_with fail
      refine bodyPost_ret (v := .tuple #[.agg #[.slice ov gs.length cv], .bool true]) (by simp [results, Try.results9, go_sem, r0, r1]) rfl (DiskRes.yes RD.out (own_base (own_setCell ho5 (by simp; omega) _) (by omega)) ?_)
      exact (hB4.trans (hb5.mono (by omega))).setCell (by simp; omega) _

end Go.Proofs.Ytdcdlfkbdeogeaa

namespace Go.Proofs.Ytdcdlfkbdeogeaa
open Go.RowKit P5 K
set_option linter.unusedVariables false
set_option linter.unusedSimpArgs false

theorem one_new (w : World) (Y : Obj) : (w.alloc Y).drew.heap[w.heap.size]? = some Y := heap_alloc_new w Y
theorem below_one (w : World) (Y : Obj) : Below w.heap.size w (w.alloc Y).drew := ((Below.refl w.heap.size w).alloc (Nat.le_refl _) Y).drew

/-- A row that grows file by file, beside what lay in W0. -/
structure Grow (w W0 : World) (d B : Nat) (wr : World) (v : Value) (xs : List FileV) : Prop where
  row : Row1 w w.heap.size d B wr v xs.length (xs.flatMap fcells)
  grow : W0.grownBy wr (some d)

theorem Grow.next {w W0 : World} {d B : Nat} {wr : World} {v : Value} {xs : List FileV} (h : Grow w W0 d B wr v xs) (hB : W0.heap.size ≤ B) {w1 w2 : World} (hb : Below wr.heap.size wr w1) {v' : Value} {f : FileV}
    (ho : w2.ownsRow B 49 3 v' (xs.length + 1) (xs.flatMap fcells ++ [.string ⟨f.name.toArray⟩, .string ⟨f.text.toArray⟩, .int .i64 f.kept])) (hg : w1.grownBy w2 v.ownBlock) :
    Grow w W0 d B (w2.setCell ⟨d, 0, none⟩ v') v' (xs ++ [f]) := by
  have e1 : (xs ++ [f]).length = xs.length + 1 := by simp
  have e2 : (xs ++ [f]).flatMap fcells = xs.flatMap fcells ++ [.string ⟨f.name.toArray⟩, .string ⟨f.text.toArray⟩, .int .i64 f.kept] := by simp [fcells]
  refine ⟨?_, ?_⟩
  · rw [e1, e2]; exact h.row.next hb ho hg
  · refine grown_on (grown_on (grown_on h.grow (grown_below (row := none) hb) (fun r e => by cases e)) hg (fun r e => ?_)) (grownBy_set _ _ _ _) (fun r e => by cases e; exact .inr rfl)
    have := (h.row.own.lt r e).1
    exact .inl (by omega)

theorem filter_take {p : FileV → Bool} {fs : List FileV} {j : Nat} {f : FileV} (hf : fs[j]? = some f) : (fs.take (j + 1)).filter p = (fs.take j).filter p ++ (if p f then [f] else []) := by
  rw [List.take_add_one, hf, List.filter_append]
  simp [List.filter_cons]

set_option maxRecDepth 100000 in
set_option maxHeartbeats 4000000 in
theorem l03Without_any (oa : Option Addr) (n cap : Nat) (fs : List FileV) (nm : List UInt8) (w : World) (hat : FilesAt w oa n cap fs) (hn20 : n ≤ 1048576) :
    Calls Try.prog 48 #[.agg #[.slice oa n cap], .string ⟨nm.toArray⟩] w fun e w' => DiskOne w (without fs nm) e w' := by
  obtain ⟨W0, hW0⟩ : ∃ W0, W0 = ((w.alloc (.cells #[.slice oa n cap] 26)).alloc (.cells #[.slice none 0 0] 26)).alloc (.cells #[.slice none 0 0] 26) := ⟨_, rfl⟩
  have hb0 : Below w.heap.size w W0 := by rw [hW0]; exact (((Below.refl w.heap.size w).alloc (Nat.le_refl _) _).alloc (by simp) _).alloc (by simp; omega) _
  have hs0 : W0.heap.size = w.heap.size + 3 := by rw [hW0]; simp
  have hz0 : W0.heap[w.heap.size]? = some (.cells #[.slice oa n cap] 26 (0, 0)) := by rw [hW0]; exact heap3_0 _ _ _ _
  have hz1 : W0.heap[w.heap.size + 1]? = some (.cells #[.slice none 0 0] 26 (0, 0)) := by rw [hW0]; exact heap3_1 _ _ _ _
  have hz2 : W0.heap[w.heap.size + 1 + 1]? = some (.cells #[.slice none 0 0] 26 (0, 0)) := by rw [hW0]; exact heap3_2 _ _ _ _
  have hn := hat.len
  have HN := hide hn
  have HAT := hide hat
  have HW0 := hide hW0
  have hG0 : Grow w W0 (w.heap.size + 1 + 1) (w.heap.size + 3) W0 (.slice none 0 0) [] :=
    ⟨⟨hb0, by omega, by omega, cell_of_row W0 _ 0 _ _ _ hz2, row_free (Below.refl _ W0) (Nat.lt_succ_self _) hz2 0, World.ownsRow_nil _ _ _ _⟩, World.grownBy.refl _ _⟩
  have HG0 := hide hG0
  have HZ0 := hide hz0
  have HZ1 := hide hz1
  clear hn hat hb0 hG0 hz0 hz1 hz2 hW0
  go_enter Try.func48, Try.ntmps48
  go_wp2_with fail
  rw [← HW0.out]
  go_loopw [6] (fun i wr => ∃ (j : Nat) (ov : Option Addr) (cv : Nat), i = .int .i64 (j : Int) ∧ j ≤ n ∧ Grow w W0 (w.heap.size + 1 + 1) (w.heap.size + 3) wr (.slice ov (without (fs.take j) nm).length cv) (without (fs.take j) nm)) (fun i _ => n - (intOf i).toNat)
  case atStart => exact ⟨0, none, 0, rfl, Nat.zero_le _, by simpa [without] using HG0.out⟩
  case round =>
    obtain ⟨j, ov, cv, rfl, hj, hG⟩ := hrel
    have HG := hide hG
    clear hG HG0
    have c0 : wr.cell? ⟨w.heap.size, 0, none⟩ = some (.slice oa n cap) := HG.out.grow.cell (cell_of_row W0 _ 0 _ _ _ HZ0.out) (fun e => by have := Option.some.inj e; simp at this; omega)
    obtain ⟨m, hm⟩ : ∃ m, (without (fs.take j) nm).length = m := ⟨_, rfl⟩
    have hml : m ≤ j := by
      rw [← hm]; unfold without
      exact Nat.le_trans (List.length_filter_le _ _) (by rw [List.length_take]; omega)
    rw [hm] at HG
    have HM := hide hm
    clear hm
    by_cases hlt : j < n
    · have j0 : (j : Int) < (n : Int) := by omega
      obtain ⟨f, b, q, hf, hidx, hb, e0, e1, e2⟩ := (HAT.out.below HG.out.row.bel).get Try.underlying24 infoIF j hlt
      have d1 := HG.out.row.cell
      have d2 := HG.out.row.free
      have d3 : w.heap.size + 1 + 1 < wr.heap.size := by have := HG.out.row.big; omega
      have hst := hide (filter_take (p := fun g => g.name != nm) hf)
      clear hf
      by_cases hne : f.name = nm
      · have e : without (fs.take (j + 1)) nm = without (fs.take j) nm := by
          unfold without; rw [hst.out]; simp [hne]
        have E := hide e
        clear e
        have g1 : (f.name != nm) = false := by simp [hne]
        have g2 : (f.name == nm) = true := by simp [hne]
        clear hne
        go_wp2_with fail
        go_roundw
        case rel => exact ⟨j + 1, ov, cv, by go_num, by omega, by rw [E.out, HM.out]; exact HG.out⟩
        case measure => simp [intOf]; omega
      · have e : without (fs.take (j + 1)) nm = without (fs.take j) nm ++ [f] := by
          unfold without; rw [hst.out]; simp [hne]
        have E := hide e
        clear e
        have g1 : (f.name != nm) = true := by simp [hne]
        have g2 : (f.name == nm) = false := by simp [hne]
        clear hne
        go_upto_region 6 with fail
        go_region_law (refine step_push3 (by rfl) _ _ 24 (by rfl) Try.underlying24 infoIFz (by rfl) (cs := #[.string ⟨f.name.toArray⟩, .string ⟨f.text.toArray⟩, .int .i64 f.kept]) (by rfl) (by exact own_below HG.out.row.own (below_one _ _)) (by rfl) (by rfl) (by exact one_new _ _) (by simp [Value.oneCell']) (by have := HG.out.row.big; simp; omega) (by rw [HM.out]; unfold maxLen; omega) (by rw [HM.out]; omega) ?_; intro v' w3 ho3 hg3; obtain ⟨ov', cv', rfl⟩ := own_form ho3; obtain ⟨d4, f4⟩ := HG.out.row.mid (below_one _ _) hg3)
        all_goals
          have hG' := HG.out.next (by omega) (below_one _ _) (f := f) ho3 hg3
          clear ho3 hg3 d4 f4
          go_wp2_with fail
          go_roundw
          case rel => exact ⟨j + 1, ov', cv', by go_num, by omega, by rw [E.out, List.length_append]; exact hG'⟩
          case measure => simp [intOf]; omega
    · obtain rfl : j = n := by omega
      have hall := hide (show fs.take j = fs by rw [← HN.out]; exact List.take_length)
      have b1 : wr.heap[w.heap.size + 1]? = some (.cells #[.slice none 0 0] 26 (0, 0)) := (HG.out.grow.block _ (by omega) (fun e => by have := Option.some.inj e; omega)).trans HZ1.out
      have k0 := cell_of_row wr _ 0 _ _ _ b1
      have q0 := row_free (Below.refl _ wr) (Nat.lt_succ_self _) b1 0
      have d1 := HG.out.row.cell
      go_wp2_with fail
      refine bodyPost_ret (v := .agg #[.slice ov m cv]) (by simp [results, Try.results48, go_sem, k0, q0]) rfl ⟨.slice ov m cv, rfl, ?_, HG.out.row.bel.setCell (by simp) _⟩
      have h1 := own_setCell HG.out.row.own (p := ⟨w.heap.size + 1, 0, none⟩) (by simp) (.slice ov m cv)
      rw [hall.out] at h1
      exact own_base h1 (by omega)

end Go.Proofs.Ytdcdlfkbdeogeaa
