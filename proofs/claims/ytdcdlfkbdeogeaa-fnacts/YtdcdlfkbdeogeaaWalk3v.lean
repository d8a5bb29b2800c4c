/-
  Walks of chapter 3: a file put in its place, of the specification.
-/
import Derived.Test.YtdcdlfkbdeogeaaPack20
import Derived.Deep.QuietTactic
import Derived.BigQuiet
namespace Go.Proofs.Ytdcdlfkbdeogeaa
open Go.RowKit P5 K
set_option linter.unusedVariables false
set_option linter.unusedSimpArgs false

theorem heap4_0 (w : World) (X Y Z U : Obj) : ((((w.alloc X).alloc Y).alloc Z).alloc U).heap[w.heap.size]? = some X := by
  rw [Below.heap_alloc _ _ _ (by simp; omega)]; exact heap3_0 w X Y Z
theorem heap4_1 (w : World) (X Y Z U : Obj) : ((((w.alloc X).alloc Y).alloc Z).alloc U).heap[w.heap.size + 1]? = some Y := by
  rw [Below.heap_alloc _ _ _ (by simp)]; exact heap3_1 w X Y Z
theorem heap4_2 (w : World) (X Y Z U : Obj) : ((((w.alloc X).alloc Y).alloc Z).alloc U).heap[w.heap.size + 1 + 1]? = some Z := by
  rw [Below.heap_alloc _ _ _ (by simp)]; exact heap3_2 w X Y Z
theorem heap4_3 (w : World) (X Y Z U : Obj) : ((((w.alloc X).alloc Y).alloc Z).alloc U).heap[w.heap.size + 1 + 1 + 1]? = some U := by
  have := heap_alloc_new (((w.alloc X).alloc Y).alloc Z) U
  rwa [World.size_alloc, World.size_alloc, World.size_alloc] at this

theorem Grow.drewN {w W0 : World} {d B : Nat} {wr : World} {v : Value} {xs : List FileV} (h : Grow w W0 d B wr v xs) (q : Nat) : Grow w W0 d B (wr.drewN q) v xs :=
  ⟨⟨below_drewN h.row.bel q, h.row.big, h.row.lt, h.row.cell, h.row.free, own_below h.row.own (below_drewN (Below.refl _ _) q)⟩, ⟨h.grow.os, h.grow.tape, h.grow.output, h.grow.size, h.grow.block⟩⟩

/-- 'out = append(out, x)' of one struct of three cells, where the order is the text's. -/
theorem wpList_push3 {P : Program} {W0 : World} {ops : Array Oper} {rest : List Oper} {o : Oper} {a : Act} {Q : Exit → Act → World → Prop} (hgd : o.guard = none) (s x : Operand) (t : TypeId)
    (ho : o.op = .call { callee := .builtin .append, args := #[s, x], argTypes := #[t, t] })
    {base : Nat} {e : TypeId} {z : Value} {bytes : Nat} (ht : P.underlying t = some (.slice e)) (hi : (P.info? e).map (fun i => (i.zero, i.size, i.bytes)) = some (some z, 3, bytes)) (hzs : z.cells.size = 3)
    {v : Value} {n : Nat} {xs : List Value} (hs : a.eval s = v) (hown : W0.ownsRow base e 3 v n xs)
    {cs : Array Value} (hm : cs.toList.length = 3) (hx : a.eval x = .slice (some ⟨W0.heap.size, 0, none⟩) 1 1) (hu : ∀ u ∈ cs.toList, u.oneCell' = true)
    (hbase : base ≤ W0.heap.size) (h63 : n + 1 ≤ maxLen) (hbytes : (n + 1) * bytes ≤ 140737488355328)
    (h : ∀ v' w', w'.ownsRow base e 3 v' (n + 1) (xs ++ cs.toList) → (W0.alloc (.cells cs e)).grownBy w' v.ownBlock → wpList P ops Q rest (a.put o.dst v') w') : wpList P ops Q (o :: rest) a (W0.alloc (.cells cs e)) := by
  obtain ⟨i, hi, hz, h1, h2⟩ := info_parts hi
  refine wpList_append_own _ hgd s x t ho base e i z 3 bytes ht hi hz h1 h2 hzs (by decide) v n xs hs (hown.alloc _) ⟨W0.heap.size, 0, none⟩ 1 1 cs.toList hx (by rw [hm]) (World.news_of_block (heap_alloc_new W0 _)) hu h63 hbytes (by simp; omega) ?_
  intro v' w' hown' hgrow _
  exact h v' w' hown' hgrow

theorem ltB_less (x y : List UInt8) (b : Bool) (h : ltB x y = b) : Op.bytesLess x y = b := by rw [bytesLess_eq]; exact h

set_option maxRecDepth 100000 in
set_option maxHeartbeats 8000000 in
theorem l03Put_any (oa : Option Addr) (n cap : Nat) (fs : List FileV) (g : FileV) (w : World) (hat : FilesAt w oa n cap fs) (hn20 : n ≤ 1048576) :
    Calls Try.prog 30 #[.agg #[.slice oa n cap], fval g] w fun e w' => DiskOne w (put fs g) e w' := by
  unfold fval
  obtain ⟨W0, hW0⟩ : ∃ W0, W0 = (((w.alloc (.cells #[.slice oa n cap] 26)).alloc (.cells #[.string ⟨g.name.toArray⟩, .string ⟨g.text.toArray⟩, .int .i64 g.kept] 49)).alloc (.cells #[.slice none 0 0] 26)).alloc (.cells #[.slice none 0 0] 26) := ⟨_, rfl⟩
  have hb0 : Below w.heap.size w W0 := by rw [hW0]; exact ((((Below.refl w.heap.size w).alloc (Nat.le_refl _) _).alloc (by simp) _).alloc (by simp; omega) _).alloc (by simp; omega) _
  have hs0 : W0.heap.size = w.heap.size + 4 := by rw [hW0]; simp
  have hz0 : W0.heap[w.heap.size]? = some (.cells #[.slice oa n cap] 26 (0, 0)) := by rw [hW0]; exact heap4_0 _ _ _ _ _
  have hzf : W0.heap[w.heap.size + 1]? = some (.cells #[.string ⟨g.name.toArray⟩, .string ⟨g.text.toArray⟩, .int .i64 g.kept] 49 (0, 0)) := by rw [hW0]; exact heap4_1 _ _ _ _ _
  have hz1 : W0.heap[w.heap.size + 1 + 1]? = some (.cells #[.slice none 0 0] 26 (0, 0)) := by rw [hW0]; exact heap4_2 _ _ _ _ _
  have hz2 : W0.heap[w.heap.size + 1 + 1 + 1]? = some (.cells #[.slice none 0 0] 26 (0, 0)) := by rw [hW0]; exact heap4_3 _ _ _ _ _
  have hn := hat.len
  have HN := hide hn
  have HAT := hide hat
  have HW0 := hide hW0
  have hG0 : Grow w W0 (w.heap.size + 1 + 1 + 1) (w.heap.size + 4) W0 (.slice none 0 0) [] :=
    ⟨⟨hb0, by omega, by omega, cell_of_row W0 _ 0 _ _ _ hz2, row_free (Below.refl _ W0) (Nat.lt_succ_self _) hz2 0, World.ownsRow_nil _ _ _ _⟩, World.grownBy.refl _ _⟩
  have HG0 := hide hG0
  have HZ0 := hide hz0
  have HZ1 := hide hz1
  have HZF := hide hzf
  clear hn hat hb0 hG0 hz0 hz1 hz2 hzf hW0
  go_enter Try.func30, Try.ntmps30
  go_wp2_with fail
  rw [← HW0.out]
  go_loopw [6] (fun i wr => ∃ (j : Nat) (ov : Option Addr) (cv : Nat), i = .int .i64 (j : Int) ∧ j ≤ n ∧ Grow w W0 (w.heap.size + 1 + 1 + 1) (w.heap.size + 4) wr (.slice ov ((fs.take j).filter fun f => ltB f.name g.name).length cv) ((fs.take j).filter fun f => ltB f.name g.name)) (fun i _ => n - (intOf i).toNat)
  case atStart => exact ⟨0, none, 0, rfl, Nat.zero_le _, by simpa using HG0.out⟩
  case round =>
    obtain ⟨j, ov, cv, rfl, hj, hG⟩ := hrel
    have HG := hide hG
    clear hG HG0
    have c0 : wr.cell? ⟨w.heap.size, 0, none⟩ = some (.slice oa n cap) := HG.out.grow.cell (cell_of_row W0 _ 0 _ _ _ HZ0.out) (fun e => by have := Option.some.inj e; simp at this; omega)
    have g0 : wr.cell? ⟨w.heap.size + 1, 0, none⟩ = some (.string ⟨g.name.toArray⟩) := HG.out.grow.cell (cell_of_row W0 _ 0 _ _ _ HZF.out) (fun e => by have := Option.some.inj e; simp at this)
    have g1 : wr.cell? ⟨w.heap.size + 1, 1, none⟩ = some (.string ⟨g.text.toArray⟩) := HG.out.grow.cell (cell_of_row W0 _ 1 _ _ _ HZF.out) (fun e => by have := Option.some.inj e; simp at this)
    have g2 : wr.cell? ⟨w.heap.size + 1, 2, none⟩ = some (.int .i64 g.kept) := HG.out.grow.cell (cell_of_row W0 _ 2 _ _ _ HZF.out) (fun e => by have := Option.some.inj e; simp at this)
    obtain ⟨m, hm⟩ : ∃ m, ((fs.take j).filter fun f => ltB f.name g.name).length = m := ⟨_, rfl⟩
    have hml : m ≤ j := by
      rw [← hm]
      exact Nat.le_trans (List.length_filter_le _ _) (by rw [List.length_take]; omega)
    rw [hm] at HG
    have HM := hide hm
    clear hm
    have d1 := HG.out.row.cell
    have d2 := HG.out.row.free
    have d3 : w.heap.size + 1 + 1 + 1 < wr.heap.size := by have := HG.out.row.big; omega
    by_cases hlt : j < n
    · have j0 : (j : Int) < (n : Int) := by omega
      obtain ⟨f, b, q, hf, hidx, hb, e0, e1, e2⟩ := (HAT.out.below HG.out.row.bel).get Try.underlying24 infoIF j hlt
      have hst := hide (filter_take (p := fun f => ltB f.name g.name) hf)
      clear hf
      cases hl : ltB f.name g.name with
      | false =>
        have e : ((fs.take (j + 1)).filter fun f => ltB f.name g.name) = (fs.take j).filter fun f => ltB f.name g.name := by rw [hst.out]; simp [hl]
        have E := hide e
        clear e
        have hlb := ltB_less _ _ _ hl
        clear hl
        go_wp2_with fail
        go_quiet (fail)
        go_wp2_with fail
        go_roundw
        case rel => exact ⟨j + 1, ov, cv, by go_num, by omega, by rw [E.out, HM.out]; exact HG.out.drewN nq⟩
        case measure => simp [intOf]; omega
      | true =>
        have e : ((fs.take (j + 1)).filter fun f => ltB f.name g.name) = ((fs.take j).filter fun f => ltB f.name g.name) ++ [f] := by rw [hst.out]; simp [hl]
        have E := hide e
        clear e
        have hlb := ltB_less _ _ _ hl
        clear hl
        go_wp2_with fail
        go_quiet (fail)
        obtain ⟨wq, hwq⟩ : ∃ wq, wr.drewN nq = wq := ⟨_, rfl⟩
        have HG2 := hide (show Grow w W0 (w.heap.size + 1 + 1 + 1) (w.heap.size + 4) wq (.slice ov m cv) ((fs.take j).filter fun f => ltB f.name g.name) by rw [← hwq]; exact HG.out.drewN nq)
        have c0' : wq.cell? ⟨w.heap.size, 0, none⟩ = some (.slice oa n cap) := by rw [← hwq]; exact c0
        have e0' : wq.cell? ⟨b, q, none⟩ = some (.string ⟨f.name.toArray⟩) := by rw [← hwq]; exact e0
        have e1' : wq.cell? ⟨b, q + 1, none⟩ = some (.string ⟨f.text.toArray⟩) := by rw [← hwq]; exact e1
        have e2' : wq.cell? ⟨b, q + 2, none⟩ = some (.int .i64 f.kept) := by rw [← hwq]; exact e2
        have hbq : b < wq.heap.size := by rw [← hwq]; exact hb
        have d3' : w.heap.size + 1 + 1 + 1 < wq.heap.size := by rw [← hwq]; exact d3
        have d1' := HG2.out.row.cell
        have d2' := HG2.out.row.free
        rw [hwq]
        clear hwq c0 e0 e1 e2 hb d1 d2 d3 g0 g1 g2 HG
        go_upto_region 6 with fail
        go_region_law (refine step_push3 (by rfl) _ _ 24 (by rfl) Try.underlying24 infoIFz (by rfl) (cs := #[.string ⟨f.name.toArray⟩, .string ⟨f.text.toArray⟩, .int .i64 f.kept]) (by rfl) (by exact own_below HG2.out.row.own (below_one _ _)) (by rfl) (by rfl) (by exact one_new _ _) (by simp [Value.oneCell']) (by have := HG2.out.row.big; simp; omega) (by rw [HM.out]; unfold maxLen; omega) (by rw [HM.out]; omega) ?_; intro v' w3 ho3 hg3; obtain ⟨ov', cv', rfl⟩ := own_form ho3; obtain ⟨d4, f4⟩ := HG2.out.row.mid (below_one _ _) hg3)
        all_goals
          have hG' := HG2.out.next (by omega) (below_one _ _) (f := f) ho3 hg3
          clear ho3 hg3 d4 f4
          go_wp2_with fail
          go_roundw
          case rel => exact ⟨j + 1, ov', cv', by go_num, by omega, by rw [E.out, List.length_append]; exact hG'⟩
          case measure => simp [intOf]; omega
    · obtain rfl : j = n := by omega
      have hall := hide (show fs.take j = fs by rw [← HN.out]; exact List.take_length)
      have hmj : ((fs.filter fun f => ltB f.name g.name)).length = m := by rw [← hall.out]; exact HM.out
      rw [hall.out] at HG
      have HM2 := hide hmj
      clear hmj
      go_wp2_with (at_builtin; refine wpList_push3 rfl _ _ 24 rfl Try.underlying24 infoIFz rfl rfl HG.out.row.own (cs := #[.string ⟨g.name.toArray⟩, .string ⟨g.text.toArray⟩, .int .i64 g.kept]) rfl rfl (by simp [Value.oneCell']) (by have := HG.out.row.big; omega) (by rw [HM2.out]; unfold maxLen; omega) (by rw [HM2.out]; omega) ?_; intro v' w3 ho3 hg3; obtain ⟨ov', cv', rfl⟩ := own_form ho3; have hba := (Below.refl wr.heap.size wr).alloc (Nat.le_refl _) (.cells #[.string ⟨g.name.toArray⟩, .string ⟨g.text.toArray⟩, .int .i64 g.kept] 49); obtain ⟨d4, f4⟩ := HG.out.row.mid hba hg3)
      have hG1 := HG.out.next (by omega) hba (f := g) ho3 hg3
      rw [HM2.out] at hG1 ⊢
      have HG1 := hide hG1
      clear ho3 hg3 d4 f4 hG1 hba HG c0 g0 g1 g2 d1 d2 d3
      obtain ⟨A, hA⟩ : ∃ A, (fs.filter fun f => ltB f.name g.name) ++ [g] = A := ⟨_, rfl⟩
      have hAl : A.length = m + 1 := by rw [← hA, List.length_append, HM2.out]; rfl
      rw [hA, ← hAl] at HG1
      rw [← hAl]
      have HA := hide hA
      have HAL := hide hAl
      clear hA hAl
      obtain ⟨w5, hw5⟩ : ∃ w5, w5 = w3.setCell ⟨w.heap.size + 1 + 1 + 1, 0, none⟩ (.slice ov' A.length cv') := ⟨_, rfl⟩
      rw [← hw5] at HG1 ⊢
      clear hw5
      go_loopw [7] (fun i wr => ∃ (k : Nat) (ov : Option Addr) (cv : Nat), i = .int .i64 (k : Int) ∧ k ≤ j ∧ Grow w W0 (w.heap.size + 1 + 1 + 1) (w.heap.size + 4) wr (.slice ov (A ++ (fs.take k).filter fun f => ltB g.name f.name).length cv) (A ++ (fs.take k).filter fun f => ltB g.name f.name)) (fun i _ => j - (intOf i).toNat)
      case atStart => exact ⟨0, ov', cv', rfl, Nat.zero_le _, by simpa using HG1.out⟩
      case round =>
        obtain ⟨k, ow, cw, rfl, hk, hG⟩ := hrel
        have HG := hide hG
        clear hG HG1
        have c0 : wr.cell? ⟨w.heap.size, 0, none⟩ = some (.slice oa j cap) := HG.out.grow.cell (cell_of_row W0 _ 0 _ _ _ HZ0.out) (fun e => by have := Option.some.inj e; simp at this; omega)
        have g0 : wr.cell? ⟨w.heap.size + 1, 0, none⟩ = some (.string ⟨g.name.toArray⟩) := HG.out.grow.cell (cell_of_row W0 _ 0 _ _ _ HZF.out) (fun e => by have := Option.some.inj e; simp at this)
        obtain ⟨l, hl⟩ : ∃ l, (A ++ (fs.take k).filter fun f => ltB g.name f.name).length = l := ⟨_, rfl⟩
        have hll : l ≤ m + 1 + k := by
          rw [← hl, List.length_append, HAL.out]
          have := List.length_filter_le (fun f => ltB g.name f.name) (fs.take k)
          rw [List.length_take] at this
          omega
        rw [hl] at HG
        have HL := hide hl
        clear hl
        have d1 := HG.out.row.cell
        have d2 := HG.out.row.free
        have d3 : w.heap.size + 1 + 1 + 1 < wr.heap.size := by have := HG.out.row.big; omega
        by_cases hlt2 : k < j
        · have j0 : (k : Int) < (j : Int) := by omega
          obtain ⟨f, b, q, hf, hidx, hb, e0, e1, e2⟩ := (HAT.out.below HG.out.row.bel).get Try.underlying24 infoIF k hlt2
          have hst := hide (filter_take (p := fun f => ltB g.name f.name) hf)
          clear hf
          rcases name_tri f.name g.name with hx | hx | hx
          · have hlx : ltB g.name f.name = false := by rw [Bool.eq_false_iff]; intro k; exact name_asymm hx ((ltB_iff _ _).1 k)
            have e : (A ++ (fs.take (k + 1)).filter fun f => ltB g.name f.name) = A ++ (fs.take k).filter fun f => ltB g.name f.name := by rw [hst.out]; simp [hlx]
            have E := hide e
            have hlb := ltB_less f.name g.name true ((ltB_iff _ _).2 hx)
            clear e hlx hx
            go_wp2_with fail
            go_quiet (fail)
            go_wp2_with fail
            go_roundw
            case rel => exact ⟨k + 1, ow, cw, by go_num, by omega, by rw [E.out, HL.out]; exact HG.out.drewN nq⟩
            case measure => simp [intOf]; omega
          · have hlx : ltB g.name f.name = false := by rw [Bool.eq_false_iff]; intro k; exact name_irr g.name (by have h := (ltB_iff _ _).1 k; rw [hx] at h; exact h)
            have e : (A ++ (fs.take (k + 1)).filter fun f => ltB g.name f.name) = A ++ (fs.take k).filter fun f => ltB g.name f.name := by rw [hst.out]; simp [hlx]
            have E := hide e
            have hlb := ltB_less f.name g.name false (by rw [hx] at hlx ⊢; exact hlx)
            have hle : (f.name == g.name) = true := by simp [hx]
            clear e hlx hx
            go_wp2_with fail
            go_quiet (fail)
            go_wp2_with fail
            go_roundw
            case rel => exact ⟨k + 1, ow, cw, by go_num, by omega, by rw [E.out, HL.out]; exact HG.out.drewN nq⟩
            case measure => simp [intOf]; omega
          · have hlx : ltB g.name f.name = true := (ltB_iff _ _).2 hx
            have hle : (f.name == g.name) = false := by rw [beq_eq_false_iff_ne]; exact fun h => name_ne hx h.symm
            have hlb := ltB_less f.name g.name false (by rw [Bool.eq_false_iff]; intro k; exact name_asymm hx ((ltB_iff _ _).1 k))
            clear hx
            have e : (A ++ (fs.take (k + 1)).filter fun f => ltB g.name f.name) = (A ++ (fs.take k).filter fun f => ltB g.name f.name) ++ [f] := by rw [hst.out]; simp [hlx]
            have E := hide e
            clear e hlx
            go_wp2_with fail
            go_quiet (fail)
            obtain ⟨wq, hwq⟩ : ∃ wq, wr.drewN nq = wq := ⟨_, rfl⟩
            have HG2 := hide (show Grow w W0 (w.heap.size + 1 + 1 + 1) (w.heap.size + 4) wq (.slice ow l cw) (A ++ (fs.take k).filter fun f => ltB g.name f.name) by rw [← hwq]; exact HG.out.drewN nq)
            have c0' : wq.cell? ⟨w.heap.size, 0, none⟩ = some (.slice oa j cap) := by rw [← hwq]; exact c0
            have e0' : wq.cell? ⟨b, q, none⟩ = some (.string ⟨f.name.toArray⟩) := by rw [← hwq]; exact e0
            have e1' : wq.cell? ⟨b, q + 1, none⟩ = some (.string ⟨f.text.toArray⟩) := by rw [← hwq]; exact e1
            have e2' : wq.cell? ⟨b, q + 2, none⟩ = some (.int .i64 f.kept) := by rw [← hwq]; exact e2
            have hbq : b < wq.heap.size := by rw [← hwq]; exact hb
            have d3' : w.heap.size + 1 + 1 + 1 < wq.heap.size := by rw [← hwq]; exact d3
            have d1' := HG2.out.row.cell
            have d2' := HG2.out.row.free
            rw [hwq]
            clear hwq c0 e0 e1 e2 hb d1 d2 d3 g0 HG
            go_upto_region 12 with fail
            go_region_law (refine step_push3 (by rfl) _ _ 24 (by rfl) Try.underlying24 infoIFz (by rfl) (cs := #[.string ⟨f.name.toArray⟩, .string ⟨f.text.toArray⟩, .int .i64 f.kept]) (by rfl) (by exact own_below HG2.out.row.own (below_one _ _)) (by rfl) (by rfl) (by exact one_new _ _) (by simp [Value.oneCell']) (by have := HG2.out.row.big; simp; omega) (by rw [HL.out]; unfold maxLen; omega) (by rw [HL.out]; omega) ?_; intro v' w3 ho3 hg3; obtain ⟨ox, cx, rfl⟩ := own_form ho3; obtain ⟨d4, f4⟩ := HG2.out.row.mid (below_one _ _) hg3)
            all_goals
              have hG' := HG2.out.next (by omega) (below_one _ _) (f := f) ho3 hg3
              clear ho3 hg3 d4 f4
              go_wp2_with fail
              go_roundw
              case rel => exact ⟨k + 1, ox, cx, by go_num, by omega, by rw [E.out]; have hh := hG'; simp only [List.length_append, List.length_cons, List.length_nil] at hh ⊢; exact hh⟩
              case measure => simp [intOf]; omega
        · obtain rfl : k = j := by omega
          have hput : (A ++ (fs.take k).filter fun f => ltB g.name f.name) = put fs g := by
            rw [hall.out, ← HA.out]; unfold put; simp
          have HP := hide hput
          clear hput
          have b1 : wr.heap[w.heap.size + 1 + 1]? = some (.cells #[.slice none 0 0] 26 (0, 0)) := (HG.out.grow.block _ (by omega) (fun e => by have := Option.some.inj e; omega)).trans HZ1.out
          have k0 := cell_of_row wr _ 0 _ _ _ b1
          have q0 := row_free (Below.refl _ wr) (Nat.lt_succ_self _) b1 0
          go_wp2_with fail
          refine bodyPost_ret (v := .agg #[.slice ow l cw]) (by simp [results, Try.results30, go_sem, k0, q0]) rfl ⟨.slice ow l cw, rfl, ?_, HG.out.row.bel.setCell (by simp; omega) _⟩
          have h1 := own_setCell HG.out.row.own (p := ⟨w.heap.size + 1 + 1, 0, none⟩) (by simp) (.slice ow l cw)
          rw [HP.out] at h1
          exact own_base h1 (by omega)

end Go.Proofs.Ytdcdlfkbdeogeaa
