/-
  A row that the call owns, appended to another one of its own; either may be nil or empty.
-/
import Derived.Test.YtijnejbfjpclhaaRowK
import Derived.Deep.AppendLies
import Derived.Deep.AppendSrc
namespace Go.Proofs.Ytijnejbfjpclhaa
open Go.RowKit K
set_option linter.unusedVariables false
set_option linter.unusedSimpArgs false

theorem run_append_nil8 {P : Program} {w : World} (t ty e : TypeId) (i : TypeInfo) (ht : P.underlying t = some (.slice e)) (hi : P.info? e = some i) (oa : Option Addr) (n cap : Nat) (hn : n ≤ cap) :
    (Builtin.append_ #[t, t] ty #[.slice oa n cap, .slice none 0 0]).run P w = .ok (.slice oa n cap) w := by
  have hfc : (Builtin.firstCells i.size 0 (.slice none 0 0)).run P w = .ok #[] w := by simp [Builtin.firstCells]
  cases oa with
  | none => simp [Builtin.append_, run_underlying ht, sizeOf, typeInfo, hi, Builtin.lenOf, hfc, storeCells, hn]
  | some a => simp [Builtin.append_, run_underlying ht, sizeOf, typeInfo, hi, Builtin.lenOf, hfc, storeCells, hn]

theorem run_append_row8 {P : Program} {w : World} {t ty e : TypeId} {k base base2 m n : Nat} (hk0 : 0 < k) {z : Value} {bytes : Nat} (ht : P.underlying t = some (.slice e)) (hi : (P.info? e).map (fun i => (i.zero, i.size, i.bytes)) = some (some z, k, bytes)) (hzs : z.cells.size = k)
    {v v2 : Value} {xs xs2 : List Value} (hown : w.ownsRow base e k v n xs) (hown2 : w.ownsRow base2 e k v2 m xs2) (hu : ∀ u ∈ xs2, u.oneCell' = true)
    (hbase : base ≤ w.heap.size) (h63 : n + m ≤ maxLen) (hbytes : (n + m) * bytes ≤ 140737488355328) :
    ∃ v' w', (Builtin.append_ #[t, t] ty #[v, v2]).run P w = .ok v' w' ∧ w'.ownsRow base e k v' (n + m) (xs ++ xs2) ∧ w.grownBy w' v.ownBlock := by
  obtain ⟨i, hi, hz, h1, h2⟩ := info_parts hi
  rcases hown2.2 with ⟨rfl, rfl⟩ | ⟨g, cap, cur, rfl, hg0, hgb, hmc, hcm, hcs, htk⟩
  · have hx2 : xs2 = [] := by have := hown2.1; simpa using this
    subst hx2
    obtain ⟨oa, cap, hv, hnc⟩ : ∃ (oa : Option Addr) (cap : Nat), v = .slice oa n cap ∧ n ≤ cap := by
      rcases hown.2 with ⟨h1, h2⟩ | ⟨g', cap, cur, h1, -, -, h5, -⟩
      · exact ⟨_, _, by rw [h1, h2], by omega⟩
      · exact ⟨_, _, h1, h5⟩
    subst hv
    refine ⟨_, w, run_append_nil8 t ty e i ht hi oa n cap hnc, ?_, World.grownBy.refl _ _⟩
    simpa using hown
  · obtain ⟨v', w', hr, r1, r2, -⟩ := run_append_own (P := P) w base t ty e i z k bytes ht hi hz h1 h2 hzs hk0 v n xs hown ⟨g, 0, none⟩ m cap xs2 hown2.1 (fun q u hq => World.news_of_block hgb q u (by
      rw [← htk] at hq
      rw [List.getElem?_take] at hq
      split at hq
      · exact hq
      · cases hq)) hu h63 hbytes hbase
    exact ⟨v', w', hr, r1, r2⟩

theorem wp_append_row8 {P : Program} {w : World} {o : Oper} {a : Act} {K : Act → World → Prop} {Q : Exit → Act → World → Prop} (s x : Operand) (t : TypeId)
    (ho : o.op = .call { callee := .builtin .append, args := #[s, x], argTypes := #[t, t] })
    {base base2 k m : Nat} (hk0 : 0 < k) {e : TypeId} {z : Value} {bytes : Nat} (ht : P.underlying t = some (.slice e)) (hi : (P.info? e).map (fun i => (i.zero, i.size, i.bytes)) = some (some z, k, bytes)) (hzs : z.cells.size = k)
    {v v2 : Value} {n : Nat} {xs xs2 : List Value} (hs : a.eval s = v) (hown : w.ownsRow base e k v n xs) (hx : a.eval x = v2) (hown2 : w.ownsRow base2 e k v2 m xs2) (hu : ∀ u ∈ xs2, u.oneCell' = true)
    (hbase : base ≤ w.heap.size) (h63 : n + m ≤ maxLen) (hbytes : (n + m) * bytes ≤ 140737488355328)
    (h : ∀ v' w', w'.ownsRow base e k v' (n + m) (xs ++ xs2) → w.grownBy w' v.ownBlock → K (a.put o.dst v') w') : o.wp P a w K Q := by
  obtain ⟨v', w', hr, r1, r2⟩ := run_append_row8 (ty := o.type) hk0 ht hi hzs hown hown2 hu hbase h63 hbytes
  unfold Oper.wp execOp
  simp only [ho, resolve, invoke, builtin, Sem.run_bind, Sem.run_pure, Result.andThen_ok, List.map_toArray, List.map_cons, List.map_nil, hs, hx, hr]
  exact h v' w' r1 r2

theorem wpList_append_row8 {P : Program} {w : World} {ops : Array Oper} {rest : List Oper} {o : Oper} {a : Act} {Q : Exit → Act → World → Prop} (hgd : o.guard = none) (s x : Operand) (t : TypeId)
    (ho : o.op = .call { callee := .builtin .append, args := #[s, x], argTypes := #[t, t] })
    {base base2 k m : Nat} (hk0 : 0 < k) {e : TypeId} {z : Value} {bytes : Nat} (ht : P.underlying t = some (.slice e)) (hi : (P.info? e).map (fun i => (i.zero, i.size, i.bytes)) = some (some z, k, bytes)) (hzs : z.cells.size = k)
    {v v2 : Value} {n : Nat} {xs xs2 : List Value} (hs : a.eval s = v) (hown : w.ownsRow base e k v n xs) (hx : a.eval x = v2) (hown2 : w.ownsRow base2 e k v2 m xs2) (hu : ∀ u ∈ xs2, u.oneCell' = true)
    (hbase : base ≤ w.heap.size) (h63 : n + m ≤ maxLen) (hbytes : (n + m) * bytes ≤ 140737488355328)
    (h : ∀ v' w', w'.ownsRow base e k v' (n + m) (xs ++ xs2) → w.grownBy w' v.ownBlock → wpList P ops Q rest (a.put o.dst v') w') : wpList P ops Q (o :: rest) a w :=
  wpList_plain hgd fun _ hK => wp_append_row8 s x t ho hk0 ht hi hzs hs hown hx hown2 hu hbase h63 hbytes fun v' w' h2 h3 => hK _ _ (h v' w' h2 h3)

/-- 'out = append(out, x, y ..)' of m structs of k cells, in a region that does not draw: they lie in a new block. -/
theorem wpList_pushM8 {P : Program} {W0 : World} {ops : Array Oper} {rest : List Oper} {o : Oper} {a : Act} {Q : Exit → Act → World → Prop} (hgd : o.guard = none) (s x : Operand) (t : TypeId)
    (ho : o.op = .call { callee := .builtin .append, args := #[s, x], argTypes := #[t, t] })
    {base k m : Nat} (hk0 : 0 < k) {e : TypeId} {z : Value} {bytes : Nat} (ht : P.underlying t = some (.slice e)) (hi : (P.info? e).map (fun i => (i.zero, i.size, i.bytes)) = some (some z, k, bytes)) (hzs : z.cells.size = k)
    {v : Value} {n : Nat} {xs : List Value} (hs : a.eval s = v) (hown : W0.ownsRow base e k v n xs)
    {cs : Array Value} (hx : a.eval x = .slice (some ⟨W0.heap.size, 0, none⟩) m m) (hm : cs.toList.length = m * k) (hu : ∀ u ∈ cs.toList, u.oneCell' = true)
    (hbase : base ≤ W0.heap.size) (h63 : n + m ≤ maxLen) (hbytes : (n + m) * bytes ≤ 140737488355328)
    (h : ∀ v' w', w'.ownsRow base e k v' (n + m) (xs ++ cs.toList) → W0.grownBy w' v.ownBlock → wpList P ops Q rest (a.put o.dst v') w') : wpList P ops Q (o :: rest) a (W0.alloc (.cells cs e)) := by
  obtain ⟨i, hi, hz, h1, h2⟩ := info_parts hi
  refine wpList_append_own _ hgd s x t ho base e i z k bytes ht hi hz h1 h2 hzs hk0 v n xs hs (hown.alloc _) ⟨W0.heap.size, 0, none⟩ m m cs.toList hx hm (World.news_of_block (heap_alloc_new W0 _)) hu h63 hbytes (by simp; omega) ?_
  intro v' w' hown' hgrow _
  exact h v' w' hown' (grown_trans (World.grownBy_alloc _ _ _) hgrow)

end Go.Proofs.Ytijnejbfjpclhaa
