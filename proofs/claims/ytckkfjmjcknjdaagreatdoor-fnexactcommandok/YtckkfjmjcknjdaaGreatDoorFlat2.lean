/-
  Rows of files that a call makes: filled one by one; read as a slice.
-/
import Derived.Test.YtckkfjmjcknjdaaGreatDoorWalk3a
import Derived.Laws.OwnMore
namespace Go.Proofs.YtckkfjmjcknjdaaGreatDoor
open Go.RowKit P5 K
set_option linter.unusedVariables false

/-- The first j files lie in the row. -/
def Filled (fs : List FileV) (j : Nat) (xs : List Value) : Prop := ∀ (i : Nat) f, i < j → fs[i]? = some f → ∀ (c : Nat) u, (fcells f)[c]? = some u → xs[i * 3 + c]? = some u

theorem filled_zero (fs : List FileV) (xs : List Value) : Filled fs 0 xs := fun i f h => absurd h (Nat.not_lt_zero _)

def set3 (xs : List Value) (j : Nat) (f : FileV) : List Value := ((xs.set (j * 3) (.string ⟨f.name.toArray⟩)).set (j * 3 + 1) (.string ⟨f.text.toArray⟩)).set (j * 3 + 2) (.int .i64 f.kept)

theorem filled_step {fs : List FileV} {j : Nat} {xs : List Value} (h : Filled fs j xs) {f : FileV} (hf : fs[j]? = some f) (hl : j * 3 + 3 ≤ xs.length) : Filled fs (j + 1) (set3 xs j f) := by
  intro i g hi hg c u hu
  have hc : c < 3 := by
    have := (List.getElem?_eq_some_iff.1 hu).1
    simpa [fcells] using this
  by_cases e : i = j
  · subst e
    rw [hf] at hg
    cases hg
    unfold set3
    match c, hc with
    | 0, _ =>
      simp only [fcells, List.getElem?_cons_zero] at hu
      cases hu
      rw [List.getElem?_set_ne (by omega), List.getElem?_set_ne (by omega), Nat.add_zero, List.getElem?_set_self (by omega)]
    | 1, _ =>
      simp only [fcells, List.getElem?_cons_succ, List.getElem?_cons_zero] at hu
      cases hu
      rw [List.getElem?_set_ne (by omega), List.getElem?_set_self (by simp; omega)]
    | 2, _ =>
      simp only [fcells, List.getElem?_cons_succ, List.getElem?_cons_zero] at hu
      cases hu
      rw [List.getElem?_set_self (by simp; omega)]
  · unfold set3
    rw [List.getElem?_set_ne (by omega), List.getElem?_set_ne (by omega), List.getElem?_set_ne (by omega)]
    exact h i g (by omega) hg c u hu

theorem filled_end {fs : List FileV} {n : Nat} {xs : List Value} (h : Filled fs n xs) (hn : fs.length = n) (hl : xs.length = n * 3) : xs = fs.flatMap fcells := by
  apply List.ext_getElem?
  intro k
  by_cases hk : k < n * 3
  · have h1 : k / 3 < fs.length := by omega
    have e1 : k = k / 3 * 3 + k % 3 := by omega
    obtain ⟨f, hf⟩ : ∃ f, fs[k / 3]? = some f := ⟨_, List.getElem?_eq_getElem h1⟩
    have hfe : fs[k / 3] = f := (List.getElem?_eq_some_iff.1 hf).2
    obtain ⟨u, hu⟩ : ∃ u, (fcells f)[k % 3]? = some u := ⟨_, List.getElem?_eq_getElem (by rw [fcells_length]; omega)⟩
    have h2 := h (k / 3) f (by omega) hf (k % 3) u hu
    rw [← e1] at h2
    have h3 := flat_get fcells 3 fcells_length fs (k / 3) (k % 3) h1 (by omega)
    rw [← e1, hfe] at h3
    rw [h2, h3, hu]
  · rw [List.getElem?_eq_none (by omega), List.getElem?_eq_none (by rw [flat_length fcells 3 fcells_length]; omega)]

/-- A struct stored into a row that the call owns. -/
theorem run_store3 {P : Program} {w : World} {base : Nat} {e ty : TypeId} {g n cap : Nat} {xs : List Value} (h : w.ownsRow base e 3 (.slice (some ⟨g, 0, none⟩) n cap) n xs) (j : Nat) (hj : j < n) (hi : (P.info? ty).map (·.size) = some 3) (f : FileV) :
    ∃ w', (Instr.storeAt ty (.pointer (some ⟨g, j * 3, none⟩)) (fval f)).run P w = .ok () w' ∧ w'.ownsRow base e 3 (.slice (some ⟨g, 0, none⟩) n cap) n (set3 xs j f) ∧ w.grownBy w' (some g) := by
  have hth : w.there g (j * 3) 3 := fun c hc => by
    have h1 : j * 3 + c < n * 3 := by omega
    exact ⟨by rw [h.cellAt (j * 3 + c) h1, List.getElem?_eq_getElem (by rw [h.1]; exact h1)]; rfl, h.frozenAt _⟩
  refine ⟨_, run_storeAt_mid w g (j * 3) ty #[.string ⟨f.name.toArray⟩, .string ⟨f.text.toArray⟩, .int .i64 f.kept] hth hi (by simp [Value.oneCell']), ?_, ?_⟩
  · exact (((h.stored (j * 3) _).1.stored (j * 3 + 1) _).1.stored (j * 3 + 2) _).1
  · exact grown_trans (grown_trans (h.stored (j * 3) _).2 ((h.stored (j * 3) _).1.stored (j * 3 + 1) _).2) (((h.stored (j * 3) _).1.stored (j * 3 + 1) _).1.stored (j * 3 + 2) _).2

theorem own_three {w : World} {base : Nat} {e : TypeId} {g n cap : Nat} {xs : List Value} (h : w.ownsRow base e 3 (.slice (some ⟨g, 0, none⟩) n cap) n xs) (j : Nat) (hj : j < n) :
    (∃ u, w.cell? ⟨g, j * 3, none⟩ = some u) ∧ (∃ u, w.cell? ⟨g, j * 3 + 1, none⟩ = some u) ∧ (∃ u, w.cell? ⟨g, j * 3 + 2, none⟩ = some u) := by
  have hl := h.1
  exact ⟨⟨_, by rw [h.cellAt (j * 3) (by omega), List.getElem?_eq_getElem (by omega)]⟩, ⟨_, by rw [h.cellAt (j * 3 + 1) (by omega), List.getElem?_eq_getElem (by omega)]⟩, ⟨_, by rw [h.cellAt (j * 3 + 2) (by omega), List.getElem?_eq_getElem (by omega)]⟩⟩

theorem own_set3 {w : World} {base : Nat} {e : TypeId} {g n cap : Nat} {xs : List Value} (h : w.ownsRow base e 3 (.slice (some ⟨g, 0, none⟩) n cap) n xs) (j : Nat) (f : FileV) :
    (((w.setCell ⟨g, j * 3, none⟩ (.string ⟨f.name.toArray⟩)).setCell ⟨g, j * 3 + 1, none⟩ (.string ⟨f.text.toArray⟩)).setCell ⟨g, j * 3 + 2, none⟩ (.int .i64 f.kept)).ownsRow base e 3 (.slice (some ⟨g, 0, none⟩) n cap) n (set3 xs j f) ∧
      w.grownBy (((w.setCell ⟨g, j * 3, none⟩ (.string ⟨f.name.toArray⟩)).setCell ⟨g, j * 3 + 1, none⟩ (.string ⟨f.text.toArray⟩)).setCell ⟨g, j * 3 + 2, none⟩ (.int .i64 f.kept)) (some g) :=
  ⟨(((h.stored (j * 3) _).1.stored (j * 3 + 1) _).1.stored (j * 3 + 2) _).1,
   grown_trans (grown_trans (h.stored (j * 3) _).2 ((h.stored (j * 3) _).1.stored (j * 3 + 1) _).2) (((h.stored (j * 3) _).1.stored (j * 3 + 1) _).1.stored (j * 3 + 2) _).2⟩

/-- A row of files that the call owns, as a slice of files. -/
theorem filesAt_of_own {w : World} {base : Nat} {e : TypeId} {v : Value} {n : Nat} {fs : List FileV} (h : w.ownsRow base e 3 v n (fs.flatMap fcells)) :
    ∃ oa cap, v = .slice oa n cap ∧ FilesAt w oa n cap fs := by
  have hlen : fs.length = n := by
    have := h.1
    rw [flat_length fcells 3 fcells_length] at this
    omega
  rcases h.2 with ⟨rfl, rfl⟩ | ⟨g, cap, cur, rfl, hb, hg, hnc, hcm, hcs, htake⟩
  · have : fs = [] := List.eq_nil_of_length_eq_zero hlen
    subst this
    exact ⟨none, 0, rfl, ⟨rfl, Nat.le_refl _, by unfold maxLen; omega, fun i f hf => by simp at hf⟩⟩
  · refine ⟨some ⟨g, 0, none⟩, cap, rfl, ⟨hlen, hnc, hcm, fun i f hf => ⟨g, 0, rfl, fun j u hu => ?_⟩⟩⟩
    have hi : i < fs.length := (List.getElem?_eq_some_iff.1 hf).1
    have hfe : fs[i] = f := (List.getElem?_eq_some_iff.1 hf).2
    have hj : j < 3 := by simpa [fcells] using (List.getElem?_eq_some_iff.1 hu).1
    have h3 := flat_get fcells 3 fcells_length fs i j hi hj
    rw [hfe, hu] at h3
    rw [Nat.zero_add]
    rw [h.cellAt (i * 3 + j) (by omega), h3]

theorem own_setCell {w : World} {base : Nat} {e : TypeId} {size : Nat} {v : Value} {n : Nat} {xs : List Value} (h : w.ownsRow base e size v n xs) {p : Addr} (hp : p.block < base) (u : Value) : (w.setCell p u).ownsRow base e size v n xs := by
  obtain ⟨h1, h2⟩ := h
  refine ⟨h1, ?_⟩
  rcases h2 with h2 | ⟨g, cap, cur, hv, hg, hh, r⟩
  · exact Or.inl h2
  · exact Or.inr ⟨g, cap, cur, hv, hg, (Below.heap_setCell w p u g (by omega)).trans hh, r⟩

theorem own_base {w : World} {base base' : Nat} {e : TypeId} {size : Nat} {v : Value} {n : Nat} {xs : List Value} (h : w.ownsRow base e size v n xs) (hb : base' ≤ base) : w.ownsRow base' e size v n xs := by
  obtain ⟨h1, h2⟩ := h
  refine ⟨h1, ?_⟩
  rcases h2 with h2 | ⟨g, cap, cur, hv, hg, r⟩
  · exact Or.inl h2
  · exact Or.inr ⟨g, cap, cur, hv, by omega, r⟩

/-- 'out = append(out, x)' of one struct of three cells, at a step of a region that draws its order. -/
theorem step_push3 {P : Program} {w : World} {ops : Array Oper} {o : Oper} {a : Act} {K : Act → World → Prop} {Q : Exit → Act → World → Prop} {E : Prop} (hgd : o.guard = none) (s x : Operand) (t : TypeId)
    (ho : o.op = .call { callee := .builtin .append, args := #[s, x], argTypes := #[t, t] })
    {base : Nat} {e : TypeId} {z : Value} {bytes : Nat} (ht : P.underlying t = some (.slice e)) (hi : (P.info? e).map (fun i => (i.zero, i.size, i.bytes)) = some (some z, 3, bytes)) (hzs : z.cells.size = 3)
    {v : Value} {n : Nat} {xs : List Value} (hs : a.eval s = v) (hown : w.ownsRow base e 3 v n xs)
    {b c : Nat} {cs : Array Value} (hx : a.eval x = .slice (some ⟨b, 0, none⟩) 1 c) (hm : cs.toList.length = 3) (hb : w.heap[b]? = some (.cells cs e (0, 0))) (hu : ∀ u ∈ cs.toList, u.oneCell' = true)
    (hbase : base ≤ w.heap.size) (h63 : n + 1 ≤ maxLen) (hbytes : (n + 1) * bytes ≤ 140737488355328)
    (h : ∀ v' w', w'.ownsRow base e 3 v' (n + 1) (xs ++ cs.toList) → w.grownBy w' v.ownBlock → K (a.put o.dst v') w') :
    if Region.wanted o (yielded ops a.tmps) = true then Oper.wp P o a w K Q else E := by
  obtain ⟨i, hi, hz, h1, h2⟩ := info_parts hi
  have hw : Region.wanted o (yielded ops a.tmps) = true := by simp [Region.wanted, hgd]
  rw [if_pos hw]
  refine wp_append_own w s x t ho base e i z 3 bytes ht hi hz h1 h2 hzs (by decide) v n xs hs hown ⟨b, 0, none⟩ 1 c cs.toList hx (by rw [hm]) (World.news_of_block hb) hu h63 hbytes hbase ?_
  intro v' w' hown' hgrow _
  exact h v' w' hown' hgrow

theorem grow_cell {w w' : World} {row : Option Nat} (h : w.grownBy w' row) {p : Addr} {u : Value} (hc : w.cell? p = some u) (hr : ∀ k, row = some k → p.block < k) : w'.cell? p = some u :=
  h.cell hc (fun e => by have := hr _ e.symm; omega)

theorem grow_frozen {w w' : World} {row : Option Nat} (h : w.grownBy w' row) {p : Addr} {u : Value} (hc : w.cell? p = some u) (hr : ∀ k, row = some k → p.block < k) (hf : w.frozen? p = false) : w'.frozen? p = false := by
  rw [World.frozen?_of_block (w := w) (h.block p.block (cell_lt hc) (fun e => by have := hr _ e.symm; omega))]
  exact hf

end Go.Proofs.YtckkfjmjcknjdaaGreatDoor
