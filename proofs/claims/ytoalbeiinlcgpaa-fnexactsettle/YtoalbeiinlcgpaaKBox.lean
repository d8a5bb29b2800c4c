/-
  Walks and mathematics of RowK, Box.
-/
import Derived.Test.YtoalbeiinlcgpaaKInts
import Derived.Laws.OwnMore
import Derived.Deep.MidRow
import Derived.Test.YtoalbeiinlcgpaaKKit
import Derived.Deep.RegionHeld3
import Derived.Deep.DrawnRows
import Derived.WalkSmall
import Derived.Laws.IdiomCopy
namespace Go.Proofs.Ytoalbeiinlcgpaa
open Go.RowKit K
set_option linter.unusedVariables false
set_option linter.unusedSimpArgs false

section
variable {α : Type} {k : Nat} {cf : α → List Value}

structure RowsAt (k : Nat) (cf : α → List Value) (w : World) (oa : Option Addr) (n cap : Nat) (xs : List α) : Prop where
  len : xs.length = n
  room : n ≤ cap
  most : cap ≤ maxLen
  at_ : ∀ (i : Nat) (x : α), xs[i]? = some x → ∃ b o, oa = some ⟨b, o, none⟩ ∧ ∀ (j : Nat) u, (cf x)[j]? = some u → w.cell? ⟨b, o + i * k + j, none⟩ = some u

theorem RowsAt.below {w w' : World} {oa : Option Addr} {n cap : Nat} {xs : List α} (h : RowsAt k cf w oa n cap xs) (hb : Below w.heap.size w w') : RowsAt k cf w' oa n cap xs :=
  ⟨h.len, h.room, h.most, fun i f hf => by
    obtain ⟨b, o, ha, hc⟩ := h.at_ i f hf
    refine ⟨b, o, ha, fun j u hu => ?_⟩
    have h1 := hc j u hu
    rw [hb.cell (cell_lt h1)]
    exact h1⟩

theorem RowsAt.nil (w : World) (oa : Option Addr) (cap : Nat) (hm : cap ≤ maxLen) : RowsAt k cf w oa 0 cap [] :=
  ⟨rfl, Nat.zero_le _, hm, fun i f hf => by simp at hf⟩

theorem RowsAt.get {w : World} {oa : Option Addr} {n cap : Nat} {xs : List α} (h : RowsAt k cf w oa n cap xs) {P : Program} {t e : TypeId} (ht : P.underlying t = some (.slice e)) (hi : (P.info? e).map (·.size) = some k) (hk : ∀ x, (cf x).length = k) (hp : 0 < k) (i : Nat) (hin : i < n) :
    ∃ x b q, xs[i]? = some x ∧ (∀ wx, (Instr.indexAt t (.slice oa n cap) (.int .i64 (i : Int))).run P wx = .ok (.pointer (some ⟨b, q, none⟩)) wx) ∧ b < w.heap.size ∧ ∀ (j : Nat) u, (cf x)[j]? = some u → w.cell? ⟨b, q + j, none⟩ = some u := by
  obtain ⟨x, hx⟩ : ∃ x, xs[i]? = some x := ⟨_, List.getElem?_eq_getElem (by rw [h.len]; exact hin)⟩
  obtain ⟨b, o, rfl, hc⟩ := h.at_ i x hx
  obtain ⟨u, hu⟩ : ∃ u, (cf x)[0]? = some u := ⟨_, List.getElem?_eq_getElem (by rw [hk]; exact hp)⟩
  exact ⟨x, b, o + i * k, hx, fun wx => run_indexAt_slice wx t e k ht hi b o n cap i hin, cell_lt (hc 0 u hu), hc⟩

theorem rowsAt_of_own (hk : ∀ x, (cf x).length = k) (hp : 0 < k) {w : World} {base : Nat} {e : TypeId} {v : Value} {n : Nat} {xs : List α} (h : w.ownsRow base e k v n (xs.flatMap cf)) :
    ∃ oa cap, v = .slice oa n cap ∧ RowsAt k cf w oa n cap xs := by
  have hlen : xs.length = n := by
    have := h.1
    rw [flat_length cf k hk] at this
    exact Nat.eq_of_mul_eq_mul_right hp this
  rcases h.2 with ⟨rfl, rfl⟩ | ⟨g, cap, cur, rfl, hb, hg, hnc, hcm, hcs, htake⟩
  · have : xs = [] := List.eq_nil_of_length_eq_zero hlen
    subst this
    exact ⟨none, 0, rfl, RowsAt.nil _ _ _ (by unfold maxLen; omega)⟩
  · refine ⟨some ⟨g, 0, none⟩, cap, rfl, ⟨hlen, hnc, hcm, fun i f hf => ⟨g, 0, rfl, fun j u hu => ?_⟩⟩⟩
    have hi : i < xs.length := (List.getElem?_eq_some_iff.1 hf).1
    have hfe : xs[i] = f := (List.getElem?_eq_some_iff.1 hf).2
    have hj : j < k := by have := (List.getElem?_eq_some_iff.1 hu).1; rw [hk] at this; exact this
    have h3 := flat_get cf k hk xs i j hi hj
    rw [hfe, hu] at h3
    rw [Nat.zero_add]
    have hlt : i * k + j < n * k := by
      have h1 : (i + 1) * k ≤ n * k := Nat.mul_le_mul_right k (by omega)
      have h2 : (i + 1) * k = i * k + k := by rw [Nat.add_mul, Nat.one_mul]
      omega
    rw [h.cellAt (i * k + j) hlt, h3]

def setAll (xs : List Value) : Nat → List Value → List Value
  | _, [] => xs
  | o, c :: cs => setAll (xs.set o c) (o + 1) cs

theorem setAll_get : ∀ (cs : List Value) (xs : List Value) (o m : Nat), o + cs.length ≤ xs.length → (setAll xs o cs)[m]? = if o ≤ m ∧ m < o + cs.length then cs[m - o]? else xs[m]?
  | [], xs, o, m, _ => by
    rw [setAll, if_neg (by rintro ⟨h1, h2⟩; simp only [List.length_nil] at h2; omega)]
  | c :: cs, xs, o, m, h => by
    simp only [List.length_cons] at h
    rw [setAll, setAll_get cs (xs.set o c) (o + 1) m (by rw [List.length_set]; omega)]
    by_cases h1 : o = m
    · subst h1
      rw [if_neg (by omega), if_pos (by simp), List.getElem?_set_self (by omega)]
      simp
    · by_cases h2 : o + 1 ≤ m ∧ m < o + 1 + cs.length
      · rw [if_pos h2, if_pos (by simp; omega)]
        have : m - o = (m - (o + 1)) + 1 := by omega
        rw [this, List.getElem?_cons_succ]
      · rw [if_neg h2, if_neg (by simp; omega), List.getElem?_set_ne h1]

theorem setAll_flat (hk : ∀ x, (cf x).length = k) (xs : List α) (i : Nat) (x : α) (hi : i < xs.length) : setAll (xs.flatMap cf) (i * k) (cf x) = (xs.set i x).flatMap cf := by
  have hL : (xs.flatMap cf).length = xs.length * k := flat_length cf k hk xs
  have hmul : i * k + k ≤ xs.length * k := by
    have h1 : (i + 1) * k ≤ xs.length * k := Nat.mul_le_mul_right k (by omega)
    have h2 : (i + 1) * k = i * k + k := by rw [Nat.add_mul, Nat.one_mul]
    omega
  apply List.ext_getElem?
  intro m
  rw [setAll_get (cf x) _ _ m (by rw [hk, hL]; exact hmul), hk]
  by_cases hm : m < xs.length * k
  · have hk0 : 0 < k := by
      cases k with
      | zero => simp at hm
      | succ k => omega
    have hdm := Nat.div_add_mod m k
    have hml := Nat.mod_lt m hk0
    have hq : m / k < xs.length := by rw [Nat.div_lt_iff_lt_mul hk0]; exact hm
    have em : m / k * k + m % k = m := by rw [Nat.mul_comm]; exact hdm
    have hy := flat_get cf k hk (xs.set i x) (m / k) (m % k) (by rw [List.length_set]; exact hq) hml
    rw [em] at hy
    have hz := flat_get cf k hk xs (m / k) (m % k) hq hml
    rw [em] at hz
    rw [hy]
    by_cases hc : i = m / k
    · rw [if_pos (by rw [hc]; omega)]
      have : m - i * k = m % k := by rw [hc]; omega
      rw [this]
      simp [hc]
    · rw [if_neg, hz]
      · simp [List.getElem_set, hc]
      · rintro ⟨g1, g2⟩
        apply hc
        have h1 : i ≤ m / k := by rw [Nat.le_div_iff_mul_le hk0]; exact g1
        have h2 : m / k < i + 1 := by rw [Nat.div_lt_iff_lt_mul hk0, Nat.add_mul, Nat.one_mul]; exact g2
        omega
  · rw [if_neg (by omega), List.getElem?_eq_none (by rw [hL]; omega), List.getElem?_eq_none (by rw [flat_length cf k hk, List.length_set]; omega)]

theorem own_setCells {base : Nat} {e : TypeId} {g n cap : Nat} : ∀ (cs : List Value) (w : World) (o : Nat) (xs : List Value), w.ownsRow base e k (.slice (some ⟨g, 0, none⟩) n cap) n xs →
    (w.setCells g o cs).ownsRow base e k (.slice (some ⟨g, 0, none⟩) n cap) n (setAll xs o cs) ∧ w.grownBy (w.setCells g o cs) (some g)
  | [], w, o, xs, h => ⟨h, World.grownBy.refl _ _⟩
  | c :: cs, w, o, xs, h => by
    have h1 := h.stored o c
    have h2 := own_setCells cs (w.setCell ⟨g, o, none⟩ c) (o + 1) (xs.set o c) h1.1
    exact ⟨h2.1, grown_trans h1.2 h2.2⟩

theorem made_flat (z : α) (zc : Array Value) (hz : zc.toList = cf z) (n : Nat) (hk : ∀ x, (cf x).length = k) (hp : 0 < k) : (madeCells zc (n * k)).toList = (List.replicate n z).flatMap cf := by
  have hs : zc.size = k := by have := congrArg List.length hz; simpa [hk] using this
  apply List.ext_getElem?
  intro m
  by_cases hm : m < n * k
  · have hml := Nat.mod_lt m hp
    have hq : m / k < n := by rw [Nat.div_lt_iff_lt_mul hp]; exact hm
    have em : m / k * k + m % k = m := by rw [Nat.mul_comm]; exact Nat.div_add_mod m k
    have hy := flat_get cf k hk (List.replicate n z) (m / k) (m % k) (by simpa using hq) hml
    rw [em] at hy
    rw [hy]
    simp only [List.getElem_replicate]
    rw [← hz]
    simp [madeCells, hm, hs, hml]
  · rw [List.getElem?_eq_none (by simp [madeCells]; omega), List.getElem?_eq_none (by rw [flat_length cf k hk]; simp; omega)]

end

theorem wpList_pushK {P : Program} {W0 : World} {ops : Array Oper} {rest : List Oper} {o : Oper} {a : Act} {Q : Exit → Act → World → Prop} (hgd : o.guard = none) (s x : Operand) (t : TypeId)
    (ho : o.op = .call { callee := .builtin .append, args := #[s, x], argTypes := #[t, t] })
    {base k : Nat} (hk0 : 0 < k) {e : TypeId} {z : Value} {bytes : Nat} (ht : P.underlying t = some (.slice e)) (hi : (P.info? e).map (fun i => (i.zero, i.size, i.bytes)) = some (some z, k, bytes)) (hzs : z.cells.size = k)
    {v : Value} {n : Nat} {xs : List Value} (hs : a.eval s = v) (hown : W0.ownsRow base e k v n xs)
    {cs : Array Value} (hx : a.eval x = .slice (some ⟨W0.heap.size, 0, none⟩) 1 1) (hm : cs.toList.length = k) (hu : ∀ u ∈ cs.toList, u.oneCell' = true)
    {W : World} (hbel : Below base W W0) (hbase : base ≤ W0.heap.size) (h63 : n + 1 ≤ maxLen) (hbytes : (n + 1) * bytes ≤ 140737488355328)
    (h : ∀ v' w', w'.ownsRow base e k v' (n + 1) (xs ++ cs.toList) → Below base W w' → W0.heap.size ≤ w'.heap.size → wpList P ops Q rest (a.put o.dst v') w') : wpList P ops Q (o :: rest) a (W0.alloc (.cells cs e)) := by
  obtain ⟨i, hi, hz, h1, h2⟩ := info_parts hi
  refine wpList_append_own _ hgd s x t ho base e i z k bytes ht hi hz h1 h2 hzs hk0 v n xs hs (hown.alloc _) ⟨W0.heap.size, 0, none⟩ 1 1 cs.toList hx (by rw [hm]; omega) (World.news_of_block (heap_alloc_new W0 _)) hu h63 hbytes (by simp; omega) ?_
  intro v' w' hown' hgrow _
  refine h v' w' hown' ?_ ?_
  · refine (hbel.alloc hbase _).grown hgrow (by simp; omega) ?_
    intro q hq
    exact (hown.lt q hq).1
  · have := hgrow.size; simp at this; omega

end Go.Proofs.Ytoalbeiinlcgpaa

namespace Go.Proofs.Ytoalbeiinlcgpaa
open Go.RowKit K
set_option linter.unusedVariables false

theorem blk_cell {w : World} {b : Nat} {cs : Array Value} {t : TypeId} (h : w.heap[b]? = some (.cells cs t (0, 0))) (j : Nat) {u : Value} (hu : cs[j]? = some u) : w.cell? ⟨b, j, none⟩ = some u := by
  rw [cell_of_row w b j _ _ _ h]; exact hu

theorem blk_free {w : World} {b : Nat} {cs : Array Value} {t : TypeId} (h : w.heap[b]? = some (.cells cs t (0, 0))) (j : Nat) : w.frozen? ⟨b, j, none⟩ = false := by
  simp [World.frozen?, h]

theorem blk_lt {w : World} {b : Nat} {x : Obj} (h : w.heap[b]? = some x) : b < w.heap.size := (Array.getElem?_eq_some_iff.1 h).1

theorem blk_set {w : World} {p k : Nat} {cs : Array Value} {e : TypeId} (v : Value) (h : w.heap[p]? = some (.cells cs e (0, 0))) : (w.setCell ⟨p, k, none⟩ v).heap[p]? = some (.cells (cs.setIfInBounds k v) e (0, 0)) := by
  simp only [World.setCell, Array.getElem?_modify, if_true, h]
  rfl

theorem blk_grown (w : World) (p k : Nat) (v : Value) : w.grownBy (w.setCell ⟨p, k, none⟩ v) (some p) :=
  ⟨rfl, rfl, rfl, by simp [World.setCell], fun j hj hne => Below.heap_setCell _ _ _ _ (fun e => hne (by rw [e]))⟩

def setArr (cs : Array Value) : Nat → List Value → Array Value
  | _, [] => cs
  | o, v :: r => setArr (cs.setIfInBounds o v) (o + 1) r

theorem blk_setAll {p : Nat} {e : TypeId} : ∀ (vs : List Value) (w : World) (cs : Array Value) (o : Nat), w.heap[p]? = some (.cells cs e (0, 0)) →
    (w.setCells p o vs).heap[p]? = some (.cells (setArr cs o vs) e (0, 0)) ∧ w.grownBy (w.setCells p o vs) (some p)
  | [], w, cs, o, h => ⟨h, World.grownBy.refl _ _⟩
  | v :: r, w, cs, o, h => by
    have h1 := blk_setAll r (w.setCell ⟨p, o, none⟩ v) (cs.setIfInBounds o v) (o + 1) (blk_set (k := o) v h)
    exact ⟨h1.1, grown_trans (blk_grown w p o v) h1.2⟩

end Go.Proofs.Ytoalbeiinlcgpaa
