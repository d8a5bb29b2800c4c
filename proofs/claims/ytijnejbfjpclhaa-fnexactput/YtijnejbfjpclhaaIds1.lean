/-
  A map from Keys to Ids that the call made: what it holds, and what reads and writes make of it.
-/
import Derived.Test.YtijnejbfjpclhaaItemsArg
import Derived.Test.YtijnejbfjpclhaaState1
import Derived.Maps.OwnSet
namespace Go.Proofs.Ytijnejbfjpclhaa
open Go.RowKit P14 K
set_option linter.unusedVariables false

/-- The first Item of a Key. -/
def stFind : List (Int × Int) → Int → Option Int
  | [], _ => none
  | x :: r, k => if x.1 = k then some x.2 else stFind r k

theorem stAt_find : ∀ (s : List (Int × Int)) (k : Int), stAt s k = (stFind s k).getD 0
  | [], _ => rfl
  | x :: r, k => by
    unfold stAt stFind
    split
    · rfl
    · exact stAt_find r k

theorem stFind_snoc (s : List (Int × Int)) (x : Int × Int) (k : Int) : stFind (s ++ [x]) k = match stFind s k with | some i => some i | none => if x.1 = k then some x.2 else none := by
  induction s with
  | nil => simp [stFind]
  | cons y r ih =>
    rw [List.cons_append]
    unfold stFind
    split
    · rfl
    · exact ih

theorem stFind_mem : ∀ {s : List (Int × Int)} {k i : Int}, stFind s k = some i → (k, i) ∈ s
  | x :: r, k, i, h => by
    unfold stFind at h
    split at h
    · rename_i e
      cases h
      subst e
      exact List.mem_cons_self
    · exact List.mem_cons_of_mem _ (stFind_mem h)

def updI (F : Int → Option Int) (k : Int) (v : Option Int) : Int → Option Int := fun x => if x = k then v else F x
theorem updI_same (F : Int → Option Int) (k : Int) (v : Option Int) : updI F k v k = v := if_pos rfl
theorem updI_other (F : Int → Option Int) {k x : Int} (v : Option Int) (h : x ≠ k) : updI F k v x = F x := if_neg h

theorem stFind_new {s : List (Int × Int)} {x : Int × Int} (h : stFind s x.1 = none) : stFind (s ++ [x]) = updI (stFind s) x.1 (some x.2) := by
  funext k
  rw [stFind_snoc]
  by_cases e : k = x.1
  · subst e; rw [h, updI_same]; simp
  · rw [updI_other _ _ e]
    cases stFind s k with
    | none => simp; intro h1; exact absurd h1.symm e
    | some i => rfl

theorem stFind_old {s : List (Int × Int)} {x : Int × Int} {i : Int} (h : stFind s x.1 = some i) : stFind (s ++ [x]) = stFind s := by
  funext k
  rw [stFind_snoc]
  by_cases e : k = x.1
  · subst e; rw [h]
  · cases stFind s k with
    | none => simp; intro h1; exact absurd h1.symm e
    | some i => rfl

abbrev numD (i : Int) : DataW Unit := .lit (.int .i64 i)

/-- The map in block b: what it holds is F, of m Keys. -/
structure IdTab (w : World) (b : Nat) (F : Int → Option Int) (m : Nat) (D : DataW Unit) : Prop where
  own : w.ownsMap Try.prog 3 (plainElem Try.prog 3) b m D
  size : Maps.size D = m
  no : ∀ k, F k = none → Maps.has D (.int .i64 k) = false
  yes : ∀ k i, F k = some i → Maps.has D (.int .i64 k) = true ∧ D.atKey (.int .i64 k) (numD 0) = numD i
  wide : ∀ k i, F k = some i → (Lit.int .i64 k).wf = true ∧ (Lit.int .i64 i).wf = true

theorem ids_tight {w : World} {b n : Nat} {D : DataW Unit} (h : w.ownsMap Try.prog 3 (plainElem Try.prog 3) b n D) : w.ownsMap Try.prog 3 (plainElem Try.prog 3) b (Maps.size D) D := by
  obtain ⟨es, clock, hb, F, hs, rfl⟩ := h
  exact ⟨es, clock, hb, F, by simp [Maps.size, length_sorted], rfl⟩

variable {w w' : World} {b m : Nat} {F : Int → Option Int} {D : DataW Unit}

theorem IdTab.kept (h : IdTab w b F m D) {row : Option Nat} (hg : w.grownBy w' row) (hr : some b ≠ row) : IdTab w' b F m D :=
  ⟨h.own.kept hg hr, h.size, h.no, h.yes, h.wide⟩

theorem IdTab.below (h : IdTab w b F m D) (hb : Below w.heap.size w w') : IdTab w' b F m D := h.kept (row := none) (grown_below hb) (fun e => by cases e)

theorem IdTab.lt (h : IdTab w b F m D) : b < w.heap.size := h.own.lt

theorem isKeyI (k : Int) : WideAt.IsKeyLit (.int .i64 k) := by simp [WideAt.IsKeyLit]
theorem keyI_ne {x y : Int} (h : x ≠ y) : (Lit.int .i64 x) ≠ .int .i64 y := fun e => h (by cases e; rfl)
theorem keyI {k : Int} (hk : (Lit.int .i64 k).wf = true) : keyOf Try.prog 3 (.int .i64 k) = some (.int .i64 k) := Maps.keyOf_int_mk Try.underlying3 hk
theorem wf_zero : (Lit.int .i64 0).wf = true := by decide

/-- 'i, ok := m[k]'. -/
theorem IdTab.look (h : IdTab w b F m D) {k : Int} (hk : (Lit.int .i64 k).wf = true) :
    (Instr.lookup 56 (.map (some b)) (.int .i64 k) true).run Try.prog w = .ok (.tuple #[.int .i64 ((F k).getD 0), .bool (F k).isSome]) w := by
  obtain ⟨v, ps, hr, hv⟩ := h.own.look_ok (Maps.int_keyed Try.underlying3) Try.underlying56 (Try.zeroValue3 _) (plainElem_int Try.underlying3 wf_zero) (keyI hk)
  obtain ⟨c, rfl, hc, hwc⟩ := plainElem_int_inv Try.underlying3 hv
  have hc1 := congrArg Prod.fst hc
  simp only at hc1
  cases hF : F k with
  | none =>
    have hh := h.no k hF
    rw [Maps.atKey_of_not_has hh] at hc1
    rw [hh] at hr
    cases hc1
    exact hr
  | some i =>
    obtain ⟨h1, h2⟩ := h.yes k i hF
    rw [h2] at hc1
    rw [h1] at hr
    cases hc1
    exact hr

/-- 'm[k]'. -/
theorem IdTab.get (h : IdTab w b F m D) {k : Int} (hk : (Lit.int .i64 k).wf = true) :
    (Instr.lookup 56 (.map (some b)) (.int .i64 k) false).run Try.prog w = .ok (.int .i64 ((F k).getD 0)) w := by
  obtain ⟨c, hr, hc1, hwc⟩ := h.own.lookup_int (Maps.int_keyed Try.underlying3) Try.underlying56 Try.underlying3 (Try.zeroValue3 _) (keyI hk)
  cases hF : F k with
  | none =>
    rw [Maps.atKey_of_not_has (h.no k hF)] at hc1
    cases hc1
    exact hr
  | some i =>
    rw [(h.yes k i hF).2] at hc1
    cases hc1
    exact hr

/-- A Key is given an Id. -/
theorem IdTab.store (h : IdTab w b F m D) {k i : Int} (hk : (Lit.int .i64 k).wf = true) (hi : (Lit.int .i64 i).wf = true) {n : Nat} (ho : w'.ownsMap Try.prog 3 (plainElem Try.prog 3) b n (D.put (.int .i64 k) (numD i))) :
    IdTab w' b (updI F k (some i)) (if (F k).isSome then m else m + 1) (D.put (.int .i64 k) (numD i)) := by
  have hD := h.own.isMap
  have hT := h.own.tidy (Maps.int_keyed Try.underlying3)
  have hsz : Maps.size (D.put (.int .i64 k) (numD i)) = if (F k).isSome then m else m + 1 := by
    rw [Maps.size_put hT, h.size]
    cases hF : F k with
    | none => rw [h.no k hF]; rfl
    | some f0 => rw [(h.yes k f0 hF).1]; rfl
  refine ⟨?_, hsz, fun x hx => ?_, fun x j hx => ?_, fun x j hx => ?_⟩
  · rw [← hsz]; exact ids_tight ho
  · by_cases e : x = k
    · subst e; rw [updI_same] at hx; cases hx
    · rw [updI_other _ _ e] at hx
      rw [Maps.has_put_other (keyI_ne e)]
      exact h.no x hx
  · by_cases e : x = k
    · subst e
      rw [updI_same] at hx
      cases hx
      rw [Maps.has_put_same hD (isKeyI x), Maps.atKey_put_same hD (isKeyI x)]
      exact ⟨rfl, rfl⟩
    · rw [updI_other _ _ e] at hx
      rw [Maps.has_put_other (keyI_ne e), Maps.atKey_put_other (keyI_ne e)]
      exact h.yes x j hx
  · by_cases e : x = k
    · subst e
      rw [updI_same] at hx
      cases hx
      exact ⟨hk, hi⟩
    · rw [updI_other _ _ e] at hx
      exact h.wide x j hx

theorem idTab_new (w : World) : IdTab (w.alloc (.map #[] 0)) w.heap.size (stFind []) 0 (.map []) :=
  ⟨World.ownsMap_made w Try.prog 3 (plainElem Try.prog 3), rfl, fun k _ => rfl, fun k i h => by simp [stFind] at h, fun k i h => by simp [stFind] at h⟩

end Go.Proofs.Ytijnejbfjpclhaa
