/-
  The table of files: a map from names to pointers; what it holds, and what reads and writes make of it.
-/
import Derived.Test.YtdcdlfkbdeogeaaFlat2
import Derived.Test.YtdcdlfkbdeogeaaPlain8
import Derived.Maps.OwnSet
namespace Go.Proofs.Ytdcdlfkbdeogeaa
open Go.RowKit P5 K
set_option linter.unusedVariables false

/-- How a pointer to the beginning of a block reads. -/
def ptrElem (v : Value) : Option (DataW Unit × List MemPlace) :=
  match v with
  | .pointer none => some (.lit (.int .i64 (-1)), [])
  | .pointer (some a) => if a.off = 0 ∧ a.spot = none then some (.lit (.int .i64 (a.block : Int)), []) else none
  | _ => none

abbrev ptrD (q : Nat) : DataW Unit := .lit (.int .i64 (q : Int))
abbrev nilD : DataW Unit := .lit (.int .i64 (-1))

theorem ptrElem_mk (q : Nat) : ptrElem (.pointer (some ⟨q, 0, none⟩)) = some (ptrD q, []) := by simp [ptrElem]
theorem ptrElem_nil : ptrElem (.pointer none) = some (nilD, []) := rfl

theorem ptrElem_inv {v : Value} {q : Nat} {ps : List MemPlace} (h : ptrElem v = some (ptrD q, ps)) : v = .pointer (some ⟨q, 0, none⟩) := by
  unfold ptrElem at h
  split at h
  · simp [ptrD] at h
  · rename_i a
    split at h
    · rename_i hc
      simp [ptrD] at h
      obtain ⟨ab, ao, asp⟩ := a
      simp only at hc h
      obtain ⟨rfl, rfl⟩ := hc
      have : ab = q := by omega
      rw [this]
    · cases h
  · cases h

theorem ptrElem_inv_nil {v : Value} {ps : List MemPlace} (h : ptrElem v = some (nilD, ps)) : v = .pointer none := by
  unfold ptrElem at h
  split at h
  · rfl
  · split at h
    · simp at h
    · cases h
  · cases h

/-- A file's three cells. -/
abbrev fileCs (f : FileV) : Array Value := #[.string ⟨f.name.toArray⟩, .string ⟨f.text.toArray⟩, .int .i64 f.kept]

/-- Block q is a file of its own. -/
def FileBlk (w : World) (q : Nat) (f : FileV) : Prop := w.heap[q]? = some (.cells (fileCs f) 49 (0, 0))

theorem FileBlk.lt {w : World} {q : Nat} {f : FileV} (h : FileBlk w q f) : q < w.heap.size := (Array.getElem?_eq_some_iff.1 h).1
theorem FileBlk.c0 {w : World} {q : Nat} {f : FileV} (h : FileBlk w q f) : w.cell? ⟨q, 0, none⟩ = some (.string ⟨f.name.toArray⟩) := by rw [cell_of_row w q 0 _ _ _ h]; rfl
theorem FileBlk.c1 {w : World} {q : Nat} {f : FileV} (h : FileBlk w q f) : w.cell? ⟨q, 1, none⟩ = some (.string ⟨f.text.toArray⟩) := by rw [cell_of_row w q 1 _ _ _ h]; rfl
theorem FileBlk.c2 {w : World} {q : Nat} {f : FileV} (h : FileBlk w q f) : w.cell? ⟨q, 2, none⟩ = some (.int .i64 f.kept) := by rw [cell_of_row w q 2 _ _ _ h]; rfl
theorem FileBlk.fz {w : World} {q : Nat} {f : FileV} (h : FileBlk w q f) (j : Nat) : w.frozen? ⟨q, j, none⟩ = false := by
  unfold World.frozen?; rw [show w.heap[q]? = _ from h]; simp
theorem FileBlk.kept {w w' : World} {q : Nat} {f : FileV} {row : Option Nat} (h : FileBlk w q f) (hg : w.grownBy w' row) (hne : some q ≠ row) : FileBlk w' q f := (hg.block q h.lt hne).trans h
theorem FileBlk.set {w : World} {q : Nat} {f g : FileV} (h : FileBlk w q f) (j : Nat) (u : Value) (hc : (fileCs f).setIfInBounds j u = fileCs g) : FileBlk (w.setCell ⟨q, j, none⟩ u) q g := by
  unfold FileBlk at h ⊢
  simp only [World.setCell, Array.getElem?_modify, if_true, h, Option.map_some]
  simp [hc]

theorem grownBy_set (w : World) (p k : Nat) (v : Value) : w.grownBy (w.setCell ⟨p, k, none⟩ v) (some p) :=
  ⟨rfl, rfl, rfl, by simp [World.setCell], fun j hj hne => Below.heap_setCell _ _ _ _ (fun e => hne (by rw [e]))⟩

def upd {β : Type} (F : List UInt8 → β) (nm : List UInt8) (v : β) : List UInt8 → β := fun x => if x = nm then v else F x
theorem upd_same {β : Type} (F : List UInt8 → β) (nm : List UInt8) (v : β) : upd F nm v nm = v := if_pos rfl
theorem upd_other {β : Type} (F : List UInt8 → β) {nm x : List UInt8} (v : β) (h : x ≠ nm) : upd F nm v x = F x := if_neg h

/-- The table in block b: what it holds is F, of m files; each lies in a block of its own, from H on. -/
structure Tab (w : World) (H b : Nat) (F : List UInt8 → Option FileV) (m : Nat) (D : DataW Unit) (p : List UInt8 → Nat) : Prop where
  base : H ≤ b
  own : w.ownsMap Try.prog 9 ptrElem b m D
  size : Maps.size D = m
  no : ∀ nm, F nm = none → Maps.has D (.string nm) = false
  yes : ∀ nm f, F nm = some f → Maps.has D (.string nm) = true ∧ D.atKey (.string nm) nilD = ptrD (p nm) ∧ H ≤ p nm ∧ FileBlk w (p nm) f
  inj : ∀ nm nm' f f', F nm = some f → F nm' = some f' → p nm = p nm' → nm = nm'

theorem own_tight {w : World} {b n : Nat} {D : DataW Unit} (h : w.ownsMap Try.prog 9 ptrElem b n D) : w.ownsMap Try.prog 9 ptrElem b (Maps.size D) D := by
  obtain ⟨es, clock, hb, F, hs, rfl⟩ := h
  exact ⟨es, clock, hb, F, by simp [Maps.size, length_sorted], rfl⟩

theorem own_not_cells {w : World} {b n q : Nat} {D : DataW Unit} {f : FileV} (h : w.ownsMap Try.prog 9 ptrElem b n D) (hq : FileBlk w q f) : q ≠ b := by
  rintro rfl
  obtain ⟨es, clock, hb, _⟩ := h
  rw [show w.heap[q]? = _ from hq] at hb
  cases hb

variable {w w' : World} {H b m : Nat} {F : List UInt8 → Option FileV} {D : DataW Unit} {p : List UInt8 → Nat}

theorem Tab.kept (h : Tab w H b F m D p) {row : Option Nat} (hg : w.grownBy w' row) (hr : ∀ r, row = some r → r ≠ b ∧ ∀ nm f, F nm = some f → p nm ≠ r) : Tab w' H b F m D p :=
  ⟨h.base, h.own.kept hg (fun e => (hr b e.symm).1 rfl), h.size, h.no, fun nm f hf => by
    obtain ⟨h1, h2, h3, h4⟩ := h.yes nm f hf
    exact ⟨h1, h2, h3, h4.kept hg (fun e => (hr _ e.symm).2 nm f hf rfl)⟩, h.inj⟩

theorem Tab.below (h : Tab w H b F m D p) (hb : Below w.heap.size w w') : Tab w' H b F m D p :=
  h.kept (row := none) (grown_below hb) (fun r e => by cases e)

theorem isKey (nm : List UInt8) : WideAt.IsKeyLit (.string nm) := by simp [WideAt.IsKeyLit]
theorem key_ne {x y : List UInt8} (h : x ≠ y) : (Lit.string x) ≠ .string y := fun e => h (by cases e; rfl)

theorem keyNm (nm : List UInt8) (hs : nm.length ≤ 20000000) : keyOf Try.prog 9 (.string ⟨nm.toArray⟩) = some (.string nm) :=
  WideMaps.keyOf_string_mk Try.underlying9 (s := ⟨nm.toArray⟩) (by show nm.length ≤ maxLen; unfold maxLen; omega)

theorem Tab.lookNo (h : Tab w H b F m D p) {nm : List UInt8} (hs : nm.length ≤ 20000000) (hn : F nm = none) :
    (Instr.lookup 52 (.map (some b)) (.string ⟨nm.toArray⟩) true).run Try.prog w = .ok (.tuple #[.pointer none, .bool false]) w := by
  obtain ⟨v, ps, hr, hv⟩ := h.own.look_ok (Maps.string_keyed Try.underlying9) Try.underlying52 (Try.zeroValue72 _) ptrElem_nil (keyNm nm hs)
  have hh := h.no nm hn
  rw [Maps.atKey_of_not_has hh] at hv
  rw [hh] at hr
  rw [ptrElem_inv_nil hv] at hr
  exact hr

theorem Tab.lookYes (h : Tab w H b F m D p) {nm : List UInt8} (hs : nm.length ≤ 20000000) {f : FileV} (hn : F nm = some f) :
    (Instr.lookup 52 (.map (some b)) (.string ⟨nm.toArray⟩) true).run Try.prog w = .ok (.tuple #[.pointer (some ⟨p nm, 0, none⟩), .bool true]) w := by
  obtain ⟨v, ps, hr, hv⟩ := h.own.look_ok (Maps.string_keyed Try.underlying9) Try.underlying52 (Try.zeroValue72 _) ptrElem_nil (keyNm nm hs)
  obtain ⟨h1, h2, h3, h4⟩ := h.yes nm f hn
  rw [h2] at hv
  rw [h1] at hr
  rw [ptrElem_inv hv] at hr
  exact hr

theorem Tab.lookOne (h : Tab w H b F m D p) {nm : List UInt8} (hs : nm.length ≤ 20000000) {f : FileV} (hn : F nm = some f) :
    (Instr.lookup 52 (.map (some b)) (.string ⟨nm.toArray⟩) false).run Try.prog w = .ok (.pointer (some ⟨p nm, 0, none⟩)) w := by
  obtain ⟨v, ps, hr, hv⟩ := h.own.lookup (Maps.string_keyed Try.underlying9) Try.underlying52 (Try.zeroValue72 _) ptrElem_nil (keyNm nm hs)
  obtain ⟨h1, h2, h3, h4⟩ := h.yes nm f hn
  rw [h2] at hv
  rw [ptrElem_inv hv] at hr
  exact hr

/-- A file that is in the table is written where it stands. -/
theorem Tab.write (h : Tab w H b F m D p) {nm : List UInt8} {f g : FileV} (hn : F nm = some f) (j : Nat) (u : Value) (hc : (fileCs f).setIfInBounds j u = fileCs g) :
    Tab (w.setCell ⟨p nm, j, none⟩ u) H b (upd F nm (some g)) m D p := by
  obtain ⟨h1, h2, h3, h4⟩ := h.yes nm f hn
  have hg := grownBy_set w (p nm) j u
  refine ⟨h.base, h.own.kept hg (fun e => own_not_cells h.own h4 (by cases e; rfl)), h.size, fun x hx => ?_, fun x f' hx => ?_, fun x y f' g' hx hy e => ?_⟩
  · by_cases e : x = nm
    · subst e; rw [upd_same] at hx; cases hx
    · rw [upd_other _ _ e] at hx; exact h.no x hx
  · by_cases e : x = nm
    · subst e
      rw [upd_same] at hx
      cases hx
      exact ⟨h1, h2, h3, h4.set j u hc⟩
    · rw [upd_other _ _ e] at hx
      obtain ⟨k1, k2, k3, k4⟩ := h.yes x f' hx
      exact ⟨k1, k2, k3, k4.kept hg (fun e' => e (h.inj x nm f' f hx hn (Option.some.inj e')))⟩
  · have hx' : ∃ f0, F x = some f0 := by
      by_cases e1 : x = nm
      · subst e1; exact ⟨_, hn⟩
      · rw [upd_other _ _ e1] at hx; exact ⟨_, hx⟩
    have hy' : ∃ f0, F y = some f0 := by
      by_cases e1 : y = nm
      · subst e1; exact ⟨_, hn⟩
      · rw [upd_other _ _ e1] at hy; exact ⟨_, hy⟩
    obtain ⟨f1, hx1⟩ := hx'
    obtain ⟨f2, hy1⟩ := hy'
    exact h.inj x y f1 f2 hx1 hy1 e

/-- A file is put under a name. -/
theorem Tab.store (h : Tab w H b F m D p) {nm : List UInt8} {q : Nat} {f : FileV} (hq : FileBlk w q f) (hH : H ≤ q) (hfr : ∀ x f', F x = some f' → x ≠ nm → p x ≠ q) {n : Nat}
    (ho : w'.ownsMap Try.prog 9 ptrElem b n (D.put (.string nm) (ptrD q))) (ht : w.mapTurned w' b) :
    Tab w' H b (upd F nm (some f)) (if (F nm).isSome then m else m + 1) (D.put (.string nm) (ptrD q)) (upd p nm q) := by
  have hg := ht.grown
  have hD := h.own.isMap
  have hT := h.own.tidy (Maps.string_keyed Try.underlying9)
  have hqb := own_not_cells h.own hq
  have hsz : Maps.size (D.put (.string nm) (ptrD q)) = if (F nm).isSome then m else m + 1 := by
    rw [Maps.size_put hT, h.size]
    cases hF : F nm with
    | none => rw [h.no nm hF]; rfl
    | some f0 => rw [(h.yes nm f0 hF).1]; rfl
  refine ⟨h.base, ?_, hsz, fun x hx => ?_, fun x f' hx => ?_, fun x y f' g' hx hy e => ?_⟩
  · rw [← hsz]; exact own_tight ho
  · by_cases e : x = nm
    · subst e; rw [upd_same] at hx; cases hx
    · rw [upd_other _ _ e] at hx
      rw [Maps.has_put_other (key_ne e)]
      exact h.no x hx
  · by_cases e : x = nm
    · subst e
      rw [upd_same] at hx
      cases hx
      rw [upd_same, Maps.has_put_same hD (isKey x), Maps.atKey_put_same hD (isKey x)]
      exact ⟨rfl, rfl, hH, hq.kept hg (fun e' => hqb (by cases e'; rfl))⟩
    · rw [upd_other _ _ e] at hx ⊢
      obtain ⟨k1, k2, k3, k4⟩ := h.yes x f' hx
      rw [Maps.has_put_other (key_ne e), Maps.atKey_put_other (key_ne e)]
      exact ⟨k1, k2, k3, k4.kept hg (fun e' => own_not_cells h.own k4 (by cases e'; rfl))⟩
  · by_cases e1 : x = nm
    · by_cases e2 : y = nm
      · rw [e1, e2]
      · subst e1
        rw [upd_other _ _ e2] at hy e
        rw [upd_same] at e
        exact absurd e.symm (hfr y g' hy e2)
    · by_cases e2 : y = nm
      · subst e2
        rw [upd_other _ _ e1] at hx e
        rw [upd_same] at e
        exact absurd e (hfr x f' hx e1)
      · rw [upd_other _ _ e1] at hx e
        rw [upd_other _ _ e2] at hy e
        exact h.inj x y f' g' hx hy e

/-- A name is struck. -/
theorem Tab.drop (h : Tab w H b F m D p) {nm : List UInt8} {n : Nat} (ho : w'.ownsMap Try.prog 9 ptrElem b n (D.del (.string nm))) (ht : w.mapTurned w' b) :
    Tab w' H b (upd F nm none) (if (F nm).isSome then m - 1 else m) (D.del (.string nm)) p := by
  have hg := ht.grown
  have hT := h.own.tidy (Maps.string_keyed Try.underlying9)
  have hsz : Maps.size (D.del (.string nm)) = if (F nm).isSome then m - 1 else m := by
    have h1 := Maps.size_del (k := .string nm) hT
    rw [h.size] at h1
    cases hF : F nm with
    | none => rw [h.no nm hF] at h1; simpa using h1
    | some f0 => rw [(h.yes nm f0 hF).1] at h1; simp at h1 ⊢; omega
  refine ⟨h.base, ?_, hsz, fun x hx => ?_, fun x f' hx => ?_, fun x y f' g' hx hy e => ?_⟩
  · rw [← hsz]; exact own_tight ho
  · by_cases e : x = nm
    · subst e; exact Maps.has_del_same
    · rw [upd_other _ _ e] at hx
      rw [Maps.has_del_other (key_ne e)]
      exact h.no x hx
  · by_cases e : x = nm
    · subst e
      rw [upd_same] at hx
      cases hx
    · rw [upd_other _ _ e] at hx
      obtain ⟨k1, k2, k3, k4⟩ := h.yes x f' hx
      rw [Maps.has_del_other (key_ne e), Maps.atKey_del_other (key_ne e)]
      exact ⟨k1, k2, k3, k4.kept hg (fun e' => own_not_cells h.own k4 (by cases e'; rfl))⟩
  · by_cases e1 : x = nm
    · subst e1; rw [upd_same] at hx; cases hx
    · by_cases e2 : y = nm
      · subst e2; rw [upd_same] at hy; cases hy
      · rw [upd_other _ _ e1] at hx
        rw [upd_other _ _ e2] at hy
        exact h.inj x y f' g' hx hy e

/-- The table holds the disk fs. -/
def TabOk (w : World) (H b : Nat) (fs : List FileV) : Prop := ∃ D p, Tab w H b (fileAt fs) fs.length D p

theorem TabOk.below {fs : List FileV} (h : TabOk w H b fs) (hb : Below w.heap.size w w') : TabOk w' H b fs := by
  obtain ⟨D, p, h⟩ := h
  exact ⟨D, p, h.below hb⟩

theorem tabOk_put {fs : List FileV} {f : FileV} {m' : Nat} (hA : Asc fs) (h : Tab w H b (upd (fileAt fs) f.name (some f)) m' D p) (hm : m' = if (fileAt fs f.name).isSome then fs.length else fs.length + 1) : TabOk w H b (P5.put fs f) := by
  refine ⟨D, p, ?_⟩
  have e1 : fileAt (P5.put fs f) = upd (fileAt fs) f.name (some f) := funext fun x => fileAt_put fs f x
  rw [e1, length_put fs f hA, ← hm]
  exact h

theorem upd_twice {β : Type} (F : List UInt8 → β) (nm : List UInt8) (v u : β) : upd (upd F nm v) nm u = upd F nm u := by
  funext x
  unfold upd
  split <;> rfl

end Go.Proofs.Ytdcdlfkbdeogeaa
