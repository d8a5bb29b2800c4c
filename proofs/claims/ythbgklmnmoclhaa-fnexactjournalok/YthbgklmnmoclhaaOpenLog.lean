/-
  A log that came in as an argument: two numbers and a slice of entries somewhere in memory.
-/
import Derived.Test.YthbgklmnmoclhaaLog1
import Derived.Test.YthbgklmnmoclhaaArgFlat
import Derived.WideShapes
namespace Go.Proofs.Ythbgklmnmoclhaa
open Go.RowKit Go.Deep Go.ChangeShapes Go.WideShapes P1 P9 K
set_option linter.unusedVariables false

section
variable {H : Type} {enc : TypeId × Value → H} {P : Program} {w : World} {base : Nat} {spare : Nat → Bool} {held : Bool}

/-- A slice of entries that came in. -/
theorem open_ents {t e tS tI : TypeId} {f0 f1 f2 : Field} {fuel : Nat} {cs : List Value} {x : DataW H × List MemPlace} (ht : P.underlying t = some (.slice e)) (he : P.underlying e = some (.struct #[f0, f1, f2]))
    (hS : P.underlying tS = some .string) (hI : P.underlying tI = some (.int .i64)) (t0 : f0.type = tI) (t1 : f1.type = tI) (t2 : f2.type = tS) (o0 : f0.offset = 0) (o1 : f1.offset = 1) (o2 : f2.offset = 2)
    (ce : P.cellsOf e = 3) (cS : P.cellsOf tS = 1) (cI : P.cellsOf tI = 1) (h : DataW.trod enc P w base (fun _ => true) held fuel t cs = some x) :
    cs = [.slice none 0 0] ∨ ∃ (a : Addr) (len cap : Nat) (F : Nat → EntV), cs = [.slice (some a) len cap] ∧ len ≤ cap ∧ cap ≤ maxLen ∧
      ∀ i, i < len → (∀ j, j < 3 → w.cell? (a.add (i * 3 + j)) = (ecells (F i))[j]?) ∧ EntWide (F i) := by
  rcases open_slice ht h with h0 | ⟨a, len, cap, m, n, D, Pl, rfl, hb, hl, hm, hmm, _, hx⟩
  · exact Or.inl h0.1
  · right
    have each : ∀ i, i < len → ∃ f : EntV, (∀ j, j < 3 → w.cell? (a.add (i * 3 + j)) = (ecells f)[j]?) ∧ EntWide f := by
      intro i hi
      obtain ⟨cs', h1, h2⟩ := hx i (by rw [hmm]; simp; omega)
      rw [ce] at h1
      obtain ⟨_, _, hcell⟩ := World.cells?_some h1
      obtain ⟨f, rfl, b1⟩ := entry_of_trod he hS hI t0 t1 t2 o0 o1 o2 ce cS cI h2
      exact ⟨f, fun j hj => by rw [← add_add]; exact hcell j hj, b1⟩
    have : Inhabited EntV := ⟨⟨0, 0, ⟨#[]⟩⟩⟩
    obtain ⟨F, hF⟩ := choose_lt each
    exact ⟨a, len, cap, F, rfl, hl, hm, hF⟩

theorem entsAt_of_fn {a : Addr} {len cap : Nat} {F : Nat → EntV} (hl : len ≤ cap) (hm : cap ≤ maxLen)
    (h : ∀ i, i < len → (∀ j, j < 3 → w.cell? (a.add (i * 3 + j)) = (ecells (F i))[j]?) ∧ EntWide (F i)) :
    EntsAt w (some a) len cap ((List.range len).map F) ∧ ∀ f ∈ (List.range len).map F, EntWide f := by
  refine ⟨⟨by simp, hl, hm, fun i f hf => ?_⟩, fun f hf => ?_⟩
  · have hi : i < len := by simpa using (List.getElem?_eq_some_iff.1 hf).1
    have hfe : F i = f := by simpa [hi] using hf
    subst hfe
    have hsp : a.spot = none := by
      have h1 := (h 0 (by omega)).1 0 (by omega)
      have h2 : w.cell? a = some (.int .i64 (F 0).term) := by simpa [Addr.add, ecells] using h1
      exact cell_spot h2
    obtain ⟨b, o, s⟩ := a
    simp only at hsp
    subst hsp
    refine ⟨b, o, rfl, fun j u hu => ?_⟩
    have hj : j < 3 := by simpa [ecells] using (List.getElem?_eq_some_iff.1 hu).1
    have h1 := (h i hi).1 j hj
    rw [Addr.add_mid, hu] at h1
    rw [Nat.add_assoc]
    exact h1
  · obtain ⟨i, hi, rfl⟩ := List.mem_map.1 hf
    exact (h i (by simpa using hi)).2

theorem open_log {r : Reach} {b0 : Nat} {tD t e tS tI : TypeId} {fa fb fc f0 f1 f2 : Field} {v : Value} {d : DataW H} {p : List MemPlace} (hD : P.underlying tD = some (.struct #[fa, fb, fc])) (oa' : fa.offset = 0) (ob' : fb.offset = 1) (oc' : fc.offset = 2) (ya : fa.type = tI) (yb : fb.type = tI) (yc : fc.type = t) (kt : P.cellsOf t = 1) (cD : P.cellsOf tD = 3)
    (ht : P.underlying t = some (.slice e)) (he : P.underlying e = some (.struct #[f0, f1, f2])) (hS : P.underlying tS = some .string) (hI : P.underlying tI = some (.int .i64)) (t0 : f0.type = tI) (t1 : f1.type = tI) (t2 : f2.type = tS) (o0 : f0.offset = 0) (o1 : f1.offset = 1) (o2 : f2.offset = 2)
    (ce : P.cellsOf e = 3) (cS : P.cellsOf tS = 1) (cI : P.cellsOf tI = 1) (hv : Value.okWide P w r b0 tD v) (h : DataW.Trod enc P w base (fun _ => true) held tD v d p) :
    ∃ (s u : Int) (oa : Option Addr) (n cap : Nat) (es : List EntV), v = .agg #[.int .i64 s, .int .i64 u, .slice oa n cap] ∧ EntsAt w oa n cap es ∧ (∀ f ∈ es, EntWide f) ∧ (Lit.int .i64 s).wf = true ∧ (Lit.int .i64 u).wf = true := by
  obtain ⟨cs, rfl, hsz⟩ := okWide_struct hD hv
  rw [cD] at hsz
  obtain ⟨c0, c1, c2, rfl⟩ : ∃ a b c, cs = #[a, b, c] := by
    obtain ⟨l⟩ := cs
    match l, hsz with
    | [a, b, c], _ => exact ⟨a, b, c, rfl⟩
  obtain ⟨fuel, hf⟩ := h
  obtain ⟨xs, n, _, _, _, hxl, hff⟩ := DataW.trod_struct hD hf
  have g0 := hff 0 fa rfl
  have g1 := hff 1 fb rfl
  have g2 := hff 2 fc rfl
  match xs, hxl with
  | [y0, y1, y2], _ =>
    simp [oa', ob', oc', ya, yb, yc, kt, cI, Value.cells] at g0 g1 g2
    obtain ⟨k0, e0, _, m0⟩ := DataW.trod_int hI g0
    obtain ⟨k1, e1, _, m1⟩ := DataW.trod_int hI g1
    cases e0; cases e1
    rcases open_ents ht he hS hI t0 t1 t2 o0 o1 o2 ce cS cI g2 with h1 | ⟨a, len, cap, F, h1, hl, hm, hF⟩
    · cases h1
      exact ⟨k0, k1, none, 0, 0, [], rfl, RowsAt.nil _ _ _ (by unfold maxLen; omega), fun f hf => by simp at hf, m0, m1⟩
    · cases h1
      obtain ⟨h2, h3⟩ := entsAt_of_fn hl hm hF
      exact ⟨k0, k1, some a, len, cap, _, rfl, h2, h3, m0, m1⟩
end

set_option maxRecDepth 100000 in
/-- At this translation. -/
theorem log_in {H : Type} {enc : TypeId × Value → H} {W : World} {r : Reach} {b0 : Nat} {v : Value} {d : DataW H} {p : List MemPlace} (hv : Value.okWide Try.prog W r b0 24 v) (h : DataW.Trod enc Try.prog W 0 (fun _ => true) true 24 v d p) :
    ∃ (s u : Int) (oa : Option Addr) (n cap : Nat) (es : List EntV), v = .agg #[.int .i64 s, .int .i64 u, .slice oa n cap] ∧ EntsAt W oa n cap es ∧ (∀ f ∈ es, EntWide f) ∧ (Lit.int .i64 s).wf = true ∧ (Lit.int .i64 u).wf = true :=
  open_log (tD := 24) (t := 22) (e := 49) (tS := 9) (tI := 3) Try.underlying24 rfl rfl rfl rfl rfl rfl (by kernel_rfl) (by kernel_rfl) Try.underlying22 Try.underlying49 Try.underlying9 Try.underlying3 rfl rfl rfl rfl rfl rfl (by kernel_rfl) (by kernel_rfl) (by kernel_rfl) hv h

end Go.Proofs.Ythbgklmnmoclhaa
