/-
  A journal that came in as an argument: five numbers and a slice of entries somewhere in memory.
-/
import Derived.Test.YthbgklmnmoclhaaOpenLog
namespace Go.Proofs.Ythbgklmnmoclhaa
open Go.RowKit Go.Deep Go.ChangeShapes Go.WideShapes P1 P9 K
set_option linter.unusedVariables false

section
variable {H : Type} {enc : TypeId × Value → H} {P : Program} {w : World} {base : Nat} {spare : Nat → Bool} {held : Bool}

theorem open_log_cells {tD t e tS tI : TypeId} {fa fb fc f0 f1 f2 : Field} {fuel : Nat} {c0 c1 c2 : Value} {x : DataW H × List MemPlace} (hD : P.underlying tD = some (.struct #[fa, fb, fc])) (oa' : fa.offset = 0) (ob' : fb.offset = 1) (oc' : fc.offset = 2) (ya : fa.type = tI) (yb : fb.type = tI) (yc : fc.type = t) (kt : P.cellsOf t = 1)
    (ht : P.underlying t = some (.slice e)) (he : P.underlying e = some (.struct #[f0, f1, f2])) (hS : P.underlying tS = some .string) (hI : P.underlying tI = some (.int .i64)) (t0 : f0.type = tI) (t1 : f1.type = tI) (t2 : f2.type = tS) (o0 : f0.offset = 0) (o1 : f1.offset = 1) (o2 : f2.offset = 2)
    (ce : P.cellsOf e = 3) (cS : P.cellsOf tS = 1) (cI : P.cellsOf tI = 1) (hf : DataW.trod enc P w base (fun _ => true) held fuel tD [c0, c1, c2] = some x) :
    ∃ (s u : Int) (oa : Option Addr) (n cap : Nat) (es : List EntV), c0 = .int .i64 s ∧ c1 = .int .i64 u ∧ c2 = .slice oa n cap ∧ EntsAt w oa n cap es ∧ (∀ f ∈ es, EntWide f) ∧ (Lit.int .i64 s).wf = true ∧ (Lit.int .i64 u).wf = true := by
  obtain ⟨xs, n, _, _, _, hxl, hff⟩ := DataW.trod_struct hD hf
  have g0 := hff 0 fa rfl
  have g1 := hff 1 fb rfl
  have g2 := hff 2 fc rfl
  match xs, hxl with
  | [y0, y1, y2], _ =>
    simp [oa', ob', oc', ya, yb, yc, kt, cI] at g0 g1 g2
    obtain ⟨k0, e0, _, m0⟩ := DataW.trod_int hI g0
    obtain ⟨k1, e1, _, m1⟩ := DataW.trod_int hI g1
    cases e0; cases e1
    rcases open_ents ht he hS hI t0 t1 t2 o0 o1 o2 ce cS cI g2 with h1 | ⟨a, len, cap, F, h1, hl, hm, hF⟩
    · cases h1
      exact ⟨k0, k1, none, 0, 0, [], rfl, rfl, rfl, RowsAt.nil _ _ _ (by unfold maxLen; omega), fun f hf => by simp at hf, m0, m1⟩
    · cases h1
      obtain ⟨h2, h3⟩ := entsAt_of_fn hl hm hF
      exact ⟨k0, k1, some a, len, cap, _, rfl, rfl, rfl, h2, h3, m0, m1⟩

theorem open_journal {r : Reach} {b0 : Nat} {tJ tD t e tS tI : TypeId} {ga gb gc gd fa fb fc f0 f1 f2 : Field} {v : Value} {d : DataW H} {p : List MemPlace} (hJ : P.underlying tJ = some (.struct #[ga, gb, gc, gd])) (pa : ga.offset = 0) (pb : gb.offset = 1) (pc : gc.offset = 2) (pd : gd.offset = 3) (za : ga.type = tI) (zb : gb.type = tI) (zc : gc.type = tI) (zd : gd.type = tD) (cJ : P.cellsOf tJ = 6) (cD : P.cellsOf tD = 3)
    (hD : P.underlying tD = some (.struct #[fa, fb, fc])) (oa' : fa.offset = 0) (ob' : fb.offset = 1) (oc' : fc.offset = 2) (ya : fa.type = tI) (yb : fb.type = tI) (yc : fc.type = t) (kt : P.cellsOf t = 1)
    (ht : P.underlying t = some (.slice e)) (he : P.underlying e = some (.struct #[f0, f1, f2])) (hS : P.underlying tS = some .string) (hI : P.underlying tI = some (.int .i64)) (t0 : f0.type = tI) (t1 : f1.type = tI) (t2 : f2.type = tS) (o0 : f0.offset = 0) (o1 : f1.offset = 1) (o2 : f2.offset = 2)
    (ce : P.cellsOf e = 3) (cS : P.cellsOf tS = 1) (cI : P.cellsOf tI = 1) (hv : Value.okWide P w r b0 tJ v) (h : DataW.Trod enc P w base (fun _ => true) held tJ v d p) :
    ∃ (jn jt jv s u : Int) (oa : Option Addr) (n cap : Nat) (es : List EntV), v = .agg #[.int .i64 jn, .int .i64 jt, .int .i64 jv, .int .i64 s, .int .i64 u, .slice oa n cap] ∧ EntsAt w oa n cap es ∧ (∀ f ∈ es, EntWide f) ∧ ((Lit.int .i64 jn).wf = true ∧ (Lit.int .i64 jt).wf = true ∧ (Lit.int .i64 jv).wf = true ∧ (Lit.int .i64 s).wf = true ∧ (Lit.int .i64 u).wf = true) := by
  obtain ⟨cs, rfl, hsz⟩ := okWide_struct hJ hv
  rw [cJ] at hsz
  obtain ⟨c0, c1, c2, c3, c4, c5, rfl⟩ : ∃ a b c d e f, cs = #[a, b, c, d, e, f] := by
    obtain ⟨l⟩ := cs
    match l, hsz with
    | [a, b, c, d, e, f], _ => exact ⟨a, b, c, d, e, f, rfl⟩
  obtain ⟨fuel, hf⟩ := h
  obtain ⟨xs, n, _, _, _, hxl, hff⟩ := DataW.trod_struct hJ hf
  have g0 := hff 0 ga rfl
  have g1 := hff 1 gb rfl
  have g2 := hff 2 gc rfl
  have g3 := hff 3 gd rfl
  match xs, hxl with
  | [y0, y1, y2, y3], _ =>
    simp [pa, pb, pc, pd, za, zb, zc, zd, cD, cI, Value.cells] at g0 g1 g2 g3
    obtain ⟨k0, e0, _, m0⟩ := DataW.trod_int hI g0
    obtain ⟨k1, e1, _, m1⟩ := DataW.trod_int hI g1
    obtain ⟨k2, e2, _, m2⟩ := DataW.trod_int hI g2
    cases e0; cases e1; cases e2
    obtain ⟨s, u, oa, n, cap, es, rfl, rfl, rfl, h1, h2, h3, h4⟩ := open_log_cells hD oa' ob' oc' ya yb yc kt ht he hS hI t0 t1 t2 o0 o1 o2 ce cS cI g3
    exact ⟨k0, k1, k2, s, u, oa, n, cap, es, rfl, h1, h2, m0, m1, m2, h3, h4⟩
end

set_option maxRecDepth 100000 in
/-- At this translation. -/
theorem journal_in {H : Type} {enc : TypeId × Value → H} {W : World} {r : Reach} {b0 : Nat} {v : Value} {d : DataW H} {p : List MemPlace} (hv : Value.okWide Try.prog W r b0 26 v) (h : DataW.Trod enc Try.prog W 0 (fun _ => true) true 26 v d p) :
    ∃ (jn jt jv s u : Int) (oa : Option Addr) (n cap : Nat) (es : List EntV), v = .agg #[.int .i64 jn, .int .i64 jt, .int .i64 jv, .int .i64 s, .int .i64 u, .slice oa n cap] ∧ EntsAt W oa n cap es ∧ (∀ f ∈ es, EntWide f) ∧ ((Lit.int .i64 jn).wf = true ∧ (Lit.int .i64 jt).wf = true ∧ (Lit.int .i64 jv).wf = true ∧ (Lit.int .i64 s).wf = true ∧ (Lit.int .i64 u).wf = true) :=
  open_journal (tJ := 26) (tD := 24) (t := 22) (e := 49) (tS := 9) (tI := 3) Try.underlying26 rfl rfl rfl rfl rfl rfl rfl rfl (by kernel_rfl) (by kernel_rfl) Try.underlying24 rfl rfl rfl rfl rfl rfl (by kernel_rfl) Try.underlying22 Try.underlying49 Try.underlying9 Try.underlying3 rfl rfl rfl rfl rfl rfl (by kernel_rfl) (by kernel_rfl) (by kernel_rfl) hv h

end Go.Proofs.Ythbgklmnmoclhaa
