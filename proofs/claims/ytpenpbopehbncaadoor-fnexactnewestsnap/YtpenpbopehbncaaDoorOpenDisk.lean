/-
  A disk that came in as an argument: a slice of files somewhere in memory.
-/
import Derived.Test.YtpenpbopehbncaaDoorWalk3a
import Derived.WideShapes
namespace Go.Proofs.YtpenpbopehbncaaDoor
open Go.RowKit Go.Deep Go.ChangeShapes Go.WideShapes P5 K
set_option linter.unusedVariables false

section
variable {H : Type} {enc : TypeId × Value → H} {P : Program} {w : World} {base : Nat} {spare : Nat → Bool} {held : Bool}

theorem open_agg1 {r : Reach} {b0 : Nat} {t : TypeId} {f0 : Field} {v : Value} {d : DataW H} {p : List MemPlace} (hs : P.underlying t = some (.struct #[f0])) (o0 : f0.offset = 0) (k0 : P.cellsOf f0.type = 1) (hC : P.cellsOf t = 1)
    (hv : Value.okWide P w r b0 t v) (h : DataW.Trod enc P w base spare held t v d p) :
    ∃ (v0 : Value) (y0 : DataW H × List MemPlace) (n : Nat), v = .agg #[v0] ∧ DataW.trod enc P w base spare held n f0.type [v0] = some y0 := by
  obtain ⟨cs, rfl, hsz⟩ := okWide_struct hs hv
  rw [hC] at hsz
  obtain ⟨c0, rfl⟩ : ∃ c, cs = #[c] := by
    obtain ⟨l⟩ := cs
    match l, hsz with
    | [c], _ => exact ⟨c, rfl⟩
  obtain ⟨fuel, hf⟩ := h
  obtain ⟨xs, n, _, _, _, hxl, hff⟩ := DataW.trod_struct hs hf
  have h0 := hff 0 f0 rfl
  match xs, hxl with
  | [y], _ =>
    simp [o0, k0, Value.cells] at h0
    exact ⟨c0, y, n, rfl, h0⟩

/-- Files that came in, at every index, as a list. -/
theorem filesAt_of_fn {a : Addr} {len cap : Nat} {F : Nat → FileV} (hl : len ≤ cap) (hm : cap ≤ maxLen)
    (h : ∀ i, i < len → (∀ j, j < 3 → w.cell? (a.add (i * 3 + j)) = (fcells (F i))[j]?) ∧ (F i).name.length ≤ maxLen ∧ (F i).text.length ≤ maxLen ∧ (Lit.int .i64 (F i).kept).wf = true) :
    FilesAt w (some a) len cap ((List.range len).map F) ∧ ∀ f ∈ (List.range len).map F, Wide f := by
  refine ⟨⟨by simp, hl, hm, fun i f hf => ?_⟩, fun f hf => ?_⟩
  · have hi : i < len := by simpa using (List.getElem?_eq_some_iff.1 hf).1
    have hfe : F i = f := by simpa [hi] using hf
    subst hfe
    have hsp : a.spot = none := by
      have h1 := (h 0 (by omega)).1 0 (by omega)
      have h2 : w.cell? a = some (.string ⟨(F 0).name.toArray⟩) := by simpa [Addr.add, fcells] using h1
      exact cell_spot h2
    obtain ⟨b, o, s⟩ := a
    simp only at hsp
    subst hsp
    refine ⟨b, o, rfl, fun j u hu => ?_⟩
    have hj : j < 3 := by simpa [fcells] using (List.getElem?_eq_some_iff.1 hu).1
    have h1 := (h i hi).1 j hj
    rw [Addr.add_mid, hu] at h1
    rw [Nat.add_assoc]
    exact h1
  · obtain ⟨i, hi, rfl⟩ := List.mem_map.1 hf
    exact (h i (by simpa using hi)).2

theorem open_disk {r : Reach} {b0 : Nat} {tD t e tS tI : TypeId} {fD f0 f1 f2 : Field} {v : Value} {d : DataW H} {p : List MemPlace} (hD : P.underlying tD = some (.struct #[fD])) (oD : fD.offset = 0) (yD : fD.type = t) (kD : P.cellsOf t = 1) (cD : P.cellsOf tD = 1)
    (ht : P.underlying t = some (.slice e)) (he : P.underlying e = some (.struct #[f0, f1, f2])) (hS : P.underlying tS = some .string) (hI : P.underlying tI = some (.int .i64)) (t0 : f0.type = tS) (t1 : f1.type = tS) (t2 : f2.type = tI) (o0 : f0.offset = 0) (o1 : f1.offset = 1) (o2 : f2.offset = 2)
    (ce : P.cellsOf e = 3) (cS : P.cellsOf tS = 1) (cI : P.cellsOf tI = 1) (hv : Value.okWide P w r b0 tD v) (h : DataW.Trod enc P w base (fun _ => true) held tD v d p) :
    ∃ (oa : Option Addr) (n cap : Nat) (fs : List FileV), v = .agg #[.slice oa n cap] ∧ FilesAt w oa n cap fs ∧ ∀ f ∈ fs, Wide f := by
  obtain ⟨v0, y0, n, rfl, h0⟩ := open_agg1 hD oD (yD ▸ kD) cD hv h
  rw [yD] at h0
  rcases open_files ht he hS hI t0 t1 t2 o0 o1 o2 ce cS cI h0 with h1 | ⟨a, len, cap, F, h1, hl, hm, hF⟩
  · cases h1
    exact ⟨none, 0, 0, [], rfl, ⟨rfl, Nat.le_refl _, by unfold maxLen; omega, fun i f hf => by simp at hf⟩, fun f hf => by simp at hf⟩
  · cases h1
    obtain ⟨h2, h3⟩ := filesAt_of_fn hl hm hF
    exact ⟨some a, len, cap, _, rfl, h2, h3⟩
end

set_option maxRecDepth 100000 in
/-- At this translation. -/
theorem disk_in {H : Type} {enc : TypeId × Value → H} {W : World} {r : Reach} {b0 : Nat} {v : Value} {d : DataW H} {p : List MemPlace} (hv : Value.okWide Tryd.prog W r b0 40 v) (h : DataW.Trod enc Tryd.prog W 0 (fun _ => true) true 40 v d p) :
    ∃ (oa : Option Addr) (n cap : Nat) (fs : List FileV), v = .agg #[.slice oa n cap] ∧ FilesAt W oa n cap fs ∧ ∀ f ∈ fs, Wide f :=
  open_disk (tD := 40) (t := 38) (e := 109) (tS := 9) (tI := 3) Tryd.underlying40 rfl rfl (by kernel_rfl) (by kernel_rfl) Tryd.underlying38 Tryd.underlying109 Tryd.underlying9 Tryd.underlying3 rfl rfl rfl rfl rfl rfl (by kernel_rfl) (by kernel_rfl) (by kernel_rfl) hv h

end Go.Proofs.YtpenpbopehbncaaDoor
