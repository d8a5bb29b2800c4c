/-
  Walks and mathematics of OpenLog.
-/
import Derived.Test.YtoalbeiinlcgpaaKLog1
import Derived.Test.YtoalbeiinlcgpaaKFlat
import Derived.Deep.Slices
import Derived.ChangeSame
import Derived.WideShapes
namespace Go.Proofs.Ytoalbeiinlcgpaa
open Go.RowKit Go.Deep Go.ChangeShapes Go.WideShapes P1 P9 K
set_option linter.unusedVariables false

section
variable {H : Type} {enc : TypeId × Value → H} {P : Program} {w : World} {base : Nat} {spare : Nat → Bool} {held : Bool}

theorem open_ents {t e tS tI : TypeId} {f0 f1 f2 : Field} {fuel : Nat} {cs : List Value} {x : DataW H × List MemPlace} (ht : P.underlying t = some (.slice e)) (he : P.underlying e = some (.struct #[f0, f1, f2]))
    (hS : P.underlying tS = some .string) (hI : P.underlying tI = some (.int .i64)) (t0 : f0.type = tI) (t1 : f1.type = tI) (t2 : f2.type = tS) (o0 : f0.offset = 0) (o1 : f1.offset = 1) (o2 : f2.offset = 2)
    (ce : P.cellsOf e = 3) (cS : P.cellsOf tS = 1) (cI : P.cellsOf tI = 1) (h : DataW.trod enc P w base (fun _ => true) held fuel t cs = some x) :
    cs = [.slice none 0 0] ∨ ∃ (a : Addr) (len cap : Nat) (F : Nat → EntV), cs = [.slice (some a) len cap] ∧ len ≤ cap ∧ cap ≤ maxLen ∧
      ∀ i, i < len → (∀ j, j < 3 → w.cell? (a.add (i * 3 + j)) = (ecells (F i))[j]?) ∧ EntWide (F i) := by
  rcases open_slice ht h with h0 | ⟨a, len, cap, m, n, D, Pl, rfl, hb, hl, hm, hmm, _, hx⟩
  · exact Or.inl h0.1
  · right
    have each : ∀ i, i < len → ∃ f : EntV, (∀ j, j < 3 → w.cell? (a.add (i * 3 + j)) = (ecells f)[j]?) ∧ EntWide f := by
      intro i hi
      obtain ⟨cs', h1, h2⟩ := hx i (by rw [hmm]; simp; omega)
      rw [ce] at h1
      obtain ⟨_, _, hcell⟩ := World.cells?_some h1
      obtain ⟨f, rfl, b1⟩ := entry_of_trod he hS hI t0 t1 t2 o0 o1 o2 ce cS cI h2
      exact ⟨f, fun j hj => by rw [← add_add]; exact hcell j hj, b1⟩
    have : Inhabited EntV := ⟨⟨0, 0, ⟨#[]⟩⟩⟩
    obtain ⟨F, hF⟩ := choose_lt each
    exact ⟨a, len, cap, F, rfl, hl, hm, hF⟩

theorem entsAt_of_fn {a : Addr} {len cap : Nat} {F : Nat → EntV} (hl : len ≤ cap) (hm : cap ≤ maxLen)
    (h : ∀ i, i < len → (∀ j, j < 3 → w.cell? (a.add (i * 3 + j)) = (ecells (F i))[j]?) ∧ EntWide (F i)) :
    EntsAt w (some a) len cap ((List.range len).map F) ∧ ∀ f ∈ (List.range len).map F, EntWide f := by
  refine ⟨⟨by simp, hl, hm, fun i f hf => ?_⟩, fun f hf => ?_⟩
  · have hi : i < len := by simpa using (List.getElem?_eq_some_iff.1 hf).1
    have hfe : F i = f := by simpa [hi] using hf
    subst hfe
    have hsp : a.spot = none := by
      have h1 := (h 0 (by omega)).1 0 (by omega)
      have h2 : w.cell? a = some (.int .i64 (F 0).term) := by simpa [Addr.add, ecells] using h1
      exact cell_spot h2
    obtain ⟨b, o, s⟩ := a
    simp only at hsp
    subst hsp
    refine ⟨b, o, rfl, fun j u hu => ?_⟩
    have hj : j < 3 := by simpa [ecells] using (List.getElem?_eq_some_iff.1 hu).1
    have h1 := (h i hi).1 j hj
    rw [Addr.add_mid, hu] at h1
    rw [Nat.add_assoc]
    exact h1
  · obtain ⟨i, hi, rfl⟩ := List.mem_map.1 hf
    exact (h i (by simpa using hi)).2

end

end Go.Proofs.Ytoalbeiinlcgpaa
