/-
  Arguments opened, over any program: a slice of structs of three plain fields (two texts and a number), at every index.
-/
import Derived.Test.YtckkfjmjcknjdaaGreatDoorPlain5
import Derived.Test.YtckkfjmjcknjdaaGreatDoorFlat
import Derived.Deep.Slices
import Derived.ChangeSame
namespace Go.Proofs.YtckkfjmjcknjdaaGreatDoor
open Go.RowKit Go.Deep Go.ChangeShapes Go.WideShapes P5 K
set_option linter.unusedVariables false

/-- A file's cells. -/
def fcells (f : FileV) : List Value := [.string ⟨f.name.toArray⟩, .string ⟨f.text.toArray⟩, .int .i64 f.kept]

theorem fcells_length (f : FileV) : (fcells f).length = 3 := rfl

section
variable {H : Type} {enc : TypeId × Value → H} {P : Program} {w : World} {base : Nat} {spare : Nat → Bool} {held : Bool}

/-- One struct of two texts and a number. -/
theorem file_of_trod {e tS tI : TypeId} {f0 f1 f2 : Field} {fuel : Nat} {cs : List Value} {x : DataW H × List MemPlace} (he : P.underlying e = some (.struct #[f0, f1, f2]))
    (hS : P.underlying tS = some .string) (hI : P.underlying tI = some (.int .i64)) (t0 : f0.type = tS) (t1 : f1.type = tS) (t2 : f2.type = tI) (o0 : f0.offset = 0) (o1 : f1.offset = 1) (o2 : f2.offset = 2)
    (ce : P.cellsOf e = 3) (cS : P.cellsOf tS = 1) (cI : P.cellsOf tI = 1) (h : DataW.trod enc P w base spare held fuel e cs = some x) :
    ∃ f : FileV, cs = fcells f ∧ f.name.length ≤ maxLen ∧ f.text.length ≤ maxLen ∧ (Lit.int .i64 f.kept).wf = true := by
  obtain ⟨xs, n, _, _, hlen, hxl, hf⟩ := DataW.trod_struct he h
  rw [ce] at hlen
  match xs, hxl, cs, hlen with
  | [y0, y1, y2], _, [v0, v1, v2], _ =>
    have g0 := hf 0 f0 rfl
    have g1 := hf 1 f1 rfl
    have g2 := hf 2 f2 rfl
    simp [o0, o1, o2, t0, t1, t2, cS, cI] at g0 g1 g2
    obtain ⟨s0, e0, _, m0⟩ := DataW.trod_string hS g0
    obtain ⟨s1, e1, _, m1⟩ := DataW.trod_string hS g1
    obtain ⟨k, e2, _, m2⟩ := DataW.trod_int hI g2
    cases e0; cases e1; cases e2
    exact ⟨⟨s0.data.toList, s1.data.toList, k⟩, rfl, m0, m1, m2⟩

/-- A slice of such structs that came in. -/
theorem open_files {t e tS tI : TypeId} {f0 f1 f2 : Field} {fuel : Nat} {cs : List Value} {x : DataW H × List MemPlace} (ht : P.underlying t = some (.slice e)) (he : P.underlying e = some (.struct #[f0, f1, f2]))
    (hS : P.underlying tS = some .string) (hI : P.underlying tI = some (.int .i64)) (t0 : f0.type = tS) (t1 : f1.type = tS) (t2 : f2.type = tI) (o0 : f0.offset = 0) (o1 : f1.offset = 1) (o2 : f2.offset = 2)
    (ce : P.cellsOf e = 3) (cS : P.cellsOf tS = 1) (cI : P.cellsOf tI = 1) (h : DataW.trod enc P w base (fun _ => true) held fuel t cs = some x) :
    cs = [.slice none 0 0] ∨ ∃ (a : Addr) (len cap : Nat) (F : Nat → FileV), cs = [.slice (some a) len cap] ∧ len ≤ cap ∧ cap ≤ maxLen ∧
      ∀ i, i < len → (∀ j, j < 3 → w.cell? (a.add (i * 3 + j)) = (fcells (F i))[j]?) ∧ (F i).name.length ≤ maxLen ∧ (F i).text.length ≤ maxLen ∧ (Lit.int .i64 (F i).kept).wf = true := by
  rcases open_slice ht h with h0 | ⟨a, len, cap, m, n, D, Pl, rfl, hb, hl, hm, hmm, _, hx⟩
  · exact Or.inl h0.1
  · right
    have each : ∀ i, i < len → ∃ f : FileV, (∀ j, j < 3 → w.cell? (a.add (i * 3 + j)) = (fcells f)[j]?) ∧ f.name.length ≤ maxLen ∧ f.text.length ≤ maxLen ∧ (Lit.int .i64 f.kept).wf = true := by
      intro i hi
      obtain ⟨cs', h1, h2⟩ := hx i (by rw [hmm]; simp; omega)
      rw [ce] at h1
      obtain ⟨_, _, hcell⟩ := World.cells?_some h1
      obtain ⟨f, rfl, b1, b2, b3⟩ := file_of_trod he hS hI t0 t1 t2 o0 o1 o2 ce cS cI h2
      exact ⟨f, fun j hj => by rw [← add_add]; exact hcell j hj, b1, b2, b3⟩
    have : Inhabited FileV := ⟨⟨[], [], 0⟩⟩
    obtain ⟨F, hF⟩ := choose_lt each
    exact ⟨a, len, cap, F, rfl, hl, hm, hF⟩
end

end Go.Proofs.YtckkfjmjcknjdaaGreatDoor
