/-
  An entry that came in as an argument: two numbers and a text; its copy, its size.
-/
import Derived.Test.YtdollofmjpgppaaWalk5e
import Derived.WideShapes
import Derived.Deep.Slices
import Derived.ChangeSame
namespace Go.Proofs.Ytdollofmjpgppaa
open Go.RowKit Go.Deep Go.ChangeShapes Go.WideShapes P1 P9 K
set_option linter.unusedVariables false
set_option linter.unusedSimpArgs false

def ecells (e : EntV) : List Value := [.int .i64 e.term, .int .i64 e.kind, .string e.data]
def EntWide (e : EntV) : Prop := e.data.size ≤ maxLen ∧ (Lit.int .i64 e.term).wf = true ∧ (Lit.int .i64 e.kind).wf = true

section
variable {H : Type} {enc : TypeId × Value → H} {P : Program} {w : World} {base : Nat} {spare : Nat → Bool} {held : Bool}

/-- One struct of two numbers and a text. -/
theorem entry_of_trod {e tS tI : TypeId} {f0 f1 f2 : Field} {fuel : Nat} {cs : List Value} {x : DataW H × List MemPlace} (he : P.underlying e = some (.struct #[f0, f1, f2]))
    (hS : P.underlying tS = some .string) (hI : P.underlying tI = some (.int .i64)) (t0 : f0.type = tI) (t1 : f1.type = tI) (t2 : f2.type = tS) (o0 : f0.offset = 0) (o1 : f1.offset = 1) (o2 : f2.offset = 2)
    (ce : P.cellsOf e = 3) (cS : P.cellsOf tS = 1) (cI : P.cellsOf tI = 1) (h : DataW.trod enc P w base spare held fuel e cs = some x) :
    ∃ f : EntV, cs = ecells f ∧ EntWide f := by
  obtain ⟨xs, n, _, _, hlen, hxl, hf⟩ := DataW.trod_struct he h
  rw [ce] at hlen
  match xs, hxl, cs, hlen with
  | [y0, y1, y2], _, [v0, v1, v2], _ =>
    have g0 := hf 0 f0 rfl
    have g1 := hf 1 f1 rfl
    have g2 := hf 2 f2 rfl
    simp [o0, o1, o2, t0, t1, t2, cS, cI] at g0 g1 g2
    obtain ⟨k0, e0, _, m0⟩ := DataW.trod_int hI g0
    obtain ⟨k1, e1, _, m1⟩ := DataW.trod_int hI g1
    obtain ⟨s2, e2, _, m2⟩ := DataW.trod_string hS g2
    cases e0; cases e1; cases e2
    exact ⟨⟨k0, k1, s2⟩, rfl, m2, m0, m1⟩
end

/-- What is left of a bound behind an entry. -/
def szE (e : EntV) (left : Int) : Int := if left - e.data.size < 0 then -1 else left - e.data.size

end Go.Proofs.Ytdollofmjpgppaa
