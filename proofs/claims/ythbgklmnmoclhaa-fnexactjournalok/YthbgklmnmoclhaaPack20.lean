/-
  The laws' own helpers over slices of texts: markText, markStringS, heldStringS, eqStringS.
  A region that draws its order, whose operations only read and whose callees may make new memory: one walk, in a class of worlds of our own.
-/
import Derived.Test.YthbgklmnmoclhaaPack11
import Derived.Test.YthbgklmnmoclhaaPlain2
import Derived.WalkSmall
import Derived.Deep.RegionHeld3
import Derived.Deep.QuietTactic
import Derived.BigQuiet
namespace Go.Proofs.Ythbgklmnmoclhaa
open Go.RowKit P1 K
set_option linter.unusedVariables false

theorem infoStr : (Try.prog.info? 9).map (fun i => (i.zero, i.size, i.bytes)) = some (some (.string ⟨#[]⟩), 1, 16) := by kernel_rfl

/-- Texts as cells. -/
def strs (xs : List (List UInt8)) : List Value := xs.map (fun l => Value.string ⟨l.toArray⟩)
theorem strs_length (xs : List (List UInt8)) : (strs xs).length = xs.length := by simp [strs]
theorem strs_append (xs ys : List (List UInt8)) : strs (xs ++ ys) = strs xs ++ strs ys := by simp [strs]

def markB (k : Nat) : List UInt8 := 109 :: Lib.decDigits k
def marks (k n : Nat) : List (List UInt8) := (List.range n).map (fun i => markB (k + i))
theorem marks_length (k n : Nat) : (marks k n).length = n := by simp [marks]
theorem marks_at (k n i : Nat) (h : i < n) : (marks k n)[i]? = some (markB (k + i)) := by simp [marks, h]

theorem marks_step (k j n : Nat) (xs : List (List UInt8)) (hl : xs.length = n) (hj : j < n) : (strs (marks k j ++ xs.drop j)).set j (.string ⟨(markB (k + j)).toArray⟩) = strs (marks k (j + 1) ++ xs.drop (j + 1)) := by
  have e1 : xs.drop j = xs[j] :: xs.drop (j + 1) := List.drop_eq_getElem_cons (by omega)
  have e2 : marks k (j + 1) = marks k j ++ [markB (k + j)] := by simp [marks, List.range_succ]
  rw [e1, e2, strs_append, strs_append, strs_append, List.set_append_right _ _ (by rw [strs_length, marks_length]; exact Nat.le_refl _), strs_length, marks_length]
  simp only [strs, List.map_cons, List.map_nil, Nat.sub_self, List.set_cons_zero, List.append_assoc, List.cons_append, List.nil_append]

theorem own_str {w : World} {base g n cap : Nat} {zs : List (List UInt8)} (h : w.ownsRow base 9 1 (.slice (some ⟨g, 0, none⟩) n cap) n (strs zs)) (j : Nat) (hj : j < n) :
    ∃ l, zs[j]? = some l ∧ w.cell? ⟨g, j, none⟩ = some (.string ⟨l.toArray⟩) := by
  have hl : zs.length = n := by have := h.1; rw [strs_length] at this; omega
  refine ⟨zs[j]'(by omega), List.getElem?_eq_getElem (by omega), ?_⟩
  rw [h.cellAt j (by omega)]
  simp [strs, show j < zs.length by omega]

end Go.Proofs.Ythbgklmnmoclhaa

namespace Go.Proofs.Ythbgklmnmoclhaa.K
open Go

/-- A world of which F holds. -/
structure InW (F : World → Prop) where
  w : World
  h : F w

theorem wp_region_in {P : Program} {F : World → Prop} {id : Nat} {Q : Exit → Act → World → Prop} {a : Act} {w : World} {l : List Oper} (hm : P.follows .mixedOrders = true) (hB : Region.lexB .any l.toArray = true) (hF : F w.drew)
    (h : wpQuiet P l.toArray (fun w' => ∃ n : InW F, w' = n.w) (fun a' => ∀ w', (∃ n : InW F, w' = n.w) → Q .normal a' w') l a) : (Code.region id l.toArray true).wp P Q a w :=
  wp_region_quiet (C := fun w' => ∃ n : InW F, w' = n.w) hm hB ⟨⟨_, hF⟩, rfl⟩ (by simpa using h)

end Go.Proofs.Ythbgklmnmoclhaa.K
