/-
  What ReadEntry answers (Walk5i's reVal, where the specification's reader is not turned).
-/
import Derived.Test.YteilmhlhddihpaaWalk5g
import Derived.Test.YteilmhlhddihpaaPlain10
namespace Go.Proofs.Yteilmhlhddihpaa
open Go.RowKit P1 P9 K

/-- The results of ReadEntry. -/
def reVal : Option (Nat × Nat × Nat × List UInt8) → Value
  | none => .tuple #[.int .i64 0, .agg #[.int .i64 0, .int .i64 0, .string ⟨#[]⟩], .bool false]
  | some (i, t, k, d) => .tuple #[.int .i64 (i : Int), .agg #[.int .i64 (t : Int), .int .i64 (k : Int), .string ⟨d.toArray⟩], .bool true]

theorem rdc_cells {w : World} {p : Nat} {v0 v1 v2 : Value} {e : TypeId} (hb : w.heap[p]? = some (.cells #[v0, v1, v2] e (0, 0))) :
    w.cell? ⟨p, 0, none⟩ = some v0 ∧ w.cell? ⟨p, 1, none⟩ = some v1 ∧ w.cell? ⟨p, 2, none⟩ = some v2 ∧ w.frozen? ⟨p, 0, none⟩ = false ∧ w.frozen? ⟨p, 1, none⟩ = false ∧ w.frozen? ⟨p, 2, none⟩ = false :=
  ⟨by rw [cell_of_row w p 0 _ _ _ hb]; rfl, by rw [cell_of_row w p 1 _ _ _ hb]; rfl, by rw [cell_of_row w p 2 _ _ _ hb]; rfl, by simp [World.frozen?, hb], by simp [World.frozen?, hb], by simp [World.frozen?, hb]⟩

theorem rdc_set {w : World} {p k : Nat} {cs : Array Value} {e : TypeId} (v : Value) (h : w.heap[p]? = some (.cells cs e (0, 0))) : (w.setCell ⟨p, k, none⟩ v).heap[p]? = some (.cells (cs.setIfInBounds k v) e (0, 0)) := by
  simp only [World.setCell, Array.getElem?_modify, if_true, h]
  rfl

theorem rdc_grown (w : World) (p k : Nat) (v : Value) : w.grownBy (w.setCell ⟨p, k, none⟩ v) (some p) :=
  ⟨rfl, rfl, rfl, by simp [World.setCell], fun j hj hne => Below.heap_setCell _ _ _ _ (fun e => hne (by rw [e]))⟩

/-- A struct of three cells stored whole. -/
theorem store3 {w : World} {p : Nat} {x0 x1 x2 : Value} {e : TypeId} (h : w.heap[p]? = some (.cells #[x0, x1, x2] e (0, 0))) (v0 v1 v2 : Value) :
    ∃ w', ((w.setCell ⟨p, 0, none⟩ v0).setCell ⟨p, 1, none⟩ v1).setCell ⟨p, 2, none⟩ v2 = w' ∧ w'.heap[p]? = some (.cells #[v0, v1, v2] e (0, 0)) ∧ w.grownBy w' (some p) :=
  ⟨_, rfl, rdc_set (k := 2) v2 (rdc_set (k := 1) v1 (rdc_set (k := 0) v0 h)), grown_trans (grown_trans (rdc_grown _ _ _ _) (rdc_grown _ _ _ _)) (rdc_grown _ _ _ _)⟩

end Go.Proofs.Yteilmhlhddihpaa
