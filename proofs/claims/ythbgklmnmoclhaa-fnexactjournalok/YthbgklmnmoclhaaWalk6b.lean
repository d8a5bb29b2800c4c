/-
  Walks of chapter 6: a piece of a log's entries; a copy of a log.
-/
import Derived.Test.YthbgklmnmoclhaaWalk6a
import Derived.Test.YthbgklmnmoclhaaPack15
import Derived.ArgAppend
namespace Go.Proofs.Ythbgklmnmoclhaa
open Go.RowKit P1 P9 K
set_option linter.unusedVariables false
set_option linter.unusedSimpArgs false

/-- Where a piece of a slice of entries begins. -/
def partA (oa : Option Addr) (l m : Nat) : Option Addr := if m = l then oa else oa.map (·.add (l * 3))

theorem RowsAt.piece {w : World} {oa : Option Addr} {n cap : Nat} {es : List EntV} (h : EntsAt w oa n cap es) (l r m : Nat) (hl : l ≤ r) (hr : r ≤ n) (hm : r ≤ m) (hc : m ≤ cap) : EntsAt w (partA oa l m) (r - l) (m - l) ((es.take r).drop l) := by
  refine ⟨by rw [List.length_drop, List.length_take, h.len]; omega, by omega, Nat.le_trans (by omega) h.most, fun k f hf => ?_⟩
  rw [List.getElem?_drop] at hf
  have hk : l + k < r := by have := (List.getElem?_eq_some_iff.1 hf).1; rw [List.length_take] at this; omega
  rw [List.getElem?_take_of_lt hk] at hf
  obtain ⟨b, o, rfl, hcell⟩ := h.at_ (l + k) f hf
  refine ⟨b, o + l * 3, by unfold partA; rw [if_neg (by omega), Option.map_some, Addr.add_mid], fun j u hu => ?_⟩
  have := hcell j u hu
  rw [← this]
  congr 2
  rw [Nat.add_mul]
  omega

theorem elemE : Try.prog.underlying 29 = some (.slice (Try.prog.elem 29)) := by kernel_rfl
theorem sizeE (w : World) : (sizeOf (Try.prog.elem 29)).run Try.prog w = .ok 3 w := by kernel_rfl

theorem run_piece (oa : Option Addr) (n cap : Nat) (x y z : Int) (l r m : Nat) (hx : x = l) (hy : y = r) (hz : z = m) (h1 : l ≤ r) (h2 : r ≤ m) (h3 : m ≤ cap) (w : World) :
    (Instr.slice 29 (.slice oa n cap) (some (.int .i64 x)) (some (.int .i64 y)) (some (.int .i64 z))).run Try.prog w = .ok (.slice (partA oa l m) (r - l) (m - l)) w := by
  subst hx hy hz
  rw [run_slice_lhm w 29 oa n cap elemE .i64 .i64 .i64 l r m (by omega) (by omega) (by omega) (by omega), sizeE]
  rfl

theorem run_piece_h (oa : Option Addr) (n cap : Nat) (y : Int) (r : Nat) (hy : y = r) (h2 : r ≤ cap) (w : World) :
    (Instr.slice 29 (.slice oa n cap) none (some (.int .i64 y)) none).run Try.prog w = .ok (.slice (partA oa 0 cap) (r - 0) (cap - 0)) w := by
  subst hy
  rw [run_slice_h w 29 oa n cap elemE .i64 r (by omega) (by omega), sizeE]
  rfl

theorem run_piece_l (oa : Option Addr) (n cap : Nat) (x : Int) (l : Nat) (hx : x = l) (h2 : l ≤ n) (w : World) :
    (Instr.slice 29 (.slice oa n cap) (some (.int .i64 x)) none none).run Try.prog w = .ok (.slice (partA oa l cap) (n - l) (cap - l)) w := by
  subst hx
  rw [run_slice_l w 29 oa n cap elemE .i64 l (by omega) (by omega), sizeE]
  rfl

/-- A log that is handed back: its entries lie in memory of the call's own. -/
def LogRes (w : World) (s u : Int) (es : List EntV) (e : Ending) (w' : World) : Prop :=
  ∃ v, e = .returned (lgv s u v) ∧ w'.ownsRow w.heap.size 45 3 v es.length (es.flatMap ecells) ∧ Below w.heap.size w w'

theorem set_grown (w : World) (p k : Nat) (v : Value) : w.grownBy (w.setCell ⟨p, k, none⟩ v) (some p) :=
  ⟨rfl, rfl, rfl, by simp [World.setCell], fun j hj hne => Below.heap_setCell _ _ _ _ (fun e => hne (by rw [e]))⟩

theorem own_setOther {w : World} {base : Nat} {e : TypeId} {size : Nat} {v : Value} {n : Nat} {xs : List Value} (h : w.ownsRow base e size v n xs) {p k : Nat} {u : Value} (hne : ∀ g, v.ownBlock = some g → g ≠ p) : (w.setCell ⟨p, k, none⟩ u).ownsRow base e size v n xs := by
  refine h.kept (set_grown w p k u) ?_
  cases hv : v.ownBlock with
  | none => exact Or.inl rfl
  | some g => exact Or.inr (fun e => hne g hv (Option.some.inj e))

theorem take_flat6 (es : List EntV) {j : Nat} {f : EntV} (h : es[j]? = some f) : (es.take j).flatMap ecells ++ ecells f = (es.take (j + 1)).flatMap ecells := by
  rw [List.take_add_one, h]
  simp

end Go.Proofs.Ythbgklmnmoclhaa
