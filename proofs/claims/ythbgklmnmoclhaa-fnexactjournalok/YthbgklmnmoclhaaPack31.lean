/-
  Walks of chapter 6: the last index; LogTerm of an index that a right log has.
  Regions that draw their order, held: what is held may grow on the way.
-/
import Derived.Test.YthbgklmnmoclhaaWalk6b
import Derived.Deep.RegionHeld3
import Derived.Deep.DrawnRows
namespace Go.Proofs.Ythbgklmnmoclhaa
open Go.RowKit P1 P9 K
set_option linter.unusedVariables false
set_option linter.unusedSimpArgs false

theorem lastT_take {es : List EntV} {k : Nat} {f : EntV} (u : Int) (h : es[k]? = some f) : lastT u (es.take (k + 1)) = f.term := by
  have hk := (List.getElem?_eq_some_iff.1 h).1
  refine lastT_at (es.take (k + 1)) u k f (by rw [List.length_take]; omega) ?_
  rw [List.getElem?_take_of_lt (by omega)]
  exact h

/-- An index of the kind uint. -/
theorem RowsAt.idxU {w : World} {oa : Option Addr} {n cap : Nat} {es : List EntV} (h : EntsAt w oa n cap es) (i : Nat) (hin : i < n) {v : Value} (hx : ∀ wx, (Instr.indexAt 29 (.slice oa n cap) (.int .i64 (i : Int))).run Try.prog wx = .ok v wx) (wx : World) : (Instr.indexAt 29 (.slice oa n cap) (.int .u64 (i : Int))).run Try.prog wx = .ok v wx := by
  obtain ⟨x, hx1⟩ : ∃ x, es[i]? = some x := ⟨_, List.getElem?_eq_getElem (by rw [h.len]; exact hin)⟩
  obtain ⟨b, o, rfl, _⟩ := h.at_ i x hx1
  have h1 := hx wx
  have hc : 0 ≤ (i : Int) ∧ (i : Int) < (n : Int) := by omega
  rw [Go.run_indexAt_slice _ _ _ _ _ _ _ elemE, if_pos hc] at h1 ⊢
  exact h1

end Go.Proofs.Ythbgklmnmoclhaa

namespace Go.Proofs.Ythbgklmnmoclhaa.K
open Go

/-- To hold more is enough. -/
theorem held_more {P : Program} {md : Region.Mode} {ops : Array Oper} {Q : Exit → Act → World → Prop} {S S' : World → Prop} (h : ∀ w, S' w → S w) :
    ∀ (fuel : Nat) (listed : Array Bool) (a : Act) (w : World), wpAnyH P md ops Q S' fuel listed a w → wpAnyH P md ops Q S fuel listed a w
  | 0, _, _, _, k => k
  | fuel + 1, _, _, _, k => ⟨k.1, fun i hi => wpOp_mono (fun a' w' h' => ⟨h w' h'.1, held_more h fuel _ a' w' h'.2⟩) (k.2 i hi)⟩

end Go.Proofs.Ythbgklmnmoclhaa.K
