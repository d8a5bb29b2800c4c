/-
  Walks and mathematics of OpenInts.
-/
import Derived.Test.YtoalbeiinlcgpaaMInts
import Derived.ChangeSlices
import Derived.WideShapes
namespace Go.Proofs.Ytoalbeiinlcgpaa.P5
end Go.Proofs.Ytoalbeiinlcgpaa.P5
namespace Go.Proofs.Ytoalbeiinlcgpaa
open Go.RowKit Go.Deep Go.ChangeShapes Go.WideShapes P5 K
set_option linter.unusedVariables false

set_option maxRecDepth 100000 in
theorem ints_in {H : Type} {enc : TypeId × Value → H} {W : World} {r : Reach} {b0 : Nat} {v : Value} {d : DataW H} {p : List MemPlace} (hv : Value.okWide Try.prog W r b0 22 v) (h : DataW.Trod enc Try.prog W 0 (fun _ => true) true 22 v d p) :
    ∃ (oa : Option Addr) (n cap : Nat) (zs : List Int), v = .slice oa n cap ∧ IntsAt W oa n cap zs := by
  obtain ⟨oa, n, cap, rfl⟩ := okWide_slice Try.underlying22 hv
  obtain ⟨fuel, hf⟩ := h
  rcases open_ints Try.underlying22 Try.underlying3 (by kernel_rfl) hf with ⟨hcs, _⟩ | ⟨x, l, c, zs, hcs, _, hl, hm, hz, _, hcell, hwz⟩
  · simp [Value.cells] at hcs
    obtain ⟨rfl, rfl, rfl⟩ := hcs
    exact ⟨none, 0, 0, [], rfl, ⟨rfl, Nat.le_refl _, by unfold maxLen; omega, fun z hz => by simp at hz, fun i z hz => by simp at hz⟩⟩
  · simp [Value.cells] at hcs
    obtain ⟨rfl, rfl, rfl⟩ := hcs
    have hz' : zs.length = cap := by simpa using hz
    refine ⟨_, n, cap, zs.take n, rfl, ⟨by simp; omega, hl, hm, fun z h => hwz z (List.mem_of_mem_take h), fun i z hi => ?_⟩⟩
    have hin : i < n := by have := (List.getElem?_eq_some_iff.1 hi).1; simp at this; omega
    have hzi : zs[i]? = some z := by rw [List.getElem?_take_of_lt hin] at hi; exact hi
    have h1 := hcell i (by omega)
    have h2 : zs.getD i 0 = z := by simp [List.getD_eq_getElem?_getD, hzi]
    rw [h2] at h1
    have hsp : x.spot = none := by
      have h0 := hcell 0 (by omega)
      have h3 : W.cell? x = some (.int .i64 (zs.getD 0 0)) := by simpa [Addr.add] using h0
      exact cell_spot h3
    obtain ⟨b, o, s⟩ := x
    simp only at hsp
    subst hsp
    rw [Addr.add_mid] at h1
    exact ⟨b, o, rfl, h1⟩

end Go.Proofs.Ytoalbeiinlcgpaa
