/-
  Walks and mathematics of OpenMsg16.
-/
import Derived.Test.YtoalbeiinlcgpaaKOpenLog
import Derived.Test.YtoalbeiinlcgpaaKInts
import Derived.ChangeSlices
import Derived.WideShapes
namespace Go.Proofs.Ytoalbeiinlcgpaa.P5
end Go.Proofs.Ytoalbeiinlcgpaa.P5
namespace Go.Proofs.Ytoalbeiinlcgpaa
open Go.RowKit Go.Deep Go.ChangeShapes Go.WideShapes P1 P5 P9 K
set_option linter.unusedVariables false
set_option linter.unusedSimpArgs false

theorem ints_of16 {W : World} {x : Addr} {l c : Nat} {zs : List Int} (hl : l ≤ c) (hm : c ≤ maxLen) (hz : zs.length = c) (hcell : ∀ i, i < zs.length → W.cell? (x.add i) = some (.int .i64 (zs.getD i 0))) (hwz : ∀ z ∈ zs, (Lit.int .i64 z).wf = true) : IntsAt W (some x) l c (zs.take l) := by
  refine ⟨by simp; omega, hl, hm, fun z h => hwz z (List.mem_of_mem_take h), fun i z hi => ?_⟩
  have hin : i < l := by have := (List.getElem?_eq_some_iff.1 hi).1; simp at this; omega
  have hzi : zs[i]? = some z := by rw [List.getElem?_take_of_lt hin] at hi; exact hi
  have h1 := hcell i (by omega)
  have h2 : zs.getD i 0 = z := by simp [List.getD_eq_getElem?_getD, hzi]
  rw [h2] at h1
  have hsp : x.spot = none := by
    have h0 := hcell 0 (by omega)
    have h3 : W.cell? x = some (.int .i64 (zs.getD 0 0)) := by simpa [Addr.add] using h0
    exact cell_spot h3
  obtain ⟨bb, o, s⟩ := x
  simp only at hsp
  subst hsp
  rw [Addr.add_mid] at h1
  exact ⟨bb, o, rfl, h1⟩

theorem ints_nil16 (W : World) : IntsAt W none 0 0 [] := ⟨rfl, Nat.le_refl _, by unfold maxLen; omega, fun z hz => by simp at hz, fun i z hz => by simp at hz⟩

end Go.Proofs.Ytoalbeiinlcgpaa
