/-
  Walks and mathematics of RowK.
-/
import Derived.Test.YthieilmjbefamaaSInts
import Derived.Laws.OwnMore
import Derived.Deep.MidRow
namespace Go.Proofs.Ythieilmjbefamaa
open Go.RowKit K
set_option linter.unusedVariables false
set_option linter.unusedSimpArgs false

section
variable {α : Type} {k : Nat} {cf : α → List Value}

structure RowsAt (k : Nat) (cf : α → List Value) (w : World) (oa : Option Addr) (n cap : Nat) (xs : List α) : Prop where
  len : xs.length = n
  room : n ≤ cap
  most : cap ≤ maxLen
  at_ : ∀ (i : Nat) (x : α), xs[i]? = some x → ∃ b o, oa = some ⟨b, o, none⟩ ∧ ∀ (j : Nat) u, (cf x)[j]? = some u → w.cell? ⟨b, o + i * k + j, none⟩ = some u

theorem RowsAt.below {w w' : World} {oa : Option Addr} {n cap : Nat} {xs : List α} (h : RowsAt k cf w oa n cap xs) (hb : Below w.heap.size w w') : RowsAt k cf w' oa n cap xs :=
  ⟨h.len, h.room, h.most, fun i f hf => by
    obtain ⟨b, o, ha, hc⟩ := h.at_ i f hf
    refine ⟨b, o, ha, fun j u hu => ?_⟩
    have h1 := hc j u hu
    rw [hb.cell (cell_lt h1)]
    exact h1⟩

theorem RowsAt.get {w : World} {oa : Option Addr} {n cap : Nat} {xs : List α} (h : RowsAt k cf w oa n cap xs) {P : Program} {t e : TypeId} (ht : P.underlying t = some (.slice e)) (hi : (P.info? e).map (·.size) = some k) (hk : ∀ x, (cf x).length = k) (hp : 0 < k) (i : Nat) (hin : i < n) :
    ∃ x b q, xs[i]? = some x ∧ (∀ wx, (Instr.indexAt t (.slice oa n cap) (.int .i64 (i : Int))).run P wx = .ok (.pointer (some ⟨b, q, none⟩)) wx) ∧ b < w.heap.size ∧ ∀ (j : Nat) u, (cf x)[j]? = some u → w.cell? ⟨b, q + j, none⟩ = some u := by
  obtain ⟨x, hx⟩ : ∃ x, xs[i]? = some x := ⟨_, List.getElem?_eq_getElem (by rw [h.len]; exact hin)⟩
  obtain ⟨b, o, rfl, hc⟩ := h.at_ i x hx
  obtain ⟨u, hu⟩ : ∃ u, (cf x)[0]? = some u := ⟨_, List.getElem?_eq_getElem (by rw [hk]; exact hp)⟩
  exact ⟨x, b, o + i * k, hx, fun wx => run_indexAt_slice wx t e k ht hi b o n cap i hin, cell_lt (hc 0 u hu), hc⟩

end

end Go.Proofs.Ythieilmjbefamaa
