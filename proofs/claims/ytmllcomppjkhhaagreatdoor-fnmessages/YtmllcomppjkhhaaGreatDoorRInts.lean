/-
  Walks and mathematics of Ints.
-/
import Derived.Test.YtmllcomppjkhhaaGreatDoorRFlat
import Derived.Deep.RegionHeld3
import Derived.Deep.QuietTactic
import Derived.BigQuiet
namespace Go.Proofs.YtmllcomppjkhhaaGreatDoor.P5
end Go.Proofs.YtmllcomppjkhhaaGreatDoor.P5
namespace Go.Proofs.YtmllcomppjkhhaaGreatDoor
open Go.RowKit P5 K
set_option linter.unusedVariables false
set_option linter.unusedSimpArgs false

structure IntsAt (w : World) (oa : Option Addr) (n cap : Nat) (zs : List Int) : Prop where
  len : zs.length = n
  room : n ≤ cap
  most : cap ≤ maxLen
  fits : ∀ z ∈ zs, (Lit.int .i64 z).wf = true
  at_ : ∀ (i : Nat) (z : Int), zs[i]? = some z → ∃ b o, oa = some ⟨b, o, none⟩ ∧ w.cell? ⟨b, o + i, none⟩ = some (.int .i64 z)

theorem IntsAt.below {w w' : World} {oa : Option Addr} {n cap : Nat} {zs : List Int} (h : IntsAt w oa n cap zs) (hb : Below w.heap.size w w') : IntsAt w' oa n cap zs :=
  ⟨h.len, h.room, h.most, h.fits, fun i z hz => by
    obtain ⟨b, o, ha, hc⟩ := h.at_ i z hz
    exact ⟨b, o, ha, by rw [hb.cell (cell_lt hc)]; exact hc⟩⟩

theorem IntsAt.get {w : World} {oa : Option Addr} {n cap : Nat} {zs : List Int} (h : IntsAt w oa n cap zs) {P : Program} {t e : TypeId} (ht : P.underlying t = some (.slice e)) (hi : (P.info? e).map (·.size) = some 1) (i : Nat) (hin : i < n) :
    ∃ z b q, zs[i]? = some z ∧ (∀ wx, (Instr.indexAt t (.slice oa n cap) (.int .i64 (i : Int))).run P wx = .ok (.pointer (some ⟨b, q, none⟩)) wx) ∧ b < w.heap.size ∧ w.cell? ⟨b, q, none⟩ = some (.int .i64 z) ∧ (Lit.int .i64 z).wf = true := by
  obtain ⟨z, hz⟩ : ∃ z, zs[i]? = some z := ⟨_, List.getElem?_eq_getElem (by rw [h.len]; exact hin)⟩
  obtain ⟨b, o, rfl, hc⟩ := h.at_ i z hz
  refine ⟨z, b, o + i, hz, fun wx => ?_, cell_lt hc, hc, h.fits z (List.mem_of_getElem? hz)⟩
  have := run_indexAt_slice wx t e 1 ht hi b o n cap i hin
  rwa [Nat.mul_one] at this

def icell (z : Int) : Value := .int .i64 z

theorem intsAt_of_own {w : World} {base : Nat} {e : TypeId} {v : Value} {n : Nat} {zs : List Int} (h : w.ownsRow base e 1 v n (zs.map icell)) (hf : ∀ z ∈ zs, (Lit.int .i64 z).wf = true) :
    ∃ oa cap, v = .slice oa n cap ∧ IntsAt w oa n cap zs := by
  have hlen : zs.length = n := by have := h.1; simpa using this
  rcases h.2 with ⟨rfl, rfl⟩ | ⟨g, cap, cur, rfl, hb, hg, hnc, hcm, hcs, htake⟩
  · have : zs = [] := List.eq_nil_of_length_eq_zero hlen
    subst this
    exact ⟨none, 0, rfl, ⟨rfl, Nat.le_refl _, by unfold maxLen; omega, hf, fun i f hf => by simp at hf⟩⟩
  · refine ⟨some ⟨g, 0, none⟩, cap, rfl, ⟨hlen, hnc, hcm, hf, fun i z hz => ⟨g, 0, rfl, ?_⟩⟩⟩
    have hi : i < zs.length := (List.getElem?_eq_some_iff.1 hz).1
    rw [Nat.zero_add, h.cellAt i (by omega)]
    simp [hz, icell]

theorem infoI : (Tryz.prog.info? 3).map (·.size) = some 1 := by kernel_rfl

theorem infoIz : (Tryz.prog.info? 3).map (fun i => (i.zero, i.size, i.bytes)) = some (some (.int .i64 0), 1, 8) := by kernel_rfl

end Go.Proofs.YtmllcomppjkhhaaGreatDoor
