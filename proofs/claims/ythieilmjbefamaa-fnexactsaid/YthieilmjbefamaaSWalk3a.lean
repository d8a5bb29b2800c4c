/-
  Walks and mathematics of Walk3a.
-/
import Derived.Test.YthieilmjbefamaaSArgFlat
import Derived.Test.YthieilmjbefamaaRows
import Derived.WalkSmall
import Derived.Deep.MidRow
namespace Go.Proofs.Ythieilmjbefamaa
open Go.RowKit P5 K
set_option linter.unusedVariables false

theorem cell_lt {w : World} {p : Addr} {u : Value} (h : w.cell? p = some u) : p.block < w.heap.size := by
  rcases Nat.lt_or_ge p.block w.heap.size with h1 | h1
  · exact h1
  · simp [World.cell?, Array.getElem?_eq_none h1] at h

theorem cell_spot {w : World} {p : Addr} {u : Value} (h : w.cell? p = some u) : p.spot = none := by
  unfold World.cell? at h
  split at h
  · split at h
    · cases h
    · simp_all
  · cases h

structure FilesAt (w : World) (oa : Option Addr) (n cap : Nat) (fs : List FileV) : Prop where
  len : fs.length = n
  room : n ≤ cap
  most : cap ≤ maxLen
  at_ : ∀ (i : Nat) (f : FileV), fs[i]? = some f → ∃ b o, oa = some ⟨b, o, none⟩ ∧ ∀ (j : Nat) u, (fcells f)[j]? = some u → w.cell? ⟨b, o + i * 3 + j, none⟩ = some u

theorem FilesAt.below {w w' : World} {oa : Option Addr} {n cap : Nat} {fs : List FileV} (h : FilesAt w oa n cap fs) (hb : Below w.heap.size w w') : FilesAt w' oa n cap fs :=
  ⟨h.len, h.room, h.most, fun i f hf => by
    obtain ⟨b, o, ha, hc⟩ := h.at_ i f hf
    refine ⟨b, o, ha, fun j u hu => ?_⟩
    have h1 := hc j u hu
    rw [hb.cell (cell_lt h1)]
    exact h1⟩

theorem run_indexAt_slice {P : Program} (wx : World) (t e : TypeId) (k : Nat) (ht : P.underlying t = some (.slice e)) (hi : (P.info? e).map (·.size) = some k) (b o n cap i : Nat) (h : i < n) :
    (Instr.indexAt t (.slice (some ⟨b, o, none⟩) n cap) (.int .i64 (i : Int))).run P wx = .ok (.pointer (some ⟨b, o + i * k, none⟩)) wx := by
  cases hq : P.info? e with
  | none => simp [hq] at hi
  | some x =>
    have hs : x.size = k := by simpa [hq] using hi
    have h1 : (0 : Int) ≤ (i : Int) ∧ (i : Int) < (n : Int) := by omega
    simp [Instr.indexAt, asIntOf, Sem.run_bind, run_underlying ht wx, sizeOf, typeInfo, hq, hs, h1, h, Addr.add_mid]

theorem FilesAt.get {w : World} {oa : Option Addr} {n cap : Nat} {fs : List FileV} (h : FilesAt w oa n cap fs) {P : Program} {t e : TypeId} (ht : P.underlying t = some (.slice e)) (hi : (P.info? e).map (·.size) = some 3) (i : Nat) (hin : i < n) :
    ∃ f b q, fs[i]? = some f ∧ (∀ wx, (Instr.indexAt t (.slice oa n cap) (.int .i64 (i : Int))).run P wx = .ok (.pointer (some ⟨b, q, none⟩)) wx) ∧ b < w.heap.size ∧
      w.cell? ⟨b, q, none⟩ = some (.string ⟨f.name.toArray⟩) ∧ w.cell? ⟨b, q + 1, none⟩ = some (.string ⟨f.text.toArray⟩) ∧ w.cell? ⟨b, q + 2, none⟩ = some (.int .i64 f.kept) := by
  obtain ⟨f, hf⟩ : ∃ f, fs[i]? = some f := ⟨_, List.getElem?_eq_getElem (by rw [h.len]; exact hin)⟩
  obtain ⟨b, o, rfl, hc⟩ := h.at_ i f hf
  refine ⟨f, b, o + i * 3, hf, fun wx => run_indexAt_slice wx t e 3 ht hi b o n cap i hin, ?_, hc 0 _ rfl, hc 1 _ rfl, hc 2 _ rfl⟩
  exact cell_lt (hc 0 _ rfl)

end Go.Proofs.Ythieilmjbefamaa
