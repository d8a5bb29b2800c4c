/-
  Walks and mathematics of Walk3a.
-/
import Derived.Test.YtmllcomppjkhhaaDoorQbFlat
import Derived.Deep.Slices
import Derived.ChangeSame
import Derived.Test.YtmllcomppjkhhaaDoorRows
import Derived.WalkSmall
import Derived.Deep.MidRow
namespace Go.Proofs.YtmllcomppjkhhaaDoor.P5
end Go.Proofs.YtmllcomppjkhhaaDoor.P5
namespace Go.Proofs.YtmllcomppjkhhaaDoor
open Go.RowKit P5 K
set_option linter.unusedVariables false

theorem cell_lt {w : World} {p : Addr} {u : Value} (h : w.cell? p = some u) : p.block < w.heap.size := by
  rcases Nat.lt_or_ge p.block w.heap.size with h1 | h1
  · exact h1
  · simp [World.cell?, Array.getElem?_eq_none h1] at h

theorem cell_spot {w : World} {p : Addr} {u : Value} (h : w.cell? p = some u) : p.spot = none := by
  unfold World.cell? at h
  split at h
  · split at h
    · cases h
    · simp_all
  · cases h

theorem run_indexAt_slice {P : Program} (wx : World) (t e : TypeId) (k : Nat) (ht : P.underlying t = some (.slice e)) (hi : (P.info? e).map (·.size) = some k) (b o n cap i : Nat) (h : i < n) :
    (Instr.indexAt t (.slice (some ⟨b, o, none⟩) n cap) (.int .i64 (i : Int))).run P wx = .ok (.pointer (some ⟨b, o + i * k, none⟩)) wx := by
  cases hq : P.info? e with
  | none => simp [hq] at hi
  | some x =>
    have hs : x.size = k := by simpa [hq] using hi
    have h1 : (0 : Int) ≤ (i : Int) ∧ (i : Int) < (n : Int) := by omega
    simp [Instr.indexAt, asIntOf, Sem.run_bind, run_underlying ht wx, sizeOf, typeInfo, hq, hs, h1, h, Addr.add_mid]

end Go.Proofs.YtmllcomppjkhhaaDoor
