/-
  Slices of numbers that a call owns: pushed to, marked, and the marks read again.
-/
import Derived.Test.YtbhpalmbbhgamaaInts
import Derived.Test.YtbhpalmbbhgamaaPkPlain1
namespace Go.Proofs.Ytbhpalmbbhgamaa
open Go.RowKit P5 P9 K
set_option linter.unusedVariables false
set_option linter.unusedSimpArgs false

/-- A row that is owned and not empty lies somewhere. -/
theorem own_some {w : World} {base : Nat} {e : TypeId} {size : Nat} {v : Value} {n : Nat} {xs : List Value} (h : w.ownsRow base e size v (n + 1) xs) (hs : 0 < size) : ∃ g cap, v = .slice (some ⟨g, 0, none⟩) (n + 1) cap := by
  have h1 := h.1
  rcases h.2 with ⟨rfl, h2⟩ | ⟨g, cap, cur, rfl, _⟩
  · exact absurd h2 (Nat.succ_ne_zero n)
  · exact ⟨g, cap, rfl⟩

/-- The marks k, k + 1 .. of n places. -/
def marksI (k n : Nat) : List Int := (List.range n).map fun i => ((k + i : Nat) : Int)

theorem marksI_length (k n : Nat) : (marksI k n).length = n := by simp [marksI]
theorem marksI_at (k n j : Nat) (h : j < n) : (marksI k n)[j]? = some ((k + j : Nat) : Int) := by simp [marksI, h]

theorem marksI_step (k j n : Nat) (xs : List Value) (hl : xs.length = n) (hj : j < n) : ((marksI k j).map icell ++ xs.drop j).set j (.int .i64 ((k + j : Nat) : Int)) = (marksI k (j + 1)).map icell ++ xs.drop (j + 1) := by
  have e1 : xs.drop j = xs[j] :: xs.drop (j + 1) := List.drop_eq_getElem_cons (by omega)
  have e2 : marksI k (j + 1) = marksI k j ++ [((k + j : Nat) : Int)] := by simp [marksI, List.range_succ]
  rw [e2, List.set_append_right _ _ (by simp [marksI_length]), List.map_append, List.length_map, marksI_length, Nat.sub_self, e1, List.set_cons_zero]
  simp [icell]

theorem wf_small {z : Int} (h0 : -1000000000 ≤ z) (h1 : z ≤ 1000000000000) : (Lit.int .i64 z).wf = true := by
  simp [Lit.wf, IntKind.min, IntKind.max, IntKind.signed, IntKind.bits]
  omega

theorem marksI_wf (k n : Nat) (hk : k ≤ 1000000000) (hn : n ≤ 1048576) : ∀ z ∈ marksI k n, (Lit.int .i64 z).wf = true := by
  intro z hz
  simp only [marksI, List.mem_map, List.mem_range] at hz
  obtain ⟨i, hi, rfl⟩ := hz
  exact wf_small (by omega) (by omega)

end Go.Proofs.Ytbhpalmbbhgamaa
