/-
  Walks of chapter 5: what an entry says: contentOf, kindOf, data.
-/
import Derived.Test.YtboahofacjdppaaWalk5b
import Derived.Test.YtboahofacjdppaaWalkClone
namespace Go.Proofs.Ytboahofacjdppaa
open Go.RowKit P1 P9 K
set_option linter.unusedVariables false
set_option linter.unusedSimpArgs false

/-- What an entry of a kind says, as a value of the interface. -/
def ContAt (w : World) (k : Int) (s : ByteArray) (v : Value) : Prop :=
  (k = 1 ∧ s = ⟨#[]⟩ ∧ v = .iface 72 (.agg #[])) ∨
  (k = 2 ∧ confOk (confZ (bl s)) = true ∧ ∃ g cap, v = .iface 73 (.slice (some ⟨g, 0, none⟩) s.size cap) ∧ IntsAt w (some ⟨g, 0, none⟩) s.size cap (confZ (bl s))) ∨
  (k = 3 ∧ s.size ≤ 120 ∧ v = .iface 74 (.string s))

theorem ContAt.below {w w' : World} {k : Int} {s : ByteArray} {v : Value} (h : ContAt w k s v) (hb : Below w.heap.size w w') : ContAt w' k s v := by
  rcases h with h | ⟨h1, h2, g, cap, h3, h4⟩ | h
  · exact Or.inl h
  · exact Or.inr (Or.inl ⟨h1, h2, g, cap, h3, h4.below hb⟩)
  · exact Or.inr (Or.inr h)


theorem ta11 (w : World) (v : Value) : (Instr.typeAssert (.iface 72 v) 64 72 true).run Try.prog w = .ok (.tuple #[v, .bool true]) w := by kernel_rfl
theorem ta21 (w : World) (v : Value) : (Instr.typeAssert (.iface 73 v) 64 72 true).run Try.prog w = .ok (.tuple #[.agg #[], .bool false]) w := by kernel_rfl
theorem ta22 (w : World) (v : Value) : (Instr.typeAssert (.iface 73 v) 64 73 true).run Try.prog w = .ok (.tuple #[v, .bool true]) w := by kernel_rfl
theorem ta31 (w : World) (v : Value) : (Instr.typeAssert (.iface 74 v) 64 72 true).run Try.prog w = .ok (.tuple #[.agg #[], .bool false]) w := by kernel_rfl
theorem ta32 (w : World) (v : Value) : (Instr.typeAssert (.iface 74 v) 64 73 true).run Try.prog w = .ok (.tuple #[.slice none 0 0, .bool false]) w := by kernel_rfl
theorem ta33 (w : World) (v : Value) : (Instr.typeAssert (.iface 74 v) 64 74 true).run Try.prog w = .ok (.tuple #[v, .bool true]) w := by kernel_rfl

end Go.Proofs.Ytboahofacjdppaa
