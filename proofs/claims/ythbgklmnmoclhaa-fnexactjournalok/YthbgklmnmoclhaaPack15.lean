/-
  Contracts of library functions, laid at this translation by the guide's command, in plain words.
  strings.Clone, out of the shelf's contract of what it calls.
  Walks of chapter 5: what an entry says: contentOf, kindOf, data.
-/
import Derived.Shelf.Lay
import Derived.Shelf.LaySoft
import Derived.Test.YthbgklmnmoclhaaProg
import Derived.Test.YthbgklmnmoclhaaPack11
import Derived.Test.YthbgklmnmoclhaaWalk5b
namespace Go.Proofs
open Go.Shelf
shelf_tried
end Go.Proofs

namespace Go.Proofs.Ythbgklmnmoclhaa
open Go.RowKit P1 K

end Go.Proofs.Ythbgklmnmoclhaa

namespace Go.Proofs.Ythbgklmnmoclhaa
open Go.RowKit P1 P9 K
set_option linter.unusedVariables false
set_option linter.unusedSimpArgs false

/-- What an entry of a kind says, as a value of the interface. -/
def ContAt (w : World) (k : Int) (s : ByteArray) (v : Value) : Prop :=
  (k = 1 ∧ s = ⟨#[]⟩ ∧ v = .iface 61 (.agg #[])) ∨
  (k = 2 ∧ confOk (confZ (bl s)) = true ∧ ∃ g cap, v = .iface 62 (.slice (some ⟨g, 0, none⟩) s.size cap) ∧ IntsAt w (some ⟨g, 0, none⟩) s.size cap (confZ (bl s))) ∨
  (k = 3 ∧ s.size ≤ 120 ∧ v = .iface 63 (.string s))

theorem ContAt.below {w w' : World} {k : Int} {s : ByteArray} {v : Value} (h : ContAt w k s v) (hb : Below w.heap.size w w') : ContAt w' k s v := by
  rcases h with h | ⟨h1, h2, g, cap, h3, h4⟩ | h
  · exact Or.inl h
  · exact Or.inr (Or.inl ⟨h1, h2, g, cap, h3, h4.below hb⟩)
  · exact Or.inr (Or.inr h)


theorem ta11 (w : World) (v : Value) : (Instr.typeAssert (.iface 61 v) 55 61 true).run Try.prog w = .ok (.tuple #[v, .bool true]) w := by kernel_rfl
theorem ta21 (w : World) (v : Value) : (Instr.typeAssert (.iface 62 v) 55 61 true).run Try.prog w = .ok (.tuple #[.agg #[], .bool false]) w := by kernel_rfl
theorem ta22 (w : World) (v : Value) : (Instr.typeAssert (.iface 62 v) 55 62 true).run Try.prog w = .ok (.tuple #[v, .bool true]) w := by kernel_rfl
theorem ta31 (w : World) (v : Value) : (Instr.typeAssert (.iface 63 v) 55 61 true).run Try.prog w = .ok (.tuple #[.agg #[], .bool false]) w := by kernel_rfl
theorem ta32 (w : World) (v : Value) : (Instr.typeAssert (.iface 63 v) 55 62 true).run Try.prog w = .ok (.tuple #[.slice none 0 0, .bool false]) w := by kernel_rfl
theorem ta33 (w : World) (v : Value) : (Instr.typeAssert (.iface 63 v) 55 63 true).run Try.prog w = .ok (.tuple #[v, .bool true]) w := by kernel_rfl

end Go.Proofs.Ythbgklmnmoclhaa
