/-
  Walks and mathematics of IntsMark.
-/
import Derived.Test.YtmllcomppjkhhaaDoorQbInts
import Derived.Test.YtmllcomppjkhhaaDoorQbPlain1
namespace Go.Proofs.YtmllcomppjkhhaaDoor.P5
end Go.Proofs.YtmllcomppjkhhaaDoor.P5
namespace Go.Proofs.YtmllcomppjkhhaaDoor
open Go.RowKit P5 P9 K
set_option linter.unusedVariables false
set_option linter.unusedSimpArgs false

theorem own_some {w : World} {base : Nat} {e : TypeId} {size : Nat} {v : Value} {n : Nat} {xs : List Value} (h : w.ownsRow base e size v (n + 1) xs) (hs : 0 < size) : ∃ g cap, v = .slice (some ⟨g, 0, none⟩) (n + 1) cap := by
  have h1 := h.1
  rcases h.2 with ⟨rfl, h2⟩ | ⟨g, cap, cur, rfl, _⟩
  · exact absurd h2 (Nat.succ_ne_zero n)
  · exact ⟨g, cap, rfl⟩

theorem wf_small {z : Int} (h0 : -1000000000 ≤ z) (h1 : z ≤ 1000000000000) : (Lit.int .i64 z).wf = true := by
  simp [Lit.wf, IntKind.min, IntKind.max, IntKind.signed, IntKind.bits]
  omega

end Go.Proofs.YtmllcomppjkhhaaDoor
