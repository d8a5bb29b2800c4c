/-
  Walks and mathematics of IntsMark, QuietIn.
-/
import Derived.Test.YtoalbeiinlcgpaaNInts
import Derived.Test.YtoalbeiinlcgpaaNPlain9
import Derived.BigQuiet
namespace Go.Proofs.Ytoalbeiinlcgpaa.P5
end Go.Proofs.Ytoalbeiinlcgpaa.P5
namespace Go.Proofs.Ytoalbeiinlcgpaa
open Go.RowKit P5 P9 K
set_option linter.unusedVariables false
set_option linter.unusedSimpArgs false

theorem own_some {w : World} {base : Nat} {e : TypeId} {size : Nat} {v : Value} {n : Nat} {xs : List Value} (h : w.ownsRow base e size v (n + 1) xs) (hs : 0 < size) : ∃ g cap, v = .slice (some ⟨g, 0, none⟩) (n + 1) cap := by
  have h1 := h.1
  rcases h.2 with ⟨rfl, h2⟩ | ⟨g, cap, cur, rfl, _⟩
  · exact absurd h2 (Nat.succ_ne_zero n)
  · exact ⟨g, cap, rfl⟩

theorem wf_small {z : Int} (h0 : -1000000000 ≤ z) (h1 : z ≤ 1000000000000) : (Lit.int .i64 z).wf = true := by
  simp [Lit.wf, IntKind.min, IntKind.max, IntKind.signed, IntKind.bits]
  omega

end Go.Proofs.Ytoalbeiinlcgpaa

namespace Go.Proofs.Ytoalbeiinlcgpaa.K
open Go

structure InW (F : World → Prop) where
  w : World
  h : F w

theorem wp_region_in {P : Program} {F : World → Prop} {id : Nat} {Q : Exit → Act → World → Prop} {a : Act} {w : World} {l : List Oper} (hm : P.follows .mixedOrders = true) (hB : Region.lexB .any l.toArray = true) (hF : F w.drew)
    (h : wpQuiet P l.toArray (fun w' => ∃ n : InW F, w' = n.w) (fun a' => ∀ w', (∃ n : InW F, w' = n.w) → Q .normal a' w') l a) : (Code.region id l.toArray true).wp P Q a w :=
  wp_region_quiet (C := fun w' => ∃ n : InW F, w' = n.w) hm hB ⟨⟨_, hF⟩, rfl⟩ (by simpa using h)

end Go.Proofs.Ytoalbeiinlcgpaa.K
