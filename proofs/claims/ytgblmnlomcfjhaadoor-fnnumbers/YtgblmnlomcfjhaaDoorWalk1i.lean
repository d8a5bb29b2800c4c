/-
  Walks of chapter 1: Decimal, of the specification and of the program.
-/
import Derived.Test.YtgblmnlomcfjhaaDoorTab
import Derived.Test.YtgblmnlomcfjhaaDoorPlain2
import Derived.Test.YtgblmnlomcfjhaaDoorShelf
import Derived.WalkSmall
namespace Go.Proofs.YtgblmnlomcfjhaaDoor
open Go.RowKit P1 K
set_option linter.unusedVariables false

theorem below_grow {w : World} {k : Nat} {os : Array Obj} : Below w.heap.size w (Go.Sort.grow (w.drewN k) os) :=
  ⟨rfl, rfl, rfl, by simp [Go.Sort.grow], fun i hi => by simp [Go.Sort.grow, Array.getElem?_append_left hi]⟩

theorem implDecimal_any (n : Int) (h0 : -9223372036854775808 ≤ n) (h1 : n ≤ 9223372036854775807) (w : World) (htab : Lib.TabIs Tryd.prog w "internal/strconv.uint64pow10" .u64 Lib.pow10Tab) :
    Calls Tryd.prog 14 #[.int .i64 n] w fun e w' => e = .returned (.string ⟨(Lib.itoa n).toArray⟩) ∧ Below w.heap.size w w' := by
  go_enter Tryd.func14, Tryd.ntmps14
  go_wp2_with (go_at_call 32; refine (Tryd.strconv_Itoa n h0 h1 _ htab).mono ?_; rintro e w1 ⟨rfl, k, os, rfl⟩)
  go_ret
  exact ⟨rfl, below_grow⟩

end Go.Proofs.YtgblmnlomcfjhaaDoor
