/-
  Walks and mathematics of Short1.
-/
import Derived.Test.YtmllcomppjkhhaaDoorQbPlain1
import Derived.Test.YtmllcomppjkhhaaDoorQbWalk1a
import Derived.Deep.RegionWith
import Derived.Deep.RegionHeld3
import Derived.Deep.QuietTactic
import Derived.BigQuiet
import Derived.WalkSmall
import Derived.Lib.Strings
import Derived.Test.YtmllcomppjkhhaaDoorQbBase
import Derived.Lib.SmallJoins
namespace Go.Proofs.YtmllcomppjkhhaaDoor.P3
end Go.Proofs.YtmllcomppjkhhaaDoor.P3
namespace Go.Proofs.YtmllcomppjkhhaaDoor
open Go.RowKit P1 P3 P9 P11 K
set_option linter.unusedVariables false
set_option linter.unusedSimpArgs false

theorem cat_two8 (x y : List UInt8) : (⟨x.toArray⟩ : ByteArray) ++ ⟨y.toArray⟩ = ⟨(x ++ y).toArray⟩ := by
  apply ByteArray.ext
  simp

theorem size_mk8 (l : List UInt8) : (⟨l.toArray⟩ : ByteArray).size = l.length := rfl

theorem shortB_length (l : List UInt8) : (shortB l).length ≤ l.length + 10 ∧ l.length ≤ (shortB l).length := by
  have := varB_length l.length
  simp only [shortB, List.length_append]
  omega

theorem l05Short_any (l : List UInt8) (hl : l.length ≤ 1048576) (w : World) :
    Calls Tryd.prog 35 #[.string ⟨l.toArray⟩] w fun e w' => e = .returned (.string ⟨(shortB l).toArray⟩) ∧ Below w.heap.size w w' := by
  have hv := varB_length l.length
  have C := cat_two8 (varB l.length) l
  have HV := hide (l01Var_any l.length (by omega))
  go_enter Tryd.func35, Tryd.ntmps35
  go_wp2_with (go_at_call 32; refine (HV.out _).mono ?_; rintro e w1 ⟨rfl, hb1⟩)
  go_ret
  exact ⟨rfl, hb1⟩

end Go.Proofs.YtmllcomppjkhhaaDoor
