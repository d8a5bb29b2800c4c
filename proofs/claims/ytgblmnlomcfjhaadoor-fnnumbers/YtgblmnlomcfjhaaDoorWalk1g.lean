/-
  Walks of chapter 1: Unhex, of the specification and of the program.
-/
import Derived.Test.YtgblmnlomcfjhaaDoorBase
import Derived.Deep.RegionHeld3
import Derived.Deep.QuietTactic
import Derived.BigQuiet
import Derived.WalkSmall
namespace Go.Proofs.YtgblmnlomcfjhaaDoor
open Go.RowKit P1 K
set_option linter.unusedVariables false

/-- The number of a figure as the specification has it. -/
def hexI (b : Nat) : Int := match hexV b with | some v => (v : Int) | none => -1

theorem hexI_some {b v : Nat} (h : hexV b = some v) : hexI b = (v : Int) := by unfold hexI; rw [h]
theorem hexI_none {b : Nat} (h : hexV b = none) : hexI b = -1 := by unfold hexI; rw [h]

/-- The results of Unhex of a text of right length as values. -/
def uhVal (l : List UInt8) (v : Value) : Prop :=
  (hexTo l l.length ∧ v = .tuple #[.string ⟨(uhL l (l.length / 2)).toArray⟩, .bool true]) ∨ (¬ hexTo l l.length ∧ v = .tuple #[.string ⟨#[]⟩, .bool false])

theorem uhVal_one {l : List UInt8} {v v' : Value} (h : uhVal l v) (h' : uhVal l v') : v = v' := by
  rcases h with ⟨a, b⟩ | ⟨a, b⟩ <;> rcases h' with ⟨c, d⟩ | ⟨c, d⟩
  · rw [b, d]
  · exact absurd a c
  · exact absurd c a
  · rw [b, d]

theorem bl_getD (s : ByteArray) (k : Nat) (h : k < s.size) : (bl s).getD k 0 = s[k] := by
  rw [List.getD_eq_getElem?_getD, List.getElem?_eq_getElem (by rw [bl_length]; exact h)]; rfl

theorem implUnhex_no (s : ByteArray) (hs : s.size ≤ 1048576) (h : 40000 < s.size ∨ s.size % 2 = 1) (w : World) :
    Calls Tryd.prog 19 #[.string s] w fun e w' => e = .returned (.tuple #[.string ⟨#[]⟩, .bool false]) ∧ w = w' := by
  by_cases h0 : s.size % 2 = 1
  · have g2 : ((s.size : Int) % 2 != 0) = true := by simp; omega
    clear h0
    go_enter Tryd.func19, Tryd.ntmps19
    go_wp2_with fail
    go_step3
    go_wp2_with fail
    rw [Exit.noGoto_ret]
    go_ret2
    exact ⟨rfl, rfl⟩
  · have g2 : ((s.size : Int) % 2 != 0) = false := by simp; omega
    have h1 : 40000 < s.size := by omega
    clear h h0
    go_enter Tryd.func19, Tryd.ntmps19
    go_wp2_with fail
    go_step3
    go_wp2_with fail
    rw [Exit.noGoto_ret]
    go_ret2
    exact ⟨rfl, rfl⟩

end Go.Proofs.YtgblmnlomcfjhaaDoor
