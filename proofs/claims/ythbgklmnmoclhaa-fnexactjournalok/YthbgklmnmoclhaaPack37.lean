/-
  Walks of chapter 1: Decimal, of the specification and of the program.
  Walks of chapter 1: ReadDecimal, of the specification and of the program.
-/
import Derived.Test.YthbgklmnmoclhaaPack28
import Derived.Test.YthbgklmnmoclhaaPlain2
import Derived.Test.YthbgklmnmoclhaaPack15
import Derived.WalkSmall
import Derived.Deep.RegionHeld3
import Derived.Deep.QuietTactic
import Derived.BigQuiet
import Derived.Lib.Strings
namespace Go.Proofs.Ythbgklmnmoclhaa
open Go.RowKit P1 K
set_option linter.unusedVariables false

theorem below_grow {w : World} {k : Nat} {os : Array Obj} : Below w.heap.size w (Go.Sort.grow (w.drewN k) os) :=
  ⟨rfl, rfl, rfl, by simp [Go.Sort.grow], fun i hi => by simp [Go.Sort.grow, Array.getElem?_append_left hi]⟩

end Go.Proofs.Ythbgklmnmoclhaa

namespace Go.Proofs.Ythbgklmnmoclhaa
open Go.RowKit P1 K
set_option linter.unusedVariables false

/-- The results of ReadDecimal as values. -/
def rdVal : Option Nat → Value
  | none => .tuple #[.int .i64 0, .bool false]
  | some n => .tuple #[.int .i64 (n : Int), .bool true]

theorem ret_rd_no {r : Option Nat} (h : r = none) : Ending.returned (.tuple #[.int .i64 0, .bool false]) = .returned (rdVal r) := by rw [h]; rfl
theorem ret_rd_yes {r : Option Nat} {n : Nat} {x : Int} (h : r = some n) (hx : x = (n : Int)) : Ending.returned (.tuple #[.int .i64 x, .bool true]) = .returned (rdVal r) := by rw [h, hx]; rfl

theorem mem_bl (s : ByteArray) (k : Nat) (h : k < s.size) : s[k] ∈ bl s := by
  have : (bl s)[k]'(by rw [bl_length]; exact h) = s[k] := rfl
  rw [← this]; exact List.getElem_mem _

theorem toList_bl (s : ByteArray) : s.toList = bl s := Lib.toList_data s

theorem bad_ne (s : ByteArray) (k : Nat) (h : k < s.size) (hf : s[k].toNat < 48 ∨ 57 < s[k].toNat) (n : Nat) : (Lib.itoa (n : Int) == s.toList) = false := by
  rw [toList_bl, Lib.itoa_nonneg, beq_eq_false_iff_ne]
  intro e
  have h1 := mem_bl s k h
  rw [← e] at h1
  have := dec_figures n _ h1
  omega

end Go.Proofs.Ythbgklmnmoclhaa
