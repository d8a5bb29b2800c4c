/-
  Walks of chapter 1: l01Var and VarText, of the specification and of the program.
-/
import Derived.Test.YtbhpalmbbhgamaaBase
namespace Go.Proofs.Ytbhpalmbbhgamaa
open Go.RowKit P1 K
set_option linter.unusedVariables false

/-- What the loop of l01Var and of VarText carries. -/
def VarRel (n : Nat) (w : World) (m : Nat) (v : Value) (wr : World) : Prop :=
  ∃ (f : Nat) (xs : List UInt8), m ≤ 1000000000 ∧ m < 128 ^ (f + 1) ∧ xs.length + f = 9 ∧ xs ++ varF f m = varB n ∧ wr.ownsRow w.heap.size 5 1 v xs.length (B8 xs) ∧ Below w.heap.size w wr

theorem VarRel.next {n m : Nat} {w w' : World} {v' : Value} (hm : m ≤ 1000000000) (hi : 127 < m) {f : Nat} {xs : List UInt8} (hf : m < 128 ^ (f + 1)) (hl : xs.length + f = 9) (hxs : xs ++ varF f m = varB n)
    (hown : w'.ownsRow w.heap.size 5 1 v' (xs.length + 1) (B8 xs ++ [.int .u8 ((m : Int) % 128 + 128)])) (hbel : Below w.heap.size w w') : VarRel n w (m / 128) v' w' := by
  obtain ⟨f', rfl, h1, h2⟩ := var_step f n m xs hf hxs hi
  refine ⟨f', xs ++ [UInt8.ofNat (m % 128 + 128)], by omega, h1, by simp; omega, h2, ?_, hbel⟩
  rw [B8_snoc xs (UInt8.ofNat (m % 128 + 128)) _ (by rw [toNat_ofNat_small _ (by omega)]; omega)] at hown
  simpa using hown

theorem var_last {n m : Nat} {w w' : World} {v' : Value} (lo : m ≤ 127) {f : Nat} {xs : List UInt8} (hxs : xs ++ varF f m = varB n)
    (hown : w'.ownsRow w.heap.size 5 1 v' (xs.length + 1) (B8 xs ++ [.int .u8 (m : Int)])) :
    w'.ownsRow w.heap.size 5 1 v' (xs.length + 1) (B8 (varB n)) := by
  rw [B8_snoc xs (UInt8.ofNat m) _ (by rw [toNat_ofNat_small _ (by omega)]), var_end f n m xs hxs lo] at hown
  exact hown

theorem l01In_yes (x a b : Int) (h0 : a ≤ x) (h1 : x ≤ b) (w : World) :
    Calls Try.prog 36 #[.int .i64 x, .int .i64 a, .int .i64 b] w fun e w' => e = .returned (.bool true) ∧ w = w' := by
  go_enter Try.func36, Try.ntmps36
  go_wp2
  go_ret
  exact ⟨rfl, rfl⟩

theorem l01In_no (x a b : Int) (h : x < a ∨ b < x) (w : World) :
    Calls Try.prog 36 #[.int .i64 x, .int .i64 a, .int .i64 b] w fun e w' => e = .returned (.bool false) ∧ w = w' := by
  by_cases h0 : x < a
  · go_enter Try.func36, Try.ntmps36
    go_wp2
    go_ret
    exact ⟨rfl, rfl⟩
  · have h1 : ¬ x ≤ b := by omega
    have h2 : a ≤ x := by omega
    clear h h0
    go_enter Try.func36, Try.ntmps36
    go_wp2
    go_ret
    exact ⟨rfl, rfl⟩

end Go.Proofs.Ytbhpalmbbhgamaa
