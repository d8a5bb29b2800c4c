/-
  Facts at this translation that many walks use: bytes, texts as lists of bytes, an index into a text.
  Walks of chapter 1: l01Var and VarText, of the specification and of the program.
-/
import Derived.Test.YthbgklmnmoclhaaRows
import Derived.Test.YthbgklmnmoclhaaPlain1
import Derived.Test.YthbgklmnmoclhaaKit
namespace Go.Proofs.Ythbgklmnmoclhaa
open Go.RowKit P1 K
set_option linter.unusedVariables false

theorem infoByte : (Try.prog.info? 5).map (fun i => (i.zero, i.size, i.bytes)) = some (some (.int .u8 0), 1, 1) := by kernel_rfl

theorem toNat_ofNat_small (x : Nat) (h : x < 256) : (UInt8.ofNat x).toNat = x := by
  simp [UInt8.toNat_ofNat']; omega

/-- The bytes of a text. -/
abbrev bl (s : ByteArray) : List UInt8 := s.data.toList

theorem bl_length (s : ByteArray) : (bl s).length = s.size := by simp

theorem bl_drop (s : ByteArray) (p : Nat) (h : p < s.size) : (bl s).drop p = s[p] :: (bl s).drop (p + 1) := by
  rw [List.drop_eq_getElem_cons (by simpa using h)]; rfl

theorem bl_take (s : ByteArray) (k : Nat) (h : k < s.size) : (bl s).take (k + 1) = (bl s).take k ++ [s[k]] := by
  rw [List.take_succ_eq_append_getElem (by simpa using h)]; rfl

/-- An index into a text, within its bounds. -/
theorem idx_any (s : ByteArray) (kd : IntKind) (k : Nat) (h : k < s.size) (wx : World) : (Instr.index 9 (.string s) (.int kd (k : Int))).run Try.prog wx = .ok (.int .u8 (s[k].toNat : Int)) wx := by
  rw [run_index_string (P := Try.prog) wx 9 s kd (k : Int) Try.underlying9, dif_pos ⟨by omega, by omega⟩]; rfl

/-- The sixteen figures as the program has them. -/
theorem idx_hex (kd : IntKind) (n : Nat) (h : n < 16) (wx : World) : (Instr.index 9 (.string ⟨#[48, 49, 50, 51, 52, 53, 54, 55, 56, 57, 97, 98, 99, 100, 101, 102]⟩) (.int kd (n : Int))).run Try.prog wx = .ok (.int .u8 ((figB n).toNat : Int)) wx := by
  rw [run_index_string (P := Try.prog) wx 9 _ kd (n : Int) Try.underlying9, dif_pos ⟨by omega, by show (n : Int) < 16; omega⟩]
  rcases (show n = 0 ∨ n = 1 ∨ n = 2 ∨ n = 3 ∨ n = 4 ∨ n = 5 ∨ n = 6 ∨ n = 7 ∨ n = 8 ∨ n = 9 ∨ n = 10 ∨ n = 11 ∨ n = 12 ∨ n = 13 ∨ n = 14 ∨ n = 15 by omega) with h | h | h | h | h | h | h | h | h | h | h | h | h | h | h | h <;> (subst h; rfl)

end Go.Proofs.Ythbgklmnmoclhaa

namespace Go.Proofs.Ythbgklmnmoclhaa
open Go.RowKit P1 K
set_option linter.unusedVariables false

/-- What the loop of l01Var and of VarText carries. -/
def VarRel (n : Nat) (w : World) (m : Nat) (v : Value) (wr : World) : Prop :=
  ∃ (f : Nat) (xs : List UInt8), m ≤ 1000000000 ∧ m < 128 ^ (f + 1) ∧ xs.length + f = 9 ∧ xs ++ varF f m = varB n ∧ wr.ownsRow w.heap.size 5 1 v xs.length (B8 xs) ∧ Below w.heap.size w wr

theorem VarRel.next {n m : Nat} {w w' : World} {v' : Value} (hm : m ≤ 1000000000) (hi : 127 < m) {f : Nat} {xs : List UInt8} (hf : m < 128 ^ (f + 1)) (hl : xs.length + f = 9) (hxs : xs ++ varF f m = varB n)
    (hown : w'.ownsRow w.heap.size 5 1 v' (xs.length + 1) (B8 xs ++ [.int .u8 ((m : Int) % 128 + 128)])) (hbel : Below w.heap.size w w') : VarRel n w (m / 128) v' w' := by
  obtain ⟨f', rfl, h1, h2⟩ := var_step f n m xs hf hxs hi
  refine ⟨f', xs ++ [UInt8.ofNat (m % 128 + 128)], by omega, h1, by simp; omega, h2, ?_, hbel⟩
  rw [B8_snoc xs (UInt8.ofNat (m % 128 + 128)) _ (by rw [toNat_ofNat_small _ (by omega)]; omega)] at hown
  simpa using hown

theorem var_last {n m : Nat} {w w' : World} {v' : Value} (lo : m ≤ 127) {f : Nat} {xs : List UInt8} (hxs : xs ++ varF f m = varB n)
    (hown : w'.ownsRow w.heap.size 5 1 v' (xs.length + 1) (B8 xs ++ [.int .u8 (m : Int)])) :
    w'.ownsRow w.heap.size 5 1 v' (xs.length + 1) (B8 (varB n)) := by
  rw [B8_snoc xs (UInt8.ofNat m) _ (by rw [toNat_ofNat_small _ (by omega)]), var_end f n m xs hxs lo] at hown
  exact hown

theorem l01In_yes (x a b : Int) (h0 : a ≤ x) (h1 : x ≤ b) (w : World) :
    Calls Try.prog 10 #[.int .i64 x, .int .i64 a, .int .i64 b] w fun e w' => e = .returned (.bool true) ∧ w = w' := by
  go_enter Try.func10, Try.ntmps10
  go_wp2
  go_ret
  exact ⟨rfl, rfl⟩

theorem l01In_no (x a b : Int) (h : x < a ∨ b < x) (w : World) :
    Calls Try.prog 10 #[.int .i64 x, .int .i64 a, .int .i64 b] w fun e w' => e = .returned (.bool false) ∧ w = w' := by
  by_cases h0 : x < a
  · go_enter Try.func10, Try.ntmps10
    go_wp2
    go_ret
    exact ⟨rfl, rfl⟩
  · have h1 : ¬ x ≤ b := by omega
    have h2 : a ≤ x := by omega
    clear h h0
    go_enter Try.func10, Try.ntmps10
    go_wp2
    go_ret
    exact ⟨rfl, rfl⟩

end Go.Proofs.Ythbgklmnmoclhaa
