/-
  Facts at this translation that many walks use: bytes, texts as lists of bytes, an index into a text.
-/
import Derived.Test.YtckkfjmjcknjdaaGreatDoorRows
import Derived.Test.YtckkfjmjcknjdaaGreatDoorPlain1
import Derived.Test.YtckkfjmjcknjdaaGreatDoorKit
namespace Go.Proofs.YtckkfjmjcknjdaaGreatDoor
open Go.RowKit P1 K
set_option linter.unusedVariables false

theorem infoByte : (Tryz.prog.info? 5).map (fun i => (i.zero, i.size, i.bytes)) = some (some (.int .u8 0), 1, 1) := by kernel_rfl

theorem toNat_ofNat_small (x : Nat) (h : x < 256) : (UInt8.ofNat x).toNat = x := by
  simp [UInt8.toNat_ofNat']; omega

/-- The bytes of a text. -/
abbrev bl (s : ByteArray) : List UInt8 := s.data.toList

theorem bl_length (s : ByteArray) : (bl s).length = s.size := by simp

theorem bl_drop (s : ByteArray) (p : Nat) (h : p < s.size) : (bl s).drop p = s[p] :: (bl s).drop (p + 1) := by
  rw [List.drop_eq_getElem_cons (by simpa using h)]; rfl

theorem bl_take (s : ByteArray) (k : Nat) (h : k < s.size) : (bl s).take (k + 1) = (bl s).take k ++ [s[k]] := by
  rw [List.take_succ_eq_append_getElem (by simpa using h)]; rfl

/-- An index into a text, within its bounds. -/
theorem idx_any (s : ByteArray) (kd : IntKind) (k : Nat) (h : k < s.size) (wx : World) : (Instr.index 9 (.string s) (.int kd (k : Int))).run Tryz.prog wx = .ok (.int .u8 (s[k].toNat : Int)) wx := by
  rw [run_index_string (P := Tryz.prog) wx 9 s kd (k : Int) Tryz.underlying9, dif_pos ⟨by omega, by omega⟩]; rfl

/-- The sixteen figures as the program has them. -/
theorem idx_hex (kd : IntKind) (n : Nat) (h : n < 16) (wx : World) : (Instr.index 9 (.string ⟨#[48, 49, 50, 51, 52, 53, 54, 55, 56, 57, 97, 98, 99, 100, 101, 102]⟩) (.int kd (n : Int))).run Tryz.prog wx = .ok (.int .u8 ((figB n).toNat : Int)) wx := by
  rw [run_index_string (P := Tryz.prog) wx 9 _ kd (n : Int) Tryz.underlying9, dif_pos ⟨by omega, by show (n : Int) < 16; omega⟩]
  rcases (show n = 0 ∨ n = 1 ∨ n = 2 ∨ n = 3 ∨ n = 4 ∨ n = 5 ∨ n = 6 ∨ n = 7 ∨ n = 8 ∨ n = 9 ∨ n = 10 ∨ n = 11 ∨ n = 12 ∨ n = 13 ∨ n = 14 ∨ n = 15 by omega) with h | h | h | h | h | h | h | h | h | h | h | h | h | h | h | h <;> (subst h; rfl)

end Go.Proofs.YtckkfjmjcknjdaaGreatDoor
