/-
  Walks and mathematics of Base.
-/
import Derived.Test.YtckkfjmjcknjdaaGreatDoorRows
import Derived.Test.YtckkfjmjcknjdaaGreatDoorRCPlain1
import Derived.Test.YtckkfjmjcknjdaaGreatDoorRCKit
namespace Go.Proofs.YtckkfjmjcknjdaaGreatDoor
open Go.RowKit P1 K
set_option linter.unusedVariables false

theorem infoByte : (Tryz.prog.info? 5).map (fun i => (i.zero, i.size, i.bytes)) = some (some (.int .u8 0), 1, 1) := by kernel_rfl

theorem toNat_ofNat_small (x : Nat) (h : x < 256) : (UInt8.ofNat x).toNat = x := by
  simp [UInt8.toNat_ofNat']; omega

abbrev bl (s : ByteArray) : List UInt8 := s.data.toList

theorem bl_length (s : ByteArray) : (bl s).length = s.size := by simp

theorem bl_drop (s : ByteArray) (p : Nat) (h : p < s.size) : (bl s).drop p = s[p] :: (bl s).drop (p + 1) := by
  rw [List.drop_eq_getElem_cons (by simpa using h)]; rfl

theorem idx_any (s : ByteArray) (kd : IntKind) (k : Nat) (h : k < s.size) (wx : World) : (Instr.index 9 (.string s) (.int kd (k : Int))).run Tryz.prog wx = .ok (.int .u8 (s[k].toNat : Int)) wx := by
  rw [run_index_string (P := Tryz.prog) wx 9 s kd (k : Int) Tryz.underlying9, dif_pos ⟨by omega, by omega⟩]; rfl

end Go.Proofs.YtckkfjmjcknjdaaGreatDoor
