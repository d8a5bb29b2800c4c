/-
  Walks and mathematics of Base.
-/
import Derived.Test.YtmllcomppjkhhaaDoorRows
import Derived.Test.YtmllcomppjkhhaaDoorQbPlain1
import Derived.Test.YtmllcomppjkhhaaDoorQbKit
namespace Go.Proofs.YtmllcomppjkhhaaDoor
open Go.RowKit P1 K
set_option linter.unusedVariables false

theorem infoByte : (Tryd.prog.info? 5).map (fun i => (i.zero, i.size, i.bytes)) = some (some (.int .u8 0), 1, 1) := by kernel_rfl

theorem toNat_ofNat_small (x : Nat) (h : x < 256) : (UInt8.ofNat x).toNat = x := by
  simp [UInt8.toNat_ofNat']; omega

abbrev bl (s : ByteArray) : List UInt8 := s.data.toList

theorem bl_length (s : ByteArray) : (bl s).length = s.size := by simp

theorem bl_take (s : ByteArray) (k : Nat) (h : k < s.size) : (bl s).take (k + 1) = (bl s).take k ++ [s[k]] := by
  rw [List.take_succ_eq_append_getElem (by simpa using h)]; rfl

theorem idx_any (s : ByteArray) (kd : IntKind) (k : Nat) (h : k < s.size) (wx : World) : (Instr.index 9 (.string s) (.int kd (k : Int))).run Tryd.prog wx = .ok (.int .u8 (s[k].toNat : Int)) wx := by
  rw [run_index_string (P := Tryd.prog) wx 9 s kd (k : Int) Tryd.underlying9, dif_pos ⟨by omega, by omega⟩]; rfl

end Go.Proofs.YtmllcomppjkhhaaDoor
