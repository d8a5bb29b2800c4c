/-
  Walks of chapter 2: SumMore and SumOf of the specification.
  Walks of chapter 2: SumMore and SumOf of the program, over its table of halves.
  Walks of chapter 2: a sum in four bytes; Sealed, of the specification and of the program.
-/
import Derived.Test.YthbgklmnmoclhaaPack11
import Derived.Test.YthbgklmnmoclhaaPlain3
import Derived.WalkSmall
import Derived.Lib.LaidTab
namespace Go.Proofs.Ythbgklmnmoclhaa
open Go.RowKit P1 K P3
set_option linter.unusedVariables false

theorem wrap_u32 (n : Int) : IntKind.u32.wrap n = n % 4294967296 := by simp [IntKind.wrap, IntKind.bits, IntKind.signed]

theorem xor_u32 (a b : Nat) (ha : a < 4294967296) (hb : b < 4294967296) : bits .xor .u32 (a : Int) (b : Int) = ((a ^^^ b : Nat) : Int) := by
  have hx : a ^^^ b < 2 ^ 32 := Nat.xor_lt_two_pow (by omega) (by omega)
  have h1 : (BitVec.ofInt 32 (a : Int)).toNat = a := by
    rw [BitVec.ofInt_natCast, BitVec.toNat_ofNat]; exact Nat.mod_eq_of_lt (by omega)
  have h2 : (BitVec.ofInt 32 (b : Int)).toNat = b := by
    rw [BitVec.ofInt_natCast, BitVec.toNat_ofNat]; exact Nat.mod_eq_of_lt (by omega)
  show IntKind.u32.wrap ((BitVec.ofInt 32 (a : Int) ^^^ BitVec.ofInt 32 (b : Int)).toNat : Int) = _
  rw [BitVec.toNat_xor, h1, h2, wrap_u32]
  omega

theorem half_odd {s : Nat} (h : s % 2 = 1) (hs : s < 4294967296) : bits .xor .u32 ((s : Int) / 2) 3558460437 = (half s : Int) := by
  have := xor_u32 (s / 2) 3558460437 (by omega) (by decide)
  unfold half
  rw [if_pos h]
  exact this

theorem half_ev {s : Nat} (h : s % 2 ≠ 1) : (s : Int) / 2 = (half s : Int) := by
  unfold half
  rw [if_neg h]
  rfl

end Go.Proofs.Ythbgklmnmoclhaa

namespace Go.Proofs.Ythbgklmnmoclhaa
open Go.RowKit P1 K P3
set_option linter.unusedVariables false

/-- The table as it must stand: what four steps make of each four bits. -/
def sumTab : List Int := (List.range 16).map fun i => (halfs 4 i : Int)

abbrev SumTabIs (w : World) : Prop := Lib.TabIs Try.prog w "loop.example/g00127/impl.sumHalves" .u32 sumTab

theorem four_u32 (m : Nat) (hm : m < 4294967296) : bits .xor .u32 ((m : Int) / 16) (halfs 4 (m % 16) : Int) = (halfs 4 m : Int) := by
  have := xor_u32 (m / 16) (halfs 4 (m % 16)) (by omega) (halfs_lt 4 _ (by omega))
  rw [four_split m]
  exact this

def halfs4 (j m : Nat) : Nat := halfs (4 * j) m

theorem halfs4_lt (j m : Nat) (h : m < 4294967296) : halfs4 j m < 4294967296 := halfs_lt _ _ h
theorem halfs4_succ (j m : Nat) : halfs4 (j + 1) m = halfs 4 (halfs4 j m) := by unfold halfs4; rw [← halfs_add]; rfl

end Go.Proofs.Ythbgklmnmoclhaa

namespace Go.Proofs.Ythbgklmnmoclhaa
open Go.RowKit P1 K P3
set_option linter.unusedVariables false

/-- The four bytes as the program reckons them. -/
abbrev four (n : Nat) : Array Value := #[.int .u8 ((n : Int) / 16777216), .int .u8 ((n : Int) / 65536 % 256), .int .u8 ((n : Int) / 256 % 256), .int .u8 ((n : Int) % 256)]

theorem four_eq (n : Nat) (hn : n < 4294967296) : four n = (B8 (be32 n)).toArray := by
  have f : ∀ x : Nat, ((UInt8.ofNat x).toNat : Int) = (x : Int) % 256 := fun x => by simp [UInt8.toNat_ofNat']
  simp only [four, B8, be32, List.map_cons, List.map_nil, f]
  congr 2
  · congr 1; omega

/-- The results of Sealed as values. -/
def sealVal (l : List UInt8) : Value := if l.length ≤ 20000 then .tuple #[.string ⟨(sealL l).toArray⟩, .bool true] else .tuple #[.string ⟨#[]⟩, .bool false]

theorem sealVal_yes {l : List UInt8} (h : l.length ≤ 20000) : sealVal l = .tuple #[.string ⟨(sealL l).toArray⟩, .bool true] := if_pos h
theorem sealVal_no {l : List UInt8} (h : 20000 < l.length) : sealVal l = .tuple #[.string ⟨#[]⟩, .bool false] := if_neg (by omega)

theorem cat_seal (s : ByteArray) : s ++ (⟨(be32 (sumOfL (bl s))).toArray⟩ : ByteArray) = ⟨(sealL (bl s)).toArray⟩ := by
  apply ByteArray.ext
  simp [sealL]

end Go.Proofs.Ythbgklmnmoclhaa
