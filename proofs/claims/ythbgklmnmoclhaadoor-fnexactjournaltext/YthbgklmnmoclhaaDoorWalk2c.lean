/-
  Walks of chapter 2: a sum in four bytes; Sealed, of the specification and of the program.
-/
import Derived.Test.YthbgklmnmoclhaaDoorWalk2b
namespace Go.Proofs.YthbgklmnmoclhaaDoor
open Go.RowKit P1 K P3
set_option linter.unusedVariables false

/-- The four bytes as the program reckons them. -/
abbrev four (n : Nat) : Array Value := #[.int .u8 ((n : Int) / 16777216), .int .u8 ((n : Int) / 65536 % 256), .int .u8 ((n : Int) / 256 % 256), .int .u8 ((n : Int) % 256)]

theorem four_eq (n : Nat) (hn : n < 4294967296) : four n = (B8 (be32 n)).toArray := by
  have f : ∀ x : Nat, ((UInt8.ofNat x).toNat : Int) = (x : Int) % 256 := fun x => by simp [UInt8.toNat_ofNat']
  simp only [four, B8, be32, List.map_cons, List.map_nil, f]
  congr 2
  · congr 1; omega

theorem run_four (t : TypeId) (n : Nat) (hn : n < 4294967296) (w : World) :
    (convert 70 9 (.slice (some ⟨w.heap.size, 0, none⟩) 4 4)).run Tryd.prog (w.alloc (.cells (four n) t)) = .ok (.string ⟨(be32 n).toArray⟩) (w.alloc (.cells (four n) t)) := by
  have hown : (w.alloc (.cells (four n) t)).ownsRow w.heap.size t 1 (.slice (some ⟨w.heap.size, 0, none⟩) 4 4) 4 (B8 (be32 n)) := by
    rw [four_eq n hn]
    exact World.ownsRow_lit (base := w.heap.size) (size := 1) w (B8 (be32 n)).toArray 4 (Nat.le_refl _) (by decide) (by simp [B8_length, be32_length])
  refine run_convert_bytes_back _ 70 9 5 ⟨w.heap.size, 0, none⟩ 4 (be32 n) Tryd.underlying70 Tryd.underlying5 Tryd.underlying9 ?_
  intro j hj
  refine hown.cells (g := w.heap.size) rfl j _ ?_
  simp [B8, hj]

theorem specFour_any (n : Nat) (hn : n < 4294967296) (w : World) :
    Calls Tryd.prog 45 #[.int .u32 (n : Int)] w fun e w' => e = .returned (.string ⟨(be32 n).toArray⟩) ∧ Below w.heap.size w w' := by
  have hconv := run_four 5 n hn w
  go_enter Tryd.func45, Tryd.ntmps45
  go_wp2_with fail
  go_ret
  exact ⟨rfl, (Below.refl _ _).alloc (Nat.le_refl _) _⟩

theorem implBytes_any (n : Nat) (hn : n < 4294967296) (w : World) :
    Calls Tryd.prog 75 #[.int .u32 (n : Int)] w fun e w' => e = .returned (.agg (four n)) ∧ Below w.heap.size w w' := by
  go_enter Tryd.func75, Tryd.ntmps75
  go_wp2_with fail
  refine bodyPost_ret (results_cell_row (p := 2) (ty := 111) (by kernel_rfl) _ _ w.heap.size 111 (four n) (0, 0) _ rfl (heap_alloc_new w _) Tryd.underlying111 rfl (by kernel_rfl)) rfl ?_
  exact ⟨rfl, (Below.refl _ _).alloc (Nat.le_refl _) _⟩

/-- The results of Sealed as values. -/
def sealVal (l : List UInt8) : Value := if l.length ≤ 20000 then .tuple #[.string ⟨(sealL l).toArray⟩, .bool true] else .tuple #[.string ⟨#[]⟩, .bool false]

theorem sealVal_yes {l : List UInt8} (h : l.length ≤ 20000) : sealVal l = .tuple #[.string ⟨(sealL l).toArray⟩, .bool true] := if_pos h
theorem sealVal_no {l : List UInt8} (h : 20000 < l.length) : sealVal l = .tuple #[.string ⟨#[]⟩, .bool false] := if_neg (by omega)

theorem cat_seal (s : ByteArray) : s ++ (⟨(be32 (sumOfL (bl s))).toArray⟩ : ByteArray) = ⟨(sealL (bl s)).toArray⟩ := by
  apply ByteArray.ext
  simp [sealL]

end Go.Proofs.YthbgklmnmoclhaaDoor
