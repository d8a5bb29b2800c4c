/-
  Walks of chapter 2: a sum in four bytes; Sealed, of the specification and of the program.
-/
import Derived.Test.YtpenpbopehbncaaDoorWalk2b
namespace Go.Proofs.YtpenpbopehbncaaDoor
open Go.RowKit P1 K P3
set_option linter.unusedVariables false

/-- The four bytes as the program reckons them. -/
abbrev four (n : Nat) : Array Value := #[.int .u8 ((n : Int) / 16777216), .int .u8 ((n : Int) / 65536 % 256), .int .u8 ((n : Int) / 256 % 256), .int .u8 ((n : Int) % 256)]

theorem four_eq (n : Nat) (hn : n < 4294967296) : four n = (B8 (be32 n)).toArray := by
  have f : ∀ x : Nat, ((UInt8.ofNat x).toNat : Int) = (x : Int) % 256 := fun x => by simp [UInt8.toNat_ofNat']
  simp only [four, B8, be32, List.map_cons, List.map_nil, f]
  congr 2
  · congr 1; omega

theorem run_four (t : TypeId) (n : Nat) (hn : n < 4294967296) (w : World) :
    (convert 93 9 (.slice (some ⟨w.heap.size, 0, none⟩) 4 4)).run Tryd.prog (w.alloc (.cells (four n) t)) = .ok (.string ⟨(be32 n).toArray⟩) (w.alloc (.cells (four n) t)) := by
  have hown : (w.alloc (.cells (four n) t)).ownsRow w.heap.size t 1 (.slice (some ⟨w.heap.size, 0, none⟩) 4 4) 4 (B8 (be32 n)) := by
    rw [four_eq n hn]
    exact World.ownsRow_lit (base := w.heap.size) (size := 1) w (B8 (be32 n)).toArray 4 (Nat.le_refl _) (by decide) (by simp [B8_length, be32_length])
  refine run_convert_bytes_back _ 93 9 5 ⟨w.heap.size, 0, none⟩ 4 (be32 n) Tryd.underlying93 Tryd.underlying5 Tryd.underlying9 ?_
  intro j hj
  refine hown.cells (g := w.heap.size) rfl j _ ?_
  simp [B8, hj]

theorem specFour_any (n : Nat) (hn : n < 4294967296) (w : World) :
    Calls Tryd.prog 74 #[.int .u32 (n : Int)] w fun e w' => e = .returned (.string ⟨(be32 n).toArray⟩) ∧ Below w.heap.size w w' := by
  have hconv := run_four 5 n hn w
  go_enter Tryd.func74, Tryd.ntmps74
  go_wp2_with fail
  go_ret
  exact ⟨rfl, (Below.refl _ _).alloc (Nat.le_refl _) _⟩

theorem implBytes_any (n : Nat) (hn : n < 4294967296) (w : World) :
    Calls Tryd.prog 77 #[.int .u32 (n : Int)] w fun e w' => e = .returned (.agg (four n)) ∧ Below w.heap.size w w' := by
  go_enter Tryd.func77, Tryd.ntmps77
  go_wp2_with fail
  refine bodyPost_ret (results_cell_row (p := 2) (ty := 97) (by kernel_rfl) _ _ w.heap.size 97 (four n) (0, 0) _ rfl (heap_alloc_new w _) Tryd.underlying97 rfl (by kernel_rfl)) rfl ?_
  exact ⟨rfl, (Below.refl _ _).alloc (Nat.le_refl _) _⟩

/-- The results of Sealed as values. -/
def sealVal (l : List UInt8) : Value := if l.length ≤ 20000 then .tuple #[.string ⟨(sealL l).toArray⟩, .bool true] else .tuple #[.string ⟨#[]⟩, .bool false]

theorem sealVal_yes {l : List UInt8} (h : l.length ≤ 20000) : sealVal l = .tuple #[.string ⟨(sealL l).toArray⟩, .bool true] := if_pos h
theorem sealVal_no {l : List UInt8} (h : 20000 < l.length) : sealVal l = .tuple #[.string ⟨#[]⟩, .bool false] := if_neg (by omega)

theorem cat_seal (s : ByteArray) : s ++ (⟨(be32 (sumOfL (bl s))).toArray⟩ : ByteArray) = ⟨(sealL (bl s)).toArray⟩ := by
  apply ByteArray.ext
  simp [sealL]

set_option maxHeartbeats 1000000 in
theorem specSealed_any (s : ByteArray) (hs : s.size ≤ 281474976710656) (w : World) :
    Calls Tryd.prog 41 #[.string s] w fun e w' => e = .returned (sealVal (bl s)) ∧ Below w.heap.size w w' := by
  by_cases hl : 20000 < s.size
  · have R := hide (sealVal_no (l := bl s) (by rw [bl_length]; exact hl))
    go_enter Tryd.func41, Tryd.ntmps41
    go_wp2_with fail
    go_ret2
    exact ⟨by rw [R.out]; rfl, Below.refl _ _⟩
  · have R := hide (sealVal_yes (l := bl s) (by rw [bl_length]; omega))
    have hlt := sumOfL_lt (bl s)
    have C := hide (cat_seal s)
    obtain ⟨m, hm⟩ : ∃ m, sumOfL (bl s) = m := ⟨_, rfl⟩
    have hsum := hide hm
    rw [hm] at hlt C
    clear hm
    have h4 : (⟨(be32 m).toArray⟩ : ByteArray).size = 4 := rfl
    go_enter Tryd.func41, Tryd.ntmps41
    go_wp2_with (first
      | (go_at_call 75; refine (specSumOf_any s hs _).mono ?_; rw [hsum.out]; rintro e w1 ⟨rfl, rfl⟩)
      | (go_at_call 74; refine (specFour_any m hlt _).mono ?_; rintro e w1 ⟨rfl, hb1⟩))
    go_ret2
    exact ⟨by rw [R.out, ← C.out]; rfl, hb1⟩

set_option maxHeartbeats 1000000 in
theorem implSealed_any (s : ByteArray) (hs : s.size ≤ 281474976710656) (w : World) (htab : SumTabIs w) :
    Calls Tryd.prog 47 #[.string s] w fun e w' => e = .returned (sealVal (bl s)) ∧ Below w.heap.size w w' := by
  have HT := hide htab
  clear htab
  by_cases hl : 20000 < s.size
  · have R := hide (sealVal_no (l := bl s) (by rw [bl_length]; exact hl))
    go_enter Tryd.func47, Tryd.ntmps47
    go_wp2_with fail
    go_ret2
    exact ⟨by rw [R.out]; rfl, Below.refl _ _⟩
  · have R := hide (sealVal_yes (l := bl s) (by rw [bl_length]; omega))
    have hlt := sumOfL_lt (bl s)
    have C := hide (cat_seal s)
    obtain ⟨m, hm⟩ : ∃ m, sumOfL (bl s) = m := ⟨_, rfl⟩
    have hsum := hide hm
    rw [hm] at hlt C
    clear hm
    have h4 : (⟨(be32 m).toArray⟩ : ByteArray).size = 4 := rfl
    go_enter Tryd.func47, Tryd.ntmps47
    go_wp2_with (first
      | (go_at_call 76; refine (implSumOf_any s hs _ HT.out).mono ?_; rw [hsum.out]; rintro e w1 ⟨rfl, rfl⟩)
      | (go_at_call 77; refine (implBytes_any m hlt _).mono ?_; rintro e w1 ⟨rfl, hb1⟩; have hconv := run_four 97 m hlt w1))
    go_ret2
    exact ⟨by rw [R.out, ← C.out]; rfl, hb1.alloc hb1.size _⟩

end Go.Proofs.YtpenpbopehbncaaDoor
