/-
  Walks of chapter 2: SumMore and SumOf of the specification.
  Walks of chapter 2: SumMore and SumOf of the program, over its table of halves.
  Walks of chapter 2: a sum in four bytes; Sealed, of the specification and of the program.
-/
import Derived.Test.YtpenpbopehbncaaDoorPack9
import Derived.Test.YtpenpbopehbncaaDoorPlain3
import Derived.WalkSmall
import Derived.Lib.LaidTab
namespace Go.Proofs.YtpenpbopehbncaaDoor
open Go.RowKit P1 K P3
set_option linter.unusedVariables false

theorem wrap_u32 (n : Int) : IntKind.u32.wrap n = n % 4294967296 := by simp [IntKind.wrap, IntKind.bits, IntKind.signed]

theorem xor_u32 (a b : Nat) (ha : a < 4294967296) (hb : b < 4294967296) : bits .xor .u32 (a : Int) (b : Int) = ((a ^^^ b : Nat) : Int) := by
  have hx : a ^^^ b < 2 ^ 32 := Nat.xor_lt_two_pow (by omega) (by omega)
  have h1 : (BitVec.ofInt 32 (a : Int)).toNat = a := by
    rw [BitVec.ofInt_natCast, BitVec.toNat_ofNat]; exact Nat.mod_eq_of_lt (by omega)
  have h2 : (BitVec.ofInt 32 (b : Int)).toNat = b := by
    rw [BitVec.ofInt_natCast, BitVec.toNat_ofNat]; exact Nat.mod_eq_of_lt (by omega)
  show IntKind.u32.wrap ((BitVec.ofInt 32 (a : Int) ^^^ BitVec.ofInt 32 (b : Int)).toNat : Int) = _
  rw [BitVec.toNat_xor, h1, h2, wrap_u32]
  omega

theorem half_odd {s : Nat} (h : s % 2 = 1) (hs : s < 4294967296) : bits .xor .u32 ((s : Int) / 2) 3558460437 = (half s : Int) := by
  have := xor_u32 (s / 2) 3558460437 (by omega) (by decide)
  unfold half
  rw [if_pos h]
  exact this

theorem half_ev {s : Nat} (h : s % 2 ≠ 1) : (s : Int) / 2 = (half s : Int) := by
  unfold half
  rw [if_neg h]
  rfl

set_option maxHeartbeats 1000000 in
theorem specSumMore_any (n : Nat) (hn : n < 4294967296) (s : ByteArray) (hs : s.size ≤ 281474976710656) (w : World) :
    Calls Tryd.prog 95 #[.int .u32 (n : Int), .string s] w fun e w' => e = .returned (.int .u32 (sumL n (bl s) : Int)) ∧ w = w' := by
  have HN := hide hn
  clear hn
  go_enter Tryd.func95, Tryd.ntmps95
  go_wp2_with fail
  go_loop [0, 5] (fun x i => ∃ k : Nat, i = .int .i64 (k : Int) ∧ k ≤ s.size ∧ x = .int .u32 (sumL n ((bl s).take k) : Int)) (fun _ i => s.size - (intOf i).toNat)
  case atStart => exact ⟨0, rfl, Nat.zero_le _, rfl⟩
  case round =>
    obtain ⟨k, rfl, hk, rfl⟩ := hrel
    by_cases hlt : k < s.size
    · have hb := s[k].toNat_lt
      have h0 := sumL_lt ((bl s).take k) n HN.out
      have e1 := hide (show sumL n ((bl s).take (k + 1)) = sumB (sumL n ((bl s).take k)) s[k] by rw [bl_take s k hlt, sumL_snoc])
      obtain ⟨m, hm⟩ : ∃ m, sumL n ((bl s).take k) = m := ⟨_, rfl⟩
      rw [hm] at h0 e1 ⊢
      clear hm
      have hx := xor_u32 m s[k].toNat h0 (by omega)
      have h1 := hide (xor_byte_lt m s[k] h0)
      go_wp2_with fail
      go_loop [0, 6] (fun x i => ∃ j : Nat, i = .int .i64 (j : Int) ∧ j ≤ 8 ∧ x = .int .u32 (halfs j (m ^^^ s[k].toNat) : Int)) (fun _ i => 8 - (intOf i).toNat)
      case atStart => exact ⟨0, rfl, by omega, rfl⟩
      case round =>
        obtain ⟨j, rfl, hj, rfl⟩ := hrel
        clear hx
        by_cases hlt2 : j < 8
        · have h2 := halfs_lt j _ h1.out
          have e2 := hide (halfs_one j (m ^^^ s[k].toNat))
          obtain ⟨u, hu⟩ : ∃ u, halfs j (m ^^^ s[k].toNat) = u := ⟨_, rfl⟩
          rw [hu] at h2 e2 ⊢
          clear hu
          by_cases ho : u % 2 = 1
          · have q : ((u : Int) % 2 == 1) = true := by rw [beq_iff_eq]; omega
            have e3 := half_odd ho h2
            clear ho
            go_wp2_with fail
            go_round
            case rel => exact ⟨j + 1, by go_num, by omega, by rw [e2.out]⟩
            case measure => simp [intOf]; omega
          · have q : ((u : Int) % 2 == 1) = false := by rw [beq_eq_false_iff_ne]; omega
            have e3 := half_ev ho
            clear ho
            go_wp2_with fail
            go_round
            case rel => exact ⟨j + 1, by go_num, by omega, by rw [e2.out]⟩
            case measure => simp [intOf]; omega
        · have e8 : j = 8 := by omega
          subst e8
          go_wp2_with fail
          go_round
          case rel => exact ⟨k + 1, by go_num, by omega, by rw [e1.out]; rfl⟩
          case measure => simp [intOf]; omega
    · have e : (bl s).take k = bl s := List.take_of_length_le (by rw [bl_length]; omega)
      rw [e]
      go_wp2_with fail
      go_ret
      exact ⟨rfl, rfl⟩

theorem specSumOf_any (s : ByteArray) (hs : s.size ≤ 281474976710656) (w : World) :
    Calls Tryd.prog 75 #[.string s] w fun e w' => e = .returned (.int .u32 (sumOfL (bl s) : Int)) ∧ w = w' := by
  go_enter Tryd.func75, Tryd.ntmps75
  go_wp2_with (go_at_call 95; refine (specSumMore_any 4294967295 (by decide) s hs _).mono ?_; rintro e w1 ⟨rfl, rfl⟩)
  go_ret
  exact ⟨rfl, rfl⟩

end Go.Proofs.YtpenpbopehbncaaDoor

namespace Go.Proofs.YtpenpbopehbncaaDoor
open Go.RowKit P1 K P3
set_option linter.unusedVariables false

/-- The table as it must stand: what four steps make of each four bits. -/
def sumTab : List Int := (List.range 16).map fun i => (halfs 4 i : Int)

abbrev SumTabIs (w : World) : Prop := Lib.TabIs Tryd.prog w "loop.example/g00127/impl.sumHalves" .u32 sumTab

theorem sumTab_cell {w : World} (h : SumTabIs w) (i : Nat) (hi : i < 16) : w.cell? ⟨0, i, none⟩ = some (.int .u32 (halfs 4 i : Int)) := by
  have := Lib.TabIs.cell (g := 0) h (by kernel_rfl) i (by simp [sumTab]; exact hi)
  rw [this]
  simp [sumTab, List.getD, hi]

theorem four_u32 (m : Nat) (hm : m < 4294967296) : bits .xor .u32 ((m : Int) / 16) (halfs 4 (m % 16) : Int) = (halfs 4 m : Int) := by
  have := xor_u32 (m / 16) (halfs 4 (m % 16)) (by omega) (halfs_lt 4 _ (by omega))
  rw [four_split m]
  exact this

def halfs4 (j m : Nat) : Nat := halfs (4 * j) m

theorem halfs4_lt (j m : Nat) (h : m < 4294967296) : halfs4 j m < 4294967296 := halfs_lt _ _ h
theorem halfs4_succ (j m : Nat) : halfs4 (j + 1) m = halfs 4 (halfs4 j m) := by unfold halfs4; rw [← halfs_add]; rfl

set_option maxHeartbeats 1000000 in
theorem implWith_any (n : Nat) (hn : n < 4294967296) (b : UInt8) (w : World) (htab : SumTabIs w) :
    Calls Tryd.prog 106 #[.int .u32 (n : Int), .int .u8 (b.toNat : Int)] w fun e w' => e = .returned (.int .u32 (sumB n b : Int)) ∧ w = w' := by
  have hb := b.toNat_lt
  have HT := hide htab
  clear htab
  have hx := xor_u32 n b.toNat hn (by omega)
  have h1 := hide (xor_byte_lt n b hn)
  go_enter Tryd.func106, Tryd.ntmps106
  go_wp2_with fail
  go_loop [0, 9] (fun x i => ∃ j : Nat, i = .int .i64 (j : Int) ∧ j ≤ 2 ∧ x = .int .u32 (halfs4 j (n ^^^ b.toNat) : Int)) (fun _ i => 2 - (intOf i).toNat)
  case atStart => exact ⟨0, rfl, by omega, rfl⟩
  case round =>
    obtain ⟨j, rfl, hj, rfl⟩ := hrel
    clear hx
    by_cases hlt : j < 2
    · have h2 := halfs4_lt j _ h1.out
      have e2 := hide (halfs4_succ j (n ^^^ b.toNat))
      obtain ⟨u, hu⟩ : ∃ u, halfs4 j (n ^^^ b.toNat) = u := ⟨_, rfl⟩
      rw [hu] at h2 e2 ⊢
      clear hu
      have hc := sumTab_cell HT.out (u % 16) (by omega)
      have e3 := four_u32 u h2
      go_wp2_with fail
      go_round
      case rel => exact ⟨j + 1, by go_num, by omega, by rw [e2.out]⟩
      case measure => simp [intOf]; omega
    · have e8 : j = 2 := by omega
      subst e8
      go_wp2_with fail
      go_ret
      exact ⟨rfl, rfl⟩

set_option maxHeartbeats 1000000 in
theorem implSumMore_any (n : Nat) (hn : n < 4294967296) (s : ByteArray) (hs : s.size ≤ 281474976710656) (w : World) (htab : SumTabIs w) :
    Calls Tryd.prog 96 #[.int .u32 (n : Int), .string s] w fun e w' => e = .returned (.int .u32 (sumL n (bl s) : Int)) ∧ w = w' := by
  have HN := hide hn
  have HT := hide htab
  clear hn htab
  go_enter Tryd.func96, Tryd.ntmps96
  go_wp2_with fail
  go_loop [5, 10] (fun x i => ∃ k : Nat, i = .int .i64 (k : Int) ∧ k ≤ s.size ∧ x = .int .u32 (sumL n ((bl s).take k) : Int)) (fun _ i => s.size - (intOf i).toNat)
  case atStart => exact ⟨0, rfl, Nat.zero_le _, rfl⟩
  case round =>
    obtain ⟨k, rfl, hk, rfl⟩ := hrel
    by_cases hlt : k < s.size
    · have hb := s[k].toNat_lt
      have h0 := sumL_lt ((bl s).take k) n HN.out
      have e1 := hide (show sumL n ((bl s).take (k + 1)) = sumB (sumL n ((bl s).take k)) s[k] by rw [bl_take s k hlt, sumL_snoc])
      obtain ⟨m, hm⟩ : ∃ m, sumL n ((bl s).take k) = m := ⟨_, rfl⟩
      rw [hm] at h0 e1 ⊢
      clear hm
      go_wp2_with (go_at_call 106; refine (implWith_any m h0 s[k] _ HT.out).mono ?_; rintro e w1 ⟨rfl, rfl⟩)
      go_round
      case rel => exact ⟨k + 1, by go_num, by omega, by rw [e1.out]⟩
      case measure => simp [intOf]; omega
    · have e : (bl s).take k = bl s := List.take_of_length_le (by rw [bl_length]; omega)
      rw [e]
      go_wp2_with fail
      go_ret
      exact ⟨rfl, rfl⟩

theorem implSumOf_any (s : ByteArray) (hs : s.size ≤ 281474976710656) (w : World) (htab : SumTabIs w) :
    Calls Tryd.prog 76 #[.string s] w fun e w' => e = .returned (.int .u32 (sumOfL (bl s) : Int)) ∧ w = w' := by
  go_enter Tryd.func76, Tryd.ntmps76
  go_wp2_with (go_at_call 96; refine (implSumMore_any 4294967295 (by decide) s hs _ htab).mono ?_; rintro e w1 ⟨rfl, rfl⟩)
  go_ret
  exact ⟨rfl, rfl⟩

end Go.Proofs.YtpenpbopehbncaaDoor

namespace Go.Proofs.YtpenpbopehbncaaDoor
open Go.RowKit P1 K P3
set_option linter.unusedVariables false

/-- The four bytes as the program reckons them. -/
abbrev four (n : Nat) : Array Value := #[.int .u8 ((n : Int) / 16777216), .int .u8 ((n : Int) / 65536 % 256), .int .u8 ((n : Int) / 256 % 256), .int .u8 ((n : Int) % 256)]

theorem four_eq (n : Nat) (hn : n < 4294967296) : four n = (B8 (be32 n)).toArray := by
  have f : ∀ x : Nat, ((UInt8.ofNat x).toNat : Int) = (x : Int) % 256 := fun x => by simp [UInt8.toNat_ofNat']
  simp only [four, B8, be32, List.map_cons, List.map_nil, f]
  congr 2
  · congr 1; omega

theorem run_four (t : TypeId) (n : Nat) (hn : n < 4294967296) (w : World) :
    (convert 93 9 (.slice (some ⟨w.heap.size, 0, none⟩) 4 4)).run Tryd.prog (w.alloc (.cells (four n) t)) = .ok (.string ⟨(be32 n).toArray⟩) (w.alloc (.cells (four n) t)) := by
  have hown : (w.alloc (.cells (four n) t)).ownsRow w.heap.size t 1 (.slice (some ⟨w.heap.size, 0, none⟩) 4 4) 4 (B8 (be32 n)) := by
    rw [four_eq n hn]
    exact World.ownsRow_lit (base := w.heap.size) (size := 1) w (B8 (be32 n)).toArray 4 (Nat.le_refl _) (by decide) (by simp [B8_length, be32_length])
  refine run_convert_bytes_back _ 93 9 5 ⟨w.heap.size, 0, none⟩ 4 (be32 n) Tryd.underlying93 Tryd.underlying5 Tryd.underlying9 ?_
  intro j hj
  refine hown.cells (g := w.heap.size) rfl j _ ?_
  simp [B8, hj]

theorem specFour_any (n : Nat) (hn : n < 4294967296) (w : World) :
    Calls Tryd.prog 74 #[.int .u32 (n : Int)] w fun e w' => e = .returned (.string ⟨(be32 n).toArray⟩) ∧ Below w.heap.size w w' := by
  have hconv := run_four 5 n hn w
  go_enter Tryd.func74, Tryd.ntmps74
  go_wp2_with fail
  go_ret
  exact ⟨rfl, (Below.refl _ _).alloc (Nat.le_refl _) _⟩

theorem implBytes_any (n : Nat) (hn : n < 4294967296) (w : World) :
    Calls Tryd.prog 77 #[.int .u32 (n : Int)] w fun e w' => e = .returned (.agg (four n)) ∧ Below w.heap.size w w' := by
  go_enter Tryd.func77, Tryd.ntmps77
  go_wp2_with fail
  refine bodyPost_ret (results_cell_row (p := 2) (ty := 97) (by kernel_rfl) _ _ w.heap.size 97 (four n) (0, 0) _ rfl (heap_alloc_new w _) Tryd.underlying97 rfl (by kernel_rfl)) rfl ?_
  exact ⟨rfl, (Below.refl _ _).alloc (Nat.le_refl _) _⟩

/-- The results of Sealed as values. -/
def sealVal (l : List UInt8) : Value := if l.length ≤ 20000 then .tuple #[.string ⟨(sealL l).toArray⟩, .bool true] else .tuple #[.string ⟨#[]⟩, .bool false]

theorem sealVal_yes {l : List UInt8} (h : l.length ≤ 20000) : sealVal l = .tuple #[.string ⟨(sealL l).toArray⟩, .bool true] := if_pos h
theorem sealVal_no {l : List UInt8} (h : 20000 < l.length) : sealVal l = .tuple #[.string ⟨#[]⟩, .bool false] := if_neg (by omega)

theorem cat_seal (s : ByteArray) : s ++ (⟨(be32 (sumOfL (bl s))).toArray⟩ : ByteArray) = ⟨(sealL (bl s)).toArray⟩ := by
  apply ByteArray.ext
  simp [sealL]

set_option maxHeartbeats 1000000 in
theorem specSealed_any (s : ByteArray) (hs : s.size ≤ 281474976710656) (w : World) :
    Calls Tryd.prog 41 #[.string s] w fun e w' => e = .returned (sealVal (bl s)) ∧ Below w.heap.size w w' := by
  by_cases hl : 20000 < s.size
  · have R := hide (sealVal_no (l := bl s) (by rw [bl_length]; exact hl))
    go_enter Tryd.func41, Tryd.ntmps41
    go_wp2_with fail
    go_ret2
    exact ⟨by rw [R.out]; rfl, Below.refl _ _⟩
  · have R := hide (sealVal_yes (l := bl s) (by rw [bl_length]; omega))
    have hlt := sumOfL_lt (bl s)
    have C := hide (cat_seal s)
    obtain ⟨m, hm⟩ : ∃ m, sumOfL (bl s) = m := ⟨_, rfl⟩
    have hsum := hide hm
    rw [hm] at hlt C
    clear hm
    have h4 : (⟨(be32 m).toArray⟩ : ByteArray).size = 4 := rfl
    go_enter Tryd.func41, Tryd.ntmps41
    go_wp2_with (first
      | (go_at_call 75; refine (specSumOf_any s hs _).mono ?_; rw [hsum.out]; rintro e w1 ⟨rfl, rfl⟩)
      | (go_at_call 74; refine (specFour_any m hlt _).mono ?_; rintro e w1 ⟨rfl, hb1⟩))
    go_ret2
    exact ⟨by rw [R.out, ← C.out]; rfl, hb1⟩

set_option maxHeartbeats 1000000 in
theorem implSealed_any (s : ByteArray) (hs : s.size ≤ 281474976710656) (w : World) (htab : SumTabIs w) :
    Calls Tryd.prog 47 #[.string s] w fun e w' => e = .returned (sealVal (bl s)) ∧ Below w.heap.size w w' := by
  have HT := hide htab
  clear htab
  by_cases hl : 20000 < s.size
  · have R := hide (sealVal_no (l := bl s) (by rw [bl_length]; exact hl))
    go_enter Tryd.func47, Tryd.ntmps47
    go_wp2_with fail
    go_ret2
    exact ⟨by rw [R.out]; rfl, Below.refl _ _⟩
  · have R := hide (sealVal_yes (l := bl s) (by rw [bl_length]; omega))
    have hlt := sumOfL_lt (bl s)
    have C := hide (cat_seal s)
    obtain ⟨m, hm⟩ : ∃ m, sumOfL (bl s) = m := ⟨_, rfl⟩
    have hsum := hide hm
    rw [hm] at hlt C
    clear hm
    have h4 : (⟨(be32 m).toArray⟩ : ByteArray).size = 4 := rfl
    go_enter Tryd.func47, Tryd.ntmps47
    go_wp2_with (first
      | (go_at_call 76; refine (implSumOf_any s hs _ HT.out).mono ?_; rw [hsum.out]; rintro e w1 ⟨rfl, rfl⟩)
      | (go_at_call 77; refine (implBytes_any m hlt _).mono ?_; rintro e w1 ⟨rfl, hb1⟩; have hconv := run_four 97 m hlt w1))
    go_ret2
    exact ⟨by rw [R.out, ← C.out]; rfl, hb1.alloc hb1.size _⟩

end Go.Proofs.YtpenpbopehbncaaDoor
