/-
  Walks of chapter 2: SumMore and SumOf of the specification.
  Walks of chapter 2: SumMore and SumOf of the program, over its table of halves.
  Walks of chapter 2: a sum in four bytes; Sealed, of the specification and of the program.
  Walks of chapter 1: l01Var and VarText, of the specification and of the program.
  Plain mathematics of chapter 1: decimal figures.
  What is written is read back: numbers in bytes, figures, short texts.
-/
import Derived.Test.YthbgklmnmoclhaaGreatDoorPack1
import Derived.WalkSmall
import Derived.Lib.LaidTab
import Derived.Lib.ItoaNum
import Derived.Lib.ItoaMem
import Derived.Lib.ItoaLen
import Derived.Test.YthbgklmnmoclhaaGreatDoorPlain1
namespace Go.Proofs.YthbgklmnmoclhaaGreatDoor
open Go.RowKit P1 K P3
set_option linter.unusedVariables false

theorem wrap_u32 (n : Int) : IntKind.u32.wrap n = n % 4294967296 := by simp [IntKind.wrap, IntKind.bits, IntKind.signed]

theorem xor_u32 (a b : Nat) (ha : a < 4294967296) (hb : b < 4294967296) : bits .xor .u32 (a : Int) (b : Int) = ((a ^^^ b : Nat) : Int) := by
  have hx : a ^^^ b < 2 ^ 32 := Nat.xor_lt_two_pow (by omega) (by omega)
  have h1 : (BitVec.ofInt 32 (a : Int)).toNat = a := by
    rw [BitVec.ofInt_natCast, BitVec.toNat_ofNat]; exact Nat.mod_eq_of_lt (by omega)
  have h2 : (BitVec.ofInt 32 (b : Int)).toNat = b := by
    rw [BitVec.ofInt_natCast, BitVec.toNat_ofNat]; exact Nat.mod_eq_of_lt (by omega)
  show IntKind.u32.wrap ((BitVec.ofInt 32 (a : Int) ^^^ BitVec.ofInt 32 (b : Int)).toNat : Int) = _
  rw [BitVec.toNat_xor, h1, h2, wrap_u32]
  omega

theorem half_odd {s : Nat} (h : s % 2 = 1) (hs : s < 4294967296) : bits .xor .u32 ((s : Int) / 2) 3558460437 = (half s : Int) := by
  have := xor_u32 (s / 2) 3558460437 (by omega) (by decide)
  unfold half
  rw [if_pos h]
  exact this

theorem half_ev {s : Nat} (h : s % 2 ≠ 1) : (s : Int) / 2 = (half s : Int) := by
  unfold half
  rw [if_neg h]
  rfl

set_option maxHeartbeats 1000000 in
theorem specSumMore_any (n : Nat) (hn : n < 4294967296) (s : ByteArray) (hs : s.size ≤ 281474976710656) (w : World) :
    Calls Tryz.prog 89 #[.int .u32 (n : Int), .string s] w fun e w' => e = .returned (.int .u32 (sumL n (bl s) : Int)) ∧ w = w' := by
  have HN := hide hn
  clear hn
  go_enter Tryz.func89, Tryz.ntmps89
  go_wp2_with fail
  go_loop [0, 5] (fun x i => ∃ k : Nat, i = .int .i64 (k : Int) ∧ k ≤ s.size ∧ x = .int .u32 (sumL n ((bl s).take k) : Int)) (fun _ i => s.size - (intOf i).toNat)
  case atStart => exact ⟨0, rfl, Nat.zero_le _, rfl⟩
  case round =>
    obtain ⟨k, rfl, hk, rfl⟩ := hrel
    by_cases hlt : k < s.size
    · have hb := s[k].toNat_lt
      have h0 := sumL_lt ((bl s).take k) n HN.out
      have e1 := hide (show sumL n ((bl s).take (k + 1)) = sumB (sumL n ((bl s).take k)) s[k] by rw [bl_take s k hlt, sumL_snoc])
      obtain ⟨m, hm⟩ : ∃ m, sumL n ((bl s).take k) = m := ⟨_, rfl⟩
      rw [hm] at h0 e1 ⊢
      clear hm
      have hx := xor_u32 m s[k].toNat h0 (by omega)
      have h1 := hide (xor_byte_lt m s[k] h0)
      go_wp2_with fail
      go_loop [0, 6] (fun x i => ∃ j : Nat, i = .int .i64 (j : Int) ∧ j ≤ 8 ∧ x = .int .u32 (halfs j (m ^^^ s[k].toNat) : Int)) (fun _ i => 8 - (intOf i).toNat)
      case atStart => exact ⟨0, rfl, by omega, rfl⟩
      case round =>
        obtain ⟨j, rfl, hj, rfl⟩ := hrel
        clear hx
        by_cases hlt2 : j < 8
        · have h2 := halfs_lt j _ h1.out
          have e2 := hide (halfs_one j (m ^^^ s[k].toNat))
          obtain ⟨u, hu⟩ : ∃ u, halfs j (m ^^^ s[k].toNat) = u := ⟨_, rfl⟩
          rw [hu] at h2 e2 ⊢
          clear hu
          by_cases ho : u % 2 = 1
          · have q : ((u : Int) % 2 == 1) = true := by rw [beq_iff_eq]; omega
            have e3 := half_odd ho h2
            clear ho
            go_wp2_with fail
            go_round
            case rel => exact ⟨j + 1, by go_num, by omega, by rw [e2.out]⟩
            case measure => simp [intOf]; omega
          · have q : ((u : Int) % 2 == 1) = false := by rw [beq_eq_false_iff_ne]; omega
            have e3 := half_ev ho
            clear ho
            go_wp2_with fail
            go_round
            case rel => exact ⟨j + 1, by go_num, by omega, by rw [e2.out]⟩
            case measure => simp [intOf]; omega
        · have e8 : j = 8 := by omega
          subst e8
          go_wp2_with fail
          go_round
          case rel => exact ⟨k + 1, by go_num, by omega, by rw [e1.out]; rfl⟩
          case measure => simp [intOf]; omega
    · have e : (bl s).take k = bl s := List.take_of_length_le (by rw [bl_length]; omega)
      rw [e]
      go_wp2_with fail
      go_ret
      exact ⟨rfl, rfl⟩

theorem specSumOf_any (s : ByteArray) (hs : s.size ≤ 281474976710656) (w : World) :
    Calls Tryz.prog 68 #[.string s] w fun e w' => e = .returned (.int .u32 (sumOfL (bl s) : Int)) ∧ w = w' := by
  go_enter Tryz.func68, Tryz.ntmps68
  go_wp2_with (go_at_call 89; refine (specSumMore_any 4294967295 (by decide) s hs _).mono ?_; rintro e w1 ⟨rfl, rfl⟩)
  go_ret
  exact ⟨rfl, rfl⟩

end Go.Proofs.YthbgklmnmoclhaaGreatDoor

namespace Go.Proofs.YthbgklmnmoclhaaGreatDoor
open Go.RowKit P1 K P3
set_option linter.unusedVariables false

/-- The table as it must stand: what four steps make of each four bits. -/
def sumTab : List Int := (List.range 16).map fun i => (halfs 4 i : Int)

abbrev SumTabIs (w : World) : Prop := Lib.TabIs Tryz.prog w "loop.example/g00127/impl.sumHalves" .u32 sumTab

theorem sumTab_cell {w : World} (h : SumTabIs w) (i : Nat) (hi : i < 16) : w.cell? ⟨2, i, none⟩ = some (.int .u32 (halfs 4 i : Int)) := by
  have := Lib.TabIs.cell (g := 2) h (by kernel_rfl) i (by simp [sumTab]; exact hi)
  rw [this]
  simp [sumTab, List.getD, hi]

theorem four_u32 (m : Nat) (hm : m < 4294967296) : bits .xor .u32 ((m : Int) / 16) (halfs 4 (m % 16) : Int) = (halfs 4 m : Int) := by
  have := xor_u32 (m / 16) (halfs 4 (m % 16)) (by omega) (halfs_lt 4 _ (by omega))
  rw [four_split m]
  exact this

def halfs4 (j m : Nat) : Nat := halfs (4 * j) m

theorem halfs4_lt (j m : Nat) (h : m < 4294967296) : halfs4 j m < 4294967296 := halfs_lt _ _ h
theorem halfs4_succ (j m : Nat) : halfs4 (j + 1) m = halfs 4 (halfs4 j m) := by unfold halfs4; rw [← halfs_add]; rfl

set_option maxHeartbeats 1000000 in
theorem implWith_any (n : Nat) (hn : n < 4294967296) (b : UInt8) (w : World) (htab : SumTabIs w) :
    Calls Tryz.prog 144 #[.int .u32 (n : Int), .int .u8 (b.toNat : Int)] w fun e w' => e = .returned (.int .u32 (sumB n b : Int)) ∧ w = w' := by
  have hb := b.toNat_lt
  have HT := hide htab
  clear htab
  have hx := xor_u32 n b.toNat hn (by omega)
  have h1 := hide (xor_byte_lt n b hn)
  go_enter Tryz.func144, Tryz.ntmps144
  go_wp2_with fail
  go_loop [0, 9] (fun x i => ∃ j : Nat, i = .int .i64 (j : Int) ∧ j ≤ 2 ∧ x = .int .u32 (halfs4 j (n ^^^ b.toNat) : Int)) (fun _ i => 2 - (intOf i).toNat)
  case atStart => exact ⟨0, rfl, by omega, rfl⟩
  case round =>
    obtain ⟨j, rfl, hj, rfl⟩ := hrel
    clear hx
    by_cases hlt : j < 2
    · have h2 := halfs4_lt j _ h1.out
      have e2 := hide (halfs4_succ j (n ^^^ b.toNat))
      obtain ⟨u, hu⟩ : ∃ u, halfs4 j (n ^^^ b.toNat) = u := ⟨_, rfl⟩
      rw [hu] at h2 e2 ⊢
      clear hu
      have hc := sumTab_cell HT.out (u % 16) (by omega)
      have e3 := four_u32 u h2
      go_wp2_with fail
      go_round
      case rel => exact ⟨j + 1, by go_num, by omega, by rw [e2.out]⟩
      case measure => simp [intOf]; omega
    · have e8 : j = 2 := by omega
      subst e8
      go_wp2_with fail
      go_ret
      exact ⟨rfl, rfl⟩

set_option maxHeartbeats 1000000 in
theorem implSumMore_any (n : Nat) (hn : n < 4294967296) (s : ByteArray) (hs : s.size ≤ 281474976710656) (w : World) (htab : SumTabIs w) :
    Calls Tryz.prog 136 #[.int .u32 (n : Int), .string s] w fun e w' => e = .returned (.int .u32 (sumL n (bl s) : Int)) ∧ w = w' := by
  have HN := hide hn
  have HT := hide htab
  clear hn htab
  go_enter Tryz.func136, Tryz.ntmps136
  go_wp2_with fail
  go_loop [5, 10] (fun x i => ∃ k : Nat, i = .int .i64 (k : Int) ∧ k ≤ s.size ∧ x = .int .u32 (sumL n ((bl s).take k) : Int)) (fun _ i => s.size - (intOf i).toNat)
  case atStart => exact ⟨0, rfl, Nat.zero_le _, rfl⟩
  case round =>
    obtain ⟨k, rfl, hk, rfl⟩ := hrel
    by_cases hlt : k < s.size
    · have hb := s[k].toNat_lt
      have h0 := sumL_lt ((bl s).take k) n HN.out
      have e1 := hide (show sumL n ((bl s).take (k + 1)) = sumB (sumL n ((bl s).take k)) s[k] by rw [bl_take s k hlt, sumL_snoc])
      obtain ⟨m, hm⟩ : ∃ m, sumL n ((bl s).take k) = m := ⟨_, rfl⟩
      rw [hm] at h0 e1 ⊢
      clear hm
      go_wp2_with (go_at_call 144; refine (implWith_any m h0 s[k] _ HT.out).mono ?_; rintro e w1 ⟨rfl, rfl⟩)
      go_round
      case rel => exact ⟨k + 1, by go_num, by omega, by rw [e1.out]⟩
      case measure => simp [intOf]; omega
    · have e : (bl s).take k = bl s := List.take_of_length_le (by rw [bl_length]; omega)
      rw [e]
      go_wp2_with fail
      go_ret
      exact ⟨rfl, rfl⟩

theorem implSumOf_any (s : ByteArray) (hs : s.size ≤ 281474976710656) (w : World) (htab : SumTabIs w) :
    Calls Tryz.prog 127 #[.string s] w fun e w' => e = .returned (.int .u32 (sumOfL (bl s) : Int)) ∧ w = w' := by
  go_enter Tryz.func127, Tryz.ntmps127
  go_wp2_with (go_at_call 136; refine (implSumMore_any 4294967295 (by decide) s hs _ htab).mono ?_; rintro e w1 ⟨rfl, rfl⟩)
  go_ret
  exact ⟨rfl, rfl⟩

end Go.Proofs.YthbgklmnmoclhaaGreatDoor

namespace Go.Proofs.YthbgklmnmoclhaaGreatDoor
open Go.RowKit P1 K P3
set_option linter.unusedVariables false

/-- The four bytes as the program reckons them. -/
abbrev four (n : Nat) : Array Value := #[.int .u8 ((n : Int) / 16777216), .int .u8 ((n : Int) / 65536 % 256), .int .u8 ((n : Int) / 256 % 256), .int .u8 ((n : Int) % 256)]

theorem four_eq (n : Nat) (hn : n < 4294967296) : four n = (B8 (be32 n)).toArray := by
  have f : ∀ x : Nat, ((UInt8.ofNat x).toNat : Int) = (x : Int) % 256 := fun x => by simp [UInt8.toNat_ofNat']
  simp only [four, B8, be32, List.map_cons, List.map_nil, f]
  congr 2
  · congr 1; omega

theorem run_four (t : TypeId) (n : Nat) (hn : n < 4294967296) (w : World) :
    (convert 101 9 (.slice (some ⟨w.heap.size, 0, none⟩) 4 4)).run Tryz.prog (w.alloc (.cells (four n) t)) = .ok (.string ⟨(be32 n).toArray⟩) (w.alloc (.cells (four n) t)) := by
  have hown : (w.alloc (.cells (four n) t)).ownsRow w.heap.size t 1 (.slice (some ⟨w.heap.size, 0, none⟩) 4 4) 4 (B8 (be32 n)) := by
    rw [four_eq n hn]
    exact World.ownsRow_lit (base := w.heap.size) (size := 1) w (B8 (be32 n)).toArray 4 (Nat.le_refl _) (by decide) (by simp [B8_length, be32_length])
  refine run_convert_bytes_back _ 101 9 5 ⟨w.heap.size, 0, none⟩ 4 (be32 n) Tryz.underlying101 Tryz.underlying5 Tryz.underlying9 ?_
  intro j hj
  refine hown.cells (g := w.heap.size) rfl j _ ?_
  simp [B8, hj]

theorem specFour_any (n : Nat) (hn : n < 4294967296) (w : World) :
    Calls Tryz.prog 67 #[.int .u32 (n : Int)] w fun e w' => e = .returned (.string ⟨(be32 n).toArray⟩) ∧ Below w.heap.size w w' := by
  have hconv := run_four 5 n hn w
  go_enter Tryz.func67, Tryz.ntmps67
  go_wp2_with fail
  go_ret
  exact ⟨rfl, (Below.refl _ _).alloc (Nat.le_refl _) _⟩

theorem implBytes_any (n : Nat) (hn : n < 4294967296) (w : World) :
    Calls Tryz.prog 128 #[.int .u32 (n : Int)] w fun e w' => e = .returned (.agg (four n)) ∧ Below w.heap.size w w' := by
  go_enter Tryz.func128, Tryz.ntmps128
  go_wp2_with fail
  refine bodyPost_ret (results_cell_row (p := 2) (ty := 189) (by kernel_rfl) _ _ w.heap.size 189 (four n) (0, 0) _ rfl (heap_alloc_new w _) Tryz.underlying189 rfl (by kernel_rfl)) rfl ?_
  exact ⟨rfl, (Below.refl _ _).alloc (Nat.le_refl _) _⟩

/-- The results of Sealed as values. -/
def sealVal (l : List UInt8) : Value := if l.length ≤ 20000 then .tuple #[.string ⟨(sealL l).toArray⟩, .bool true] else .tuple #[.string ⟨#[]⟩, .bool false]

theorem sealVal_yes {l : List UInt8} (h : l.length ≤ 20000) : sealVal l = .tuple #[.string ⟨(sealL l).toArray⟩, .bool true] := if_pos h
theorem sealVal_no {l : List UInt8} (h : 20000 < l.length) : sealVal l = .tuple #[.string ⟨#[]⟩, .bool false] := if_neg (by omega)

theorem cat_seal (s : ByteArray) : s ++ (⟨(be32 (sumOfL (bl s))).toArray⟩ : ByteArray) = ⟨(sealL (bl s)).toArray⟩ := by
  apply ByteArray.ext
  simp [sealL]

end Go.Proofs.YthbgklmnmoclhaaGreatDoor

namespace Go.Proofs.YthbgklmnmoclhaaGreatDoor
open Go.RowKit P1 K
set_option linter.unusedVariables false

/-- What the loop of l01Var and of VarText carries. -/
def VarRel (n : Nat) (w : World) (m : Nat) (v : Value) (wr : World) : Prop :=
  ∃ (f : Nat) (xs : List UInt8), m ≤ 1000000000 ∧ m < 128 ^ (f + 1) ∧ xs.length + f = 9 ∧ xs ++ varF f m = varB n ∧ wr.ownsRow w.heap.size 5 1 v xs.length (B8 xs) ∧ Below w.heap.size w wr

theorem VarRel.next {n m : Nat} {w w' : World} {v' : Value} (hm : m ≤ 1000000000) (hi : 127 < m) {f : Nat} {xs : List UInt8} (hf : m < 128 ^ (f + 1)) (hl : xs.length + f = 9) (hxs : xs ++ varF f m = varB n)
    (hown : w'.ownsRow w.heap.size 5 1 v' (xs.length + 1) (B8 xs ++ [.int .u8 ((m : Int) % 128 + 128)])) (hbel : Below w.heap.size w w') : VarRel n w (m / 128) v' w' := by
  obtain ⟨f', rfl, h1, h2⟩ := var_step f n m xs hf hxs hi
  refine ⟨f', xs ++ [UInt8.ofNat (m % 128 + 128)], by omega, h1, by simp; omega, h2, ?_, hbel⟩
  rw [B8_snoc xs (UInt8.ofNat (m % 128 + 128)) _ (by rw [toNat_ofNat_small _ (by omega)]; omega)] at hown
  simpa using hown

theorem var_last {n m : Nat} {w w' : World} {v' : Value} (lo : m ≤ 127) {f : Nat} {xs : List UInt8} (hxs : xs ++ varF f m = varB n)
    (hown : w'.ownsRow w.heap.size 5 1 v' (xs.length + 1) (B8 xs ++ [.int .u8 (m : Int)])) :
    w'.ownsRow w.heap.size 5 1 v' (xs.length + 1) (B8 (varB n)) := by
  rw [B8_snoc xs (UInt8.ofNat m) _ (by rw [toNat_ofNat_small _ (by omega)]), var_end f n m xs hxs lo] at hown
  exact hown

set_option maxHeartbeats 1000000 in
theorem l01Var_any (n : Nat) (hn : n ≤ 1000000000) (w : World) :
    Calls Tryz.prog 63 #[.int .i64 n] w fun e w' => e = .returned (.string ⟨(varB n).toArray⟩) ∧ Below w.heap.size w w' := by
  go_enter Tryz.func63, Tryz.ntmps63
  go_wp2
  go_loopw [0, 3] (fun t v wr => ∃ m : Nat, t = .int .i64 m ∧ VarRel n w m v wr) (fun t _ _ => (intOf t).toNat)
  case atStart =>
    refine ⟨n, rfl, 9, [], hn, by omega, rfl, rfl, ?_, (Below.refl _ _).alloc (Nat.le_refl _) _⟩
    exact World.ownsRow_made (w := w) #[] 0 (Nat.le_refl _) (by decide) rfl
  case round =>
    obtain ⟨m, rfl, f, xs, hm, hf, hl, hxs, hown, hbel⟩ := hrel
    have HX : Hid (xs ++ varF f m = varB n) := hxs
    have HF : Hid (xs.length + f = 9) := hl
    have HM : Hid (m < 128 ^ (f + 1)) := hf
    have hl' : xs.length ≤ 9 := by omega
    clear hxs hl hf
    have hsz := hbel.size
    by_cases hlt : 127 < m
    · go_wp2_with (at_builtin; refine wpList_push rfl _ _ 101 rfl Tryz.underlying101 infoByte rfl rfl hown rfl rfl hbel hsz (by unfold maxLen; omega) (by omega) ?_)
      intro v' w1 hown' hbel' _
      have R := VarRel.next hm hlt HM.out HF.out HX.out hown' hbel'
      clear hown' hbel' hown hbel
      go_wp2
      go_roundw
      case rel => exact ⟨m / 128, by go_num, R⟩
      case measure => simp [intOf]; omega
    · go_wp2_with (at_builtin; refine wpList_push rfl _ _ 101 rfl Tryz.underlying101 infoByte rfl rfl hown rfl rfl hbel hsz (by unfold maxLen; omega) (by omega) ?_)
      intro v' w1 hown' hbel' _
      have R := var_last (n := n) (by omega) HX.out hown'
      have hconv := run_string_own (P := Tryz.prog) (src := 101) (dst := 9) Tryz.underlying101 Tryz.underlying5 Tryz.underlying9 R
      clear hown' hown hbel R
      go_wp2
      go_ret
      exact ⟨rfl, hbel'⟩

set_option maxHeartbeats 1000000 in
theorem implVarText_yes (n : Nat) (hn : n ≤ 1000000000) (w : World) :
    Calls Tryz.prog 126 #[.int .i64 n] w fun e w' => e = .returned (.tuple #[.string ⟨(varB n).toArray⟩, .bool true]) ∧ Below w.heap.size w w' := by
  have g1 : ¬ ((n : Int) < 0) := by omega
  have g2 : ¬ ((1000000000 : Int) < (n : Int)) := by omega
  go_enter Tryz.func126, Tryz.ntmps126
  go_wp2
  go_loopw [0, 4] (fun t v wr => ∃ m : Nat, t = .int .i64 m ∧ VarRel n w m v wr) (fun t _ _ => (intOf t).toNat)
  case atStart => exact ⟨n, rfl, 9, [], hn, by omega, rfl, rfl, World.ownsRow_nil _ _ _ _, Below.refl _ _⟩
  case round =>
    obtain ⟨m, rfl, f, xs, hm, hf, hl, hxs, hown, hbel⟩ := hrel
    have HX : Hid (xs ++ varF f m = varB n) := hxs
    have HF : Hid (xs.length + f = 9) := hl
    have HM : Hid (m < 128 ^ (f + 1)) := hf
    have hl' : xs.length ≤ 9 := by omega
    clear hxs hl hf
    have hsz := hbel.size
    by_cases hlt : 127 < m
    · go_wp2_with (at_builtin; refine wpList_push rfl _ _ 101 rfl Tryz.underlying101 infoByte rfl rfl hown rfl rfl hbel hsz (by unfold maxLen; omega) (by omega) ?_)
      intro v' w1 hown' hbel' _
      have R := VarRel.next hm hlt HM.out HF.out HX.out hown' hbel'
      clear hown' hbel' hown hbel
      go_wp2
      go_roundw
      case rel => exact ⟨m / 128, by go_num, R⟩
      case measure => simp [intOf]; omega
    · go_wp2_with (at_builtin; refine wpList_push rfl _ _ 101 rfl Tryz.underlying101 infoByte rfl rfl hown rfl rfl hbel hsz (by unfold maxLen; omega) (by omega) ?_)
      intro v' w1 hown' hbel' _
      have R := var_last (n := n) (by omega) HX.out hown'
      have hconv := run_string_own (P := Tryz.prog) (src := 101) (dst := 9) Tryz.underlying101 Tryz.underlying5 Tryz.underlying9 R
      clear hown' hown hbel R
      go_wp2
      go_ret2
      exact ⟨rfl, hbel'⟩

theorem implVarText_no (n : Int) (hn : n < 0 ∨ 1000000000 < n) (w : World) :
    Calls Tryz.prog 126 #[.int .i64 n] w fun e w' => e = .returned (.tuple #[.string ⟨#[]⟩, .bool false]) ∧ w = w' := by
  by_cases h0 : n < 0
  · go_enter Tryz.func126, Tryz.ntmps126
    go_wp2
    go_ret2
    exact ⟨rfl, rfl⟩
  · have h1 : 1000000000 < n := by omega
    go_enter Tryz.func126, Tryz.ntmps126
    go_wp2
    go_ret2
    exact ⟨rfl, rfl⟩

theorem l01In_yes (x a b : Int) (h0 : a ≤ x) (h1 : x ≤ b) (w : World) :
    Calls Tryz.prog 37 #[.int .i64 x, .int .i64 a, .int .i64 b] w fun e w' => e = .returned (.bool true) ∧ w = w' := by
  go_enter Tryz.func37, Tryz.ntmps37
  go_wp2
  go_ret
  exact ⟨rfl, rfl⟩

theorem l01In_no (x a b : Int) (h : x < a ∨ b < x) (w : World) :
    Calls Tryz.prog 37 #[.int .i64 x, .int .i64 a, .int .i64 b] w fun e w' => e = .returned (.bool false) ∧ w = w' := by
  by_cases h0 : x < a
  · go_enter Tryz.func37, Tryz.ntmps37
    go_wp2
    go_ret
    exact ⟨rfl, rfl⟩
  · have h1 : ¬ x ≤ b := by omega
    have h2 : a ≤ x := by omega
    clear h h0
    go_enter Tryz.func37, Tryz.ntmps37
    go_wp2
    go_ret
    exact ⟨rfl, rfl⟩

end Go.Proofs.YthbgklmnmoclhaaGreatDoor

namespace Go.Proofs.YthbgklmnmoclhaaGreatDoor.P1
open Go

theorem dec_small (m : Nat) (h : m < 10) : Lib.decDigits m = [UInt8.ofNat (48 + m)] := Lib.decDigits_one h
theorem dec_big (m : Nat) (h : ¬ m < 10) : Lib.decDigits m = Lib.decDigits (m / 10) ++ [UInt8.ofNat (48 + m % 10)] := by rw [Lib.decDigits, dif_neg h]

theorem figB_dec (d : Nat) (h : d < 10) : figB d = UInt8.ofNat (48 + d) := by unfold figB; rw [if_pos h]

/-- What the loop of Decimal carries: 'm' is still to be told, 't' is told. -/
def DecRel (N m : Nat) (t : List UInt8) : Prop := (m = 0 → Lib.decDigits N = t) ∧ (m ≠ 0 → Lib.decDigits N = Lib.decDigits m ++ t)

theorem DecRel.start (N : Nat) (h : N ≠ 0) : DecRel N N [] := ⟨fun e => absurd e h, fun _ => by simp⟩

theorem DecRel.step {N m : Nat} {t : List UInt8} (h : DecRel N m t) (hm : m ≠ 0) : DecRel N (m / 10) (figB (m % 10) :: t) := by
  have h2 := h.2 hm
  rw [figB_dec _ (by omega)]
  constructor
  · intro e
    rw [h2, dec_small m (by omega)]
    have : m % 10 = m := by omega
    rw [this]; rfl
  · intro e
    rw [h2, dec_big m (by omega)]
    simp

theorem DecRel.length {N m : Nat} {t : List UInt8} (h : DecRel N m t) : t.length ≤ (Lib.decDigits N).length := by
  by_cases e : m = 0
  · rw [h.1 e]; exact Nat.le_refl _
  · rw [h.2 e]; simp

theorem dec_length (N : Nat) (h : N ≤ 9223372036854775808) : (Lib.decDigits N).length ≤ 20 := by
  by_cases e : N = 0
  · subst e; rw [dec_small 0 (by decide)]; simp
  · have := Lib.itoa_length_le (-(N : Int)) (by omega) (by omega)
    rw [Lib.itoa_neg N (by omega)] at this
    simp at this; omega

/-- The number that figures tell. -/
def valD (l : List UInt8) : Nat := l.foldl (fun n b => n * 10 + (b.toNat - 48)) 0

theorem valD_snoc (l : List UInt8) (b : UInt8) : valD (l ++ [b]) = valD l * 10 + (b.toNat - 48) := by simp [valD]

theorem valD_le (l k : List UInt8) : valD l ≤ valD (l ++ k) := by
  induction k generalizing l with
  | nil => simp
  | cons b k ih =>
    have h1 := ih (l ++ [b])
    rw [valD_snoc] at h1
    have e : l ++ b :: k = l ++ [b] ++ k := by simp
    rw [e]; omega

theorem valD_take (l : List UInt8) (p : Nat) : valD (l.take p) ≤ valD l := by
  have := valD_le (l.take p) (l.drop p)
  rwa [List.take_append_drop] at this

theorem toNat_dec (d : Nat) (h : d < 10) : (UInt8.ofNat (48 + d)).toNat = 48 + d := by simp [UInt8.toNat_ofNat']; omega

theorem valD_dec (n : Nat) : valD (Lib.decDigits n) = n := by
  induction n using Nat.strongRecOn with
  | _ n ih =>
    by_cases h : n < 10
    · rw [dec_small n h]
      simp only [valD, List.foldl_cons, List.foldl_nil, toNat_dec n h]
      omega
    · rw [dec_big n h, valD_snoc, ih (n / 10) (by omega), toNat_dec _ (by omega)]
      omega

theorem dec_figures (n : Nat) : ∀ b ∈ Lib.decDigits n, 48 ≤ b.toNat ∧ b.toNat ≤ 57 := by
  induction n using Nat.strongRecOn with
  | _ n ih =>
    by_cases h : n < 10
    · rw [dec_small n h]
      intro b hb
      rw [List.mem_singleton.1 hb, toNat_dec n h]; omega
    · rw [dec_big n h]
      intro b hb
      rcases List.mem_append.1 hb with hb | hb
      · exact ih (n / 10) (by omega) b hb
      · rw [List.mem_singleton.1 hb, toNat_dec (n % 10) (by omega)]; omega

theorem dec_len10 : ∀ (k n : Nat), n < 10 ^ (k + 1) → (Lib.decDigits n).length ≤ k + 1
  | 0, n, h => by rw [dec_small n (by omega)]; simp
  | k + 1, n, h => by
    by_cases e : n < 10
    · rw [dec_small n e]; simp
    · rw [dec_big n e]
      have := dec_len10 k (n / 10) (by rw [Nat.div_lt_iff_lt_mul (by decide)]; rw [Nat.pow_succ] at h; exact h)
      simp; exact this

/-- What ReadDecimal finds. -/
def rdDec (l : List UInt8) : Option Nat := if valD l ≤ 1000000000 ∧ Lib.decDigits (valD l) = l then some (valD l) else none

theorem rdDec_bad (l : List UInt8) (b : UInt8) (hb : b ∈ l) (h : b.toNat < 48 ∨ 57 < b.toNat) : rdDec l = none := by
  unfold rdDec
  rw [if_neg]
  rintro ⟨_, e⟩
  rw [← e] at hb
  have := dec_figures _ b hb
  omega

theorem rdDec_great (l : List UInt8) (h : 1000000000 < valD l) : rdDec l = none := by
  unfold rdDec; rw [if_neg]; rintro ⟨h1, _⟩; omega

theorem rdDec_long (l : List UInt8) (h : 10 < l.length) : rdDec l = none := by
  unfold rdDec
  rw [if_neg]
  rintro ⟨h1, e⟩
  have := dec_len10 9 (valD l) (by omega)
  rw [e] at this; omega

theorem rdDec_yes (l : List UInt8) (h : valD l ≤ 1000000000) (e : Lib.decDigits (valD l) = l) : rdDec l = some (valD l) := by
  unfold rdDec; rw [if_pos ⟨h, e⟩]
theorem rdDec_no (l : List UInt8) (e : Lib.decDigits (valD l) ≠ l) : rdDec l = none := by
  unfold rdDec; rw [if_neg]; rintro ⟨_, h⟩; exact e h
theorem rdDec_some {l : List UInt8} {n : Nat} (h : rdDec l = some n) : n ≤ 1000000000 := by
  unfold rdDec at h
  split at h
  · rename_i c; simp at h; omega
  · cases h

end Go.Proofs.YthbgklmnmoclhaaGreatDoor.P1

namespace Go.Proofs.YthbgklmnmoclhaaGreatDoor
open P1

theorem rdGo_var (n : Nat) (hn : n ≤ 1000000000) (rest : List UInt8) : ∀ (f g m : Nat) (pre : List UInt8), m < 128 ^ f → 0 < f → f ≤ g + 1 → (pre = [] ∨ m ≠ 0) → rawV pre + m * 128 ^ pre.length = n →
    rdGo f pre (varF g m ++ rest) = some (n, pre.length + (varF g m).length)
  | 0, _, _, _, _, h, _, _, _ => by omega
  | f + 1, g, m, pre, hm, _, hg, hp, hv => by
    by_cases h : m ≤ 127
    · rw [varF_lo g m h]
      have hb : (UInt8.ofNat m).toNat = m := by simp [UInt8.toNat_ofNat']; omega
      have := rdGo_yes f pre (UInt8.ofNat m) rest (by rw [hb]; omega) (by rw [hb]; exact hp) (by rw [hb, hv]; exact hn)
      rw [hb, hv] at this
      exact this
    · have hf : 0 < f := by
        rcases Nat.eq_zero_or_pos f with e | e
        · subst e; simp at hm; omega
        · exact e
      obtain ⟨g', rfl⟩ : ∃ g', g = g' + 1 := ⟨g - 1, by omega⟩
      rw [varF_hi g' m (by omega), List.cons_append]
      have hb : (UInt8.ofNat (m % 128 + 128)).toNat = m % 128 + 128 := by simp [UInt8.toNat_ofNat']; omega
      rw [rdGo_on f pre _ _ (by rw [hb]; omega)]
      have hd : m / 128 < 128 ^ f := by
        rw [Nat.pow_succ] at hm
        exact Nat.div_lt_of_lt_mul (by rw [Nat.mul_comm]; exact hm)
      rw [rdGo_var n hn rest f g' (m / 128) (pre ++ [UInt8.ofNat (m % 128 + 128)]) hd hf (by omega) (Or.inr (by omega)) ?_]
      · simp; omega
      · rw [rawV_snoc, hb, List.length_append, List.length_singleton, Nat.pow_succ, ← hv]
        have e : m = m % 128 + 128 * (m / 128) := (Nat.mod_add_div m 128).symm
        have e2 : m * 128 ^ pre.length = (m % 128) * 128 ^ pre.length + (m / 128) * (128 ^ pre.length * 128) := by
          conv => lhs; rw [e]
          rw [Nat.add_mul, Nat.mul_comm 128 (m / 128), Nat.mul_assoc, Nat.mul_comm 128]
        rw [e2, show m % 128 + 128 - 128 = m % 128 by omega]
        omega

theorem rdGo_varB (n : Nat) (hn : n ≤ 1000000000) (rest : List UInt8) : rdGo 5 [] (varB n ++ rest) = some (n, (varB n).length) := by
  have := rdGo_var n hn rest 5 9 n [] (by have : (128 : Nat) ^ 5 = 34359738368 := by decide
                                          omega) (by decide) (by decide) (Or.inl rfl) (by simp [rawV])
  simp only [List.length_nil, Nat.zero_add] at this
  exact this

theorem rdDec_dec (n : Nat) (hn : n ≤ 1000000000) : rdDec (Lib.decDigits n) = some n := by
  rw [rdDec_yes _ (by rw [valD_dec]; exact hn) (by rw [valD_dec]), valD_dec]

theorem hexV_figB (v : Nat) (h : v < 16) : hexV (figB v).toNat = some v := (hexV_fig h).1 rfl

theorem hexL_at : ∀ (l : List UInt8) (i : Nat) (h : i < l.length), (hexL l).getD (2 * i) 0 = figB (l[i].toNat / 16) ∧ (hexL l).getD (2 * i + 1) 0 = figB (l[i].toNat % 16)
  | b :: l, 0, _ => ⟨rfl, rfl⟩
  | b :: l, i + 1, h => by
    have := hexL_at l i (by simpa using h)
    exact this

theorem hexTo_hexL (l : List UInt8) : hexTo (hexL l) (hexL l).length := by
  intro j hj
  rw [hexL_length] at hj
  have hb : (l[j / 2]'(by omega)).toNat < 256 := (l[j / 2]'(by omega)).toNat_lt
  obtain ⟨h1, h2⟩ := hexL_at l (j / 2) (by omega)
  rcases Nat.mod_two_eq_zero_or_one j with e | e
  · rw [show 2 * (j / 2) = j by omega] at h1
    rw [h1, hexV_figB _ (by omega)]
    simp
  · rw [show 2 * (j / 2) + 1 = j by omega] at h2
    rw [h2, hexV_figB _ (by omega)]
    simp

theorem uhL_hexL (l : List UInt8) : uhL (hexL l) l.length = l := by
  apply List.ext_getElem
  · rw [uhL_length]
  · intro i h1 h2
    obtain ⟨a, b⟩ := hexL_at l i h2
    have hb := l[i].toNat_lt
    have e1 : uhv (hexL l) (2 * i) = l[i].toNat / 16 := uhv_eq (by rw [a]; exact hexV_figB _ (by omega))
    have e2 : uhv (hexL l) (2 * i + 1) = l[i].toNat % 16 := uhv_eq (by rw [b]; exact hexV_figB _ (by omega))
    simp only [uhL, List.getElem_map, List.getElem_range, uhF, e1, e2]
    rw [show 16 * (l[i].toNat / 16) + l[i].toNat % 16 = l[i].toNat by omega]
    simp

end Go.Proofs.YthbgklmnmoclhaaGreatDoor
