/-
  Walks of chapter 1: Hex, of the specification and of the program.
-/
import Derived.Test.YtfplnopcccjclaaWalk1b
import Derived.Deep.RegionHeld3
namespace Go.Proofs.Ytfplnopcccjclaa
open Go.RowKit P1 K
set_option linter.unusedVariables false

theorem l01Figure_any (x : Int) (h0 : 0 ≤ x) (h1 : x < 16) (w : World) :
    Calls Try.prog 21 #[.int .i64 x] w fun e w' => e = .returned (.int .u8 ((figB x.toNat).toNat : Int)) ∧ w = w' := by
  by_cases h : x < 10
  · have hv : Hid (48 + x = ((figB x.toNat).toNat : Int)) := by unfold Hid; rw [figB_lo _ (by omega)]; omega
    go_enter Try.func21, Try.ntmps21
    go_wp2
    go_ret
    exact ⟨by rw [← hv.out]; rfl, rfl⟩
  · have hv : Hid (97 + x - 10 = ((figB x.toNat).toNat : Int)) := by unfold Hid; rw [figB_hi _ (by omega) (by omega)]; omega
    go_enter Try.func21, Try.ntmps21
    go_wp2
    go_ret
    exact ⟨by rw [← hv.out]; rfl, rfl⟩

/-- What the loops of Hex carry. -/
def HexRel (s : ByteArray) (w : World) (k : Nat) (v : Value) (wr : World) : Prop :=
  k ≤ s.size ∧ wr.ownsRow w.heap.size 5 1 v (2 * k) (B8 (hexL ((bl s).take k))) ∧ Below w.heap.size w wr

theorem HexRel.next {s : ByteArray} {w w' : World} {k : Nat} {v' : Value} (hk : k < s.size)
    (hown : w'.ownsRow w.heap.size 5 1 v' (2 * k + 2) (B8 (hexL ((bl s).take k)) ++ [.int .u8 ((figB ((s[k].toNat : Int) / 16).toNat).toNat : Int), .int .u8 ((figB ((s[k].toNat : Int) % 16).toNat).toNat : Int)])) (hbel : Below w.heap.size w w') :
    HexRel s w (k + 1) v' w' := by
  refine ⟨by omega, ?_, hbel⟩
  rw [bl_take s k hk, hexL_snoc, B8_append]
  have e1 : ((s[k].toNat : Int) / 16).toNat = s[k].toNat / 16 := by omega
  have e2 : ((s[k].toNat : Int) % 16).toNat = s[k].toNat % 16 := by omega
  rw [e1, e2] at hown
  exact hown

set_option maxRecDepth 10000 in
set_option maxHeartbeats 400000 in
theorem specHex_yes (s : ByteArray) (hs : s.size ≤ 20000) (w : World) :
    Calls Try.prog 16 #[.string s] w fun e w' => e = .returned (.tuple #[.string ⟨(hexL (bl s)).toArray⟩, .bool true]) ∧ Below w.heap.size w w' := by
  go_enter Try.func16, Try.ntmps16
  go_wp2_with fail
  go_loopw [4, 5] (fun v i wr => ∃ k : Nat, i = .int .i64 k ∧ HexRel s w k v wr) (fun _ i _ => s.size - (intOf i).toNat)
  case atStart =>
    refine ⟨0, rfl, Nat.zero_le _, ?_, (Below.refl _ _).alloc (Nat.le_refl _) _⟩
    exact World.ownsRow_made (w := w) #[] 0 (Nat.le_refl _) (by decide) rfl
  case round =>
    obtain ⟨k, rfl, hk, hown, hbel⟩ := hrel
    have hsz := hbel.size
    by_cases hlt : k < s.size
    · have hb := s[k].toNat_lt
      have c1 : (0 : Int) ≤ (s[k].toNat : Int) / 16 := by omega
      have c2 : (s[k].toNat : Int) / 16 < 16 := by omega
      have c3 : (0 : Int) ≤ (s[k].toNat : Int) % 16 := by omega
      have c4 : (s[k].toNat : Int) % 16 < 16 := by omega
      have k0 : (0 : Int) ≤ (k : Int) := by omega
      have k1 : (k : Int) < (s.size : Int) := by omega
      have hix : ∀ wx, (Instr.index 9 (.string s) (.int .i64 (k : Int))).run Try.prog wx = .ok (.int .u8 (s[k].toNat : Int)) wx := fun wx => by
        rw [run_index_string (P := Try.prog) wx 9 s .i64 (k : Int) Try.underlying9, dif_pos ⟨k0, k1⟩]; rfl
      have hw1 : IntKind.i64.wrap (s[k].toNat : Int) = (s[k].toNat : Int) := IntWalk.i64_in _ ⟨by omega, by omega⟩
      have hw2 : IntKind.i64.wrap ((s[k].toNat : Int).tdiv 16) = (s[k].toNat : Int) / 16 := IntWalk.i64_quo _ _ ⟨by omega, by omega, by omega⟩
      have hw3 : (s[k].toNat : Int).tmod 16 = (s[k].toNat : Int) % 16 := Int.tmod_eq_emod_of_nonneg (by omega)
      have hw4 : IntKind.i64.wrap ((s[k].toNat : Int) / 16) = (s[k].toNat : Int) / 16 := IntWalk.i64_in _ ⟨by omega, by omega⟩
      have hw5 : IntKind.i64.wrap ((s[k].toNat : Int) % 16) = (s[k].toNat : Int) % 16 := IntWalk.i64_in _ ⟨by omega, by omega⟩
      go_wp2_with fail
      go_region_held3 (fun _ => True) (trivial) (first
        | (go_at_call 21; refine (l01Figure_any _ (by omega) (by omega) _).mono ?_; rintro e1 w1 ⟨rfl, rfl⟩)
        | (refine step_push (by rfl) _ _ 34 (by rfl) Try.underlying34 infoByte rfl (by rfl) (by exact hown.alloc _) (m := 2) (cs := #[.int .u8 ((figB ((s[k].toNat : Int) / 16).toNat).toNat : Int), .int .u8 ((figB ((s[k].toNat : Int) % 16).toNat).toNat : Int)]) (by rfl) rfl (by exact heap_alloc_new _ _) (by simp [Value.oneCell']) (by exact below_eq (hbel.alloc hsz _) rfl rfl rfl rfl) (by simp; omega) (by unfold maxLen; omega) (by omega) ?_; intro v' w1 hown1 hbel1 hsz1))
      all_goals
        have R := HexRel.next hlt hown1 hbel1
        clear hown1 hbel1 hown hbel
        go_wp2_with fail
        go_roundw
        case rel => exact ⟨k + 1, by go_num, R⟩
        case measure => simp [intOf]; omega
    · have e : (bl s).take k = bl s := List.take_of_length_le (by rw [bl_length]; omega)
      rw [e] at hown
      have hconv := run_string_own (P := Try.prog) (src := 34) (dst := 9) Try.underlying34 Try.underlying5 Try.underlying9 hown
      clear hown e
      go_wp2_with fail
      go_ret2
      exact ⟨rfl, hbel⟩

theorem specHex_no (s : ByteArray) (hs : s.size ≤ 1048576) (hbig : 20000 < s.size) (w : World) :
    Calls Try.prog 16 #[.string s] w fun e w' => e = .returned (.tuple #[.string ⟨#[]⟩, .bool false]) ∧ w = w' := by
  go_enter Try.func16, Try.ntmps16
  go_wp2_with fail
  go_ret2
  exact ⟨rfl, rfl⟩

theorem implHex_no (s : ByteArray) (hs : s.size ≤ 1048576) (hbig : 20000 < s.size) (w : World) :
    Calls Try.prog 17 #[.string s] w fun e w' => e = .returned (.tuple #[.string ⟨#[]⟩, .bool false]) ∧ w = w' := by
  go_enter Try.func17, Try.ntmps17
  go_wp2_with fail
  go_ret2
  exact ⟨rfl, rfl⟩

/-- The sixteen figures as the program has them. -/
theorem idx_hex (n : Nat) (h : n < 16) (wx : World) : (Instr.index 9 (.string ⟨#[48, 49, 50, 51, 52, 53, 54, 55, 56, 57, 97, 98, 99, 100, 101, 102]⟩) (.int .u8 (n : Int))).run Try.prog wx = .ok (.int .u8 ((figB n).toNat : Int)) wx := by
  rw [run_index_string (P := Try.prog) wx 9 _ .u8 (n : Int) Try.underlying9, dif_pos ⟨by omega, by show (n : Int) < 16; omega⟩]
  rcases (show n = 0 ∨ n = 1 ∨ n = 2 ∨ n = 3 ∨ n = 4 ∨ n = 5 ∨ n = 6 ∨ n = 7 ∨ n = 8 ∨ n = 9 ∨ n = 10 ∨ n = 11 ∨ n = 12 ∨ n = 13 ∨ n = 14 ∨ n = 15 by omega) with h | h | h | h | h | h | h | h | h | h | h | h | h | h | h | h <;> (subst h; rfl)

set_option maxRecDepth 10000 in
set_option maxHeartbeats 400000 in
theorem implHex_yes (s : ByteArray) (hs : s.size ≤ 20000) (w : World) :
    Calls Try.prog 17 #[.string s] w fun e w' => e = .returned (.tuple #[.string ⟨(hexL (bl s)).toArray⟩, .bool true]) ∧ Below w.heap.size w w' := by
  obtain ⟨i0, hi, hz0, hz1, hz2⟩ := info_parts infoByte
  go_enter Try.func17, Try.ntmps17
  go_wp2_with (at_make; refine wpList_make_own _ rfl _ _ 34 rfl w.heap.size 5 i0 (.int .u8 0) 1 Try.underlying34 hi hz0 hz1 _ _ _ (2 * s.size) rfl rfl (by omega) (by rw [hz2]; omega) (by unfold maxLen; omega) (Nat.le_refl _) ?_)
  intro w1 hown0 hgrow0
  have hbel0 : Below w.heap.size w w1 := (Below.refl _ _).grown hgrow0 (Nat.le_refl _) (by intro k hk; cases hk)
  clear hgrow0
  go_wp2_with fail
  go_loopw [4, 15] (fun v i wr => ∃ k : Nat, i = .int .i64 k ∧ HexRel s w k v wr) (fun _ i _ => s.size - (intOf i).toNat)
  case atStart => exact ⟨0, rfl, Nat.zero_le _, hown0, hbel0⟩
  case round =>
    obtain ⟨k, rfl, hk, hown, hbel⟩ := hrel
    have hsz := hbel.size
    clear hown0 hbel0
    by_cases hlt : k < s.size
    · have hb := s[k].toNat_lt
      have k0 : (0 : Int) ≤ (k : Int) := by omega
      have k1 : (k : Int) < (s.size : Int) := by omega
      have hix : ∀ wx, (Instr.index 9 (.string s) (.int .i64 (k : Int))).run Try.prog wx = .ok (.int .u8 (s[k].toNat : Int)) wx := fun wx => by
        rw [run_index_string (P := Try.prog) wx 9 s .i64 (k : Int) Try.underlying9, dif_pos ⟨k0, k1⟩]; rfl
      have e1 : (((s[k].toNat : Int) / 16).toNat : Int) = (s[k].toNat : Int) / 16 := by omega
      have e2 : (((s[k].toNat : Int) % 16).toNat : Int) = (s[k].toNat : Int) % 16 := by omega
      have hx1 := idx_hex ((s[k].toNat : Int) / 16).toNat (by omega)
      have hx2 := idx_hex ((s[k].toNat : Int) % 16).toNat (by omega)
      rw [e1] at hx1
      rw [e2] at hx2
      have hw1 : IntKind.u8.wrap ((s[k].toNat : Int).tdiv 16) = (s[k].toNat : Int) / 16 := by rw [Int.tdiv_eq_ediv_of_nonneg (by omega), IntKind.wrap_u8]; omega
      have hw3 : (s[k].toNat : Int).tmod 16 = (s[k].toNat : Int) % 16 := Int.tmod_eq_emod_of_nonneg (by omega)
      have hw4 : IntKind.u8.wrap ((s[k].toNat : Int) / 16) = (s[k].toNat : Int) / 16 := by rw [IntKind.wrap_u8]; omega
      have hw5 : IntKind.u8.wrap ((s[k].toNat : Int) % 16) = (s[k].toNat : Int) % 16 := by rw [IntKind.wrap_u8]; omega
      clear e1 e2
      go_wp2_with fail
      go_region_held3 (fun _ => True) (trivial) (first
        | (refine step_push (by rfl) _ _ 34 (by rfl) Try.underlying34 infoByte rfl (by rfl) (by exact hown.alloc _) (m := 2) (cs := #[.int .u8 ((figB ((s[k].toNat : Int) / 16).toNat).toNat : Int), .int .u8 ((figB ((s[k].toNat : Int) % 16).toNat).toNat : Int)]) (by rfl) rfl (by exact heap_alloc_new _ _) (by simp [Value.oneCell']) (by exact below_eq (hbel.alloc hsz _) rfl rfl rfl rfl) (by simp; omega) (by unfold maxLen; omega) (by omega) ?_; intro v' w1 hown1 hbel1 hsz1))
      all_goals
        have R := HexRel.next hlt hown1 hbel1
        clear hown1 hbel1 hown hbel
        go_wp2_with fail
        go_roundw
        case rel => exact ⟨k + 1, by go_num, R⟩
        case measure => simp [intOf]; omega
    · have e : (bl s).take k = bl s := List.take_of_length_le (by rw [bl_length]; omega)
      rw [e] at hown
      have hconv := run_string_own (P := Try.prog) (src := 34) (dst := 9) Try.underlying34 Try.underlying5 Try.underlying9 hown
      clear hown e
      go_wp2_with fail
      go_ret2
      exact ⟨rfl, hbel⟩

end Go.Proofs.Ytfplnopcccjclaa
