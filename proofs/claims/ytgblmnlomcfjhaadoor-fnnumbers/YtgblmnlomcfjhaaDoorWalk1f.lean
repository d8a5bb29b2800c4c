/-
  Walks of chapter 1: Hex, of the specification and of the program.
-/
import Derived.Test.YtgblmnlomcfjhaaDoorWalk1b
import Derived.Deep.RegionHeld3
namespace Go.Proofs.YtgblmnlomcfjhaaDoor
open Go.RowKit P1 K
set_option linter.unusedVariables false

/-- What the loops of Hex carry. -/
def HexRel (s : ByteArray) (w : World) (k : Nat) (v : Value) (wr : World) : Prop :=
  k ≤ s.size ∧ wr.ownsRow w.heap.size 5 1 v (2 * k) (B8 (hexL ((bl s).take k))) ∧ Below w.heap.size w wr

theorem HexRel.next {s : ByteArray} {w w' : World} {k : Nat} {v' : Value} (hk : k < s.size)
    (hown : w'.ownsRow w.heap.size 5 1 v' (2 * k + 2) (B8 (hexL ((bl s).take k)) ++ [.int .u8 ((figB ((s[k].toNat : Int) / 16).toNat).toNat : Int), .int .u8 ((figB ((s[k].toNat : Int) % 16).toNat).toNat : Int)])) (hbel : Below w.heap.size w w') :
    HexRel s w (k + 1) v' w' := by
  refine ⟨by omega, ?_, hbel⟩
  rw [bl_take s k hk, hexL_snoc, B8_append]
  have e1 : ((s[k].toNat : Int) / 16).toNat = s[k].toNat / 16 := by omega
  have e2 : ((s[k].toNat : Int) % 16).toNat = s[k].toNat % 16 := by omega
  rw [e1, e2] at hown
  exact hown

theorem implHex_no (s : ByteArray) (hs : s.size ≤ 1048576) (hbig : 20000 < s.size) (w : World) :
    Calls Tryd.prog 18 #[.string s] w fun e w' => e = .returned (.tuple #[.string ⟨#[]⟩, .bool false]) ∧ w = w' := by
  go_enter Tryd.func18, Tryd.ntmps18
  go_wp2_with fail
  go_ret2
  exact ⟨rfl, rfl⟩

set_option maxRecDepth 10000 in
set_option maxHeartbeats 400000 in
theorem implHex_yes (s : ByteArray) (hs : s.size ≤ 20000) (w : World) :
    Calls Tryd.prog 18 #[.string s] w fun e w' => e = .returned (.tuple #[.string ⟨(hexL (bl s)).toArray⟩, .bool true]) ∧ Below w.heap.size w w' := by
  obtain ⟨i0, hi, hz0, hz1, hz2⟩ := info_parts infoByte
  go_enter Tryd.func18, Tryd.ntmps18
  go_wp2_with (at_make; refine wpList_make_own _ rfl _ _ 22 rfl w.heap.size 5 i0 (.int .u8 0) 1 Tryd.underlying22 hi hz0 hz1 _ _ _ (2 * s.size) rfl rfl (by omega) (by rw [hz2]; omega) (by unfold maxLen; omega) (Nat.le_refl _) ?_)
  intro w1 hown0 hgrow0
  have hbel0 : Below w.heap.size w w1 := (Below.refl _ _).grown hgrow0 (Nat.le_refl _) (by intro k hk; cases hk)
  clear hgrow0
  go_wp2_with fail
  go_loopw [4, 15] (fun v i wr => ∃ k : Nat, i = .int .i64 k ∧ HexRel s w k v wr) (fun _ i _ => s.size - (intOf i).toNat)
  case atStart => exact ⟨0, rfl, Nat.zero_le _, hown0, hbel0⟩
  case round =>
    obtain ⟨k, rfl, hk, hown, hbel⟩ := hrel
    have hsz := hbel.size
    clear hown0 hbel0
    by_cases hlt : k < s.size
    · have hb := s[k].toNat_lt
      have k0 : (0 : Int) ≤ (k : Int) := by omega
      have k1 : (k : Int) < (s.size : Int) := by omega
      have hix : ∀ wx, (Instr.index 9 (.string s) (.int .i64 (k : Int))).run Tryd.prog wx = .ok (.int .u8 (s[k].toNat : Int)) wx := fun wx => by
        rw [run_index_string (P := Tryd.prog) wx 9 s .i64 (k : Int) Tryd.underlying9, dif_pos ⟨k0, k1⟩]; rfl
      have e1 : (((s[k].toNat : Int) / 16).toNat : Int) = (s[k].toNat : Int) / 16 := by omega
      have e2 : (((s[k].toNat : Int) % 16).toNat : Int) = (s[k].toNat : Int) % 16 := by omega
      have hx1 := idx_hex .u8 ((s[k].toNat : Int) / 16).toNat (by omega)
      have hx2 := idx_hex .u8 ((s[k].toNat : Int) % 16).toNat (by omega)
      rw [e1] at hx1
      rw [e2] at hx2
      have hw1 : IntKind.u8.wrap ((s[k].toNat : Int).tdiv 16) = (s[k].toNat : Int) / 16 := by rw [Int.tdiv_eq_ediv_of_nonneg (by omega), IntKind.wrap_u8]; omega
      have hw3 : (s[k].toNat : Int).tmod 16 = (s[k].toNat : Int) % 16 := Int.tmod_eq_emod_of_nonneg (by omega)
      have hw4 : IntKind.u8.wrap ((s[k].toNat : Int) / 16) = (s[k].toNat : Int) / 16 := by rw [IntKind.wrap_u8]; omega
      have hw5 : IntKind.u8.wrap ((s[k].toNat : Int) % 16) = (s[k].toNat : Int) % 16 := by rw [IntKind.wrap_u8]; omega
      clear e1 e2
      go_wp2_with fail
      go_region_held3 (fun _ => True) (trivial) (first
        | (refine step_push (by rfl) _ _ 22 (by rfl) Tryd.underlying22 infoByte rfl (by rfl) (by exact hown.alloc _) (m := 2) (cs := #[.int .u8 ((figB ((s[k].toNat : Int) / 16).toNat).toNat : Int), .int .u8 ((figB ((s[k].toNat : Int) % 16).toNat).toNat : Int)]) (by rfl) rfl (by exact heap_alloc_new _ _) (by simp [Value.oneCell']) (by exact below_eq (hbel.alloc hsz _) rfl rfl rfl rfl) (by simp; omega) (by unfold maxLen; omega) (by omega) ?_; intro v' w1 hown1 hbel1 hsz1))
      all_goals
        have R := HexRel.next hlt hown1 hbel1
        clear hown1 hbel1 hown hbel
        go_wp2_with fail
        go_roundw
        case rel => exact ⟨k + 1, by go_num, R⟩
        case measure => simp [intOf]; omega
    · have e : (bl s).take k = bl s := List.take_of_length_le (by rw [bl_length]; omega)
      rw [e] at hown
      have hconv := run_string_own (P := Tryd.prog) (src := 22) (dst := 9) Tryd.underlying22 Tryd.underlying5 Tryd.underlying9 hown
      clear hown e
      go_wp2_with fail
      go_ret2
      exact ⟨rfl, hbel⟩

end Go.Proofs.YtgblmnlomcfjhaaDoor
