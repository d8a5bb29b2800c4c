/-
  Walks of chapter 2: SumMore and SumOf of the program, over its table of halves.
-/
import Derived.Test.YtpenpbopehbncaaDoorWalk2a
import Derived.Lib.LaidTab
namespace Go.Proofs.YtpenpbopehbncaaDoor
open Go.RowKit P1 K P3
set_option linter.unusedVariables false

/-- The table as it must stand: what four steps make of each four bits. -/
def sumTab : List Int := (List.range 16).map fun i => (halfs 4 i : Int)

abbrev SumTabIs (w : World) : Prop := Lib.TabIs Tryd.prog w "loop.example/g00127/impl.sumHalves" .u32 sumTab

theorem sumTab_cell {w : World} (h : SumTabIs w) (i : Nat) (hi : i < 16) : w.cell? ⟨0, i, none⟩ = some (.int .u32 (halfs 4 i : Int)) := by
  have := Lib.TabIs.cell (g := 0) h (by kernel_rfl) i (by simp [sumTab]; exact hi)
  rw [this]
  simp [sumTab, List.getD, hi]

theorem four_u32 (m : Nat) (hm : m < 4294967296) : bits .xor .u32 ((m : Int) / 16) (halfs 4 (m % 16) : Int) = (halfs 4 m : Int) := by
  have := xor_u32 (m / 16) (halfs 4 (m % 16)) (by omega) (halfs_lt 4 _ (by omega))
  rw [four_split m]
  exact this

def halfs4 (j m : Nat) : Nat := halfs (4 * j) m

theorem halfs4_lt (j m : Nat) (h : m < 4294967296) : halfs4 j m < 4294967296 := halfs_lt _ _ h
theorem halfs4_succ (j m : Nat) : halfs4 (j + 1) m = halfs 4 (halfs4 j m) := by unfold halfs4; rw [← halfs_add]; rfl

set_option maxHeartbeats 1000000 in
theorem implWith_any (n : Nat) (hn : n < 4294967296) (b : UInt8) (w : World) (htab : SumTabIs w) :
    Calls Tryd.prog 106 #[.int .u32 (n : Int), .int .u8 (b.toNat : Int)] w fun e w' => e = .returned (.int .u32 (sumB n b : Int)) ∧ w = w' := by
  have hb := b.toNat_lt
  have HT := hide htab
  clear htab
  have hx := xor_u32 n b.toNat hn (by omega)
  have h1 := hide (xor_byte_lt n b hn)
  go_enter Tryd.func106, Tryd.ntmps106
  go_wp2_with fail
  go_loop [0, 9] (fun x i => ∃ j : Nat, i = .int .i64 (j : Int) ∧ j ≤ 2 ∧ x = .int .u32 (halfs4 j (n ^^^ b.toNat) : Int)) (fun _ i => 2 - (intOf i).toNat)
  case atStart => exact ⟨0, rfl, by omega, rfl⟩
  case round =>
    obtain ⟨j, rfl, hj, rfl⟩ := hrel
    clear hx
    by_cases hlt : j < 2
    · have h2 := halfs4_lt j _ h1.out
      have e2 := hide (halfs4_succ j (n ^^^ b.toNat))
      obtain ⟨u, hu⟩ : ∃ u, halfs4 j (n ^^^ b.toNat) = u := ⟨_, rfl⟩
      rw [hu] at h2 e2 ⊢
      clear hu
      have hc := sumTab_cell HT.out (u % 16) (by omega)
      have e3 := four_u32 u h2
      go_wp2_with fail
      go_round
      case rel => exact ⟨j + 1, by go_num, by omega, by rw [e2.out]⟩
      case measure => simp [intOf]; omega
    · have e8 : j = 2 := by omega
      subst e8
      go_wp2_with fail
      go_ret
      exact ⟨rfl, rfl⟩

set_option maxHeartbeats 1000000 in
theorem implSumMore_any (n : Nat) (hn : n < 4294967296) (s : ByteArray) (hs : s.size ≤ 281474976710656) (w : World) (htab : SumTabIs w) :
    Calls Tryd.prog 96 #[.int .u32 (n : Int), .string s] w fun e w' => e = .returned (.int .u32 (sumL n (bl s) : Int)) ∧ w = w' := by
  have HN := hide hn
  have HT := hide htab
  clear hn htab
  go_enter Tryd.func96, Tryd.ntmps96
  go_wp2_with fail
  go_loop [5, 10] (fun x i => ∃ k : Nat, i = .int .i64 (k : Int) ∧ k ≤ s.size ∧ x = .int .u32 (sumL n ((bl s).take k) : Int)) (fun _ i => s.size - (intOf i).toNat)
  case atStart => exact ⟨0, rfl, Nat.zero_le _, rfl⟩
  case round =>
    obtain ⟨k, rfl, hk, rfl⟩ := hrel
    by_cases hlt : k < s.size
    · have hb := s[k].toNat_lt
      have h0 := sumL_lt ((bl s).take k) n HN.out
      have e1 := hide (show sumL n ((bl s).take (k + 1)) = sumB (sumL n ((bl s).take k)) s[k] by rw [bl_take s k hlt, sumL_snoc])
      obtain ⟨m, hm⟩ : ∃ m, sumL n ((bl s).take k) = m := ⟨_, rfl⟩
      rw [hm] at h0 e1 ⊢
      clear hm
      go_wp2_with (go_at_call 106; refine (implWith_any m h0 s[k] _ HT.out).mono ?_; rintro e w1 ⟨rfl, rfl⟩)
      go_round
      case rel => exact ⟨k + 1, by go_num, by omega, by rw [e1.out]⟩
      case measure => simp [intOf]; omega
    · have e : (bl s).take k = bl s := List.take_of_length_le (by rw [bl_length]; omega)
      rw [e]
      go_wp2_with fail
      go_ret
      exact ⟨rfl, rfl⟩

theorem implSumOf_any (s : ByteArray) (hs : s.size ≤ 281474976710656) (w : World) (htab : SumTabIs w) :
    Calls Tryd.prog 76 #[.string s] w fun e w' => e = .returned (.int .u32 (sumOfL (bl s) : Int)) ∧ w = w' := by
  go_enter Tryd.func76, Tryd.ntmps76
  go_wp2_with (go_at_call 96; refine (implSumMore_any 4294967295 (by decide) s hs _ htab).mono ?_; rintro e w1 ⟨rfl, rfl⟩)
  go_ret
  exact ⟨rfl, rfl⟩

end Go.Proofs.YtpenpbopehbncaaDoor
