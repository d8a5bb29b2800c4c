/-
  Walks of chapter 2: Unsealed, of the specification and of the program.
-/
import Derived.Test.YtpenpbopehbncaaDoorWalk2c
import Derived.Test.YtpenpbopehbncaaDoorWalkClone
import Derived.Deep.RegionHeld3
import Derived.Deep.QuietTactic
import Derived.BigQuiet
import Derived.Lib.Strings
namespace Go.Proofs.YtpenpbopehbncaaDoor
open Go.RowKit P1 K P3
set_option linter.unusedVariables false

/-- The results of Unsealed as values. -/
def unsealVal : Option (List UInt8) → Value
  | none => .tuple #[.string ⟨#[]⟩, .bool false]
  | some l => .tuple #[.string ⟨l.toArray⟩, .bool true]

theorem unsealL_off (t : List UInt8) (h : t.length < 4 ∨ 20004 < t.length) : unsealL t = none := if_neg (by omega)

theorem bl_extract_head (s : ByteArray) (n : Nat) : s.extract 0 n = ⟨((bl s).take n).toArray⟩ := by
  apply ByteArray.ext
  apply Array.ext'
  simp

theorem bl_extract_tail (s : ByteArray) (n : Nat) : s.extract n s.size = ⟨((bl s).drop n).toArray⟩ := by
  apply ByteArray.ext
  apply Array.ext'
  rw [ByteArray.data_extract, Array.toList_extract, List.extract_eq_take_drop]
  show List.take (s.size - n) (List.drop n s.data.toList) = List.drop n s.data.toList
  apply List.take_of_length_le
  rw [List.length_drop]
  exact Nat.le_refl _

theorem ret_us_no {r : Option (List UInt8)} (h : r = none) : Ending.returned (.tuple #[.string ⟨#[]⟩, .bool false]) = .returned (unsealVal r) := by rw [h]; rfl
theorem ret_us_yes {r : Option (List UInt8)} {l : List UInt8} {x : ByteArray} (h : r = some l) (hx : x = ⟨l.toArray⟩) : Ending.returned (.tuple #[.string x, .bool true]) = .returned (unsealVal r) := by rw [h, hx]; rfl

set_option maxHeartbeats 1000000 in
theorem specUnsealed_any (s : ByteArray) (hs : s.size ≤ 281474976710656) (w : World) :
    Calls Tryd.prog 49 #[.string s] w fun e w' => e = .returned (unsealVal (unsealL (bl s))) ∧ Below w.heap.size w w' := by
  by_cases h4 : s.size < 4
  · have R := hide (unsealL_off (bl s) (by rw [bl_length]; omega))
    have g1 : decide ((s.size : Int) - 4 < 0) = true := by simp; omega
    go_enter Tryd.func49, Tryd.ntmps49
    go_wp2_with fail
    go_quiet (fail)
    all_goals
      go_wp2_with fail
      go_ret2
      exact ⟨ret_us_no R.out, below_eq (Below.refl _ _) rfl rfl rfl rfl⟩
  · by_cases hl : 20004 < s.size
    · have R := hide (unsealL_off (bl s) (by rw [bl_length]; omega))
      have g1 : decide ((s.size : Int) - 4 < 0) = false := by simp; omega
      have g2 : decide ((20000 : Int) < (s.size : Int) - 4) = true := by simp; omega
      go_enter Tryd.func49, Tryd.ntmps49
      go_wp2_with fail
      go_quiet (fail)
      all_goals
        go_wp2_with fail
        go_ret2
        exact ⟨ret_us_no R.out, below_eq (Below.refl _ _) rfl rfl rfl rfl⟩
    · obtain ⟨N, hN⟩ : ∃ N : Nat, s.size = N + 4 := ⟨s.size - 4, by omega⟩
      have e4 : (s.size : Int) - 4 = (N : Int) := by omega
      have g1 : decide ((N : Int) < 0) = false := by simp
      have g2 : decide ((20000 : Int) < (N : Int)) = false := by simp; omega
      have hsl1 : ∀ wx, (Instr.slice 9 (.string s) (some (.int .i64 (N : Int))) none none).run Tryd.prog wx = .ok (.string ⟨((bl s).drop N).toArray⟩) wx := fun wx => by
        rw [run_slice_string_l (P := Tryd.prog) (w := wx) 9 s Tryd.underlying9 .i64 (N : Int) (by omega) (by omega), Int.toNat_natCast, bl_extract_tail]
      have hsl2 : ∀ wx, (Instr.slice 9 (.string s) none (some (.int .i64 (N : Int))) none).run Tryd.prog wx = .ok (.string ⟨((bl s).take N).toArray⟩) wx := fun wx => by
        rw [run_slice_string_h (P := Tryd.prog) (w := wx) 9 s Tryd.underlying9 .i64 (N : Int) (by omega) (by omega), Int.toNat_natCast, bl_extract_head]
      have hlt := sumOfL_lt ((bl s).take N)
      have hHs : (⟨((bl s).take N).toArray⟩ : ByteArray).size ≤ 281474976710656 := by
        show ((bl s).take N).length ≤ _
        rw [List.length_take, bl_length]; omega
      obtain ⟨H, hH⟩ : ∃ H, (bl s).take N = H := ⟨_, rfl⟩
      obtain ⟨T, hT⟩ : ∃ T, (bl s).drop N = T := ⟨_, rfl⟩
      rw [hH] at hlt hHs
      obtain ⟨m, hm⟩ : ∃ m, sumOfL H = m := ⟨_, rfl⟩
      rw [hT] at hsl1
      rw [hH] at hsl2
      have R := hide (show unsealL (bl s) = if T = be32 m then some H else none by
        unfold unsealL
        rw [bl_length, hN, show N + 4 - 4 = N by omega, hH, hT, ← hm]
        have a1 : 4 ≤ N + 4 := by omega
        have a2 : N + 4 ≤ 20004 := by omega
        simp only [a1, a2, true_and])
      have M := hide hm
      rw [hm] at hlt
      clear hH hT hm hN h4 hl
      by_cases hq : T = be32 m
      · have q : (T == be32 m) = true := by simp [hq]
        rw [if_pos hq] at R
        clear hq
        go_enter Tryd.func49, Tryd.ntmps49
        go_wp2_with fail
        go_region_held3 (fun _ => True) (trivial) (first
          | (go_at_call 75; refine (specSumOf_any _ hHs _).mono ?_; rw [M.out]; rintro e1 w1 ⟨rfl, rfl⟩)
          | (go_at_call 74; refine (specFour_any m hlt _).mono ?_; rintro e1 w1 ⟨rfl, hb1⟩))
        all_goals
          go_wp2_with fail
          go_ret2
          exact ⟨ret_us_yes R.out rfl, below_from hb1 rfl rfl rfl rfl⟩
      · have q : (T == be32 m) = false := by simp [hq]
        rw [if_neg hq] at R
        clear hq
        go_enter Tryd.func49, Tryd.ntmps49
        go_wp2_with fail
        go_region_held3 (fun _ => True) (trivial) (first
          | (go_at_call 75; refine (specSumOf_any _ hHs _).mono ?_; rw [M.out]; rintro e1 w1 ⟨rfl, rfl⟩)
          | (go_at_call 74; refine (specFour_any m hlt _).mono ?_; rintro e1 w1 ⟨rfl, hb1⟩))
        all_goals
          go_wp2_with fail
          go_ret2
          exact ⟨ret_us_no R.out, below_from hb1 rfl rfl rfl rfl⟩

theorem seal_eq (H T : List UInt8) : (sealL H == H ++ T) = (T == be32 (sumOfL H)) := by
  rw [Bool.eq_iff_iff, beq_iff_eq, beq_iff_eq, sealL, List.append_cancel_left_eq]
  exact eq_comm

set_option maxHeartbeats 1000000 in
theorem implUnsealed_any (s : ByteArray) (hs : s.size ≤ 281474976710656) (w : World) (htab : SumTabIs w) :
    Calls Tryd.prog 107 #[.string s] w fun e w' => e = .returned (unsealVal (unsealL (bl s))) ∧ Below w.heap.size w w' := by
  have HT := hide htab
  clear htab
  by_cases h4 : s.size < 4
  · have R := hide (unsealL_off (bl s) (by rw [bl_length]; omega))
    have g1 : decide ((s.size : Int) < 4) = true := by simp; omega
    go_enter Tryd.func107, Tryd.ntmps107
    go_wp2_with fail
    go_ret2
    exact ⟨ret_us_no R.out, Below.refl _ _⟩
  · by_cases hl : 20004 < s.size
    · have R := hide (unsealL_off (bl s) (by rw [bl_length]; omega))
      have g1 : decide ((s.size : Int) < 4) = false := by simp; omega
      have g2 : decide ((20004 : Int) < (s.size : Int)) = true := by simp; omega
      go_enter Tryd.func107, Tryd.ntmps107
      go_wp2_with fail
      go_ret2
      exact ⟨ret_us_no R.out, Below.refl _ _⟩
    · have g1 : decide ((s.size : Int) < 4) = false := by simp; omega
      have g2 : decide ((20004 : Int) < (s.size : Int)) = false := by simp; omega
      obtain ⟨N, hN⟩ : ∃ N : Nat, s.size = N + 4 := ⟨s.size - 4, by omega⟩
      have e4 : (s.size : Int) - 4 = (N : Int) := by omega
      have hsl2 : ∀ wx, (Instr.slice 9 (.string s) none (some (.int .i64 (N : Int))) none).run Tryd.prog wx = .ok (.string ⟨((bl s).take N).toArray⟩) wx := fun wx => by
        rw [run_slice_string_h (P := Tryd.prog) (w := wx) 9 s Tryd.underlying9 .i64 (N : Int) (by omega) (by omega), Int.toNat_natCast, bl_extract_head]
      have hHl : ((bl s).take N).length ≤ 20000 := by rw [List.length_take, bl_length]; omega
      obtain ⟨H, hH⟩ : ∃ H, (bl s).take N = H := ⟨_, rfl⟩
      obtain ⟨T, hT⟩ : ∃ T, (bl s).drop N = T := ⟨_, rfl⟩
      have hS : s.toList = H ++ T := by rw [Lib.toList_data, ← hH, ← hT, List.take_append_drop]
      rw [hH] at hHl
      rw [hH] at hsl2
      have R := hide (show unsealL (bl s) = if T = be32 (sumOfL H) then some H else none by
        unfold unsealL
        rw [bl_length, hN, show N + 4 - 4 = N by omega, hH, hT]
        have a1 : 4 ≤ N + 4 := by omega
        have a2 : N + 4 ≤ 20004 := by omega
        simp only [a1, a2, true_and])
      have hHs : (⟨H.toArray⟩ : ByteArray).size ≤ 281474976710656 := by show H.length ≤ _; omega
      have V := hide (sealVal_yes hHl)
      have Q := seal_eq H T
      clear hH hT hN h4 hl
      by_cases hq : T = be32 (sumOfL H)
      · have q : (sealL H == s.toList) = true := by rw [hS, Q, beq_iff_eq]; exact hq
        rw [if_pos hq] at R
        clear hq hS Q
        go_enter Tryd.func107, Tryd.ntmps107
        go_wp2_with (first
          | (go_at_call 47; refine (implSealed_any _ hHs _ HT.out).mono ?_; rw [V.out]; rintro e w1 ⟨rfl, hb1⟩)
          | (go_at_call 88; refine (stringsClone_any _ hHs _).mono ?_; rintro e w2 ⟨rfl, hb2⟩))
        go_ret2
        exact ⟨ret_us_yes R.out rfl, hb1.trans (hb2.mono hb1.size)⟩
      · have q : (sealL H == s.toList) = false := by rw [hS, Q, beq_eq_false_iff_ne]; exact hq
        rw [if_neg hq] at R
        clear hq hS Q
        go_enter Tryd.func107, Tryd.ntmps107
        go_wp2_with (first
          | (go_at_call 47; refine (implSealed_any _ hHs _ HT.out).mono ?_; rw [V.out]; rintro e w1 ⟨rfl, hb1⟩)
          | (go_at_call 88; refine (stringsClone_any _ hHs _).mono ?_; rintro e w2 ⟨rfl, hb2⟩))
        go_ret2
        exact ⟨ret_us_no R.out, hb1⟩

end Go.Proofs.YtpenpbopehbncaaDoor
