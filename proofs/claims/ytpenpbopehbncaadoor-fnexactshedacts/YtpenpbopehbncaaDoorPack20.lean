/-
  Walks of chapter 2: Unsealed, of the specification and of the program.
  Slices of numbers that a call owns: pushed to, marked, and the marks read again.
-/
import Derived.Test.YtpenpbopehbncaaDoorPack19
import Derived.Test.YtpenpbopehbncaaDoorPack18
import Derived.Deep.RegionHeld3
import Derived.Deep.QuietTactic
import Derived.BigQuiet
import Derived.Lib.Strings
import Derived.Test.YtpenpbopehbncaaDoorPack13
import Derived.Test.YtpenpbopehbncaaDoorPack1
namespace Go.Proofs.YtpenpbopehbncaaDoor
open Go.RowKit P1 K P3
set_option linter.unusedVariables false

/-- The results of Unsealed as values. -/
def unsealVal : Option (List UInt8) → Value
  | none => .tuple #[.string ⟨#[]⟩, .bool false]
  | some l => .tuple #[.string ⟨l.toArray⟩, .bool true]

theorem unsealL_off (t : List UInt8) (h : t.length < 4 ∨ 20004 < t.length) : unsealL t = none := if_neg (by omega)

theorem bl_extract_head (s : ByteArray) (n : Nat) : s.extract 0 n = ⟨((bl s).take n).toArray⟩ := by
  apply ByteArray.ext
  apply Array.ext'
  simp

theorem bl_extract_tail (s : ByteArray) (n : Nat) : s.extract n s.size = ⟨((bl s).drop n).toArray⟩ := by
  apply ByteArray.ext
  apply Array.ext'
  rw [ByteArray.data_extract, Array.toList_extract, List.extract_eq_take_drop]
  show List.take (s.size - n) (List.drop n s.data.toList) = List.drop n s.data.toList
  apply List.take_of_length_le
  rw [List.length_drop]
  exact Nat.le_refl _

theorem ret_us_no {r : Option (List UInt8)} (h : r = none) : Ending.returned (.tuple #[.string ⟨#[]⟩, .bool false]) = .returned (unsealVal r) := by rw [h]; rfl
theorem ret_us_yes {r : Option (List UInt8)} {l : List UInt8} {x : ByteArray} (h : r = some l) (hx : x = ⟨l.toArray⟩) : Ending.returned (.tuple #[.string x, .bool true]) = .returned (unsealVal r) := by rw [h, hx]; rfl

set_option maxHeartbeats 1000000 in
theorem specUnsealed_any (s : ByteArray) (hs : s.size ≤ 281474976710656) (w : World) :
    Calls Tryd.prog 49 #[.string s] w fun e w' => e = .returned (unsealVal (unsealL (bl s))) ∧ Below w.heap.size w w' := by
  by_cases h4 : s.size < 4
  · have R := hide (unsealL_off (bl s) (by rw [bl_length]; omega))
    have g1 : decide ((s.size : Int) - 4 < 0) = true := by simp; omega
    go_enter Tryd.func49, Tryd.ntmps49
    go_wp2_with fail
    go_quiet (fail)
    all_goals
      go_wp2_with fail
      go_ret2
      exact ⟨ret_us_no R.out, below_eq (Below.refl _ _) rfl rfl rfl rfl⟩
  · by_cases hl : 20004 < s.size
    · have R := hide (unsealL_off (bl s) (by rw [bl_length]; omega))
      have g1 : decide ((s.size : Int) - 4 < 0) = false := by simp; omega
      have g2 : decide ((20000 : Int) < (s.size : Int) - 4) = true := by simp; omega
      go_enter Tryd.func49, Tryd.ntmps49
      go_wp2_with fail
      go_quiet (fail)
      all_goals
        go_wp2_with fail
        go_ret2
        exact ⟨ret_us_no R.out, below_eq (Below.refl _ _) rfl rfl rfl rfl⟩
    · obtain ⟨N, hN⟩ : ∃ N : Nat, s.size = N + 4 := ⟨s.size - 4, by omega⟩
      have e4 : (s.size : Int) - 4 = (N : Int) := by omega
      have g1 : decide ((N : Int) < 0) = false := by simp
      have g2 : decide ((20000 : Int) < (N : Int)) = false := by simp; omega
      have hsl1 : ∀ wx, (Instr.slice 9 (.string s) (some (.int .i64 (N : Int))) none none).run Tryd.prog wx = .ok (.string ⟨((bl s).drop N).toArray⟩) wx := fun wx => by
        rw [run_slice_string_l (P := Tryd.prog) (w := wx) 9 s Tryd.underlying9 .i64 (N : Int) (by omega) (by omega), Int.toNat_natCast, bl_extract_tail]
      have hsl2 : ∀ wx, (Instr.slice 9 (.string s) none (some (.int .i64 (N : Int))) none).run Tryd.prog wx = .ok (.string ⟨((bl s).take N).toArray⟩) wx := fun wx => by
        rw [run_slice_string_h (P := Tryd.prog) (w := wx) 9 s Tryd.underlying9 .i64 (N : Int) (by omega) (by omega), Int.toNat_natCast, bl_extract_head]
      have hlt := sumOfL_lt ((bl s).take N)
      have hHs : (⟨((bl s).take N).toArray⟩ : ByteArray).size ≤ 281474976710656 := by
        show ((bl s).take N).length ≤ _
        rw [List.length_take, bl_length]; omega
      obtain ⟨H, hH⟩ : ∃ H, (bl s).take N = H := ⟨_, rfl⟩
      obtain ⟨T, hT⟩ : ∃ T, (bl s).drop N = T := ⟨_, rfl⟩
      rw [hH] at hlt hHs
      obtain ⟨m, hm⟩ : ∃ m, sumOfL H = m := ⟨_, rfl⟩
      rw [hT] at hsl1
      rw [hH] at hsl2
      have R := hide (show unsealL (bl s) = if T = be32 m then some H else none by
        unfold unsealL
        rw [bl_length, hN, show N + 4 - 4 = N by omega, hH, hT, ← hm]
        have a1 : 4 ≤ N + 4 := by omega
        have a2 : N + 4 ≤ 20004 := by omega
        simp only [a1, a2, true_and])
      have M := hide hm
      rw [hm] at hlt
      clear hH hT hm hN h4 hl
      by_cases hq : T = be32 m
      · have q : (T == be32 m) = true := by simp [hq]
        rw [if_pos hq] at R
        clear hq
        go_enter Tryd.func49, Tryd.ntmps49
        go_wp2_with fail
        go_region_held3 (fun _ => True) (trivial) (first
          | (go_at_call 75; refine (specSumOf_any _ hHs _).mono ?_; rw [M.out]; rintro e1 w1 ⟨rfl, rfl⟩)
          | (go_at_call 74; refine (specFour_any m hlt _).mono ?_; rintro e1 w1 ⟨rfl, hb1⟩))
        all_goals
          go_wp2_with fail
          go_ret2
          exact ⟨ret_us_yes R.out rfl, below_from hb1 rfl rfl rfl rfl⟩
      · have q : (T == be32 m) = false := by simp [hq]
        rw [if_neg hq] at R
        clear hq
        go_enter Tryd.func49, Tryd.ntmps49
        go_wp2_with fail
        go_region_held3 (fun _ => True) (trivial) (first
          | (go_at_call 75; refine (specSumOf_any _ hHs _).mono ?_; rw [M.out]; rintro e1 w1 ⟨rfl, rfl⟩)
          | (go_at_call 74; refine (specFour_any m hlt _).mono ?_; rintro e1 w1 ⟨rfl, hb1⟩))
        all_goals
          go_wp2_with fail
          go_ret2
          exact ⟨ret_us_no R.out, below_from hb1 rfl rfl rfl rfl⟩

theorem seal_eq (H T : List UInt8) : (sealL H == H ++ T) = (T == be32 (sumOfL H)) := by
  rw [Bool.eq_iff_iff, beq_iff_eq, beq_iff_eq, sealL, List.append_cancel_left_eq]
  exact eq_comm

set_option maxHeartbeats 1000000 in
theorem implUnsealed_any (s : ByteArray) (hs : s.size ≤ 281474976710656) (w : World) (htab : SumTabIs w) :
    Calls Tryd.prog 107 #[.string s] w fun e w' => e = .returned (unsealVal (unsealL (bl s))) ∧ Below w.heap.size w w' := by
  have HT := hide htab
  clear htab
  by_cases h4 : s.size < 4
  · have R := hide (unsealL_off (bl s) (by rw [bl_length]; omega))
    have g1 : decide ((s.size : Int) < 4) = true := by simp; omega
    go_enter Tryd.func107, Tryd.ntmps107
    go_wp2_with fail
    go_ret2
    exact ⟨ret_us_no R.out, Below.refl _ _⟩
  · by_cases hl : 20004 < s.size
    · have R := hide (unsealL_off (bl s) (by rw [bl_length]; omega))
      have g1 : decide ((s.size : Int) < 4) = false := by simp; omega
      have g2 : decide ((20004 : Int) < (s.size : Int)) = true := by simp; omega
      go_enter Tryd.func107, Tryd.ntmps107
      go_wp2_with fail
      go_ret2
      exact ⟨ret_us_no R.out, Below.refl _ _⟩
    · have g1 : decide ((s.size : Int) < 4) = false := by simp; omega
      have g2 : decide ((20004 : Int) < (s.size : Int)) = false := by simp; omega
      obtain ⟨N, hN⟩ : ∃ N : Nat, s.size = N + 4 := ⟨s.size - 4, by omega⟩
      have e4 : (s.size : Int) - 4 = (N : Int) := by omega
      have hsl2 : ∀ wx, (Instr.slice 9 (.string s) none (some (.int .i64 (N : Int))) none).run Tryd.prog wx = .ok (.string ⟨((bl s).take N).toArray⟩) wx := fun wx => by
        rw [run_slice_string_h (P := Tryd.prog) (w := wx) 9 s Tryd.underlying9 .i64 (N : Int) (by omega) (by omega), Int.toNat_natCast, bl_extract_head]
      have hHl : ((bl s).take N).length ≤ 20000 := by rw [List.length_take, bl_length]; omega
      obtain ⟨H, hH⟩ : ∃ H, (bl s).take N = H := ⟨_, rfl⟩
      obtain ⟨T, hT⟩ : ∃ T, (bl s).drop N = T := ⟨_, rfl⟩
      have hS : s.toList = H ++ T := by rw [Lib.toList_data, ← hH, ← hT, List.take_append_drop]
      rw [hH] at hHl
      rw [hH] at hsl2
      have R := hide (show unsealL (bl s) = if T = be32 (sumOfL H) then some H else none by
        unfold unsealL
        rw [bl_length, hN, show N + 4 - 4 = N by omega, hH, hT]
        have a1 : 4 ≤ N + 4 := by omega
        have a2 : N + 4 ≤ 20004 := by omega
        simp only [a1, a2, true_and])
      have hHs : (⟨H.toArray⟩ : ByteArray).size ≤ 281474976710656 := by show H.length ≤ _; omega
      have V := hide (sealVal_yes hHl)
      have Q := seal_eq H T
      clear hH hT hN h4 hl
      by_cases hq : T = be32 (sumOfL H)
      · have q : (sealL H == s.toList) = true := by rw [hS, Q, beq_iff_eq]; exact hq
        rw [if_pos hq] at R
        clear hq hS Q
        go_enter Tryd.func107, Tryd.ntmps107
        go_wp2_with (first
          | (go_at_call 47; refine (implSealed_any _ hHs _ HT.out).mono ?_; rw [V.out]; rintro e w1 ⟨rfl, hb1⟩)
          | (go_at_call 88; refine (stringsClone_any _ hHs _).mono ?_; rintro e w2 ⟨rfl, hb2⟩))
        go_ret2
        exact ⟨ret_us_yes R.out rfl, hb1.trans (hb2.mono hb1.size)⟩
      · have q : (sealL H == s.toList) = false := by rw [hS, Q, beq_eq_false_iff_ne]; exact hq
        rw [if_neg hq] at R
        clear hq hS Q
        go_enter Tryd.func107, Tryd.ntmps107
        go_wp2_with (first
          | (go_at_call 47; refine (implSealed_any _ hHs _ HT.out).mono ?_; rw [V.out]; rintro e w1 ⟨rfl, hb1⟩)
          | (go_at_call 88; refine (stringsClone_any _ hHs _).mono ?_; rintro e w2 ⟨rfl, hb2⟩))
        go_ret2
        exact ⟨ret_us_no R.out, hb1⟩

end Go.Proofs.YtpenpbopehbncaaDoor

namespace Go.Proofs.YtpenpbopehbncaaDoor
open Go.RowKit P5 P9 K
set_option linter.unusedVariables false
set_option linter.unusedSimpArgs false

/-- A row that is owned and not empty lies somewhere. -/
theorem own_some {w : World} {base : Nat} {e : TypeId} {size : Nat} {v : Value} {n : Nat} {xs : List Value} (h : w.ownsRow base e size v (n + 1) xs) (hs : 0 < size) : ∃ g cap, v = .slice (some ⟨g, 0, none⟩) (n + 1) cap := by
  have h1 := h.1
  rcases h.2 with ⟨rfl, h2⟩ | ⟨g, cap, cur, rfl, _⟩
  · exact absurd h2 (Nat.succ_ne_zero n)
  · exact ⟨g, cap, rfl⟩

/-- The marks k, k + 1 .. of n places. -/
def marksI (k n : Nat) : List Int := (List.range n).map fun i => ((k + i : Nat) : Int)

theorem marksI_length (k n : Nat) : (marksI k n).length = n := by simp [marksI]
theorem marksI_at (k n j : Nat) (h : j < n) : (marksI k n)[j]? = some ((k + j : Nat) : Int) := by simp [marksI, h]

theorem marksI_step (k j n : Nat) (xs : List Value) (hl : xs.length = n) (hj : j < n) : ((marksI k j).map icell ++ xs.drop j).set j (.int .i64 ((k + j : Nat) : Int)) = (marksI k (j + 1)).map icell ++ xs.drop (j + 1) := by
  have e1 : xs.drop j = xs[j] :: xs.drop (j + 1) := List.drop_eq_getElem_cons (by omega)
  have e2 : marksI k (j + 1) = marksI k j ++ [((k + j : Nat) : Int)] := by simp [marksI, List.range_succ]
  rw [e2, List.set_append_right _ _ (by simp [marksI_length]), List.map_append, List.length_map, marksI_length, Nat.sub_self, e1, List.set_cons_zero]
  simp [icell]

set_option maxHeartbeats 1000000 in
theorem markIntS_own (g n cap base k : Nat) (hn : n ≤ 1048576) (hk : k ≤ 1000000000) (w : World) (xs : List Value) (hown : w.ownsRow base 3 1 (.slice (some ⟨g, 0, none⟩) n cap) n xs) :
    Calls Tryd.prog 54 #[.slice (some ⟨g, 0, none⟩) n cap, .int .i64 (k : Int)] w fun e w' => e = .returned (.int .i64 ((k + n : Nat) : Int)) ∧
      w'.ownsRow base 3 1 (.slice (some ⟨g, 0, none⟩) n cap) n ((marksI k n).map icell) ∧ w.grownBy w' (some g) := by
  have HO0 := hide hown
  have HL := hide (show xs.length = n by have := hown.1; omega)
  clear hown
  go_enter Tryd.func54, Tryd.ntmps54
  go_wp2_with fail
  go_loopw [1, 5] (fun x i wr => ∃ (j : Nat), i = .int .i64 (j : Int) ∧ x = .int .i64 ((k + j : Nat) : Int) ∧ j ≤ n ∧ wr.ownsRow base 3 1 (.slice (some ⟨g, 0, none⟩) n cap) n ((marksI k j).map icell ++ xs.drop j) ∧ w.grownBy wr (some g)) (fun _ i _ => n - (intOf i).toNat)
  case atStart => exact ⟨0, rfl, rfl, Nat.zero_le _, by simpa [marksI] using HO0.out, grown_below (Below.refl _ _)⟩
  case round =>
    obtain ⟨j, rfl, rfl, hj, hown, hgr⟩ := hrel
    by_cases hlt : j < n
    · have j0 : (j : Int) < (n : Int) := by omega
      have hidx2 : ∀ wx, (Instr.indexAt 24 (.slice (some ⟨g, 0, none⟩) n cap) (.int .i64 (j : Int))).run Tryd.prog wx = .ok (.pointer (some ⟨g, j, none⟩)) wx := fun wx => by
        have := run_indexAt_slice wx 24 3 1 Tryd.underlying24 infoI g 0 n cap j hlt
        rwa [Nat.zero_add, Nat.mul_one] at this
      have hl := hown.1
      obtain ⟨u, hu⟩ : ∃ u, wr.cell? ⟨g, j, none⟩ = some u := ⟨_, by rw [hown.cellAt j (by omega), List.getElem?_eq_getElem (by omega)]⟩
      have hfz := hown.frozenAt j
      have hst := hown.stored j (.int .i64 ((k + j : Nat) : Int))
      rw [marksI_step k j n xs HL.out hlt] at hst
      have HST := hide hst
      clear hown hl hst
      go_wp2_with fail
      go_roundw
      case rel => exact ⟨j + 1, by go_num, by go_num, by omega, HST.out.1, grown_trans hgr HST.out.2⟩
      case measure => simp [intOf]; omega
    · have ej : j = n := by omega
      subst ej
      rw [List.drop_of_length_le (by rw [HL.out]; exact Nat.le_refl _), List.append_nil] at hown
      have HO := hide hown
      clear hown
      go_wp2_with fail
      go_ret
      exact ⟨by go_num, HO.out, hgr⟩

set_option maxHeartbeats 1000000 in
theorem heldIntS_own (oa : Option Addr) (n cap k : Nat) (hn : n ≤ 1048576) (hk : k ≤ 1000000000) (w : World) (hat : IntsAt w oa n cap (marksI k n)) :
    Calls Tryd.prog 55 #[.slice oa n cap, .int .i64 (k : Int)] w fun e w' => e = .returned (.int .i64 ((k + n : Nat) : Int)) ∧ Below w.heap.size w w' := by
  have HAT := hide hat
  clear hat
  go_enter Tryd.func55, Tryd.ntmps55
  go_wp2_with fail
  go_loopw [1, 5] (fun x i wr => ∃ (j q : Nat), i = .int .i64 (j : Int) ∧ x = .int .i64 ((k + j : Nat) : Int) ∧ j ≤ n ∧ wr = w.drewN q) (fun _ i _ => n - (intOf i).toNat)
  case atStart => exact ⟨0, 0, rfl, rfl, Nat.zero_le _, rfl⟩
  case round =>
    obtain ⟨j, q, rfl, rfl, hj, rfl⟩ := hrel
    by_cases hlt : j < n
    · have j0 : (j : Int) < (n : Int) := by omega
      obtain ⟨z, b, p, hz, hidx, hb, c0, hwf⟩ := HAT.out.get Tryd.underlying24 infoI j hlt
      rw [marksI_at k n j hlt] at hz
      cases hz
      go_wp2_with fail
      try (go_quiet (fail))
      go_wp2_with fail
      go_roundw
      case rel => exact ⟨j + 1, _, by go_num, by go_num, by omega, by first | rfl | (simp; rfl)⟩
      case measure => simp [intOf]; omega
    · have ej : j = n := by omega
      subst ej
      go_wp2_with fail
      go_ret
      exact ⟨by go_num, below_drewN (Below.refl _ _) _⟩

theorem wf_small {z : Int} (h0 : -1000000000 ≤ z) (h1 : z ≤ 1000000000000) : (Lit.int .i64 z).wf = true := by
  simp [Lit.wf, IntKind.min, IntKind.max, IntKind.signed, IntKind.bits]
  omega

theorem marksI_wf (k n : Nat) (hk : k ≤ 1000000000) (hn : n ≤ 1048576) : ∀ z ∈ marksI k n, (Lit.int .i64 z).wf = true := by
  intro z hz
  simp only [marksI, List.mem_map, List.mem_range] at hz
  obtain ⟨i, hi, rfl⟩ := hz
  exact wf_small (by omega) (by omega)

end Go.Proofs.YtpenpbopehbncaaDoor
