/-
  What FnEntries compares: plain facts of majorities; two rows of numbers that are the same.
-/
import Derived.Test.YteilmhlhddihpaaDraw10
namespace Go.Proofs.Yteilmhlhddihpaa
open Go.RowKit P1 P9 K
set_option linter.unusedVariables false
set_option linter.unusedSimpArgs false

theorem most_self {l : List Int} (h : confOk l = true) : mostOf l l = true := by
  have hl := confOk_len h
  unfold mostOf
  rw [h]
  have : l.filter (fun z => l.contains z) = l := List.filter_eq_self.2 (fun z hz => by simpa using hz)
  rw [this]
  simp
  omega

theorem most_nil (l : List Int) : mostOf l [] = false := by
  unfold mostOf
  rw [List.filter_eq_nil_iff.2 (by simp)]
  simp

theorem rise_above {lo hi : Int} : ∀ (r : List Int) (p : Int), riseF lo hi (some p) r = true → ∀ y ∈ r, p < y
  | [], _, _, y, hy => by cases hy
  | z :: r, p, h, y, hy => by
    simp only [riseF, after, Bool.and_eq_true, decide_eq_true_eq] at h
    rcases List.mem_cons.1 hy with rfl | hy
    · exact h.1.2
    · have := rise_above r z h.2 y hy
      have := h.1.2
      omega

theorem most_one {l : List Int} (h : confOk l = true) : mostOf l (l.take 1) = decide (l.length = 1) := by
  have hl := confOk_len h
  have hr := confOk_mid hl
  rw [h] at hr
  cases l with
  | nil => simp at hl
  | cons z r =>
    have hr2 : riseF 1 4 (some z) r = true := by
      have := hr.symm
      simp only [riseF, Bool.and_eq_true] at this
      exact this.2
    have hab := rise_above r z hr2
    have hf : (z :: r).filter (fun y => ((z :: r).take 1).contains y) = [z] := by
      simp only [List.take_succ_cons, List.take_zero]
      rw [List.filter_cons_of_pos (by simp)]
      congr 1
      rw [List.filter_eq_nil_iff]
      intro y hy
      have := hab y hy
      simp
      omega
    unfold mostOf
    rw [h, hf, Bool.true_and]
    refine decide_eq_decide.2 ?_
    simp only [List.length_cons, List.length_nil]
    omega

set_option maxHeartbeats 1000000 in
theorem sameInts_same (oa : Option Addr) (n cap : Nat) (ob : Option Addr) (cap' : Nat) (zs : List Int) (hn20 : n ≤ 1048576) (w : World) (hat : IntsAt w oa n cap zs) (hbt : IntsAt w ob n cap' zs) :
    Calls Try.prog 13 #[.slice oa n cap, .slice ob n cap'] w fun e w' => e = .returned (.bool true) ∧ Below w.heap.size w w' := by
  have HAT := hide hat
  have HBT := hide hbt
  clear hat hbt
  go_enter Try.func13, Try.ntmps13
  go_wp2_with fail
  go_loopw [5] (fun i wr => ∃ (j q : Nat), i = .int .i64 (j : Int) ∧ j ≤ n ∧ wr = w.drewN q) (fun i _ => n - (intOf i).toNat)
  case atStart => exact ⟨0, 0, rfl, Nat.zero_le _, rfl⟩
  case round =>
    obtain ⟨j, q, rfl, hj, rfl⟩ := hrel
    by_cases hlt : j < n
    · have j0 : (j : Int) < (n : Int) := by omega
      obtain ⟨z, b, p, hz, hidx, hb, c0, hwf⟩ := HAT.out.get Try.underlying32 infoI j hlt
      obtain ⟨z', b', p', hz', hidx', hb', c0', hwf'⟩ := HBT.out.get Try.underlying32 infoI j hlt
      rw [hz] at hz'
      cases hz'
      clear hz
      go_wp2_with fail
      go_quiet (fail)
      go_wp2_with fail
      go_roundw
      case rel => exact ⟨j + 1, q + nq, by go_num, by omega, by simp⟩
      case measure => simp [intOf]; omega
    · go_wp2_with fail
      go_ret
      exact ⟨rfl, below_drewN (Below.refl _ _) _⟩

/-- The first of a row. -/
theorem IntsAt.first {w : World} {oa : Option Addr} {n cap : Nat} {zs : List Int} (h : IntsAt w oa n cap zs) (hn : 1 ≤ n) : IntsAt w oa 1 cap (zs.take 1) := by
  have hl := h.len
  refine ⟨by simp; omega, by have := h.room; omega, h.most, fun z hz => h.fits z (List.mem_of_mem_take hz), ?_⟩
  intro i z hz
  rw [List.getElem?_take] at hz
  split at hz
  · exact h.at_ i z hz
  · cases hz

end Go.Proofs.Yteilmhlhddihpaa
