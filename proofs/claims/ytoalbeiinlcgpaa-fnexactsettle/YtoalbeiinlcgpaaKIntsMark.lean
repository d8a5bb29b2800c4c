/-
  Walks and mathematics of IntsMark, QuietIn.
-/
import Derived.Test.YtoalbeiinlcgpaaKInts
import Derived.Test.YtoalbeiinlcgpaaKPlain1
import Derived.BigQuiet
namespace Go.Proofs.Ytoalbeiinlcgpaa.P5
end Go.Proofs.Ytoalbeiinlcgpaa.P5
namespace Go.Proofs.Ytoalbeiinlcgpaa
open Go.RowKit P5 P9 K
set_option linter.unusedVariables false
set_option linter.unusedSimpArgs false

theorem own_some {w : World} {base : Nat} {e : TypeId} {size : Nat} {v : Value} {n : Nat} {xs : List Value} (h : w.ownsRow base e size v (n + 1) xs) (hs : 0 < size) : ∃ g cap, v = .slice (some ⟨g, 0, none⟩) (n + 1) cap := by
  have h1 := h.1
  rcases h.2 with ⟨rfl, h2⟩ | ⟨g, cap, cur, rfl, _⟩
  · exact absurd h2 (Nat.succ_ne_zero n)
  · exact ⟨g, cap, rfl⟩

def marksI (k n : Nat) : List Int := (List.range n).map fun i => ((k + i : Nat) : Int)

theorem marksI_length (k n : Nat) : (marksI k n).length = n := by simp [marksI]

theorem marksI_at (k n j : Nat) (h : j < n) : (marksI k n)[j]? = some ((k + j : Nat) : Int) := by simp [marksI, h]

theorem marksI_step (k j n : Nat) (xs : List Value) (hl : xs.length = n) (hj : j < n) : ((marksI k j).map icell ++ xs.drop j).set j (.int .i64 ((k + j : Nat) : Int)) = (marksI k (j + 1)).map icell ++ xs.drop (j + 1) := by
  have e1 : xs.drop j = xs[j] :: xs.drop (j + 1) := List.drop_eq_getElem_cons (by omega)
  have e2 : marksI k (j + 1) = marksI k j ++ [((k + j : Nat) : Int)] := by simp [marksI, List.range_succ]
  rw [e2, List.set_append_right _ _ (by simp [marksI_length]), List.map_append, List.length_map, marksI_length, Nat.sub_self, e1, List.set_cons_zero]
  simp [icell]

set_option maxHeartbeats 1000000 in
theorem markIntS_own (g n cap base k : Nat) (hn : n ≤ 1048576) (hk : k ≤ 1000000000) (w : World) (xs : List Value) (hown : w.ownsRow base 3 1 (.slice (some ⟨g, 0, none⟩) n cap) n xs) :
    Calls Try.prog 15 #[.slice (some ⟨g, 0, none⟩) n cap, .int .i64 (k : Int)] w fun e w' => e = .returned (.int .i64 ((k + n : Nat) : Int)) ∧
      w'.ownsRow base 3 1 (.slice (some ⟨g, 0, none⟩) n cap) n ((marksI k n).map icell) ∧ w.grownBy w' (some g) := by
  have HO0 := hide hown
  have HL := hide (show xs.length = n by have := hown.1; omega)
  clear hown
  go_enter Try.func15, Try.ntmps15
  go_wp2_with fail
  go_loopw [1, 5] (fun x i wr => ∃ (j : Nat), i = .int .i64 (j : Int) ∧ x = .int .i64 ((k + j : Nat) : Int) ∧ j ≤ n ∧ wr.ownsRow base 3 1 (.slice (some ⟨g, 0, none⟩) n cap) n ((marksI k j).map icell ++ xs.drop j) ∧ w.grownBy wr (some g)) (fun _ i _ => n - (intOf i).toNat)
  case atStart => exact ⟨0, rfl, rfl, Nat.zero_le _, by simpa [marksI] using HO0.out, grown_below (Below.refl _ _)⟩
  case round =>
    obtain ⟨j, rfl, rfl, hj, hown, hgr⟩ := hrel
    by_cases hlt : j < n
    · have j0 : (j : Int) < (n : Int) := by omega
      have hidx2 : ∀ wx, (Instr.indexAt 22 (.slice (some ⟨g, 0, none⟩) n cap) (.int .i64 (j : Int))).run Try.prog wx = .ok (.pointer (some ⟨g, j, none⟩)) wx := fun wx => by
        have := run_indexAt_slice wx 22 3 1 Try.underlying22 infoI g 0 n cap j hlt
        rwa [Nat.zero_add, Nat.mul_one] at this
      have hl := hown.1
      obtain ⟨u, hu⟩ : ∃ u, wr.cell? ⟨g, j, none⟩ = some u := ⟨_, by rw [hown.cellAt j (by omega), List.getElem?_eq_getElem (by omega)]⟩
      have hfz := hown.frozenAt j
      have hst := hown.stored j (.int .i64 ((k + j : Nat) : Int))
      rw [marksI_step k j n xs HL.out hlt] at hst
      have HST := hide hst
      clear hown hl hst
      go_wp2_with fail
      go_roundw
      case rel => exact ⟨j + 1, by go_num, by go_num, by omega, HST.out.1, grown_trans hgr HST.out.2⟩
      case measure => simp [intOf]; omega
    · have ej : j = n := by omega
      subst ej
      rw [List.drop_of_length_le (by rw [HL.out]; exact Nat.le_refl _), List.append_nil] at hown
      have HO := hide hown
      clear hown
      go_wp2_with fail
      go_ret
      exact ⟨by go_num, HO.out, hgr⟩

set_option maxHeartbeats 1000000 in
theorem heldIntS_own (oa : Option Addr) (n cap k : Nat) (hn : n ≤ 1048576) (hk : k ≤ 1000000000) (w : World) (hat : IntsAt w oa n cap (marksI k n)) :
    Calls Try.prog 43 #[.slice oa n cap, .int .i64 (k : Int)] w fun e w' => e = .returned (.int .i64 ((k + n : Nat) : Int)) ∧ Below w.heap.size w w' := by
  have HAT := hide hat
  clear hat
  go_enter Try.func43, Try.ntmps43
  go_wp2_with fail
  go_loopw [1, 5] (fun x i wr => ∃ (j q : Nat), i = .int .i64 (j : Int) ∧ x = .int .i64 ((k + j : Nat) : Int) ∧ j ≤ n ∧ wr = w.drewN q) (fun _ i _ => n - (intOf i).toNat)
  case atStart => exact ⟨0, 0, rfl, rfl, Nat.zero_le _, rfl⟩
  case round =>
    obtain ⟨j, q, rfl, rfl, hj, rfl⟩ := hrel
    by_cases hlt : j < n
    · have j0 : (j : Int) < (n : Int) := by omega
      obtain ⟨z, b, p, hz, hidx, hb, c0, hwf⟩ := HAT.out.get Try.underlying22 infoI j hlt
      rw [marksI_at k n j hlt] at hz
      cases hz
      go_wp2_with fail
      try (go_quiet (fail))
      go_wp2_with fail
      go_roundw
      case rel => exact ⟨j + 1, _, by go_num, by go_num, by omega, by first | rfl | (simp; rfl)⟩
      case measure => simp [intOf]; omega
    · have ej : j = n := by omega
      subst ej
      go_wp2_with fail
      go_ret
      exact ⟨by go_num, below_drewN (Below.refl _ _) _⟩

theorem wf_small {z : Int} (h0 : -1000000000 ≤ z) (h1 : z ≤ 1000000000000) : (Lit.int .i64 z).wf = true := by
  simp [Lit.wf, IntKind.min, IntKind.max, IntKind.signed, IntKind.bits]
  omega

theorem marksI_wf (k n : Nat) (hk : k ≤ 1000000000) (hn : n ≤ 1048576) : ∀ z ∈ marksI k n, (Lit.int .i64 z).wf = true := by
  intro z hz
  simp only [marksI, List.mem_map, List.mem_range] at hz
  obtain ⟨i, hi, rfl⟩ := hz
  exact wf_small (by omega) (by omega)

end Go.Proofs.Ytoalbeiinlcgpaa

namespace Go.Proofs.Ytoalbeiinlcgpaa.K
open Go

structure InW (F : World → Prop) where
  w : World
  h : F w

theorem wp_region_in {P : Program} {F : World → Prop} {id : Nat} {Q : Exit → Act → World → Prop} {a : Act} {w : World} {l : List Oper} (hm : P.follows .mixedOrders = true) (hB : Region.lexB .any l.toArray = true) (hF : F w.drew)
    (h : wpQuiet P l.toArray (fun w' => ∃ n : InW F, w' = n.w) (fun a' => ∀ w', (∃ n : InW F, w' = n.w) → Q .normal a' w') l a) : (Code.region id l.toArray true).wp P Q a w :=
  wp_region_quiet (C := fun w' => ∃ n : InW F, w' = n.w) hm hB ⟨⟨_, hF⟩, rfl⟩ (by simpa using h)

end Go.Proofs.Ytoalbeiinlcgpaa.K
