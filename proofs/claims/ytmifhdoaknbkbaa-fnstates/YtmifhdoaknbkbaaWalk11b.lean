/-
  Walks of chapter 11 of the specification: in which Keys states are alike; Clash and Agreed.
-/
import Derived.Test.YtmifhdoaknbkbaaPkRowCat
import Derived.Deep.RegionHeld3
import Derived.Deep.QuietTactic
namespace Go.Proofs.Ytmifhdoaknbkbaa
open Go.RowKit P1 P5 P9 P11 P12 P14 P15 K
set_option linter.unusedVariables false
set_option linter.unusedSimpArgs false

theorem specAt_back (oa : Option Addr) (n cap : Nat) (s : List (Int × Int)) (k : Int) (w : World) (hat : ItemsAt w oa n cap s) :
    Calls Try.prog 43 #[.slice oa n cap, .int .i64 k] w fun e w' => e = .returned (.int .i64 (stAt s k)) ∧ w' = w :=
  (specAt_any oa n cap s k w hat).mono fun e w' h => ⟨h.1, h.2.symm⟩

/-- A state has the first one's Id. -/
def likeFirst (ss : List St) (k : Int) (s : St) : Bool := stAt s k == stAt (ss.headD []) k

theorem alike_eq (ss : List St) (k : Int) : alike ss k = ss.all (likeFirst ss k) := rfl

theorem head_at {ss : List St} {s : St} (h : ss[0]? = some s) : ss.headD [] = s := by
  cases ss with
  | nil => simp at h
  | cons a r => simpa using h

set_option maxHeartbeats 4000000 in
theorem l11Alike_any (oa : Option Addr) (n cap : Nat) (ss : List St) (k : Int) (w : World) (hat : StsAt w oa n cap ss) :
    Calls Try.prog 113 #[.slice oa n cap, .int .i64 k] w fun e w' => e = .returned (.bool (alike ss k)) ∧ Drew w w' := by
  have hmx := Nat.le_trans hat.room hat.most
  unfold maxLen at hmx
  rw [alike_eq]
  obtain ⟨R, hR⟩ : ∃ R, ss.all (likeFirst ss k) = R := ⟨_, rfl⟩
  rw [hR]
  have HRR := hide hR
  have HN := hide hat.len
  have HAT := hide hat
  clear hat hR
  go_enter Try.func113, Try.ntmps113
  go_wp2_with fail
  go_loopw [5] (fun x wr => ∃ (j : Nat), x = .int .i64 (j : Int) ∧ 1 ≤ j ∧ (j ≤ n ∨ j = 1) ∧ (ss.take j).all (likeFirst ss k) = true ∧ Drew w wr) (fun x _ => n - (intOf x).toNat)
  case atStart =>
    refine ⟨1, rfl, Nat.le_refl _, .inr rfl, ?_, 0, rfl⟩
    cases ss with
    | nil => rfl
    | cons a r => simp [likeFirst]
  case round =>
    obtain ⟨j, rfl, hj1, hj, hall, hdr⟩ := hrel
    by_cases hlt : j < n
    · have j0 : (j : Int) < (n : Int) := by omega
      obtain ⟨s, b, q, xa, xc, hs, hidx, hc, hits⟩ := (HAT.out.below hdr.below).get Try.underlying34 infoSt j hlt
      obtain ⟨s0, b0, q0, xa0, xc0, hs0, hidx0, hc0, hits0⟩ := (HAT.out.below hdr.below).get Try.underlying34 infoSt 0 (by omega)
      have hidx0' : ∀ wx, (Instr.indexAt 34 (.slice oa n cap) (.int .i64 0)).run Try.prog wx = .ok (.pointer (some ⟨b0, q0, none⟩)) wx := hidx0
      have hT := all_take (P := likeFirst ss k) hs
      have hlf : likeFirst ss k s = (stAt s k == stAt s0 k) := by unfold likeFirst; rw [head_at hs0]
      have H1 := hide (fun wx (hb : Below wr.heap.size wr wx) => specAt_back xa s.length xc s k wx (hits.below hb))
      have H2 := hide (fun wx (hb : Below wr.heap.size wr wx) => specAt_back xa0 s0.length xc0 s0 k wx (hits0.below hb))
      have HIT := hide hits
      have HIT0 := hide hits0
      rw [hlf, hall, Bool.true_and] at hT
      have HT := hide hT
      have HS := hide hs
      clear hs hs0 hits hits0 hT hlf hidx0
      generalize stAt s k = x1 at H1 HT
      generalize stAt s0 k = x0 at H2 HT
      cases hk : (x1 == x0)
      · have hk2 : (x1 != x0) = true := by rw [bne, hk]; rfl
        have HF := hide (show R = false by
          rw [← HRR.out]
          cases hq : ss.all (likeFirst ss k)
          · rfl
          · have h2 : (ss.take (j + 1)).all (likeFirst ss k) = true := List.all_eq_true.2 (fun y hy => List.all_eq_true.1 hq y (List.mem_of_mem_take hy))
            rw [HT.out, hk] at h2
            cases h2)
        go_wp2_with fail
        go_quiet (first
          | (go_at_call 43; with_reducible exact Calls.quiet_of_same (H1.out _ (below_drewN (Below.refl _ _) _)))
          | (go_at_call 43; with_reducible exact Calls.quiet_of_same (H2.out _ (below_drewN (Below.refl _ _) _))))
        go_wp2_with fail
        go_ret
        exact ⟨by rw [HF.out]; rfl, hdr.more _⟩
      · have hk2 : (x1 != x0) = false := by rw [bne, hk]; rfl
        have HG := hide (show (ss.take (j + 1)).all (likeFirst ss k) = true by rw [HT.out, hk])
        go_wp2_with fail
        go_quiet (first
          | (go_at_call 43; with_reducible exact Calls.quiet_of_same (H1.out _ (below_drewN (Below.refl _ _) _)))
          | (go_at_call 43; with_reducible exact Calls.quiet_of_same (H2.out _ (below_drewN (Below.refl _ _) _))))
        go_wp2_with fail
        go_roundw
        case rel => exact ⟨j + 1, by go_num, by omega, by omega, HG.out, hdr.more _⟩
        case measure => simp [intOf]; omega
    · have HF := hide (show R = true by rw [← HRR.out, ← hall, List.take_of_length_le (by rw [HN.out]; omega)])
      go_wp2_with fail
      go_ret
      exact ⟨by rw [HF.out]; rfl, hdr⟩

end Go.Proofs.Ytmifhdoaknbkbaa
