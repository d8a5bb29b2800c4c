/-
  Walks and mathematics of Walk5c.
-/
import Derived.Test.YtoalbeiinlcgpaaKWalk5b
namespace Go.Proofs.Ytoalbeiinlcgpaa
open Go.RowKit P1 P9 K
set_option linter.unusedVariables false
set_option linter.unusedSimpArgs false

set_option maxHeartbeats 1000000 in
theorem specReadConf_any (s : ByteArray) (hs : s.size ≤ 1048576) (w : World) :
    Calls Try.prog 67 #[.string s] w fun e w' => RcPost w (rdConf (bl s)) e w' := by
  obtain ⟨R, hR⟩ : ∃ R, rdConf (bl s) = R := ⟨_, rfl⟩
  rw [hR]
  have HR := hide hR
  clear hR
  go_enter Try.func67, Try.ntmps67
  go_wp2_with fail
  go_loopw [4, 5] (fun v i wr => ∃ (j : Nat), i = .int .i64 (j : Int) ∧ j ≤ s.size ∧ j ≤ 5 ∧ RcRel w s j v wr) (fun _ i _ => s.size - (intOf i).toNat)
  case atStart => exact ⟨0, rfl, Nat.zero_le _, by omega, _, _, rfl, World.ownsRow_made (w := w) #[] 0 (Nat.le_refl _) (by decide) rfl, (Below.refl _ _).alloc (Nat.le_refl _) _⟩
  case round =>
    obtain ⟨j, rfl, hj, hj5, g, cap, rfl, hown, hbel⟩ := hrel
    have hsz := hbel.size
    by_cases hlt : j < s.size
    · have j0 : (j : Int) < (s.size : Int) := by omega
      by_cases h5 : j ≤ 4
      · have g5 : (j : Int) ≤ 4 := by omega
        have hidx : ∀ wx, (Instr.index 9 (.string s) (.int .i64 (j : Int))).run Try.prog wx = .ok (.int .u8 (s[j].toNat : Int)) wx := fun wx => idx_any s .i64 j hlt wx
        have hb0 : (s[j].toNat : Int) < 256 := by have := s[j].toNat_lt; omega
        have hb1 : 0 ≤ (s[j].toNat : Int) := by omega
        go_wp2_with (at_builtin; refine wpList_push rfl _ _ 22 rfl Try.underlying22 infoIz rfl rfl hown rfl rfl hbel hsz (by unfold maxLen; omega) (by omega) ?_)
        intro v' w1 hown' hbel' _
        have R := RcRel.next hlt hown' hbel'
        clear hown' hbel' hown hbel
        go_wp2
        go_roundw
        case rel => exact ⟨j + 1, by go_num, by omega, by omega, R⟩
        case measure => simp [intOf]; omega
      · have g5 : ¬ (j : Int) ≤ 4 := by omega
        have hjs : ¬ ((j : Int) = (s.size : Int)) := by omega
        have gjs : decide (j = s.size) = false := by simp; omega
        obtain rfl : R = ([], false) := HR.out.symm.trans (rdConf_no (rdConf_long (by rw [bl_length]; omega)))
        clear hown
        go_wp2_with fail
        refine bodyPost_ret (v := .tuple #[.slice (some ⟨wr.heap.size, 0, none⟩) 0 0, .bool false]) (by simp [results, Try.results67, go_sem]) rfl ?_
        exact ⟨_, _, rfl, own_base (World.ownsRow_made (w := wr) #[] 0 (Nat.le_refl _) (by decide) rfl) hsz, hbel.alloc hsz _⟩
    · have hjn : j = s.size := by omega
      subst hjn
      rw [List.take_of_length_le (by rw [bl_length]; exact Nat.le_refl _)] at hown
      obtain ⟨_, _, he, hat⟩ := intsAt_of_own hown (confZ_wf _)
      cases he
      have HAT := hide hat
      have HO := hide hown
      clear hat hown
      cases hok : confOk (confZ (bl s)) with
      | false =>
        obtain rfl : R = ([], false) := HR.out.symm.trans (rdConf_no hok)
        have HOK := hide hok
        clear hok
        go_wp2_with (go_at_call 24; refine (specConfOk_any _ _ _ _ _ HAT.out).mono ?_; rw [HOK.out]; rintro e w2 ⟨rfl, hdr⟩)
        have hb2 := hbel.trans (hdr.below.mono hsz)
        have hs2 := hb2.size
        refine bodyPost_ret (v := .tuple #[.slice (some ⟨w2.heap.size, 0, none⟩) 0 0, .bool false]) (by simp [results, Try.results67, go_sem]) rfl ?_
        exact ⟨_, _, rfl, own_base (World.ownsRow_made (w := w2) #[] 0 (Nat.le_refl _) (by decide) rfl) hs2, hb2.alloc hs2 _⟩
      | true =>
        obtain rfl : R = (confZ (bl s), true) := HR.out.symm.trans (rdConf_yes hok)
        have HOK := hide hok
        clear hok
        go_wp2_with (go_at_call 24; refine (specConfOk_any _ _ _ _ _ HAT.out).mono ?_; rw [HOK.out]; rintro e w2 ⟨rfl, hdr⟩)
        refine bodyPost_ret (v := .tuple #[.slice (some ⟨g, 0, none⟩) s.size cap, .bool true]) (by simp [results, Try.results67, go_sem]) rfl ?_
        refine ⟨g, cap, ?_, ?_, hbel.trans (hdr.below.mono hsz)⟩
        · simp [confZ_length]
        · have := own_below HO.out hdr.below
          simpa [confZ_length] using this

end Go.Proofs.Ytoalbeiinlcgpaa
