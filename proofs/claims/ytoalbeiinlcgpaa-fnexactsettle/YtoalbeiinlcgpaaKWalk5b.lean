/-
  Walks and mathematics of Walk5b.
-/
import Derived.Test.YtoalbeiinlcgpaaKBase
import Derived.Test.YtoalbeiinlcgpaaKIntsMark
namespace Go.Proofs.Ytoalbeiinlcgpaa
open Go.RowKit P1 P9 K
set_option linter.unusedVariables false
set_option linter.unusedSimpArgs false

def rdConf (l : List UInt8) : List Int × Bool := if confOk (confZ l) = true then (confZ l, true) else ([], false)

theorem rdConf_yes {l : List UInt8} (h : confOk (confZ l) = true) : rdConf l = (confZ l, true) := by simp [rdConf, h]

theorem rdConf_no {l : List UInt8} (h : confOk (confZ l) = false) : rdConf l = ([], false) := by simp [rdConf, h]

theorem rdConf_long {l : List UInt8} (h : ¬ l.length ≤ 4) : confOk (confZ l) = false := confOk_short (by rw [confZ_length]; omega)

def RcPost (w : World) (r : List Int × Bool) (e : Ending) (w' : World) : Prop :=
  ∃ g cap, e = .returned (.tuple #[.slice (some ⟨g, 0, none⟩) r.1.length cap, .bool r.2]) ∧ w'.ownsRow w.heap.size 3 1 (.slice (some ⟨g, 0, none⟩) r.1.length cap) r.1.length (r.1.map icell) ∧ Below w.heap.size w w'

def RcRel (w : World) (s : ByteArray) (j : Nat) (v : Value) (wr : World) : Prop :=
  ∃ g cap, v = .slice (some ⟨g, 0, none⟩) j cap ∧ wr.ownsRow w.heap.size 3 1 v j ((confZ ((bl s).take j)).map icell) ∧ Below w.heap.size w wr

theorem RcRel.next {w w' : World} {s : ByteArray} {j : Nat} {v' : Value} (hj : j < s.size)
    (hown : w'.ownsRow w.heap.size 3 1 v' (j + 1) ((confZ ((bl s).take j)).map icell ++ [.int .i64 (s[j].toNat : Int)])) (hb : Below w.heap.size w w') : RcRel w s (j + 1) v' w' := by
  obtain ⟨g, cap, hv⟩ := own_some hown (by decide)
  refine ⟨g, cap, hv, ?_, hb⟩
  rw [bl_take s j hj, confZ_snoc, List.map_append]
  exact hown

theorem confZ_wf (l : List UInt8) : ∀ z ∈ confZ l, (Lit.int .i64 z).wf = true := by
  intro z hz
  simp only [confZ, List.mem_map] at hz
  obtain ⟨b, _, rfl⟩ := hz
  have := b.toNat_lt
  exact wf_small (by omega) (by omega)

set_option maxHeartbeats 1000000 in
theorem implReadConf_any (s : ByteArray) (hs : s.size ≤ 1048576) (w : World) :
    Calls Try.prog 82 #[.string s] w fun e w' => RcPost w (rdConf (bl s)) e w' := by
  obtain ⟨R, hR⟩ : ∃ R, rdConf (bl s) = R := ⟨_, rfl⟩
  rw [hR]
  have HR := hide hR
  clear hR
  by_cases h4 : s.size ≤ 4
  · have g4 : ¬ (4 : Int) < (s.size : Int) := by omega
    go_enter Try.func82, Try.ntmps82
    go_wp2_with fail
    go_loopw [4, 13] (fun v i wr => ∃ (j : Nat), i = .int .i64 (j : Int) ∧ j ≤ s.size ∧ RcRel w s j v wr) (fun _ i _ => s.size - (intOf i).toNat)
    case atStart => exact ⟨0, rfl, Nat.zero_le _, _, _, rfl, World.ownsRow_made (w := w) #[] 0 (Nat.le_refl _) (by decide) rfl, (Below.refl _ _).alloc (Nat.le_refl _) _⟩
    case round =>
      obtain ⟨j, rfl, hj, g, cap, rfl, hown, hbel⟩ := hrel
      have hsz := hbel.size
      by_cases hlt : j < s.size
      · have j0 : (j : Int) < (s.size : Int) := by omega
        have hidx : ∀ wx, (Instr.index 9 (.string s) (.int .i64 (j : Int))).run Try.prog wx = .ok (.int .u8 (s[j].toNat : Int)) wx := fun wx => idx_any s .i64 j hlt wx
        have hb0 : (s[j].toNat : Int) < 256 := by have := s[j].toNat_lt; omega
        have hb1 : 0 ≤ (s[j].toNat : Int) := by omega
        go_wp2_with (at_builtin; refine wpList_push rfl _ _ 22 rfl Try.underlying22 infoIz rfl rfl hown rfl rfl hbel hsz (by unfold maxLen; omega) (by omega) ?_)
        intro v' w1 hown' hbel' _
        have R := RcRel.next hlt hown' hbel'
        clear hown' hbel' hown hbel
        go_wp2
        go_roundw
        case rel => exact ⟨j + 1, by go_num, by omega, R⟩
        case measure => simp [intOf]; omega
      · have hjn : j = s.size := by omega
        subst hjn
        rw [List.take_of_length_le (by rw [bl_length]; exact Nat.le_refl _)] at hown
        obtain ⟨_, _, he, hat⟩ := intsAt_of_own hown (confZ_wf _)
        cases he
        have HAT := hide hat
        have HO := hide hown
        clear hat hown
        cases hok : confOk (confZ (bl s)) with
        | false =>
          obtain rfl : R = ([], false) := HR.out.symm.trans (rdConf_no hok)
          have HOK := hide hok
          clear hok
          go_wp2_with (go_at_call 33; refine (implConfOk_any _ _ _ _ _ HAT.out).mono ?_; rw [HOK.out]; rintro e w' ⟨rfl, rfl⟩)
          refine bodyPost_ret (v := .tuple #[.slice (some ⟨wr.heap.size, 0, none⟩) 0 0, .bool false]) (by simp [results, Try.results82, go_sem]) rfl ?_
          exact ⟨_, _, rfl, own_base (World.ownsRow_made (w := wr) #[] 0 (Nat.le_refl _) (by decide) rfl) hsz, hbel.alloc hsz _⟩
        | true =>
          obtain rfl : R = (confZ (bl s), true) := HR.out.symm.trans (rdConf_yes hok)
          have HOK := hide hok
          clear hok
          go_wp2_with (go_at_call 33; refine (implConfOk_any _ _ _ _ _ HAT.out).mono ?_; rw [HOK.out]; rintro e w' ⟨rfl, rfl⟩)
          refine bodyPost_ret (v := .tuple #[.slice (some ⟨g, 0, none⟩) s.size cap, .bool true]) (by simp [results, Try.results82, go_sem]) rfl ?_
          refine ⟨g, cap, ?_, ?_, hbel⟩
          · simp [confZ_length]
          · have := HO.out
            simpa [confZ_length] using this
  · have g4 : (4 : Int) < (s.size : Int) := by omega
    obtain rfl : R = ([], false) := HR.out.symm.trans (rdConf_no (rdConf_long (by rw [bl_length]; exact h4)))
    go_enter Try.func82, Try.ntmps82
    go_wp2_with fail
    refine bodyPost_ret (v := .tuple #[.slice (some ⟨w.heap.size, 0, none⟩) 0 0, .bool false]) (by simp [results, Try.results82, go_sem]) rfl ?_
    exact ⟨_, _, rfl, World.ownsRow_made (w := w) #[] 0 (Nat.le_refl _) (by decide) rfl, (Below.refl _ _).alloc (Nat.le_refl _) _⟩

end Go.Proofs.Ytoalbeiinlcgpaa
