/-
  Walks of chapter 1: Unhex, of the specification and of the program.
-/
import Derived.Test.YtfplnopcccjclabBase
import Derived.Deep.RegionHeld3
import Derived.Deep.QuietTactic
import Derived.BigQuiet
import Derived.WalkSmall
namespace Go.Proofs.Ytfplnopcccjclab
open Go.RowKit P1 K
set_option linter.unusedVariables false

/-- The number of a figure as the specification has it. -/
def hexI (b : Nat) : Int := match hexV b with | some v => (v : Int) | none => -1

theorem hexI_some {b v : Nat} (h : hexV b = some v) : hexI b = (v : Int) := by unfold hexI; rw [h]
theorem hexI_none {b : Nat} (h : hexV b = none) : hexI b = -1 := by unfold hexI; rw [h]

theorem l01Value_any (b : Nat) (hb : b < 256) (w : World) :
    Calls Try.prog 6 #[.int .u8 (b : Int)] w fun e w' => e = .returned (.int .i64 (hexI b)) ∧ w = w' := by
  by_cases h1 : 48 ≤ b ∧ b ≤ 57
  · obtain ⟨c1, c2⟩ := h1
    have hv : Hid ((b : Int) - 48 = hexI b) := by unfold Hid; rw [hexI_some (v := b - 48) (by unfold hexV; rw [if_pos ⟨c1, c2⟩])]; omega
    go_enter Try.func6, Try.ntmps6
    go_wp2
    go_ret
    exact ⟨by rw [← hv.out]; rfl, rfl⟩
  · by_cases h2 : 97 ≤ b ∧ b ≤ 102
    · obtain ⟨c1, c2⟩ := h2
      have hv : Hid ((b : Int) - 97 + 10 = hexI b) := by unfold Hid; rw [hexI_some (v := b - 87) (by unfold hexV; rw [if_neg h1, if_pos ⟨c1, c2⟩])]; omega
      clear h1
      have d1 : ¬ ((b : Int) ≤ 57) := by omega
      go_enter Try.func6, Try.ntmps6
      go_wp2
      go_ret
      exact ⟨by rw [← hv.out]; rfl, rfl⟩
    · have hv : Hid (-1 = hexI b) := by unfold Hid; rw [hexI_none (by unfold hexV; rw [if_neg h1, if_neg h2])]
      go_enter Try.func6, Try.ntmps6
      go_wp2
      all_goals first | (exfalso; omega) | (go_ret; exact ⟨by rw [← hv.out]; rfl, rfl⟩)

/-- The results of Unhex of a text of right length as values. -/
def uhVal (l : List UInt8) (v : Value) : Prop :=
  (hexTo l l.length ∧ v = .tuple #[.string ⟨(uhL l (l.length / 2)).toArray⟩, .bool true]) ∨ (¬ hexTo l l.length ∧ v = .tuple #[.string ⟨#[]⟩, .bool false])

theorem uhVal_one {l : List UInt8} {v v' : Value} (h : uhVal l v) (h' : uhVal l v') : v = v' := by
  rcases h with ⟨a, b⟩ | ⟨a, b⟩ <;> rcases h' with ⟨c, d⟩ | ⟨c, d⟩
  · rw [b, d]
  · exact absurd a c
  · exact absurd c a
  · rw [b, d]

theorem bl_getD (s : ByteArray) (k : Nat) (h : k < s.size) : (bl s).getD k 0 = s[k] := by
  rw [List.getD_eq_getElem?_getD, List.getElem?_eq_getElem (by rw [bl_length]; exact h)]; rfl

set_option maxHeartbeats 1000000 in
theorem specUnhex_yes (s : ByteArray) (hs : s.size ≤ 40000) (he : s.size % 2 = 0) (w : World) :
    Calls Try.prog 4 #[.string s] w fun e w' => (∃ v, e = .returned v ∧ uhVal (bl s) v) ∧ Below w.heap.size w w' := by
  have g1 : ¬ ((40000 : Int) < (s.size : Int)) := by omega
  have g2 : ((s.size : Int) % 2 != 0) = false := by simp; omega
  go_enter Try.func4, Try.ntmps4
  go_wp2_with fail
  go_loopw [4, 5] (fun v i wr => ∃ k : Nat, i = .int .i64 ((2 * k : Nat) : Int) ∧ 2 * k ≤ s.size ∧ hexTo (bl s) (2 * k) ∧ wr.ownsRow w.heap.size 5 1 v k (B8 (uhL (bl s) k)) ∧ Below w.heap.size w wr) (fun _ i _ => s.size - (intOf i).toNat)
  case atStart =>
    refine ⟨0, rfl, Nat.zero_le _, fun j hj => by omega, ?_, (Below.refl _ _).alloc (Nat.le_refl _) _⟩
    exact World.ownsRow_made (w := w) #[] 0 (Nat.le_refl _) (by decide) rfl
  case round =>
    obtain ⟨k, rfl, hk, hto, hown, hbel⟩ := hrel
    have hsz := hbel.size
    have HT := hide hto
    clear hto
    by_cases hlt : 2 * k < s.size
    · have hb1 := s[2 * k].toNat_lt
      have hb2 := (s[2 * k + 1]'(by omega)).toNat_lt
      cases h1 : hexV s[2 * k].toNat with
      | none =>
        have e1 : hexI s[2 * k].toNat = -1 := hexI_none h1
        have hn : Hid (¬ hexTo (bl s) (bl s).length) := by
          intro h; exact h (2 * k) (by rw [bl_length]; omega) (by rw [bl_getD s _ hlt]; exact h1)
        clear h1
        go_wp2_with (go_at_call 6; refine (l01Value_any _ (by omega) _).mono ?_; rintro e w1 ⟨rfl, rfl⟩)
        go_ret2
        exact ⟨⟨_, rfl, .inr ⟨hn.out, rfl⟩⟩, hbel⟩
      | some v1 =>
        have e1 : hexI s[2 * k].toNat = (v1 : Int) := hexI_some h1
        have l1 := hexV_lt h1
        have u1 := hide (uhv_eq (l := bl s) (j := 2 * k) (v := v1) (by rw [bl_getD s _ hlt]; exact h1))
        have t1 := hide (hexTo_succ HT.out (by rw [bl_getD s _ hlt, h1]; simp))
        clear h1
        cases h2 : hexV (s[2 * k + 1]'(by omega)).toNat with
        | none =>
          have e2 : hexI (s[2 * k + 1]'(by omega)).toNat = -1 := hexI_none h2
          have hn : Hid (¬ hexTo (bl s) (bl s).length) := by
            intro h; exact h (2 * k + 1) (by rw [bl_length]; omega) (by rw [bl_getD s _ (by omega)]; exact h2)
          clear h2
          go_wp2_with (go_at_call 6; refine (l01Value_any _ (by omega) _).mono ?_; rintro e w1 ⟨rfl, rfl⟩)
          go_ret2
          exact ⟨⟨_, rfl, .inr ⟨hn.out, rfl⟩⟩, hbel⟩
        | some v2 =>
          have e2 : hexI (s[2 * k + 1]'(by omega)).toNat = (v2 : Int) := hexI_some h2
          have l2 := hexV_lt h2
          have u2 := hide (uhv_eq (l := bl s) (j := 2 * k + 1) (v := v2) (by rw [bl_getD s _ (by omega)]; exact h2))
          have t2 := hide (hexTo_succ t1.out (by rw [bl_getD s _ (by omega), h2]; simp))
          have hf := hide (show (uhF (bl s) k).toNat = 16 * v1 + v2 by unfold uhF; rw [u1.out, u2.out, toNat_ofNat_small _ (by omega)])
          clear h2 t1
          go_wp2_with (first
            | (go_at_call 6; refine (l01Value_any _ (by omega) _).mono ?_; rintro e w1 ⟨rfl, rfl⟩)
            | (at_builtin; refine wpList_push rfl _ _ 25 rfl Try.underlying25 infoByte rfl rfl hown rfl rfl hbel hsz (by unfold maxLen; omega) (by omega) ?_))
          intro v' w1 hown' hbel' _
          have hown2 : w1.ownsRow w.heap.size 5 1 v' (k + 1) (B8 (uhL (bl s) (k + 1))) := by
            rw [uhL_succ, ← B8_snoc _ _ _ (show (16 * (v1 : Int) + (v2 : Int)) = _ by rw [hf.out]; omega)]
            exact hown'
          clear hown' hown hbel e1 e2
          go_wp2_with fail
          go_roundw
          case rel => exact ⟨k + 1, by go_num, by omega, t2.out, hown2, hbel'⟩
          case measure => simp [intOf]; omega
    · have hk2 : 2 * k = s.size := by omega
      have ek : k = (bl s).length / 2 := by rw [bl_length]; omega
      have HK := hide hk2
      have EK := hide ek
      have hconv := run_string_own (P := Try.prog) (src := 25) (dst := 9) Try.underlying25 Try.underlying5 Try.underlying9 hown
      clear hown hk2 ek
      go_wp2_with fail
      go_ret2
      exact ⟨⟨_, rfl, .inl ⟨by rw [bl_length, ← HK.out]; exact HT.out, by rw [← EK.out]; rfl⟩⟩, hbel⟩

theorem specUnhex_no (s : ByteArray) (hs : s.size ≤ 1048576) (h : 40000 < s.size ∨ s.size % 2 = 1) (w : World) :
    Calls Try.prog 4 #[.string s] w fun e w' => e = .returned (.tuple #[.string ⟨#[]⟩, .bool false]) ∧ w = w' := by
  by_cases h0 : 40000 < s.size
  · go_enter Try.func4, Try.ntmps4
    go_wp2_with fail
    go_ret2
    exact ⟨rfl, rfl⟩
  · have g2 : ((s.size : Int) % 2 != 0) = true := by simp; omega
    go_enter Try.func4, Try.ntmps4
    go_wp2_with fail
    go_ret2
    exact ⟨rfl, rfl⟩

theorem implUnhex_no (s : ByteArray) (hs : s.size ≤ 1048576) (h : 40000 < s.size ∨ s.size % 2 = 1) (w : World) :
    Calls Try.prog 5 #[.string s] w fun e w' => e = .returned (.tuple #[.string ⟨#[]⟩, .bool false]) ∧ w = w' := by
  by_cases h0 : s.size % 2 = 1
  · have g2 : ((s.size : Int) % 2 != 0) = true := by simp; omega
    clear h0
    go_enter Try.func5, Try.ntmps5
    go_wp2_with fail
    go_step3
    go_wp2_with fail
    rw [Exit.noGoto_ret]
    go_ret2
    exact ⟨rfl, rfl⟩
  · have g2 : ((s.size : Int) % 2 != 0) = false := by simp; omega
    have h1 : 40000 < s.size := by omega
    clear h h0
    go_enter Try.func5, Try.ntmps5
    go_wp2_with fail
    go_step3
    go_wp2_with fail
    rw [Exit.noGoto_ret]
    go_ret2
    exact ⟨rfl, rfl⟩

end Go.Proofs.Ytfplnopcccjclab
