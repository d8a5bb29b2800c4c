/-
  Draws of chapter 5: configurations, indexes.
-/
import Derived.Test.YtdollofmjpgppaaCmd5
import Derived.Test.YtdollofmjpgppaaWalk5b
namespace Go.Proofs.Ytdollofmjpgppaa
open Go.RowKit P1 P9 K
set_option linter.unusedVariables false
set_option linter.unusedSimpArgs false

theorem icell_snoc (l : List Int) (n : Int) : l.map icell ++ [.int .i64 n] = (l ++ [n]).map icell := by simp [icell]

/-- A drawn configuration. -/
def ConfIn (n : Nat) (lo hi : Int) (l : List Int) : Prop := l.length ≤ n ∧ ∀ z ∈ l, lo ≤ z ∧ z ≤ hi

theorem ConfIn.snoc {n : Nat} {lo hi : Int} {l : List Int} (h : ConfIn n lo hi l) (z : Int) (h0 : lo ≤ z) (h1 : z ≤ hi) : ConfIn (n + 1) lo hi (l ++ [z]) := by
  refine ⟨by have := h.1; simp; omega, ?_⟩
  intro y hy
  rcases List.mem_append.1 hy with hy | hy
  · exact h.2 y hy
  · simp at hy
    omega

theorem ConfIn.mono {n m : Nat} {lo hi : Int} {l : List Int} (h : ConfIn n lo hi l) (hm : n ≤ m) : ConfIn m lo hi l := ⟨by have := h.1; omega, h.2⟩

set_option maxHeartbeats 2000000 in
theorem l05Conf_any (B p : Nat) (a : Option Addr) (len cap : Nat) (w : World) (hB : B ≤ w.heap.size) (hc : CurAt B w p a len cap) :
    Calls Try.prog 30 #[.pointer (some ⟨p, 0, none⟩)] w fun e w' => ∃ (l : List Int) (v : Value), ConfIn 4 1 4 l ∧ e = .returned v ∧ Drawing B p a len cap w 3 v l.length (l.map icell) w' := by
  have HS := hide (Drawing.start (e := 3) hB hc)
  clear hc
  go_enter Try.func30, Try.ntmps30
  go_wp2_with fail
  go_loopw [3, 4] (fun v i wr => ∃ (k : Nat) (l : List Int), i = .int .i64 ((k : Int) + 1) ∧ k ≤ 4 ∧ ConfIn k 1 4 l ∧ Drawing B p a len cap w 3 v l.length (l.map icell) wr) (fun _ i _ => 5 - (intOf i).toNat)
  case atStart => exact ⟨0, [], rfl, Nat.zero_le _, ⟨Nat.le_refl _, by simp⟩, HS.out⟩
  case round =>
    obtain ⟨k, l, rfl, hk, hl, hd⟩ := hrel
    obtain ⟨oa, cp, rfl⟩ := row_form hd.own
    have hl4 := hl.1
    have HL := hide hl
    have HD := hide hd
    clear hl HS hd
    by_cases hlt : k < 4
    · have j0 : (k : Int) + 1 ≤ 4 := by omega
      go_wp2_with fail
      refine (l01Once_any B p a len cap 2 (by decide) (by decide) _ HD.out.cur).mono ?_
      rintro e w3 ⟨b, rfl, hc3, hg3⟩
      have HD1 := hide (HD.out.drawn hc3 hg3)
      clear hc3 hg3 HD
      have hsz : w.heap.size ≤ w3.heap.size := HD1.out.grown.size
      cases b with
      | false =>
        go_wp2_with fail
        go_roundw
        case rel => exact ⟨k + 1, l, by go_num, by omega, HL.out.mono (by omega), HD1.out⟩
        case measure => simp [intOf]; omega
      | true =>
        go_wp2_with (at_builtin; refine wpList_push_raw rfl _ _ 51 rfl Try.underlying51 infoInt rfl rfl HD1.out.own rfl rfl hsz (by unfold maxLen; omega) (by omega) ?_)
        intro v' w4 hown4 hg4
        have hd4 := HD1.out.pushed hB hown4 hg4
        rw [icell_snoc] at hd4
        have HD2 := hide hd4
        clear hown4 hg4 hd4 HD1
        go_wp2_with fail
        go_roundw
        case rel => exact ⟨k + 1, l ++ [(k : Int) + 1], by go_num, by omega, HL.out.snoc _ (by omega) (by omega), by simpa using HD2.out⟩
        case measure => simp [intOf]; omega
    · have j0 : ¬ (k : Int) + 1 ≤ 4 := by omega
      have hsz : w.heap.size ≤ wr.heap.size := HD.out.grown.size
      by_cases h0 : l.length = 0
      · obtain rfl : l = [] := List.eq_nil_of_length_eq_zero h0
        go_wp2_with (at_builtin; refine wpList_push_raw rfl _ _ 51 rfl Try.underlying51 infoInt rfl rfl HD.out.own rfl rfl hsz (by decide) (by decide) ?_)
        intro v' w4 hown4 hg4
        have HD2 := hide (HD.out.pushed hB hown4 hg4)
        clear hown4 hg4 HD
        go_wp2_with fail
        go_ret
        exact ⟨[1], _, ⟨by decide, by decide⟩, rfl, HD2.out⟩
      · have q0 : ((l.length : Int) == 0) = false := by rw [beq_eq_false_iff_ne]; omega
        go_wp2_with fail
        go_ret
        exact ⟨l, HL.out.mono hk, _, rfl, HD.out⟩

/-- The indexes at the edges. -/
def idxL : List Int := [0, -1, 1000000, 1000001]

end Go.Proofs.Ytdollofmjpgppaa
