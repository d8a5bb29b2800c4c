/-
  Draws of FnActs: what is left.
-/
import Derived.Test.YtdcdlfkbdeogeaaDraw11
import Derived.Test.YtdcdlfkbdeogeaaPack16
namespace Go.Proofs.Ytdcdlfkbdeogeaa
open Go.RowKit P5 K
set_option linter.unusedVariables false
set_option linter.unusedSimpArgs false

def leftL : List Int := [0, 1, 2, 3, 5, 9, 40, 200, -1, 9223372036854775807]

theorem leftL_wf (z : Int) (h : z ∈ leftL) : (Lit.int .i64 z).wf = true := by
  simp [leftL] at h
  rcases h with rfl | rfl | rfl | rfl | rfl | rfl | rfl | rfl | rfl | rfl <;> rfl

theorem I64z_icell (l : List Int) : I64z l = l.map icell := rfl

set_option maxHeartbeats 2000000 in
theorem l03Left_any (B p : Nat) (a : Option Addr) (len cap : Nat) (w : World) (hB : B ≤ w.heap.size) (hc : CurAt B w p a len cap) :
    Calls Try.prog 17 #[.pointer (some ⟨p, 0, none⟩)] w fun e w' => ∃ (l : List Int) (v : Value), l.length ≤ 5 ∧ (∀ z ∈ l, z ∈ leftL) ∧ e = .returned v ∧ Drawing B p a len cap w 3 v l.length (l.map icell) w' := by
  have HS := hide (Drawing.start (e := 3) hB hc)
  clear hc
  go_enter Try.func17, Try.ntmps17
  go_wp2_with fail
  go_loopw [3, 4] (fun v i wr => ∃ (k : Nat) (l : List Int), i = .int .i64 (k : Int) ∧ k ≤ 5 ∧ l.length = k ∧ (∀ z ∈ l, z ∈ leftL) ∧ Drawing B p a len cap w 3 v l.length (l.map icell) wr) (fun _ i _ => 6 - (intOf i).toNat)
  case atStart => exact ⟨0, [], rfl, Nat.zero_le _, rfl, by simp, HS.out⟩
  case round =>
    obtain ⟨k, l, rfl, hk, hl, hx, hd⟩ := hrel
    obtain ⟨oa, cp, rfl⟩ := row_form hd.own
    have HX := hide hx
    have HD := hide hd
    have HLk := hide hl
    have hl5 : l.length ≤ 5 := by omega
    clear HS hd hx hl
    go_wp2_with fail
    refine (l01Below_any B p a len cap 6 (by decide) (by decide) _ HD.out.cur).mono ?_
    rintro e w2 ⟨y, hy, rfl, hc2, hg2⟩
    have HD2 := hide (HD.out.drawn hc2 hg2)
    have hsz : w.heap.size ≤ w2.heap.size := HD2.out.grown.size
    clear hc2 hg2 HD
    by_cases hlt : k < y
    · have j0 : (k : Int) < (y : Int) := by omega
      have hl2 : p < w2.heap.size := HD2.out.cur.lt
      have hba : w2.grownBy (w2.alloc (.cells (I64z leftL).toArray 3)) (some p) := World.grownBy_alloc w2 _ _
      have hca := HD2.out.cur.kept ((Below.refl _ _).alloc (by omega) (.cells (I64z leftL).toArray 3)) (Below.heap_alloc _ _ p hl2)
      have HD3 := hide (HD2.out.drawn hca hba)
      have HO : Hid ((w2.alloc (.cells (I64z leftL).toArray 3)).ownsRow w2.heap.size 3 1 (.slice (some ⟨w2.heap.size, 0, none⟩) 10 10) 10 (I64z leftL)) := hide (World.ownsRow_lit (base := w2.heap.size) (size := 1) w2 (I64z leftL).toArray 10 (Nat.le_refl _) (by decide) (by simp [I64z, leftL]))
      clear hba hca HD2
      go_wp2_with fail
      refine (l01PickInt_any B p a len cap w2.heap.size _ leftL (by decide) (by decide) _ hl2 HO.out HD3.out.cur).mono ?_
      rintro e w3 ⟨m, hm, rfl, hc3, hg3⟩
      have HD4 := hide (HD3.out.drawn hc3 hg3)
      have HM := hide hm
      have hsz3 : w.heap.size ≤ w3.heap.size := HD4.out.grown.size
      clear hc3 hg3 HD3 HO hm
      go_wp2_with (at_builtin; refine wpList_push_raw rfl _ _ 28 rfl Try.underlying28 infoInt rfl rfl HD4.out.own rfl rfl hsz3 (by unfold maxLen; omega) (by omega) ?_)
      intro v' w4 hown4 hg4
      have hd4 := HD4.out.pushed hB hown4 hg4
      rw [show l.map icell ++ [.int .i64 m] = (l ++ [m]).map icell by simp [icell]] at hd4
      have HD5 := hide hd4
      clear hown4 hg4 hd4 HD4
      go_wp2_with fail
      go_roundw
      case rel => exact ⟨k + 1, l ++ [m], by go_num, by omega, by simp [HLk.out], by
        intro z hz
        rcases List.mem_append.1 hz with hz | hz
        · exact HX.out z hz
        · simp at hz; rw [hz]; exact HM.out, by simpa using HD5.out⟩
      case measure => simp [intOf]; omega
    · have j0 : ¬ (k : Int) < (y : Int) := by omega
      go_wp2_with fail
      go_ret
      exact ⟨l, _, hl5, HX.out, rfl, HD2.out⟩

end Go.Proofs.Ytdcdlfkbdeogeaa
