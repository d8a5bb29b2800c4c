/-
  Chapter 13: the law FnExactHallNew: marks on halls, and its walk.
-/
import Derived.Test.YtckkfjmjcknjdaaHall2
namespace Go.Proofs.Ytckkfjmjcknjdaa
open Go.RowKit K
set_option linter.unusedVariables false
set_option linter.unusedSimpArgs false

section
variable {w : World} {g : Nat} {d0 a0 d1 a1 : Int}
theorem OutV.put0 (h : OutV w g d0 a0 d1 a1) (x y : Int) : OutV (w.setCells g 0 [.int .i64 x, .int .i64 y]) g x y d1 a1 ∧ w.grownBy (w.setCells g 0 [.int .i64 x, .int .i64 y]) (some g) := by
  obtain ⟨cur, h1, h2, h3, h4, h5, h6, h7⟩ := h.blk
  obtain ⟨hr, hg⟩ := blk_setAll [.int .i64 x, .int .i64 y] w cur 0 h1
  have s0 : 5 < cur.size := (Array.getElem?_eq_some_iff.1 h7).1
  have s1 : 0 < cur.size := by omega
  have s2 : 1 < cur.size := by omega
  refine ⟨⟨_, hr, ?_, ?_, ?_, ?_, ?_, ?_⟩, hg⟩ <;> simp [setArr, Array.getElem?_setIfInBounds, h2, h3, h4, h5, h6, h7, s1, s2]

theorem OutV.put3 (h : OutV w g d0 a0 d1 a1) (x y : Int) : OutV (w.setCells g 3 [.int .i64 x, .int .i64 y]) g d0 a0 x y ∧ w.grownBy (w.setCells g 3 [.int .i64 x, .int .i64 y]) (some g) := by
  obtain ⟨cur, h1, h2, h3, h4, h5, h6, h7⟩ := h.blk
  obtain ⟨hr, hg⟩ := blk_setAll [.int .i64 x, .int .i64 y] w cur 3 h1
  have s0 : 5 < cur.size := (Array.getElem?_eq_some_iff.1 h7).1
  have s1 : 3 < cur.size := by omega
  have s2 : 4 < cur.size := by omega
  refine ⟨⟨_, hr, ?_, ?_, ?_, ?_, ?_, ?_⟩, hg⟩ <;> simp [setArr, Array.getElem?_setIfInBounds, h2, h3, h4, h5, h6, h7, s1, s2]
end

set_option maxHeartbeats 2000000 in
theorem markOutS_one (g c : Nat) (w : World) (h : OutV w g 1 0 2 0) :
    Calls Try.prog 19 #[.slice (some ⟨g, 0, none⟩) 2 c, .int .i64 1] w fun e w' => e = .returned (.int .i64 5) ∧ OutV w' g 1 2 3 4 ∧ w.grownBy w' (some g) := by
  have HV := hide h
  clear h
  have i0 := idxO g c
  have i1 := idxI g c
  have HM3 := hide (show ∀ w, Calls Try.prog 44 #[.slice none 0 0, .int .i64 3] w fun e w' => e = .returned (.int .i64 3) ∧ w = w' from fun w => markIntS_nil 3 (by omega) w)
  have HM5 := hide (show ∀ w, Calls Try.prog 44 #[.slice none 0 0, .int .i64 5] w fun e w' => e = .returned (.int .i64 5) ∧ w = w' from fun w => markIntS_nil 5 (by omega) w)
  go_enter Try.func19, Try.ntmps19
  go_wp2_with fail
  go_loopw [1, 5] (fun x i wr => (i = .int .i64 0 ∧ x = .int .i64 1 ∧ wr = w) ∨ (i = .int .i64 1 ∧ x = .int .i64 3 ∧ OutV wr g 1 2 2 0 ∧ w.grownBy wr (some g)) ∨ (i = .int .i64 2 ∧ x = .int .i64 5 ∧ OutV wr g 1 2 3 4 ∧ w.grownBy wr (some g))) (fun _ i _ => 2 - (intOf i).toNat)
  case atStart => exact .inl ⟨rfl, rfl, rfl⟩
  case round =>
    rcases hrel with ⟨rfl, rfl, rfl⟩ | ⟨rfl, rfl, hV, hg⟩ | ⟨rfl, rfl, hV, hg⟩
    · obtain ⟨c0, c1, c2, c3, c4, c5⟩ := HV.out.cs
      have y0 := HV.out.fr 0
      have y1 := HV.out.fr 1
      go_wp2_with (go_at_call 44; (with_reducible refine (HM3.out _).mono ?_); rintro e w1 ⟨rfl, rfl⟩)
      have hp := HV.out.put0 1 2
      obtain ⟨w9, hw9⟩ : ∃ w9, (wr.setCell ⟨g, 0, none⟩ (.int .i64 1)).setCell ⟨g, 1, none⟩ (.int .i64 2) = w9 := ⟨_, rfl⟩
      rw [show wr.setCells g 0 [.int .i64 1, .int .i64 2] = w9 from hw9] at hp
      rw [hw9]
      have HP := hide hp
      clear hp hw9 c0 c1 c2 c3 c4 c5 y0 y1
      go_roundw
      case rel => exact .inr (.inl ⟨by go_num, by go_num, HP.out.1, HP.out.2⟩)
      case measure => simp [intOf]
    · obtain ⟨c0, c1, c2, c3, c4, c5⟩ := hV.cs
      have y0 := hV.fr 3
      have y1 := hV.fr 4
      have HV1 := hide hV
      have HG1 := hide hg
      clear hV hg
      go_wp2_with (go_at_call 44; (with_reducible refine (HM5.out _).mono ?_); rintro e w1 ⟨rfl, rfl⟩)
      have hp := HV1.out.put3 3 4
      obtain ⟨w9, hw9⟩ : ∃ w9, (wr.setCell ⟨g, 3, none⟩ (.int .i64 3)).setCell ⟨g, 4, none⟩ (.int .i64 4) = w9 := ⟨_, rfl⟩
      rw [show wr.setCells g 3 [.int .i64 3, .int .i64 4] = w9 from hw9] at hp
      rw [hw9]
      have HP := hide hp
      clear hp hw9 c0 c1 c2 c3 c4 c5 y0 y1
      go_roundw
      case rel => exact .inr (.inr ⟨by go_num, by go_num, HP.out.1, grown_trans HG1.out HP.out.2⟩)
      case measure => simp [intOf]
    · have HV1 := hide hV
      have HG1 := hide hg
      clear hV hg
      go_wp2_with fail
      refine bodyPost_ret (v := .int .i64 5) (by simp [results, Try.results19, go_sem]) rfl ?_
      exact ⟨rfl, HV1.out, HG1.out⟩

set_option maxHeartbeats 2000000 in
theorem heldOutS_one (g c : Nat) (w : World) (h : OutV w g 1 2 3 4) :
    Calls Try.prog 22 #[.slice (some ⟨g, 0, none⟩) 2 c, .int .i64 1] w fun e w' => e = .returned (.int .i64 5) ∧ w = w' := by
  obtain ⟨c0, c1, c2, c3, c4, c5⟩ := h.cs
  clear h
  have i0 := idxO g c
  have i1 := idxI g c
  have HM3 := hide (show ∀ w, Calls Try.prog 48 #[.slice none 0 0, .int .i64 3] w fun e w' => e = .returned (.int .i64 3) ∧ w = w' from fun w => heldIntS_nil 3 (by omega) w)
  have HM5 := hide (show ∀ w, Calls Try.prog 48 #[.slice none 0 0, .int .i64 5] w fun e w' => e = .returned (.int .i64 5) ∧ w = w' from fun w => heldIntS_nil 5 (by omega) w)
  go_enter Try.func22, Try.ntmps22
  go_wp2_with fail
  go_loopw [1, 5] (fun x i wr => (i = .int .i64 0 ∧ x = .int .i64 1 ∧ wr = w) ∨ (i = .int .i64 1 ∧ x = .int .i64 3 ∧ wr = w) ∨ (i = .int .i64 2 ∧ x = .int .i64 5 ∧ wr = w)) (fun _ i _ => 2 - (intOf i).toNat)
  case atStart => exact .inl ⟨rfl, rfl, rfl⟩
  case round =>
    rcases hrel with ⟨rfl, rfl, rfl⟩ | ⟨rfl, rfl, rfl⟩ | ⟨rfl, rfl, rfl⟩
    · go_wp2_with (go_at_call 48; (with_reducible refine (HM3.out _).mono ?_); rintro e w1 ⟨rfl, rfl⟩)
      go_roundw
      case rel => exact .inr (.inl ⟨by go_num, by go_num, by first | rfl | trivial⟩)
      case measure => simp [intOf]
    · go_wp2_with (go_at_call 48; (with_reducible refine (HM5.out _).mono ?_); rintro e w1 ⟨rfl, rfl⟩)
      go_roundw
      case rel => exact .inr (.inr ⟨by go_num, by go_num, by first | rfl | trivial⟩)
      case measure => simp [intOf]
    · go_wp2_with fail
      go_ret
      exact ⟨rfl, rfl⟩

theorem markS_1 (w : World) : Calls Try.prog 17 #[.slice none 0 0, .int .i64 1] w fun e w' => e = .returned (.int .i64 1) ∧ w = w' := markSessionS_nil 1 (by omega) w
theorem heldS_1 (w : World) : Calls Try.prog 20 #[.slice none 0 0, .int .i64 1] w fun e w' => e = .returned (.int .i64 1) ∧ w = w' := heldSessionS_nil 1 (by omega) w
theorem markR_1 (w : World) : Calls Try.prog 18 #[roomNil, .int .i64 1] w fun e w' => e = .returned (.int .i64 1) ∧ Below w.heap.size w w' := markRoom_nil 1 (by omega) w
theorem heldR_1 (w : World) : Calls Try.prog 21 #[roomNil, .int .i64 1] w fun e w' => e = .returned (.int .i64 1) ∧ Below w.heap.size w w' := heldRoom_nil 1 (by omega) w

set_option maxHeartbeats 2000000 in
theorem markHall_one (g c : Nat) (w : World) (h : OutV w g 1 0 2 0) : Calls Try.prog 8 #[hallV g c, .int .i64 1] w fun e w' => e = .returned (.int .i64 5) ∧ OutV w' g 1 2 3 4 ∧ w.grownBy w' (some g) := by
  unfold hallV
  have hb0 : Below w.heap.size w (w.alloc (.cells #[.slice none 0 0, .slice none 0 0, .slice none 0 0, .slice none 0 0, .slice (some ⟨g, 0, none⟩) 2 c] 30)) := (Below.refl _ _).alloc (Nat.le_refl _) _
  have HQ := hide (heap_alloc_new w (.cells #[.slice none 0 0, .slice none 0 0, .slice none 0 0, .slice none 0 0, .slice (some ⟨g, 0, none⟩) 2 c] 30))
  have HV := hide (h.below hb0)
  have HB := hide hb0
  clear h hb0
  go_enter Try.func8, Try.ntmps8
  go_wp2_with (first
    | (go_at_call 17; refine (markS_1 _).mono ?_; rintro e w1 ⟨rfl, rfl⟩)
    | (go_at_call 18; refine (markR_1 _).mono ?_; rintro e w2 ⟨rfl, hb2⟩; have k4 := blk_cell ((hb2.block _ (blk_lt HQ.out)).trans HQ.out) 4 rfl; have HEQ := hide (markOutS_one g c w2 (HV.out.below hb2)))
    | (go_at_call 19; refine HEQ.out.mono ?_; rintro e w3 ⟨rfl, hV3, hg3⟩))
  refine bodyPost_ret (v := .int .i64 5) (by simp [results, Try.results8, go_sem]) rfl ?_
  have hb := HB.out.trans (hb2.mono HB.out.size)
  exact ⟨rfl, hV3, ⟨hg3.os.trans hb.os, hg3.tape.trans hb.tape, hg3.output.trans hb.output, Nat.le_trans hb.size hg3.size, fun k hk hne => (hg3.block k (Nat.lt_of_lt_of_le hk hb.size) hne).trans (hb.block k hk)⟩⟩

set_option maxHeartbeats 2000000 in
theorem heldHall_one (g c : Nat) (w : World) (h : OutV w g 1 2 3 4) : Calls Try.prog 9 #[hallV g c, .int .i64 1] w fun e w' => e = .returned (.int .i64 5) ∧ Below w.heap.size w w' := by
  unfold hallV
  have hb0 : Below w.heap.size w (w.alloc (.cells #[.slice none 0 0, .slice none 0 0, .slice none 0 0, .slice none 0 0, .slice (some ⟨g, 0, none⟩) 2 c] 30)) := (Below.refl _ _).alloc (Nat.le_refl _) _
  have HQ := hide (heap_alloc_new w (.cells #[.slice none 0 0, .slice none 0 0, .slice none 0 0, .slice none 0 0, .slice (some ⟨g, 0, none⟩) 2 c] 30))
  have HV := hide (h.below hb0)
  have HB := hide hb0
  clear h hb0
  go_enter Try.func9, Try.ntmps9
  go_wp2_with (first
    | (go_at_call 20; refine (heldS_1 _).mono ?_; rintro e w1 ⟨rfl, rfl⟩)
    | (go_at_call 21; refine (heldR_1 _).mono ?_; rintro e w2 ⟨rfl, hb2⟩; have k4 := blk_cell ((hb2.block _ (blk_lt HQ.out)).trans HQ.out) 4 rfl; have HEQ := hide (heldOutS_one g c w2 (HV.out.below hb2)))
    | (go_at_call 22; refine HEQ.out.mono ?_; rintro e w3 ⟨rfl, rfl⟩))
  go_ret
  exact ⟨rfl, HB.out.trans (hb2.mono HB.out.size)⟩

end Go.Proofs.Ytckkfjmjcknjdaa
