/-
  Chapter 13: a hall without anything: lists that are nil held against each other and marked; HallNew (made by wip/tools/genhall1.py).
-/
import Derived.Test.YtckkfjmjcknjdaaRowK
import Derived.Test.YtckkfjmjcknjdaaBase
import Derived.Test.YtckkfjmjcknjdaaBox
namespace Go.Proofs.Ytckkfjmjcknjdaa
open Go.RowKit K
set_option linter.unusedVariables false
set_option linter.unusedSimpArgs false

theorem eqSessionS_nil (w : World) : Calls Try.prog 14 #[.slice none 0 0, .slice none 0 0] w fun e w' => e = .returned (.bool true) ∧ w = w' := by
  go_enter Try.func14, Try.ntmps14
  go_wp2_with fail
  go_loopw [5] (fun i wr => i = .int .i64 0 ∧ wr = w) (fun _ _ => 0)
  case atStart => exact ⟨rfl, rfl⟩
  case round =>
    obtain ⟨rfl, rfl⟩ := hrel
    go_wp2_with fail
    go_ret
    exact ⟨rfl, rfl⟩

theorem markSessionS_nil (k : Nat) (hk : k ≤ 1000) (w : World) : Calls Try.prog 17 #[.slice none 0 0, .int .i64 (k : Int)] w fun e w' => e = .returned (.int .i64 (k : Int)) ∧ w = w' := by
  go_enter Try.func17, Try.ntmps17
  go_wp2_with fail
  go_loopw [1, 5] (fun x i wr => x = .int .i64 (k : Int) ∧ i = .int .i64 0 ∧ wr = w) (fun _ _ _ => 0)
  case atStart => exact ⟨rfl, rfl, rfl⟩
  case round =>
    obtain ⟨rfl, rfl, rfl⟩ := hrel
    go_wp2_with fail
    go_ret
    exact ⟨rfl, rfl⟩

theorem heldSessionS_nil (k : Nat) (hk : k ≤ 1000) (w : World) : Calls Try.prog 20 #[.slice none 0 0, .int .i64 (k : Int)] w fun e w' => e = .returned (.int .i64 (k : Int)) ∧ w = w' := by
  go_enter Try.func20, Try.ntmps20
  go_wp2_with fail
  go_loopw [1, 5] (fun x i wr => x = .int .i64 (k : Int) ∧ i = .int .i64 0 ∧ wr = w) (fun _ _ _ => 0)
  case atStart => exact ⟨rfl, rfl, rfl⟩
  case round =>
    obtain ⟨rfl, rfl, rfl⟩ := hrel
    go_wp2_with fail
    go_ret
    exact ⟨rfl, rfl⟩

theorem eqEventS_nil (w : World) : Calls Try.prog 36 #[.slice none 0 0, .slice none 0 0] w fun e w' => e = .returned (.bool true) ∧ w = w' := by
  go_enter Try.func36, Try.ntmps36
  go_wp2_with fail
  go_loopw [5] (fun i wr => i = .int .i64 0 ∧ wr = w) (fun _ _ => 0)
  case atStart => exact ⟨rfl, rfl⟩
  case round =>
    obtain ⟨rfl, rfl⟩ := hrel
    go_wp2_with fail
    go_ret
    exact ⟨rfl, rfl⟩

theorem markEventS_nil (k : Nat) (hk : k ≤ 1000) (w : World) : Calls Try.prog 41 #[.slice none 0 0, .int .i64 (k : Int)] w fun e w' => e = .returned (.int .i64 (k : Int)) ∧ w = w' := by
  go_enter Try.func41, Try.ntmps41
  go_wp2_with fail
  go_loopw [1, 5] (fun x i wr => x = .int .i64 (k : Int) ∧ i = .int .i64 0 ∧ wr = w) (fun _ _ _ => 0)
  case atStart => exact ⟨rfl, rfl, rfl⟩
  case round =>
    obtain ⟨rfl, rfl, rfl⟩ := hrel
    go_wp2_with fail
    go_ret
    exact ⟨rfl, rfl⟩

theorem heldEventS_nil (k : Nat) (hk : k ≤ 1000) (w : World) : Calls Try.prog 45 #[.slice none 0 0, .int .i64 (k : Int)] w fun e w' => e = .returned (.int .i64 (k : Int)) ∧ w = w' := by
  go_enter Try.func45, Try.ntmps45
  go_wp2_with fail
  go_loopw [1, 5] (fun x i wr => x = .int .i64 (k : Int) ∧ i = .int .i64 0 ∧ wr = w) (fun _ _ _ => 0)
  case atStart => exact ⟨rfl, rfl, rfl⟩
  case round =>
    obtain ⟨rfl, rfl, rfl⟩ := hrel
    go_wp2_with fail
    go_ret
    exact ⟨rfl, rfl⟩

theorem eqItemSS_nil (w : World) : Calls Try.prog 37 #[.slice none 0 0, .slice none 0 0] w fun e w' => e = .returned (.bool true) ∧ w = w' := by
  go_enter Try.func37, Try.ntmps37
  go_wp2_with fail
  go_loopw [5] (fun i wr => i = .int .i64 0 ∧ wr = w) (fun _ _ => 0)
  case atStart => exact ⟨rfl, rfl⟩
  case round =>
    obtain ⟨rfl, rfl⟩ := hrel
    go_wp2_with fail
    go_ret
    exact ⟨rfl, rfl⟩

theorem markItemSS_nil (k : Nat) (hk : k ≤ 1000) (w : World) : Calls Try.prog 42 #[.slice none 0 0, .int .i64 (k : Int)] w fun e w' => e = .returned (.int .i64 (k : Int)) ∧ w = w' := by
  go_enter Try.func42, Try.ntmps42
  go_wp2_with fail
  go_loopw [1, 5] (fun x i wr => x = .int .i64 (k : Int) ∧ i = .int .i64 0 ∧ wr = w) (fun _ _ _ => 0)
  case atStart => exact ⟨rfl, rfl, rfl⟩
  case round =>
    obtain ⟨rfl, rfl, rfl⟩ := hrel
    go_wp2_with fail
    go_ret
    exact ⟨rfl, rfl⟩

theorem heldItemSS_nil (k : Nat) (hk : k ≤ 1000) (w : World) : Calls Try.prog 46 #[.slice none 0 0, .int .i64 (k : Int)] w fun e w' => e = .returned (.int .i64 (k : Int)) ∧ w = w' := by
  go_enter Try.func46, Try.ntmps46
  go_wp2_with fail
  go_loopw [1, 5] (fun x i wr => x = .int .i64 (k : Int) ∧ i = .int .i64 0 ∧ wr = w) (fun _ _ _ => 0)
  case atStart => exact ⟨rfl, rfl, rfl⟩
  case round =>
    obtain ⟨rfl, rfl, rfl⟩ := hrel
    go_wp2_with fail
    go_ret
    exact ⟨rfl, rfl⟩

theorem eqBoolS_nil (w : World) : Calls Try.prog 38 #[.slice none 0 0, .slice none 0 0] w fun e w' => e = .returned (.bool true) ∧ w = w' := by
  go_enter Try.func38, Try.ntmps38
  go_wp2_with fail
  go_loopw [5] (fun i wr => i = .int .i64 0 ∧ wr = w) (fun _ _ => 0)
  case atStart => exact ⟨rfl, rfl⟩
  case round =>
    obtain ⟨rfl, rfl⟩ := hrel
    go_wp2_with fail
    go_ret
    exact ⟨rfl, rfl⟩

theorem markBoolS_nil (k : Nat) (hk : k ≤ 1000) (w : World) : Calls Try.prog 43 #[.slice none 0 0, .int .i64 (k : Int)] w fun e w' => e = .returned (.int .i64 (k : Int)) ∧ w = w' := by
  go_enter Try.func43, Try.ntmps43
  go_wp2_with fail
  go_loopw [1, 5] (fun x i wr => x = .int .i64 (k : Int) ∧ i = .int .i64 0 ∧ wr = w) (fun _ _ _ => 0)
  case atStart => exact ⟨rfl, rfl, rfl⟩
  case round =>
    obtain ⟨rfl, rfl, rfl⟩ := hrel
    go_wp2_with fail
    go_ret
    exact ⟨rfl, rfl⟩

theorem heldBoolS_nil (k : Nat) (hk : k ≤ 1000) (w : World) : Calls Try.prog 47 #[.slice none 0 0, .int .i64 (k : Int)] w fun e w' => e = .returned (.int .i64 (k : Int)) ∧ w = w' := by
  go_enter Try.func47, Try.ntmps47
  go_wp2_with fail
  go_loopw [1, 5] (fun x i wr => x = .int .i64 (k : Int) ∧ i = .int .i64 0 ∧ wr = w) (fun _ _ _ => 0)
  case atStart => exact ⟨rfl, rfl, rfl⟩
  case round =>
    obtain ⟨rfl, rfl, rfl⟩ := hrel
    go_wp2_with fail
    go_ret
    exact ⟨rfl, rfl⟩

theorem eqIntS_nil (w : World) : Calls Try.prog 69 #[.slice none 0 0, .slice none 0 0] w fun e w' => e = .returned (.bool true) ∧ w = w' := by
  go_enter Try.func69, Try.ntmps69
  go_wp2_with fail
  go_loopw [5] (fun i wr => i = .int .i64 0 ∧ wr = w) (fun _ _ => 0)
  case atStart => exact ⟨rfl, rfl⟩
  case round =>
    obtain ⟨rfl, rfl⟩ := hrel
    go_wp2_with fail
    go_ret
    exact ⟨rfl, rfl⟩

theorem markIntS_nil (k : Nat) (hk : k ≤ 1000) (w : World) : Calls Try.prog 44 #[.slice none 0 0, .int .i64 (k : Int)] w fun e w' => e = .returned (.int .i64 (k : Int)) ∧ w = w' := by
  go_enter Try.func44, Try.ntmps44
  go_wp2_with fail
  go_loopw [1, 5] (fun x i wr => x = .int .i64 (k : Int) ∧ i = .int .i64 0 ∧ wr = w) (fun _ _ _ => 0)
  case atStart => exact ⟨rfl, rfl, rfl⟩
  case round =>
    obtain ⟨rfl, rfl, rfl⟩ := hrel
    go_wp2_with fail
    go_ret
    exact ⟨rfl, rfl⟩

theorem heldIntS_nil (k : Nat) (hk : k ≤ 1000) (w : World) : Calls Try.prog 48 #[.slice none 0 0, .int .i64 (k : Int)] w fun e w' => e = .returned (.int .i64 (k : Int)) ∧ w = w' := by
  go_enter Try.func48, Try.ntmps48
  go_wp2_with fail
  go_loopw [1, 5] (fun x i wr => x = .int .i64 (k : Int) ∧ i = .int .i64 0 ∧ wr = w) (fun _ _ _ => 0)
  case atStart => exact ⟨rfl, rfl, rfl⟩
  case round =>
    obtain ⟨rfl, rfl, rfl⟩ := hrel
    go_wp2_with fail
    go_ret
    exact ⟨rfl, rfl⟩

def roomNil : Value := .agg #[.slice none 0 0, .slice none 0 0, .slice none 0 0]

theorem eqRoom_nil (w : World) : Calls Try.prog 15 #[roomNil, roomNil] w fun e w' => e = .returned (.bool true) ∧ Below w.heap.size w w' := by
  unfold roomNil
  go_enter Try.func15, Try.ntmps15
  go_wp2_with (first
    | (go_at_call 36; refine (eqEventS_nil _).mono ?_; rintro e w1 ⟨rfl, rfl⟩)
    | (go_at_call 37; refine (eqItemSS_nil _).mono ?_; rintro e w1 ⟨rfl, rfl⟩)
    | (go_at_call 38; refine (eqBoolS_nil _).mono ?_; rintro e w1 ⟨rfl, rfl⟩))
  go_ret
  exact ⟨rfl, ((Below.refl _ _).alloc (Nat.le_refl _) _).alloc (by simp) _⟩

theorem markRoom_nil (k : Nat) (hk : k ≤ 1000) (w : World) : Calls Try.prog 18 #[roomNil, .int .i64 (k : Int)] w fun e w' => e = .returned (.int .i64 (k : Int)) ∧ Below w.heap.size w w' := by
  unfold roomNil
  go_enter Try.func18, Try.ntmps18
  go_wp2_with (first
    | (go_at_call 41; refine (markEventS_nil k hk _).mono ?_; rintro e w1 ⟨rfl, rfl⟩)
    | (go_at_call 42; refine (markItemSS_nil k hk _).mono ?_; rintro e w1 ⟨rfl, rfl⟩)
    | (go_at_call 43; refine (markBoolS_nil k hk _).mono ?_; rintro e w1 ⟨rfl, rfl⟩))
  go_ret
  exact ⟨rfl, (Below.refl _ _).alloc (Nat.le_refl _) _⟩

theorem heldRoom_nil (k : Nat) (hk : k ≤ 1000) (w : World) : Calls Try.prog 21 #[roomNil, .int .i64 (k : Int)] w fun e w' => e = .returned (.int .i64 (k : Int)) ∧ Below w.heap.size w w' := by
  unfold roomNil
  have hk0 : ¬ ((k : Int) < 0) := by omega
  go_enter Try.func21, Try.ntmps21
  go_wp2_with (first
    | (go_at_call 45; refine (heldEventS_nil k hk _).mono ?_; rintro e w1 ⟨rfl, rfl⟩)
    | (go_at_call 46; refine (heldItemSS_nil k hk _).mono ?_; rintro e w1 ⟨rfl, rfl⟩)
    | (go_at_call 47; refine (heldBoolS_nil k hk _).mono ?_; rintro e w1 ⟨rfl, rfl⟩))
  go_ret
  exact ⟨rfl, (Below.refl _ _).alloc (Nat.le_refl _) _⟩

theorem infoOutz : (Try.prog.info? 48).map (fun i => (i.zero, i.size, i.bytes)) = some (some (.agg #[.int .i64 0, .int .i64 0, .slice none 0 0]), 3, 40) := by kernel_rfl

/-- The cells of two Outs without Ids. -/
def outsL : Nat → List Value
  | 0 => []
  | n + 1 => outsL n ++ [.int .i64 ((n + 1 : Nat) : Int), .int .i64 0, .slice none 0 0]

def HallPost (w : World) (r : Ending) (w' : World) : Prop := ∃ oo c, r = .returned (.agg #[.slice none 0 0, .slice none 0 0, .slice none 0 0, .slice none 0 0, .slice oo 2 c]) ∧ w'.ownsRow w.heap.size 48 3 (.slice oo 2 c) 2 (outsL 2) ∧ Below w.heap.size w w'

set_option maxRecDepth 100000 in
set_option maxHeartbeats 4000000 in
theorem specHallNew_any (w : World) : Calls Try.prog 5 #[] w (HallPost w) := by
  obtain ⟨W0, hW0⟩ : ∃ W0, (w.alloc (.cells #[.slice none 0 0, .slice none 0 0, .slice none 0 0, .slice none 0 0, .slice none 0 0] 30)).alloc (.cells #[.slice none 0 0, .slice none 0 0, .slice none 0 0, .slice none 0 0, .slice none 0 0] 30) = W0 := ⟨_, rfl⟩
  have hb0 : Below w.heap.size w W0 := by rw [← hW0]; exact ((Below.refl w.heap.size w).alloc (Nat.le_refl _) _).alloc (by simp) _
  have hz0 : W0.heap.size = w.heap.size + 2 := by rw [← hW0]; simp
  have hQ0 : W0.heap[w.heap.size]? = some (.cells #[.slice none 0 0, .slice none 0 0, .slice none 0 0, .slice none 0 0, .slice none 0 0] 30 (0, 0)) := by
    rw [← hW0]
    exact (((Below.refl _ _).alloc (Nat.le_refl _) _ : Below (w.alloc (.cells #[.slice none 0 0, .slice none 0 0, .slice none 0 0, .slice none 0 0, .slice none 0 0] 30)).heap.size _ _).block w.heap.size (by simp)).trans (heap_alloc_new w _)
  have hR0 : W0.heap[w.heap.size + 1]? = some (.cells #[.slice none 0 0, .slice none 0 0, .slice none 0 0, .slice none 0 0, .slice none 0 0] 30 (0, 0)) := by
    rw [← hW0]
    have := heap_alloc_new (w.alloc (.cells #[.slice none 0 0, .slice none 0 0, .slice none 0 0, .slice none 0 0, .slice none 0 0] 30)) (.cells #[.slice none 0 0, .slice none 0 0, .slice none 0 0, .slice none 0 0, .slice none 0 0] 30)
    rw [World.size_alloc] at this
    exact this
  have k0 := blk_cell hR0 0 rfl
  have y0 := blk_free hR0 0
  have k1 := blk_cell hR0 1 rfl
  have y1 := blk_free hR0 1
  have k2 := blk_cell hR0 2 rfl
  have y2 := blk_free hR0 2
  have k3 := blk_cell hR0 3 rfl
  have y3 := blk_free hR0 3
  have k4 := blk_cell hR0 4 rfl
  have y4 := blk_free hR0 4
  go_enter Try.func5, Try.ntmps5
  go_wp2_with fail
  obtain ⟨w9, hw9⟩ : ∃ w9, (((((W0.setCell ⟨w.heap.size + 1, 0, none⟩ (.slice none 0 0)).setCell ⟨w.heap.size + 1, 1, none⟩ (.slice none 0 0)).setCell ⟨w.heap.size + 1, 2, none⟩ (.slice none 0 0)).setCell ⟨w.heap.size + 1, 3, none⟩ (.slice none 0 0)).setCell ⟨w.heap.size + 1, 4, none⟩ (.slice none 0 0)) = w9 := ⟨_, rfl⟩
  obtain ⟨hr, hg9⟩ := blk_setAll [.slice none 0 0, .slice none 0 0, .slice none 0 0, .slice none 0 0, .slice none 0 0] W0 _ 0 hR0
  rw [show W0.setCells (w.heap.size + 1) 0 [.slice none 0 0, .slice none 0 0, .slice none 0 0, .slice none 0 0, .slice none 0 0] = w9 from hw9] at hr hg9
  rw [hw9]
  have hlow : Below (w.heap.size + 1) W0 w9 := (Below.refl _ _).grown hg9 (by omega) (fun k hk => by cases hk; omega)
  replace hb0 := hb0.trans (hlow.mono (by omega))
  replace hQ0 := (hlow.block w.heap.size (by omega)).trans hQ0
  replace hR0 : w9.heap[w.heap.size + 1]? = some (.cells #[.slice none 0 0, .slice none 0 0, .slice none 0 0, .slice none 0 0, .slice none 0 0] 30 (0, 0)) := hr
  have hz9 : w.heap.size + 2 ≤ w9.heap.size := by have := hg9.size; omega
  clear hr hg9 hw9 hlow hW0 hz0
  clear k0 k1 k2 k3 k4 y0 y1 y2 y3 y4
  go_loopw [2] (fun i wr => ∃ (j : Nat) (oo : Option Addr) (c : Nat), i = .int .i64 ((j : Int) + 1) ∧ j ≤ 2 ∧ wr.heap[w.heap.size + 1]? = some (.cells #[.slice none 0 0, .slice none 0 0, .slice none 0 0, .slice none 0 0, .slice oo j c] 30 (0, 0)) ∧ wr.heap[w.heap.size]? = some (.cells #[.slice none 0 0, .slice none 0 0, .slice none 0 0, .slice none 0 0, .slice none 0 0] 30 (0, 0)) ∧ wr.ownsRow (w.heap.size + 2) 48 3 (.slice oo j c) j (outsL j) ∧ Below w.heap.size w wr ∧ w.heap.size + 2 ≤ wr.heap.size) (fun i _ => 4 - (intOf i).toNat)
  case atStart => exact ⟨0, none, 0, rfl, by omega, hR0, hQ0, World.ownsRow_nil _ _ _ _, hb0, hz9⟩
  case round =>
    clear hR0 hQ0 hb0 hz9
    obtain ⟨j, oo, c, rfl, hj, hR, hQ, hO, hb, hz⟩ := hrel
    have HR := hide hR
    have HQ := hide hQ
    have HO := hide hO
    have HB := hide hb
    have q4 := blk_cell hR 4 rfl
    clear hR hQ hO hb
    by_cases hlt : j < 2
    · have j0 : (j : Int) + 1 ≤ 2 := by omega
      go_wp2_with (at_builtin; refine wpList_pushK (cs := #[.int .i64 ((j : Int) + 1), .int .i64 0, .slice none 0 0]) (W := wr) rfl _ _ 28 rfl (by decide) Try.underlying28 infoOutz rfl rfl HO.out rfl rfl (by simp [Value.oneCell']) (Below.refl _ _) hz (by unfold maxLen; omega) (by omega) ?_; intro v5 w5 ho5 hb5 hs5; obtain ⟨o5, c5, rfl⟩ := row_form ho5; have hR5 := (hb5.block (w.heap.size + 1) (by omega)).trans HR.out; have q5 := blk_cell hR5 4 rfl; have y5 := blk_free hR5 4)
      obtain ⟨hr, hg9⟩ := blk_setAll [.slice o5 (j + 1) c5] w5 _ 4 hR5
      obtain ⟨w9, hw9⟩ : ∃ w9, w5.setCell ⟨w.heap.size + 1, 4, none⟩ (.slice o5 (j + 1) c5) = w9 := ⟨_, rfl⟩
      rw [show w5.setCells (w.heap.size + 1) 4 [.slice o5 (j + 1) c5] = w9 from hw9] at hr hg9
      rw [hw9]
      have hlow : Below (w.heap.size + 1) w5 w9 := (Below.refl _ _).grown hg9 (by omega) (fun k hk => by cases hk; omega)
      have HO9 := hide (ho5.kept hg9 (.inr fun e => by have := (ho5.lt _ e).1; omega))
      have HB9 := hide (HB.out.trans ((hb5.mono (by omega)).trans (hlow.mono (by omega))))
      have HQ9 := hide ((hlow.block w.heap.size (by omega)).trans ((hb5.block w.heap.size (by omega)).trans HQ.out))
      have HR9 := hide hr
      have hz9 : w.heap.size + 2 ≤ w9.heap.size := by have := hg9.size; omega
      clear hr hg9 hw9 hlow hb5 ho5 hR5 q5 y5 q4
      go_roundw
      case rel => exact ⟨j + 1, o5, c5, by go_num, by omega, HR9.out, HQ9.out, HO9.out, HB9.out, hz9⟩
      case measure => simp [intOf]; omega
    · have j0 : ¬ ((j : Int) + 1 ≤ 2) := by omega
      obtain rfl : j = 2 := by omega
      have q0 := blk_cell HR.out 0 rfl
      have q1 := blk_cell HR.out 1 rfl
      have q2 := blk_cell HR.out 2 rfl
      have q3 := blk_cell HR.out 3 rfl
      have p0 := blk_cell HQ.out 0 rfl
      have p1 := blk_cell HQ.out 1 rfl
      have p2 := blk_cell HQ.out 2 rfl
      have p3 := blk_cell HQ.out 3 rfl
      have p4 := blk_cell HQ.out 4 rfl
      have y0 := blk_free HQ.out 0
      have y1 := blk_free HQ.out 1
      have y2 := blk_free HQ.out 2
      have y3 := blk_free HQ.out 3
      have y4 := blk_free HQ.out 4
      go_wp2_with fail
      obtain ⟨hr, hg9⟩ := blk_setAll [.slice none 0 0, .slice none 0 0, .slice none 0 0, .slice none 0 0, .slice oo 2 c] wr _ 0 HQ.out
      obtain ⟨w9, hw9⟩ : ∃ w9, (((((wr.setCell ⟨w.heap.size, 0, none⟩ (.slice none 0 0)).setCell ⟨w.heap.size, 1, none⟩ (.slice none 0 0)).setCell ⟨w.heap.size, 2, none⟩ (.slice none 0 0)).setCell ⟨w.heap.size, 3, none⟩ (.slice none 0 0)).setCell ⟨w.heap.size, 4, none⟩ (.slice oo 2 c)) = w9 := ⟨_, rfl⟩
      rw [show wr.setCells w.heap.size 0 [.slice none 0 0, .slice none 0 0, .slice none 0 0, .slice none 0 0, .slice oo 2 c] = w9 from hw9] at hr hg9
      rw [hw9]
      clear q0 q1 q2 q3 q4 p0 p1 p2 p3 p4 y0 y1 y2 y3 y4
      have q0 : w9.cell? ⟨w.heap.size, 0, none⟩ = some (.slice none 0 0) := blk_cell hr 0 rfl
      have q1 : w9.cell? ⟨w.heap.size, 1, none⟩ = some (.slice none 0 0) := blk_cell hr 1 rfl
      have q2 : w9.cell? ⟨w.heap.size, 2, none⟩ = some (.slice none 0 0) := blk_cell hr 2 rfl
      have q3 : w9.cell? ⟨w.heap.size, 3, none⟩ = some (.slice none 0 0) := blk_cell hr 3 rfl
      have q4 : w9.cell? ⟨w.heap.size, 4, none⟩ = some (.slice oo 2 c) := blk_cell hr 4 rfl
      refine bodyPost_ret (v := .agg #[.slice none 0 0, .slice none 0 0, .slice none 0 0, .slice none 0 0, .slice oo 2 c]) (by simp [results, Try.results5, go_sem, q0, q1, q2, q3, q4]) rfl ?_
      exact ⟨oo, c, rfl, own_base (HO.out.kept hg9 (.inr fun e => by have := (HO.out.lt _ e).1; omega)) (by omega), HB.out.grown hg9 HB.out.size (fun k hk => by cases hk; omega)⟩

set_option maxRecDepth 100000 in
set_option maxHeartbeats 4000000 in
theorem implHallNew_any (w : World) : Calls Try.prog 6 #[] w (HallPost w) := by
  obtain ⟨W0, hW0⟩ : ∃ W0, (w.alloc (.cells #[.slice none 0 0, .slice none 0 0, .slice none 0 0, .slice none 0 0, .slice none 0 0] 30)).alloc (.cells #[.slice none 0 0, .slice none 0 0, .slice none 0 0, .slice none 0 0, .slice none 0 0] 30) = W0 := ⟨_, rfl⟩
  have hb0 : Below w.heap.size w W0 := by rw [← hW0]; exact ((Below.refl w.heap.size w).alloc (Nat.le_refl _) _).alloc (by simp) _
  have hz0 : W0.heap.size = w.heap.size + 2 := by rw [← hW0]; simp
  have hQ0 : W0.heap[w.heap.size]? = some (.cells #[.slice none 0 0, .slice none 0 0, .slice none 0 0, .slice none 0 0, .slice none 0 0] 30 (0, 0)) := by
    rw [← hW0]
    exact (((Below.refl _ _).alloc (Nat.le_refl _) _ : Below (w.alloc (.cells #[.slice none 0 0, .slice none 0 0, .slice none 0 0, .slice none 0 0, .slice none 0 0] 30)).heap.size _ _).block w.heap.size (by simp)).trans (heap_alloc_new w _)
  have hR0 : W0.heap[w.heap.size + 1]? = some (.cells #[.slice none 0 0, .slice none 0 0, .slice none 0 0, .slice none 0 0, .slice none 0 0] 30 (0, 0)) := by
    rw [← hW0]
    have := heap_alloc_new (w.alloc (.cells #[.slice none 0 0, .slice none 0 0, .slice none 0 0, .slice none 0 0, .slice none 0 0] 30)) (.cells #[.slice none 0 0, .slice none 0 0, .slice none 0 0, .slice none 0 0, .slice none 0 0] 30)
    rw [World.size_alloc] at this
    exact this
  have k0 := blk_cell hR0 0 rfl
  have y0 := blk_free hR0 0
  have k1 := blk_cell hR0 1 rfl
  have y1 := blk_free hR0 1
  have k2 := blk_cell hR0 2 rfl
  have y2 := blk_free hR0 2
  have k3 := blk_cell hR0 3 rfl
  have y3 := blk_free hR0 3
  have k4 := blk_cell hR0 4 rfl
  have y4 := blk_free hR0 4
  go_enter Try.func6, Try.ntmps6
  go_wp2_with fail
  have hz9 : w.heap.size + 2 ≤ W0.heap.size := by omega
  try rw [hW0]
  clear hW0 hz0 k0 k1 k2 k3 k4 y0 y1 y2 y3 y4
  go_loopw [2] (fun i wr => ∃ (j : Nat) (oo : Option Addr) (c : Nat), i = .int .i64 ((j : Int) + 1) ∧ j ≤ 2 ∧ wr.heap[w.heap.size + 1]? = some (.cells #[.slice none 0 0, .slice none 0 0, .slice none 0 0, .slice none 0 0, .slice oo j c] 30 (0, 0)) ∧ wr.heap[w.heap.size]? = some (.cells #[.slice none 0 0, .slice none 0 0, .slice none 0 0, .slice none 0 0, .slice none 0 0] 30 (0, 0)) ∧ wr.ownsRow (w.heap.size + 2) 48 3 (.slice oo j c) j (outsL j) ∧ Below w.heap.size w wr ∧ w.heap.size + 2 ≤ wr.heap.size) (fun i _ => 4 - (intOf i).toNat)
  case atStart => exact ⟨0, none, 0, rfl, by omega, hR0, hQ0, World.ownsRow_nil _ _ _ _, hb0, hz9⟩
  case round =>
    clear hR0 hQ0 hb0 hz9
    obtain ⟨j, oo, c, rfl, hj, hR, hQ, hO, hb, hz⟩ := hrel
    have HR := hide hR
    have HQ := hide hQ
    have HO := hide hO
    have HB := hide hb
    have q4 := blk_cell hR 4 rfl
    clear hR hQ hO hb
    by_cases hlt : j < 2
    · have j0 : (j : Int) + 1 ≤ 2 := by omega
      go_wp2_with (at_builtin; refine wpList_pushK (cs := #[.int .i64 ((j : Int) + 1), .int .i64 0, .slice none 0 0]) (W := wr) rfl _ _ 28 rfl (by decide) Try.underlying28 infoOutz rfl rfl HO.out rfl rfl (by simp [Value.oneCell']) (Below.refl _ _) hz (by unfold maxLen; omega) (by omega) ?_; intro v5 w5 ho5 hb5 hs5; obtain ⟨o5, c5, rfl⟩ := row_form ho5; have hR5 := (hb5.block (w.heap.size + 1) (by omega)).trans HR.out; have q5 := blk_cell hR5 4 rfl; have y5 := blk_free hR5 4)
      obtain ⟨hr, hg9⟩ := blk_setAll [.slice o5 (j + 1) c5] w5 _ 4 hR5
      obtain ⟨w9, hw9⟩ : ∃ w9, w5.setCell ⟨w.heap.size + 1, 4, none⟩ (.slice o5 (j + 1) c5) = w9 := ⟨_, rfl⟩
      rw [show w5.setCells (w.heap.size + 1) 4 [.slice o5 (j + 1) c5] = w9 from hw9] at hr hg9
      rw [hw9]
      have hlow : Below (w.heap.size + 1) w5 w9 := (Below.refl _ _).grown hg9 (by omega) (fun k hk => by cases hk; omega)
      have HO9 := hide (ho5.kept hg9 (.inr fun e => by have := (ho5.lt _ e).1; omega))
      have HB9 := hide (HB.out.trans ((hb5.mono (by omega)).trans (hlow.mono (by omega))))
      have HQ9 := hide ((hlow.block w.heap.size (by omega)).trans ((hb5.block w.heap.size (by omega)).trans HQ.out))
      have HR9 := hide hr
      have hz9 : w.heap.size + 2 ≤ w9.heap.size := by have := hg9.size; omega
      clear hr hg9 hw9 hlow hb5 ho5 hR5 q5 y5 q4
      go_roundw
      case rel => exact ⟨j + 1, o5, c5, by go_num, by omega, HR9.out, HQ9.out, HO9.out, HB9.out, hz9⟩
      case measure => simp [intOf]; omega
    · have j0 : ¬ ((j : Int) + 1 ≤ 2) := by omega
      obtain rfl : j = 2 := by omega
      have q0 := blk_cell HR.out 0 rfl
      have q1 := blk_cell HR.out 1 rfl
      have q2 := blk_cell HR.out 2 rfl
      have q3 := blk_cell HR.out 3 rfl
      have p0 := blk_cell HQ.out 0 rfl
      have p1 := blk_cell HQ.out 1 rfl
      have p2 := blk_cell HQ.out 2 rfl
      have p3 := blk_cell HQ.out 3 rfl
      have p4 := blk_cell HQ.out 4 rfl
      have y0 := blk_free HQ.out 0
      have y1 := blk_free HQ.out 1
      have y2 := blk_free HQ.out 2
      have y3 := blk_free HQ.out 3
      have y4 := blk_free HQ.out 4
      go_wp2_with fail
      obtain ⟨hr, hg9⟩ := blk_setAll [.slice none 0 0, .slice none 0 0, .slice none 0 0, .slice none 0 0, .slice oo 2 c] wr _ 0 HQ.out
      obtain ⟨w9, hw9⟩ : ∃ w9, (((((wr.setCell ⟨w.heap.size, 0, none⟩ (.slice none 0 0)).setCell ⟨w.heap.size, 1, none⟩ (.slice none 0 0)).setCell ⟨w.heap.size, 2, none⟩ (.slice none 0 0)).setCell ⟨w.heap.size, 3, none⟩ (.slice none 0 0)).setCell ⟨w.heap.size, 4, none⟩ (.slice oo 2 c)) = w9 := ⟨_, rfl⟩
      rw [show wr.setCells w.heap.size 0 [.slice none 0 0, .slice none 0 0, .slice none 0 0, .slice none 0 0, .slice oo 2 c] = w9 from hw9] at hr hg9
      rw [hw9]
      clear q0 q1 q2 q3 q4 p0 p1 p2 p3 p4 y0 y1 y2 y3 y4
      have q0 : w9.cell? ⟨w.heap.size, 0, none⟩ = some (.slice none 0 0) := blk_cell hr 0 rfl
      have q1 : w9.cell? ⟨w.heap.size, 1, none⟩ = some (.slice none 0 0) := blk_cell hr 1 rfl
      have q2 : w9.cell? ⟨w.heap.size, 2, none⟩ = some (.slice none 0 0) := blk_cell hr 2 rfl
      have q3 : w9.cell? ⟨w.heap.size, 3, none⟩ = some (.slice none 0 0) := blk_cell hr 3 rfl
      have q4 : w9.cell? ⟨w.heap.size, 4, none⟩ = some (.slice oo 2 c) := blk_cell hr 4 rfl
      refine bodyPost_ret (v := .agg #[.slice none 0 0, .slice none 0 0, .slice none 0 0, .slice none 0 0, .slice oo 2 c]) (by simp [results, Try.results6, go_sem, q0, q1, q2, q3, q4]) rfl ?_
      exact ⟨oo, c, rfl, own_base (HO.out.kept hg9 (.inr fun e => by have := (HO.out.lt _ e).1; omega)) (by omega), HB.out.grown hg9 HB.out.size (fun k hk => by cases hk; omega)⟩

end Go.Proofs.Ytckkfjmjcknjdaa
