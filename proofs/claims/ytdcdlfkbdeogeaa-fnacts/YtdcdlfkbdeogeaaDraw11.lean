/-
  Draws of FnActs: a place, what is left, an act.
-/
import Derived.Test.YtdcdlfkbdeogeaaPack23
import Derived.Test.YtdcdlfkbdeogeaaPack22
namespace Go.Proofs.Ytdcdlfkbdeogeaa
open Go.RowKit P5 K
attribute [local go_sem ↓] Go.wp_at_zero Go.wp_at_succ
set_option linter.unusedVariables false
set_option linter.unusedSimpArgs false

theorem l01Place_any (B p : Nat) (a : Option Addr) (len cap : Nat) (n : Nat) (h0 : 0 < n) (h1 : n ≤ 1000000) (w : World) (hB : B ≤ w.heap.size) (hc : CurAt B w p a len cap) :
    Calls Try.prog 16 #[.pointer (some ⟨p, 0, none⟩), .int .i64 (n : Int)] w fun e w' => ∃ x : Int, -9223372036854775808 ≤ x ∧ x ≤ 9223372036854775807 ∧ e = .returned (.int .i64 x) ∧ CurAt B w' p a len cap ∧ w.grownBy w' (some p) := by
  have hlt := hc.lt
  go_enter Try.func16, Try.ntmps16
  go_wp2_with fail
  refine (l01Once_any B p a len cap 15 (by decide) (by decide) _ hc).mono ?_
  rintro e w1 ⟨b, rfl, hc1, hg1⟩
  have hsz := hg1.size
  clear hc
  cases b with
  | true =>
    obtain ⟨L, hL⟩ : ∃ L : List Int, [-1, (n : Int), (n : Int) + 1, 9223372036854775807, -9223372036854775808] = L := ⟨_, rfl⟩
    have hc2 := hc1.kept ((Below.refl _ _).alloc (by omega) (.cells (I64z [-1, (n : Int), (n : Int) + 1, 9223372036854775807, -9223372036854775808]).toArray 3)) (Below.heap_alloc _ _ p hc1.lt)
    have ho2 : (w1.alloc (.cells (I64z [-1, (n : Int), (n : Int) + 1, 9223372036854775807, -9223372036854775808]).toArray 3)).ownsRow w1.heap.size 3 1 (.slice (some ⟨w1.heap.size, 0, none⟩) 5 5) 5 (I64z [-1, (n : Int), (n : Int) + 1, 9223372036854775807, -9223372036854775808]) :=
      World.ownsRow_lit (base := w1.heap.size) (size := 1) w1 (I64z [-1, (n : Int), (n : Int) + 1, 9223372036854775807, -9223372036854775808]).toArray 5 (Nat.le_refl _) (by decide) (by simp [I64z])
    have HC2 := hide hc2
    have HO2 := hide ho2
    have hl1 := hc1.lt
    have HG2 := hide (grownBy_trans hg1 (World.grownBy_alloc w1 (.cells (I64z [-1, (n : Int), (n : Int) + 1, 9223372036854775807, -9223372036854775808]).toArray 3) (some p)))
    clear hc2 ho2 hc1 hg1 hL
    go_wp2_with fail
    refine (l01PickInt_any B p a len cap w1.heap.size _ [-1, (n : Int), (n : Int) + 1, 9223372036854775807, -9223372036854775808] (by simp) (by simp) _ hl1 HO2.out HC2.out).mono ?_
    rintro e w2 ⟨y, hy, rfl, hc3, hg3⟩
    have hyb : -9223372036854775808 ≤ y ∧ y ≤ 9223372036854775807 := by simp at hy; omega
    clear hy
    go_wp2_with fail
    go_ret
    exact ⟨y, hyb.1, hyb.2, rfl, hc3, grownBy_trans HG2.out hg3⟩
  | false =>
    go_wp2_with fail
    refine (l01Below_any B p a len cap n h0 (by omega) _ hc1).mono ?_
    rintro e w2 ⟨y, hy, rfl, hc2, hg2⟩
    go_wp2_with fail
    go_ret
    exact ⟨(y : Int), by omega, by omega, rfl, hc2, grownBy_trans hg1 hg2⟩

/-- An act drawn. -/
def ActDr (k : Int) (nm tx t2 : List UInt8) : Prop := 0 ≤ k ∧ k ≤ 5 ∧ nm.length ≤ 9 ∧ tx.length ≤ 5 ∧ t2.length ≤ 9

def ActPost (B p : Nat) (a : Option Addr) (len cap : Nat) (w : World) (e : Ending) (w' : World) : Prop :=
  ∃ (k : Int) (nm tx t2 : List UInt8), ActDr k nm tx t2 ∧ e = .returned (.agg #[.int .i64 k, .string ⟨nm.toArray⟩, .string ⟨tx.toArray⟩, .string ⟨t2.toArray⟩]) ∧ CurAt B w' p a len cap ∧ w.grownBy w' (some p)

def kindsL : List Int := [0, 5]
def oddL : List (List UInt8) := [[], [49, 50, 51, 52, 53, 54, 55, 56, 57], [110, 101, 119]]

theorem oddL_short (l : List UInt8) (h : l ∈ oddL) : l.length ≤ 9 := by
  simp [oddL] at h
  rcases h with rfl | rfl | rfl <;> decide

theorem odd_at (w : World) : ∀ j, j < 3 → ∃ l, oddL[j]? = some l ∧ (w.alloc (.cells #[.string ⟨#[]⟩, .string ⟨#[49, 50, 51, 52, 53, 54, 55, 56, 57]⟩, .string ⟨#[110, 101, 119]⟩] 9)).cell? ⟨w.heap.size, j, none⟩ = some (.string ⟨l.toArray⟩) := by
  intro j hj
  have h := heap_alloc_new w (.cells #[.string ⟨#[]⟩, .string ⟨#[49, 50, 51, 52, 53, 54, 55, 56, 57]⟩, .string ⟨#[110, 101, 119]⟩] 9)
  match j, hj with
  | 0, _ => exact ⟨_, rfl, blk_cell h 0 rfl⟩
  | 1, _ => exact ⟨_, rfl, blk_cell h 1 rfl⟩
  | 2, _ => exact ⟨_, rfl, blk_cell h 2 rfl⟩

theorem name_short {l : List UInt8} (h : nameOk l = true) : l.length ≤ 8 := by
  unfold nameOk at h
  simp only [Bool.and_eq_true, decide_eq_true_eq] at h
  exact h.2

set_option maxHeartbeats 8000000 in
theorem l03Act_any (B p : Nat) (a : Option Addr) (len cap : Nat) (w : World) (hB : B ≤ w.heap.size) (hc : CurAt B w p a len cap) :
    Calls Try.prog 36 #[.pointer (some ⟨p, 0, none⟩)] w (ActPost B p a len cap w) := by
  have H0 := hide (RvS.start hB hc #[.int .i64 0, .string ⟨#[]⟩, .string ⟨#[]⟩, .string ⟨#[]⟩] 37)
  clear hc
  go_enter Try.func36, Try.ntmps36
  go_wp2_with fail
  refine (l01Below_any B p a len cap 4 (by decide) (by decide) _ H0.out.cur).mono ?_
  rintro r w1 ⟨x, hx, rfl, hc1, hg1⟩
  have H1 := hide (H0.out.drawn hc1 hg1)
  have hB1 : B ≤ w1.heap.size := by have := H1.out.size; omega
  clear hc1 hg1 H0
  by_cases x0 : x = 0
  · subst x0
    go_wp2_with fail
    refine (l03Named_any B p a len cap _ hB1 H1.out.cur).mono ?_
    rintro r w2 ⟨nm, hnm, rfl, hc2, hg2⟩
    have hn8 := name_short hnm
    have H2 := H1.out.drawn hc2 hg2
    have l2 := H2.size
    have H := hide (H2.var #[.int .i64 1, .string ⟨nm.toArray⟩, .string ⟨#[]⟩, .string ⟨#[]⟩] 37)
    clear hc2 hg2 hnm H1 H2
    go_wp2_with fail
    refine (l01Below_any B p a len cap 6 (by decide) (by decide) _ H.out.rs.cur).mono ?_
    rintro r w4 ⟨j, hj, rfl, hc4, hg4⟩
    replace H := hide (H.out.drawn hc4 hg4)
    have hB4 : B ≤ w4.heap.size := by have := H.out.rs.size; omega
    clear hc4 hg4
    go_wp2_with fail
    refine (l01Text_any B p a len cap j (by omega) _ hB4 H.out.rs.cur).mono ?_
    rintro r w5 ⟨tx, htx, rfl, hc5, hg5⟩
    replace H := hide (H.out.drawn hc5 hg5)
    clear hc5 hg5
    have x2 : w5.cell? ⟨w2.heap.size, 2, none⟩ = some (.string ⟨#[]⟩) := blk_cell H.out.xb 2 rfl
    have u2 := blk_free H.out.xb 2
    go_wp2_with fail
    replace H : Hid (RvV B p a len cap w #[.int .i64 0, .string ⟨#[]⟩, .string ⟨#[]⟩, .string ⟨#[]⟩] 37 w2.heap.size #[.int .i64 1, .string ⟨nm.toArray⟩, .string ⟨tx.toArray⟩, .string ⟨#[]⟩] 37 (w5.setCell ⟨w2.heap.size, 2, none⟩ (.string ⟨tx.toArray⟩))) := hide (H.out.put 2 [.string ⟨tx.toArray⟩])
    have HX := hide (show tx.length ≤ 5 by omega)
    have HY := hide (show ([] : List UInt8).length ≤ 9 by decide)
    clear x2 u2 htx hj
    refine (l01Below_any B p a len cap 40 (by decide) (by decide) _ H.out.rs.cur).mono ?_
    rintro r w6 ⟨m, hm, rfl, hc6, hg6⟩
    replace H := hide (H.out.drawn hc6 hg6)
    clear hc6 hg6
    by_cases m0 : m = 0
    · subst m0
      have HA := hide (H.out.alloc (.cells (I64z kindsL).toArray 3))
      have HO : Hid ((w6.alloc (.cells (I64z kindsL).toArray 3)).ownsRow w6.heap.size 3 1 (.slice (some ⟨w6.heap.size, 0, none⟩) 2 2) 2 (I64z kindsL)) := hide (World.ownsRow_lit (base := w6.heap.size) (size := 1) w6 (I64z kindsL).toArray 2 (Nat.le_refl _) (by decide) (by simp [I64z, kindsL]))
      have hp6 : p < w6.heap.size := H.out.rs.cur.lt
      clear H
      go_wp2_with fail
      refine (l01PickInt_any B p a len cap w6.heap.size _ kindsL (by decide) (by decide) _ hp6 HO.out HA.out.rs.cur).mono ?_
      rintro r w7 ⟨q, hq, rfl, hc7, hg7⟩
      have H7 := hide (HA.out.drawn hc7 hg7)
      have hq5 : 0 ≤ q ∧ q ≤ 5 := by simp [kindsL] at hq; omega
      clear hc7 hg7 HA HO hq
      have r0 : w7.cell? ⟨w.heap.size, 0, none⟩ = some (.int .i64 0) := blk_cell H7.out.rs.rb 0 rfl
      have r1 : w7.cell? ⟨w.heap.size, 1, none⟩ = some (.string ⟨#[]⟩) := blk_cell H7.out.rs.rb 1 rfl
      have r2 : w7.cell? ⟨w.heap.size, 2, none⟩ = some (.string ⟨#[]⟩) := blk_cell H7.out.rs.rb 2 rfl
      have r3 : w7.cell? ⟨w.heap.size, 3, none⟩ = some (.string ⟨#[]⟩) := blk_cell H7.out.rs.rb 3 rfl
      have y0 := blk_free H7.out.rs.rb 0
      have y1 := blk_free H7.out.rs.rb 1
      have y2 := blk_free H7.out.rs.rb 2
      have y3 := blk_free H7.out.rs.rb 3
      have x0 : w7.cell? ⟨w2.heap.size, 0, none⟩ = some (.int .i64 1) := blk_cell H7.out.xb 0 rfl
      have x1 : w7.cell? ⟨w2.heap.size, 1, none⟩ = some (.string ⟨nm.toArray⟩) := blk_cell H7.out.xb 1 rfl
      have x2 : w7.cell? ⟨w2.heap.size, 2, none⟩ = some (.string ⟨tx.toArray⟩) := blk_cell H7.out.xb 2 rfl
      have x3 : w7.cell? ⟨w2.heap.size, 3, none⟩ = some (.string ⟨([] : List UInt8).toArray⟩) := blk_cell H7.out.xb 3 rfl
      have u0 := blk_free H7.out.xb 0
      go_wp2_with fail
      obtain ⟨wL, hwL⟩ : ∃ wL, (w7.setCell ⟨w2.heap.size, 0, none⟩ (.int .i64 q)) = wL := ⟨_, rfl⟩
      have HL : Hid (RvV B p a len cap w #[.int .i64 0, .string ⟨#[]⟩, .string ⟨#[]⟩, .string ⟨#[]⟩] 37 w2.heap.size #[.int .i64 q, .string ⟨nm.toArray⟩, .string ⟨tx.toArray⟩, .string ⟨([] : List UInt8).toArray⟩] 37 wL) := hide (by rw [← hwL]; exact H7.out.put 0 [.int .i64 q])
      rw [hwL]
      obtain ⟨w9, hw9⟩ : ∃ w9, ((((wL.setCell ⟨w.heap.size, 0, none⟩ (.int .i64 q)).setCell ⟨w.heap.size, 1, none⟩ (.string ⟨nm.toArray⟩)).setCell ⟨w.heap.size, 2, none⟩ (.string ⟨tx.toArray⟩)).setCell ⟨w.heap.size, 3, none⟩ (.string ⟨([] : List UInt8).toArray⟩)) = w9 := ⟨_, rfl⟩
      obtain ⟨hr, hc9, hg9⟩ := HL.out.rs.ret [.int .i64 q, .string ⟨nm.toArray⟩, .string ⟨tx.toArray⟩, .string ⟨([] : List UInt8).toArray⟩]
      rw [show wL.setCells w.heap.size 0 [.int .i64 q, .string ⟨nm.toArray⟩, .string ⟨tx.toArray⟩, .string ⟨([] : List UInt8).toArray⟩] = w9 from hw9] at hr hc9 hg9
      rw [hw9]
      have q0 : w9.cell? ⟨w.heap.size, 0, none⟩ = some (.int .i64 q) := blk_cell hr 0 rfl
      have q1 : w9.cell? ⟨w.heap.size, 1, none⟩ = some (.string ⟨nm.toArray⟩) := blk_cell hr 1 rfl
      have q2 : w9.cell? ⟨w.heap.size, 2, none⟩ = some (.string ⟨tx.toArray⟩) := blk_cell hr 2 rfl
      have q3 : w9.cell? ⟨w.heap.size, 3, none⟩ = some (.string ⟨([] : List UInt8).toArray⟩) := blk_cell hr 3 rfl
      exact bodyPost_ret (v := .agg #[.int .i64 q, .string ⟨nm.toArray⟩, .string ⟨tx.toArray⟩, .string ⟨([] : List UInt8).toArray⟩]) (by simp [results, Try.results36, go_sem, q0, q1, q2, q3]) rfl ⟨q, nm, tx, ([] : List UInt8), ⟨hq5.1, hq5.2, by omega, HX.out, HY.out⟩, rfl, hc9, hg9⟩
    · have z0 : ((m : Int) == 0) = false := by rw [beq_eq_false_iff_ne]; omega
      by_cases m1 : m = 1
      · subst m1
        have HA := hide (H.out.alloc (.cells #[.string ⟨#[]⟩, .string ⟨#[49, 50, 51, 52, 53, 54, 55, 56, 57]⟩, .string ⟨#[110, 101, 119]⟩] 9))
        have hp6 : w6.heap.size ≠ p := by have := H.out.rs.cur.lt; omega
        clear H
        go_wp2_with fail
        refine (l01Pick_any B p a len cap w6.heap.size 3 oddL _ HA.out.rs.cur (by decide) (by decide) hp6 (odd_at w6)).mono ?_
        rintro r w7 ⟨nq, hq, rfl, hc7, hg7⟩
        have H7 := hide (HA.out.drawn hc7 hg7)
        have hq9 : nq.length ≤ 9 := oddL_short nq hq
        clear hc7 hg7 HA hq
        have r0 : w7.cell? ⟨w.heap.size, 0, none⟩ = some (.int .i64 0) := blk_cell H7.out.rs.rb 0 rfl
        have r1 : w7.cell? ⟨w.heap.size, 1, none⟩ = some (.string ⟨#[]⟩) := blk_cell H7.out.rs.rb 1 rfl
        have r2 : w7.cell? ⟨w.heap.size, 2, none⟩ = some (.string ⟨#[]⟩) := blk_cell H7.out.rs.rb 2 rfl
        have r3 : w7.cell? ⟨w.heap.size, 3, none⟩ = some (.string ⟨#[]⟩) := blk_cell H7.out.rs.rb 3 rfl
        have y0 := blk_free H7.out.rs.rb 0
        have y1 := blk_free H7.out.rs.rb 1
        have y2 := blk_free H7.out.rs.rb 2
        have y3 := blk_free H7.out.rs.rb 3
        have x0 : w7.cell? ⟨w2.heap.size, 0, none⟩ = some (.int .i64 1) := blk_cell H7.out.xb 0 rfl
        have x1 : w7.cell? ⟨w2.heap.size, 1, none⟩ = some (.string ⟨nm.toArray⟩) := blk_cell H7.out.xb 1 rfl
        have x2 : w7.cell? ⟨w2.heap.size, 2, none⟩ = some (.string ⟨tx.toArray⟩) := blk_cell H7.out.xb 2 rfl
        have x3 : w7.cell? ⟨w2.heap.size, 3, none⟩ = some (.string ⟨([] : List UInt8).toArray⟩) := blk_cell H7.out.xb 3 rfl
        have u1 := blk_free H7.out.xb 1
        go_wp2_with fail
        obtain ⟨wL, hwL⟩ : ∃ wL, (w7.setCell ⟨w2.heap.size, 1, none⟩ (.string ⟨nq.toArray⟩)) = wL := ⟨_, rfl⟩
        have HL : Hid (RvV B p a len cap w #[.int .i64 0, .string ⟨#[]⟩, .string ⟨#[]⟩, .string ⟨#[]⟩] 37 w2.heap.size #[.int .i64 1, .string ⟨nq.toArray⟩, .string ⟨tx.toArray⟩, .string ⟨([] : List UInt8).toArray⟩] 37 wL) := hide (by rw [← hwL]; exact H7.out.put 1 [.string ⟨nq.toArray⟩])
        rw [hwL]
        obtain ⟨w9, hw9⟩ : ∃ w9, ((((wL.setCell ⟨w.heap.size, 0, none⟩ (.int .i64 1)).setCell ⟨w.heap.size, 1, none⟩ (.string ⟨nq.toArray⟩)).setCell ⟨w.heap.size, 2, none⟩ (.string ⟨tx.toArray⟩)).setCell ⟨w.heap.size, 3, none⟩ (.string ⟨([] : List UInt8).toArray⟩)) = w9 := ⟨_, rfl⟩
        obtain ⟨hr, hc9, hg9⟩ := HL.out.rs.ret [.int .i64 1, .string ⟨nq.toArray⟩, .string ⟨tx.toArray⟩, .string ⟨([] : List UInt8).toArray⟩]
        rw [show wL.setCells w.heap.size 0 [.int .i64 1, .string ⟨nq.toArray⟩, .string ⟨tx.toArray⟩, .string ⟨([] : List UInt8).toArray⟩] = w9 from hw9] at hr hc9 hg9
        rw [hw9]
        have q0 : w9.cell? ⟨w.heap.size, 0, none⟩ = some (.int .i64 1) := blk_cell hr 0 rfl
        have q1 : w9.cell? ⟨w.heap.size, 1, none⟩ = some (.string ⟨nq.toArray⟩) := blk_cell hr 1 rfl
        have q2 : w9.cell? ⟨w.heap.size, 2, none⟩ = some (.string ⟨tx.toArray⟩) := blk_cell hr 2 rfl
        have q3 : w9.cell? ⟨w.heap.size, 3, none⟩ = some (.string ⟨([] : List UInt8).toArray⟩) := blk_cell hr 3 rfl
        exact bodyPost_ret (v := .agg #[.int .i64 1, .string ⟨nq.toArray⟩, .string ⟨tx.toArray⟩, .string ⟨([] : List UInt8).toArray⟩]) (by simp [results, Try.results36, go_sem, q0, q1, q2, q3]) rfl ⟨1, nq, tx, ([] : List UInt8), ⟨by omega, by omega, hq9, HX.out, HY.out⟩, rfl, hc9, hg9⟩
      · have z1 : ((m : Int) == 1) = false := by rw [beq_eq_false_iff_ne]; omega
        by_cases m2 : m = 2
        · subst m2
          have r0 : w6.cell? ⟨w.heap.size, 0, none⟩ = some (.int .i64 0) := blk_cell H.out.rs.rb 0 rfl
          have r1 : w6.cell? ⟨w.heap.size, 1, none⟩ = some (.string ⟨#[]⟩) := blk_cell H.out.rs.rb 1 rfl
          have r2 : w6.cell? ⟨w.heap.size, 2, none⟩ = some (.string ⟨#[]⟩) := blk_cell H.out.rs.rb 2 rfl
          have r3 : w6.cell? ⟨w.heap.size, 3, none⟩ = some (.string ⟨#[]⟩) := blk_cell H.out.rs.rb 3 rfl
          have y0 := blk_free H.out.rs.rb 0
          have y1 := blk_free H.out.rs.rb 1
          have y2 := blk_free H.out.rs.rb 2
          have y3 := blk_free H.out.rs.rb 3
          have x0 : w6.cell? ⟨w2.heap.size, 0, none⟩ = some (.int .i64 1) := blk_cell H.out.xb 0 rfl
          have x1 : w6.cell? ⟨w2.heap.size, 1, none⟩ = some (.string ⟨nm.toArray⟩) := blk_cell H.out.xb 1 rfl
          have x2 : w6.cell? ⟨w2.heap.size, 2, none⟩ = some (.string ⟨tx.toArray⟩) := blk_cell H.out.xb 2 rfl
          have x3 : w6.cell? ⟨w2.heap.size, 3, none⟩ = some (.string ⟨([] : List UInt8).toArray⟩) := blk_cell H.out.xb 3 rfl
          have u3 := blk_free H.out.xb 3
          go_wp2_with fail
          obtain ⟨wL, hwL⟩ : ∃ wL, (w6.setCell ⟨w2.heap.size, 3, none⟩ (.string ⟨#[120]⟩)) = wL := ⟨_, rfl⟩
          have HL : Hid (RvV B p a len cap w #[.int .i64 0, .string ⟨#[]⟩, .string ⟨#[]⟩, .string ⟨#[]⟩] 37 w2.heap.size #[.int .i64 1, .string ⟨nm.toArray⟩, .string ⟨tx.toArray⟩, .string ⟨#[120]⟩] 37 wL) := hide (by rw [← hwL]; exact H.out.put 3 [.string ⟨#[120]⟩])
          rw [hwL]
          obtain ⟨w9, hw9⟩ : ∃ w9, ((((wL.setCell ⟨w.heap.size, 0, none⟩ (.int .i64 1)).setCell ⟨w.heap.size, 1, none⟩ (.string ⟨nm.toArray⟩)).setCell ⟨w.heap.size, 2, none⟩ (.string ⟨tx.toArray⟩)).setCell ⟨w.heap.size, 3, none⟩ (.string ⟨#[120]⟩)) = w9 := ⟨_, rfl⟩
          obtain ⟨hr, hc9, hg9⟩ := HL.out.rs.ret [.int .i64 1, .string ⟨nm.toArray⟩, .string ⟨tx.toArray⟩, .string ⟨#[120]⟩]
          rw [show wL.setCells w.heap.size 0 [.int .i64 1, .string ⟨nm.toArray⟩, .string ⟨tx.toArray⟩, .string ⟨#[120]⟩] = w9 from hw9] at hr hc9 hg9
          rw [hw9]
          have q0 : w9.cell? ⟨w.heap.size, 0, none⟩ = some (.int .i64 1) := blk_cell hr 0 rfl
          have q1 : w9.cell? ⟨w.heap.size, 1, none⟩ = some (.string ⟨nm.toArray⟩) := blk_cell hr 1 rfl
          have q2 : w9.cell? ⟨w.heap.size, 2, none⟩ = some (.string ⟨tx.toArray⟩) := blk_cell hr 2 rfl
          have q3 : w9.cell? ⟨w.heap.size, 3, none⟩ = some (.string ⟨#[120]⟩) := blk_cell hr 3 rfl
          exact bodyPost_ret (v := .agg #[.int .i64 1, .string ⟨nm.toArray⟩, .string ⟨tx.toArray⟩, .string ⟨#[120]⟩]) (by simp [results, Try.results36, go_sem, q0, q1, q2, q3]) rfl ⟨1, nm, tx, [120], ⟨by omega, by omega, by omega, HX.out, by decide⟩, rfl, hc9, hg9⟩
        · have z2 : ((m : Int) == 2) = false := by rw [beq_eq_false_iff_ne]; omega
          by_cases m3 : m = 3
          · subst m3
            have r0 : w6.cell? ⟨w.heap.size, 0, none⟩ = some (.int .i64 0) := blk_cell H.out.rs.rb 0 rfl
            have r1 : w6.cell? ⟨w.heap.size, 1, none⟩ = some (.string ⟨#[]⟩) := blk_cell H.out.rs.rb 1 rfl
            have r2 : w6.cell? ⟨w.heap.size, 2, none⟩ = some (.string ⟨#[]⟩) := blk_cell H.out.rs.rb 2 rfl
            have r3 : w6.cell? ⟨w.heap.size, 3, none⟩ = some (.string ⟨#[]⟩) := blk_cell H.out.rs.rb 3 rfl
            have y0 := blk_free H.out.rs.rb 0
            have y1 := blk_free H.out.rs.rb 1
            have y2 := blk_free H.out.rs.rb 2
            have y3 := blk_free H.out.rs.rb 3
            have x0 : w6.cell? ⟨w2.heap.size, 0, none⟩ = some (.int .i64 1) := blk_cell H.out.xb 0 rfl
            have x1 : w6.cell? ⟨w2.heap.size, 1, none⟩ = some (.string ⟨nm.toArray⟩) := blk_cell H.out.xb 1 rfl
            have x2 : w6.cell? ⟨w2.heap.size, 2, none⟩ = some (.string ⟨tx.toArray⟩) := blk_cell H.out.xb 2 rfl
            have x3 : w6.cell? ⟨w2.heap.size, 3, none⟩ = some (.string ⟨([] : List UInt8).toArray⟩) := blk_cell H.out.xb 3 rfl
            have u2 := blk_free H.out.xb 2
            go_wp2_with fail
            obtain ⟨wL, hwL⟩ : ∃ wL, (w6.setCell ⟨w2.heap.size, 2, none⟩ (.string ⟨#[120]⟩)) = wL := ⟨_, rfl⟩
            have HL : Hid (RvV B p a len cap w #[.int .i64 0, .string ⟨#[]⟩, .string ⟨#[]⟩, .string ⟨#[]⟩] 37 w2.heap.size #[.int .i64 1, .string ⟨nm.toArray⟩, .string ⟨#[120]⟩, .string ⟨([] : List UInt8).toArray⟩] 37 wL) := hide (by rw [← hwL]; exact H.out.put 2 [.string ⟨#[120]⟩])
            rw [hwL]
            obtain ⟨w9, hw9⟩ : ∃ w9, ((((wL.setCell ⟨w.heap.size, 0, none⟩ (.int .i64 1)).setCell ⟨w.heap.size, 1, none⟩ (.string ⟨nm.toArray⟩)).setCell ⟨w.heap.size, 2, none⟩ (.string ⟨#[120]⟩)).setCell ⟨w.heap.size, 3, none⟩ (.string ⟨([] : List UInt8).toArray⟩)) = w9 := ⟨_, rfl⟩
            obtain ⟨hr, hc9, hg9⟩ := HL.out.rs.ret [.int .i64 1, .string ⟨nm.toArray⟩, .string ⟨#[120]⟩, .string ⟨([] : List UInt8).toArray⟩]
            rw [show wL.setCells w.heap.size 0 [.int .i64 1, .string ⟨nm.toArray⟩, .string ⟨#[120]⟩, .string ⟨([] : List UInt8).toArray⟩] = w9 from hw9] at hr hc9 hg9
            rw [hw9]
            have q0 : w9.cell? ⟨w.heap.size, 0, none⟩ = some (.int .i64 1) := blk_cell hr 0 rfl
            have q1 : w9.cell? ⟨w.heap.size, 1, none⟩ = some (.string ⟨nm.toArray⟩) := blk_cell hr 1 rfl
            have q2 : w9.cell? ⟨w.heap.size, 2, none⟩ = some (.string ⟨#[120]⟩) := blk_cell hr 2 rfl
            have q3 : w9.cell? ⟨w.heap.size, 3, none⟩ = some (.string ⟨([] : List UInt8).toArray⟩) := blk_cell hr 3 rfl
            exact bodyPost_ret (v := .agg #[.int .i64 1, .string ⟨nm.toArray⟩, .string ⟨#[120]⟩, .string ⟨([] : List UInt8).toArray⟩]) (by simp [results, Try.results36, go_sem, q0, q1, q2, q3]) rfl ⟨1, nm, [120], ([] : List UInt8), ⟨by omega, by omega, by omega, by decide, HY.out⟩, rfl, hc9, hg9⟩
          · have z3 : ((m : Int) == 3) = false := by rw [beq_eq_false_iff_ne]; omega
            have r0 : w6.cell? ⟨w.heap.size, 0, none⟩ = some (.int .i64 0) := blk_cell H.out.rs.rb 0 rfl
            have r1 : w6.cell? ⟨w.heap.size, 1, none⟩ = some (.string ⟨#[]⟩) := blk_cell H.out.rs.rb 1 rfl
            have r2 : w6.cell? ⟨w.heap.size, 2, none⟩ = some (.string ⟨#[]⟩) := blk_cell H.out.rs.rb 2 rfl
            have r3 : w6.cell? ⟨w.heap.size, 3, none⟩ = some (.string ⟨#[]⟩) := blk_cell H.out.rs.rb 3 rfl
            have y0 := blk_free H.out.rs.rb 0
            have y1 := blk_free H.out.rs.rb 1
            have y2 := blk_free H.out.rs.rb 2
            have y3 := blk_free H.out.rs.rb 3
            have x0 : w6.cell? ⟨w2.heap.size, 0, none⟩ = some (.int .i64 1) := blk_cell H.out.xb 0 rfl
            have x1 : w6.cell? ⟨w2.heap.size, 1, none⟩ = some (.string ⟨nm.toArray⟩) := blk_cell H.out.xb 1 rfl
            have x2 : w6.cell? ⟨w2.heap.size, 2, none⟩ = some (.string ⟨tx.toArray⟩) := blk_cell H.out.xb 2 rfl
            have x3 : w6.cell? ⟨w2.heap.size, 3, none⟩ = some (.string ⟨([] : List UInt8).toArray⟩) := blk_cell H.out.xb 3 rfl
            go_wp2_with fail
            obtain ⟨wL, hwL⟩ : ∃ wL, w6 = wL := ⟨_, rfl⟩
            have HL : Hid (RvV B p a len cap w #[.int .i64 0, .string ⟨#[]⟩, .string ⟨#[]⟩, .string ⟨#[]⟩] 37 w2.heap.size #[.int .i64 1, .string ⟨nm.toArray⟩, .string ⟨tx.toArray⟩, .string ⟨([] : List UInt8).toArray⟩] 37 wL) := hide (by rw [← hwL]; exact H.out)
            rw [hwL]
            obtain ⟨w9, hw9⟩ : ∃ w9, ((((wL.setCell ⟨w.heap.size, 0, none⟩ (.int .i64 1)).setCell ⟨w.heap.size, 1, none⟩ (.string ⟨nm.toArray⟩)).setCell ⟨w.heap.size, 2, none⟩ (.string ⟨tx.toArray⟩)).setCell ⟨w.heap.size, 3, none⟩ (.string ⟨([] : List UInt8).toArray⟩)) = w9 := ⟨_, rfl⟩
            obtain ⟨hr, hc9, hg9⟩ := HL.out.rs.ret [.int .i64 1, .string ⟨nm.toArray⟩, .string ⟨tx.toArray⟩, .string ⟨([] : List UInt8).toArray⟩]
            rw [show wL.setCells w.heap.size 0 [.int .i64 1, .string ⟨nm.toArray⟩, .string ⟨tx.toArray⟩, .string ⟨([] : List UInt8).toArray⟩] = w9 from hw9] at hr hc9 hg9
            rw [hw9]
            have q0 : w9.cell? ⟨w.heap.size, 0, none⟩ = some (.int .i64 1) := blk_cell hr 0 rfl
            have q1 : w9.cell? ⟨w.heap.size, 1, none⟩ = some (.string ⟨nm.toArray⟩) := blk_cell hr 1 rfl
            have q2 : w9.cell? ⟨w.heap.size, 2, none⟩ = some (.string ⟨tx.toArray⟩) := blk_cell hr 2 rfl
            have q3 : w9.cell? ⟨w.heap.size, 3, none⟩ = some (.string ⟨([] : List UInt8).toArray⟩) := blk_cell hr 3 rfl
            exact bodyPost_ret (v := .agg #[.int .i64 1, .string ⟨nm.toArray⟩, .string ⟨tx.toArray⟩, .string ⟨([] : List UInt8).toArray⟩]) (by simp [results, Try.results36, go_sem, q0, q1, q2, q3]) rfl ⟨1, nm, tx, ([] : List UInt8), ⟨by omega, by omega, by omega, HX.out, HY.out⟩, rfl, hc9, hg9⟩
  · by_cases x2 : x = 2
    · subst x2
      go_wp2_with fail
      refine (l03Named_any B p a len cap _ hB1 H1.out.cur).mono ?_
      rintro r w2 ⟨nm, hnm, rfl, hc2, hg2⟩
      have hn8 := name_short hnm
      have H2 := H1.out.drawn hc2 hg2
      have l2 := H2.size
      have H := hide (H2.var #[.int .i64 3, .string ⟨nm.toArray⟩, .string ⟨#[]⟩, .string ⟨#[]⟩] 37)
      clear hc2 hg2 hnm H1 H2
      go_wp2_with fail
      have hB3 : B ≤ (w2.alloc (.cells #[.int .i64 3, .string ⟨nm.toArray⟩, .string ⟨#[]⟩, .string ⟨#[]⟩] 37)).heap.size := by have := H.out.rs.size; omega
      refine (l03Named_any B p a len cap _ hB3 H.out.rs.cur).mono ?_
      rintro r w5 ⟨t2, hto, rfl, hc5, hg5⟩
      replace H := hide (H.out.drawn hc5 hg5)
      have ht8 := name_short hto
      clear hc5 hg5 hto hB3
      have x3 : w5.cell? ⟨w2.heap.size, 3, none⟩ = some (.string ⟨#[]⟩) := blk_cell H.out.xb 3 rfl
      have u3 := blk_free H.out.xb 3
      go_wp2_with fail
      replace H : Hid (RvV B p a len cap w #[.int .i64 0, .string ⟨#[]⟩, .string ⟨#[]⟩, .string ⟨#[]⟩] 37 w2.heap.size #[.int .i64 3, .string ⟨nm.toArray⟩, .string ⟨#[]⟩, .string ⟨t2.toArray⟩] 37 (w5.setCell ⟨w2.heap.size, 3, none⟩ (.string ⟨t2.toArray⟩))) := hide (H.out.put 3 [.string ⟨t2.toArray⟩])
      have HX := hide (show ([] : List UInt8).length ≤ 5 by decide)
      have HY := hide (show t2.length ≤ 9 by omega)
      clear x3 u3
      refine (l01Below_any B p a len cap 40 (by decide) (by decide) _ H.out.rs.cur).mono ?_
      rintro r w6 ⟨m, hm, rfl, hc6, hg6⟩
      replace H := hide (H.out.drawn hc6 hg6)
      clear hc6 hg6
      by_cases m0 : m = 0
      · subst m0
        have HA := hide (H.out.alloc (.cells (I64z kindsL).toArray 3))
        have HO : Hid ((w6.alloc (.cells (I64z kindsL).toArray 3)).ownsRow w6.heap.size 3 1 (.slice (some ⟨w6.heap.size, 0, none⟩) 2 2) 2 (I64z kindsL)) := hide (World.ownsRow_lit (base := w6.heap.size) (size := 1) w6 (I64z kindsL).toArray 2 (Nat.le_refl _) (by decide) (by simp [I64z, kindsL]))
        have hp6 : p < w6.heap.size := H.out.rs.cur.lt
        clear H
        go_wp2_with fail
        refine (l01PickInt_any B p a len cap w6.heap.size _ kindsL (by decide) (by decide) _ hp6 HO.out HA.out.rs.cur).mono ?_
        rintro r w7 ⟨q, hq, rfl, hc7, hg7⟩
        have H7 := hide (HA.out.drawn hc7 hg7)
        have hq5 : 0 ≤ q ∧ q ≤ 5 := by simp [kindsL] at hq; omega
        clear hc7 hg7 HA HO hq
        have r0 : w7.cell? ⟨w.heap.size, 0, none⟩ = some (.int .i64 0) := blk_cell H7.out.rs.rb 0 rfl
        have r1 : w7.cell? ⟨w.heap.size, 1, none⟩ = some (.string ⟨#[]⟩) := blk_cell H7.out.rs.rb 1 rfl
        have r2 : w7.cell? ⟨w.heap.size, 2, none⟩ = some (.string ⟨#[]⟩) := blk_cell H7.out.rs.rb 2 rfl
        have r3 : w7.cell? ⟨w.heap.size, 3, none⟩ = some (.string ⟨#[]⟩) := blk_cell H7.out.rs.rb 3 rfl
        have y0 := blk_free H7.out.rs.rb 0
        have y1 := blk_free H7.out.rs.rb 1
        have y2 := blk_free H7.out.rs.rb 2
        have y3 := blk_free H7.out.rs.rb 3
        have x0 : w7.cell? ⟨w2.heap.size, 0, none⟩ = some (.int .i64 3) := blk_cell H7.out.xb 0 rfl
        have x1 : w7.cell? ⟨w2.heap.size, 1, none⟩ = some (.string ⟨nm.toArray⟩) := blk_cell H7.out.xb 1 rfl
        have x2 : w7.cell? ⟨w2.heap.size, 2, none⟩ = some (.string ⟨([] : List UInt8).toArray⟩) := blk_cell H7.out.xb 2 rfl
        have x3 : w7.cell? ⟨w2.heap.size, 3, none⟩ = some (.string ⟨t2.toArray⟩) := blk_cell H7.out.xb 3 rfl
        have u0 := blk_free H7.out.xb 0
        go_wp2_with fail
        obtain ⟨wL, hwL⟩ : ∃ wL, (w7.setCell ⟨w2.heap.size, 0, none⟩ (.int .i64 q)) = wL := ⟨_, rfl⟩
        have HL : Hid (RvV B p a len cap w #[.int .i64 0, .string ⟨#[]⟩, .string ⟨#[]⟩, .string ⟨#[]⟩] 37 w2.heap.size #[.int .i64 q, .string ⟨nm.toArray⟩, .string ⟨([] : List UInt8).toArray⟩, .string ⟨t2.toArray⟩] 37 wL) := hide (by rw [← hwL]; exact H7.out.put 0 [.int .i64 q])
        rw [hwL]
        obtain ⟨w9, hw9⟩ : ∃ w9, ((((wL.setCell ⟨w.heap.size, 0, none⟩ (.int .i64 q)).setCell ⟨w.heap.size, 1, none⟩ (.string ⟨nm.toArray⟩)).setCell ⟨w.heap.size, 2, none⟩ (.string ⟨([] : List UInt8).toArray⟩)).setCell ⟨w.heap.size, 3, none⟩ (.string ⟨t2.toArray⟩)) = w9 := ⟨_, rfl⟩
        obtain ⟨hr, hc9, hg9⟩ := HL.out.rs.ret [.int .i64 q, .string ⟨nm.toArray⟩, .string ⟨([] : List UInt8).toArray⟩, .string ⟨t2.toArray⟩]
        rw [show wL.setCells w.heap.size 0 [.int .i64 q, .string ⟨nm.toArray⟩, .string ⟨([] : List UInt8).toArray⟩, .string ⟨t2.toArray⟩] = w9 from hw9] at hr hc9 hg9
        rw [hw9]
        have q0 : w9.cell? ⟨w.heap.size, 0, none⟩ = some (.int .i64 q) := blk_cell hr 0 rfl
        have q1 : w9.cell? ⟨w.heap.size, 1, none⟩ = some (.string ⟨nm.toArray⟩) := blk_cell hr 1 rfl
        have q2 : w9.cell? ⟨w.heap.size, 2, none⟩ = some (.string ⟨([] : List UInt8).toArray⟩) := blk_cell hr 2 rfl
        have q3 : w9.cell? ⟨w.heap.size, 3, none⟩ = some (.string ⟨t2.toArray⟩) := blk_cell hr 3 rfl
        exact bodyPost_ret (v := .agg #[.int .i64 q, .string ⟨nm.toArray⟩, .string ⟨([] : List UInt8).toArray⟩, .string ⟨t2.toArray⟩]) (by simp [results, Try.results36, go_sem, q0, q1, q2, q3]) rfl ⟨q, nm, ([] : List UInt8), t2, ⟨hq5.1, hq5.2, by omega, HX.out, HY.out⟩, rfl, hc9, hg9⟩
      · have z0 : ((m : Int) == 0) = false := by rw [beq_eq_false_iff_ne]; omega
        by_cases m1 : m = 1
        · subst m1
          have HA := hide (H.out.alloc (.cells #[.string ⟨#[]⟩, .string ⟨#[49, 50, 51, 52, 53, 54, 55, 56, 57]⟩, .string ⟨#[110, 101, 119]⟩] 9))
          have hp6 : w6.heap.size ≠ p := by have := H.out.rs.cur.lt; omega
          clear H
          go_wp2_with fail
          refine (l01Pick_any B p a len cap w6.heap.size 3 oddL _ HA.out.rs.cur (by decide) (by decide) hp6 (odd_at w6)).mono ?_
          rintro r w7 ⟨nq, hq, rfl, hc7, hg7⟩
          have H7 := hide (HA.out.drawn hc7 hg7)
          have hq9 : nq.length ≤ 9 := oddL_short nq hq
          clear hc7 hg7 HA hq
          have r0 : w7.cell? ⟨w.heap.size, 0, none⟩ = some (.int .i64 0) := blk_cell H7.out.rs.rb 0 rfl
          have r1 : w7.cell? ⟨w.heap.size, 1, none⟩ = some (.string ⟨#[]⟩) := blk_cell H7.out.rs.rb 1 rfl
          have r2 : w7.cell? ⟨w.heap.size, 2, none⟩ = some (.string ⟨#[]⟩) := blk_cell H7.out.rs.rb 2 rfl
          have r3 : w7.cell? ⟨w.heap.size, 3, none⟩ = some (.string ⟨#[]⟩) := blk_cell H7.out.rs.rb 3 rfl
          have y0 := blk_free H7.out.rs.rb 0
          have y1 := blk_free H7.out.rs.rb 1
          have y2 := blk_free H7.out.rs.rb 2
          have y3 := blk_free H7.out.rs.rb 3
          have x0 : w7.cell? ⟨w2.heap.size, 0, none⟩ = some (.int .i64 3) := blk_cell H7.out.xb 0 rfl
          have x1 : w7.cell? ⟨w2.heap.size, 1, none⟩ = some (.string ⟨nm.toArray⟩) := blk_cell H7.out.xb 1 rfl
          have x2 : w7.cell? ⟨w2.heap.size, 2, none⟩ = some (.string ⟨([] : List UInt8).toArray⟩) := blk_cell H7.out.xb 2 rfl
          have x3 : w7.cell? ⟨w2.heap.size, 3, none⟩ = some (.string ⟨t2.toArray⟩) := blk_cell H7.out.xb 3 rfl
          have u1 := blk_free H7.out.xb 1
          go_wp2_with fail
          obtain ⟨wL, hwL⟩ : ∃ wL, (w7.setCell ⟨w2.heap.size, 1, none⟩ (.string ⟨nq.toArray⟩)) = wL := ⟨_, rfl⟩
          have HL : Hid (RvV B p a len cap w #[.int .i64 0, .string ⟨#[]⟩, .string ⟨#[]⟩, .string ⟨#[]⟩] 37 w2.heap.size #[.int .i64 3, .string ⟨nq.toArray⟩, .string ⟨([] : List UInt8).toArray⟩, .string ⟨t2.toArray⟩] 37 wL) := hide (by rw [← hwL]; exact H7.out.put 1 [.string ⟨nq.toArray⟩])
          rw [hwL]
          obtain ⟨w9, hw9⟩ : ∃ w9, ((((wL.setCell ⟨w.heap.size, 0, none⟩ (.int .i64 3)).setCell ⟨w.heap.size, 1, none⟩ (.string ⟨nq.toArray⟩)).setCell ⟨w.heap.size, 2, none⟩ (.string ⟨([] : List UInt8).toArray⟩)).setCell ⟨w.heap.size, 3, none⟩ (.string ⟨t2.toArray⟩)) = w9 := ⟨_, rfl⟩
          obtain ⟨hr, hc9, hg9⟩ := HL.out.rs.ret [.int .i64 3, .string ⟨nq.toArray⟩, .string ⟨([] : List UInt8).toArray⟩, .string ⟨t2.toArray⟩]
          rw [show wL.setCells w.heap.size 0 [.int .i64 3, .string ⟨nq.toArray⟩, .string ⟨([] : List UInt8).toArray⟩, .string ⟨t2.toArray⟩] = w9 from hw9] at hr hc9 hg9
          rw [hw9]
          have q0 : w9.cell? ⟨w.heap.size, 0, none⟩ = some (.int .i64 3) := blk_cell hr 0 rfl
          have q1 : w9.cell? ⟨w.heap.size, 1, none⟩ = some (.string ⟨nq.toArray⟩) := blk_cell hr 1 rfl
          have q2 : w9.cell? ⟨w.heap.size, 2, none⟩ = some (.string ⟨([] : List UInt8).toArray⟩) := blk_cell hr 2 rfl
          have q3 : w9.cell? ⟨w.heap.size, 3, none⟩ = some (.string ⟨t2.toArray⟩) := blk_cell hr 3 rfl
          exact bodyPost_ret (v := .agg #[.int .i64 3, .string ⟨nq.toArray⟩, .string ⟨([] : List UInt8).toArray⟩, .string ⟨t2.toArray⟩]) (by simp [results, Try.results36, go_sem, q0, q1, q2, q3]) rfl ⟨3, nq, ([] : List UInt8), t2, ⟨by omega, by omega, hq9, HX.out, HY.out⟩, rfl, hc9, hg9⟩
        · have z1 : ((m : Int) == 1) = false := by rw [beq_eq_false_iff_ne]; omega
          by_cases m2 : m = 2
          · subst m2
            have r0 : w6.cell? ⟨w.heap.size, 0, none⟩ = some (.int .i64 0) := blk_cell H.out.rs.rb 0 rfl
            have r1 : w6.cell? ⟨w.heap.size, 1, none⟩ = some (.string ⟨#[]⟩) := blk_cell H.out.rs.rb 1 rfl
            have r2 : w6.cell? ⟨w.heap.size, 2, none⟩ = some (.string ⟨#[]⟩) := blk_cell H.out.rs.rb 2 rfl
            have r3 : w6.cell? ⟨w.heap.size, 3, none⟩ = some (.string ⟨#[]⟩) := blk_cell H.out.rs.rb 3 rfl
            have y0 := blk_free H.out.rs.rb 0
            have y1 := blk_free H.out.rs.rb 1
            have y2 := blk_free H.out.rs.rb 2
            have y3 := blk_free H.out.rs.rb 3
            have x0 : w6.cell? ⟨w2.heap.size, 0, none⟩ = some (.int .i64 3) := blk_cell H.out.xb 0 rfl
            have x1 : w6.cell? ⟨w2.heap.size, 1, none⟩ = some (.string ⟨nm.toArray⟩) := blk_cell H.out.xb 1 rfl
            have x2 : w6.cell? ⟨w2.heap.size, 2, none⟩ = some (.string ⟨([] : List UInt8).toArray⟩) := blk_cell H.out.xb 2 rfl
            have x3 : w6.cell? ⟨w2.heap.size, 3, none⟩ = some (.string ⟨t2.toArray⟩) := blk_cell H.out.xb 3 rfl
            have u3 := blk_free H.out.xb 3
            go_wp2_with fail
            obtain ⟨wL, hwL⟩ : ∃ wL, (w6.setCell ⟨w2.heap.size, 3, none⟩ (.string ⟨#[120]⟩)) = wL := ⟨_, rfl⟩
            have HL : Hid (RvV B p a len cap w #[.int .i64 0, .string ⟨#[]⟩, .string ⟨#[]⟩, .string ⟨#[]⟩] 37 w2.heap.size #[.int .i64 3, .string ⟨nm.toArray⟩, .string ⟨([] : List UInt8).toArray⟩, .string ⟨#[120]⟩] 37 wL) := hide (by rw [← hwL]; exact H.out.put 3 [.string ⟨#[120]⟩])
            rw [hwL]
            obtain ⟨w9, hw9⟩ : ∃ w9, ((((wL.setCell ⟨w.heap.size, 0, none⟩ (.int .i64 3)).setCell ⟨w.heap.size, 1, none⟩ (.string ⟨nm.toArray⟩)).setCell ⟨w.heap.size, 2, none⟩ (.string ⟨([] : List UInt8).toArray⟩)).setCell ⟨w.heap.size, 3, none⟩ (.string ⟨#[120]⟩)) = w9 := ⟨_, rfl⟩
            obtain ⟨hr, hc9, hg9⟩ := HL.out.rs.ret [.int .i64 3, .string ⟨nm.toArray⟩, .string ⟨([] : List UInt8).toArray⟩, .string ⟨#[120]⟩]
            rw [show wL.setCells w.heap.size 0 [.int .i64 3, .string ⟨nm.toArray⟩, .string ⟨([] : List UInt8).toArray⟩, .string ⟨#[120]⟩] = w9 from hw9] at hr hc9 hg9
            rw [hw9]
            have q0 : w9.cell? ⟨w.heap.size, 0, none⟩ = some (.int .i64 3) := blk_cell hr 0 rfl
            have q1 : w9.cell? ⟨w.heap.size, 1, none⟩ = some (.string ⟨nm.toArray⟩) := blk_cell hr 1 rfl
            have q2 : w9.cell? ⟨w.heap.size, 2, none⟩ = some (.string ⟨([] : List UInt8).toArray⟩) := blk_cell hr 2 rfl
            have q3 : w9.cell? ⟨w.heap.size, 3, none⟩ = some (.string ⟨#[120]⟩) := blk_cell hr 3 rfl
            exact bodyPost_ret (v := .agg #[.int .i64 3, .string ⟨nm.toArray⟩, .string ⟨([] : List UInt8).toArray⟩, .string ⟨#[120]⟩]) (by simp [results, Try.results36, go_sem, q0, q1, q2, q3]) rfl ⟨3, nm, ([] : List UInt8), [120], ⟨by omega, by omega, by omega, HX.out, by decide⟩, rfl, hc9, hg9⟩
          · have z2 : ((m : Int) == 2) = false := by rw [beq_eq_false_iff_ne]; omega
            by_cases m3 : m = 3
            · subst m3
              have r0 : w6.cell? ⟨w.heap.size, 0, none⟩ = some (.int .i64 0) := blk_cell H.out.rs.rb 0 rfl
              have r1 : w6.cell? ⟨w.heap.size, 1, none⟩ = some (.string ⟨#[]⟩) := blk_cell H.out.rs.rb 1 rfl
              have r2 : w6.cell? ⟨w.heap.size, 2, none⟩ = some (.string ⟨#[]⟩) := blk_cell H.out.rs.rb 2 rfl
              have r3 : w6.cell? ⟨w.heap.size, 3, none⟩ = some (.string ⟨#[]⟩) := blk_cell H.out.rs.rb 3 rfl
              have y0 := blk_free H.out.rs.rb 0
              have y1 := blk_free H.out.rs.rb 1
              have y2 := blk_free H.out.rs.rb 2
              have y3 := blk_free H.out.rs.rb 3
              have x0 : w6.cell? ⟨w2.heap.size, 0, none⟩ = some (.int .i64 3) := blk_cell H.out.xb 0 rfl
              have x1 : w6.cell? ⟨w2.heap.size, 1, none⟩ = some (.string ⟨nm.toArray⟩) := blk_cell H.out.xb 1 rfl
              have x2 : w6.cell? ⟨w2.heap.size, 2, none⟩ = some (.string ⟨([] : List UInt8).toArray⟩) := blk_cell H.out.xb 2 rfl
              have x3 : w6.cell? ⟨w2.heap.size, 3, none⟩ = some (.string ⟨t2.toArray⟩) := blk_cell H.out.xb 3 rfl
              have u2 := blk_free H.out.xb 2
              go_wp2_with fail
              obtain ⟨wL, hwL⟩ : ∃ wL, (w6.setCell ⟨w2.heap.size, 2, none⟩ (.string ⟨#[120]⟩)) = wL := ⟨_, rfl⟩
              have HL : Hid (RvV B p a len cap w #[.int .i64 0, .string ⟨#[]⟩, .string ⟨#[]⟩, .string ⟨#[]⟩] 37 w2.heap.size #[.int .i64 3, .string ⟨nm.toArray⟩, .string ⟨#[120]⟩, .string ⟨t2.toArray⟩] 37 wL) := hide (by rw [← hwL]; exact H.out.put 2 [.string ⟨#[120]⟩])
              rw [hwL]
              obtain ⟨w9, hw9⟩ : ∃ w9, ((((wL.setCell ⟨w.heap.size, 0, none⟩ (.int .i64 3)).setCell ⟨w.heap.size, 1, none⟩ (.string ⟨nm.toArray⟩)).setCell ⟨w.heap.size, 2, none⟩ (.string ⟨#[120]⟩)).setCell ⟨w.heap.size, 3, none⟩ (.string ⟨t2.toArray⟩)) = w9 := ⟨_, rfl⟩
              obtain ⟨hr, hc9, hg9⟩ := HL.out.rs.ret [.int .i64 3, .string ⟨nm.toArray⟩, .string ⟨#[120]⟩, .string ⟨t2.toArray⟩]
              rw [show wL.setCells w.heap.size 0 [.int .i64 3, .string ⟨nm.toArray⟩, .string ⟨#[120]⟩, .string ⟨t2.toArray⟩] = w9 from hw9] at hr hc9 hg9
              rw [hw9]
              have q0 : w9.cell? ⟨w.heap.size, 0, none⟩ = some (.int .i64 3) := blk_cell hr 0 rfl
              have q1 : w9.cell? ⟨w.heap.size, 1, none⟩ = some (.string ⟨nm.toArray⟩) := blk_cell hr 1 rfl
              have q2 : w9.cell? ⟨w.heap.size, 2, none⟩ = some (.string ⟨#[120]⟩) := blk_cell hr 2 rfl
              have q3 : w9.cell? ⟨w.heap.size, 3, none⟩ = some (.string ⟨t2.toArray⟩) := blk_cell hr 3 rfl
              exact bodyPost_ret (v := .agg #[.int .i64 3, .string ⟨nm.toArray⟩, .string ⟨#[120]⟩, .string ⟨t2.toArray⟩]) (by simp [results, Try.results36, go_sem, q0, q1, q2, q3]) rfl ⟨3, nm, [120], t2, ⟨by omega, by omega, by omega, by decide, HY.out⟩, rfl, hc9, hg9⟩
            · have z3 : ((m : Int) == 3) = false := by rw [beq_eq_false_iff_ne]; omega
              have r0 : w6.cell? ⟨w.heap.size, 0, none⟩ = some (.int .i64 0) := blk_cell H.out.rs.rb 0 rfl
              have r1 : w6.cell? ⟨w.heap.size, 1, none⟩ = some (.string ⟨#[]⟩) := blk_cell H.out.rs.rb 1 rfl
              have r2 : w6.cell? ⟨w.heap.size, 2, none⟩ = some (.string ⟨#[]⟩) := blk_cell H.out.rs.rb 2 rfl
              have r3 : w6.cell? ⟨w.heap.size, 3, none⟩ = some (.string ⟨#[]⟩) := blk_cell H.out.rs.rb 3 rfl
              have y0 := blk_free H.out.rs.rb 0
              have y1 := blk_free H.out.rs.rb 1
              have y2 := blk_free H.out.rs.rb 2
              have y3 := blk_free H.out.rs.rb 3
              have x0 : w6.cell? ⟨w2.heap.size, 0, none⟩ = some (.int .i64 3) := blk_cell H.out.xb 0 rfl
              have x1 : w6.cell? ⟨w2.heap.size, 1, none⟩ = some (.string ⟨nm.toArray⟩) := blk_cell H.out.xb 1 rfl
              have x2 : w6.cell? ⟨w2.heap.size, 2, none⟩ = some (.string ⟨([] : List UInt8).toArray⟩) := blk_cell H.out.xb 2 rfl
              have x3 : w6.cell? ⟨w2.heap.size, 3, none⟩ = some (.string ⟨t2.toArray⟩) := blk_cell H.out.xb 3 rfl
              go_wp2_with fail
              obtain ⟨wL, hwL⟩ : ∃ wL, w6 = wL := ⟨_, rfl⟩
              have HL : Hid (RvV B p a len cap w #[.int .i64 0, .string ⟨#[]⟩, .string ⟨#[]⟩, .string ⟨#[]⟩] 37 w2.heap.size #[.int .i64 3, .string ⟨nm.toArray⟩, .string ⟨([] : List UInt8).toArray⟩, .string ⟨t2.toArray⟩] 37 wL) := hide (by rw [← hwL]; exact H.out)
              rw [hwL]
              obtain ⟨w9, hw9⟩ : ∃ w9, ((((wL.setCell ⟨w.heap.size, 0, none⟩ (.int .i64 3)).setCell ⟨w.heap.size, 1, none⟩ (.string ⟨nm.toArray⟩)).setCell ⟨w.heap.size, 2, none⟩ (.string ⟨([] : List UInt8).toArray⟩)).setCell ⟨w.heap.size, 3, none⟩ (.string ⟨t2.toArray⟩)) = w9 := ⟨_, rfl⟩
              obtain ⟨hr, hc9, hg9⟩ := HL.out.rs.ret [.int .i64 3, .string ⟨nm.toArray⟩, .string ⟨([] : List UInt8).toArray⟩, .string ⟨t2.toArray⟩]
              rw [show wL.setCells w.heap.size 0 [.int .i64 3, .string ⟨nm.toArray⟩, .string ⟨([] : List UInt8).toArray⟩, .string ⟨t2.toArray⟩] = w9 from hw9] at hr hc9 hg9
              rw [hw9]
              have q0 : w9.cell? ⟨w.heap.size, 0, none⟩ = some (.int .i64 3) := blk_cell hr 0 rfl
              have q1 : w9.cell? ⟨w.heap.size, 1, none⟩ = some (.string ⟨nm.toArray⟩) := blk_cell hr 1 rfl
              have q2 : w9.cell? ⟨w.heap.size, 2, none⟩ = some (.string ⟨([] : List UInt8).toArray⟩) := blk_cell hr 2 rfl
              have q3 : w9.cell? ⟨w.heap.size, 3, none⟩ = some (.string ⟨t2.toArray⟩) := blk_cell hr 3 rfl
              exact bodyPost_ret (v := .agg #[.int .i64 3, .string ⟨nm.toArray⟩, .string ⟨([] : List UInt8).toArray⟩, .string ⟨t2.toArray⟩]) (by simp [results, Try.results36, go_sem, q0, q1, q2, q3]) rfl ⟨3, nm, ([] : List UInt8), t2, ⟨by omega, by omega, by omega, HX.out, HY.out⟩, rfl, hc9, hg9⟩
    · have z1 : (1 + (x : Int) == 1) = false := by rw [beq_eq_false_iff_ne]; omega
      have z3 : (1 + (x : Int) == 3) = false := by rw [beq_eq_false_iff_ne]; omega
      go_wp2_with fail
      refine (l03Named_any B p a len cap _ hB1 H1.out.cur).mono ?_
      rintro r w2 ⟨nm, hnm, rfl, hc2, hg2⟩
      have hn8 := name_short hnm
      have H2 := H1.out.drawn hc2 hg2
      have l2 := H2.size
      have H := hide (H2.var #[.int .i64 (1 + (x : Int)), .string ⟨nm.toArray⟩, .string ⟨#[]⟩, .string ⟨#[]⟩] 37)
      clear hc2 hg2 hnm H1 H2
      go_wp2_with fail
      have HX := hide (show ([] : List UInt8).length ≤ 5 by decide)
      have HY := hide (show ([] : List UInt8).length ≤ 9 by decide)
      refine (l01Below_any B p a len cap 40 (by decide) (by decide) _ H.out.rs.cur).mono ?_
      rintro r w6 ⟨m, hm, rfl, hc6, hg6⟩
      replace H := hide (H.out.drawn hc6 hg6)
      clear hc6 hg6
      by_cases m0 : m = 0
      · subst m0
        have HA := hide (H.out.alloc (.cells (I64z kindsL).toArray 3))
        have HO : Hid ((w6.alloc (.cells (I64z kindsL).toArray 3)).ownsRow w6.heap.size 3 1 (.slice (some ⟨w6.heap.size, 0, none⟩) 2 2) 2 (I64z kindsL)) := hide (World.ownsRow_lit (base := w6.heap.size) (size := 1) w6 (I64z kindsL).toArray 2 (Nat.le_refl _) (by decide) (by simp [I64z, kindsL]))
        have hp6 : p < w6.heap.size := H.out.rs.cur.lt
        clear H
        go_wp2_with fail
        refine (l01PickInt_any B p a len cap w6.heap.size _ kindsL (by decide) (by decide) _ hp6 HO.out HA.out.rs.cur).mono ?_
        rintro r w7 ⟨q, hq, rfl, hc7, hg7⟩
        have H7 := hide (HA.out.drawn hc7 hg7)
        have hq5 : 0 ≤ q ∧ q ≤ 5 := by simp [kindsL] at hq; omega
        clear hc7 hg7 HA HO hq
        have r0 : w7.cell? ⟨w.heap.size, 0, none⟩ = some (.int .i64 0) := blk_cell H7.out.rs.rb 0 rfl
        have r1 : w7.cell? ⟨w.heap.size, 1, none⟩ = some (.string ⟨#[]⟩) := blk_cell H7.out.rs.rb 1 rfl
        have r2 : w7.cell? ⟨w.heap.size, 2, none⟩ = some (.string ⟨#[]⟩) := blk_cell H7.out.rs.rb 2 rfl
        have r3 : w7.cell? ⟨w.heap.size, 3, none⟩ = some (.string ⟨#[]⟩) := blk_cell H7.out.rs.rb 3 rfl
        have y0 := blk_free H7.out.rs.rb 0
        have y1 := blk_free H7.out.rs.rb 1
        have y2 := blk_free H7.out.rs.rb 2
        have y3 := blk_free H7.out.rs.rb 3
        have x0 : w7.cell? ⟨w2.heap.size, 0, none⟩ = some (.int .i64 (1 + (x : Int))) := blk_cell H7.out.xb 0 rfl
        have x1 : w7.cell? ⟨w2.heap.size, 1, none⟩ = some (.string ⟨nm.toArray⟩) := blk_cell H7.out.xb 1 rfl
        have x2 : w7.cell? ⟨w2.heap.size, 2, none⟩ = some (.string ⟨([] : List UInt8).toArray⟩) := blk_cell H7.out.xb 2 rfl
        have x3 : w7.cell? ⟨w2.heap.size, 3, none⟩ = some (.string ⟨([] : List UInt8).toArray⟩) := blk_cell H7.out.xb 3 rfl
        have u0 := blk_free H7.out.xb 0
        go_wp2_with fail
        obtain ⟨wL, hwL⟩ : ∃ wL, (w7.setCell ⟨w2.heap.size, 0, none⟩ (.int .i64 q)) = wL := ⟨_, rfl⟩
        have HL : Hid (RvV B p a len cap w #[.int .i64 0, .string ⟨#[]⟩, .string ⟨#[]⟩, .string ⟨#[]⟩] 37 w2.heap.size #[.int .i64 q, .string ⟨nm.toArray⟩, .string ⟨([] : List UInt8).toArray⟩, .string ⟨([] : List UInt8).toArray⟩] 37 wL) := hide (by rw [← hwL]; exact H7.out.put 0 [.int .i64 q])
        rw [hwL]
        obtain ⟨w9, hw9⟩ : ∃ w9, ((((wL.setCell ⟨w.heap.size, 0, none⟩ (.int .i64 q)).setCell ⟨w.heap.size, 1, none⟩ (.string ⟨nm.toArray⟩)).setCell ⟨w.heap.size, 2, none⟩ (.string ⟨([] : List UInt8).toArray⟩)).setCell ⟨w.heap.size, 3, none⟩ (.string ⟨([] : List UInt8).toArray⟩)) = w9 := ⟨_, rfl⟩
        obtain ⟨hr, hc9, hg9⟩ := HL.out.rs.ret [.int .i64 q, .string ⟨nm.toArray⟩, .string ⟨([] : List UInt8).toArray⟩, .string ⟨([] : List UInt8).toArray⟩]
        rw [show wL.setCells w.heap.size 0 [.int .i64 q, .string ⟨nm.toArray⟩, .string ⟨([] : List UInt8).toArray⟩, .string ⟨([] : List UInt8).toArray⟩] = w9 from hw9] at hr hc9 hg9
        rw [hw9]
        have q0 : w9.cell? ⟨w.heap.size, 0, none⟩ = some (.int .i64 q) := blk_cell hr 0 rfl
        have q1 : w9.cell? ⟨w.heap.size, 1, none⟩ = some (.string ⟨nm.toArray⟩) := blk_cell hr 1 rfl
        have q2 : w9.cell? ⟨w.heap.size, 2, none⟩ = some (.string ⟨([] : List UInt8).toArray⟩) := blk_cell hr 2 rfl
        have q3 : w9.cell? ⟨w.heap.size, 3, none⟩ = some (.string ⟨([] : List UInt8).toArray⟩) := blk_cell hr 3 rfl
        exact bodyPost_ret (v := .agg #[.int .i64 q, .string ⟨nm.toArray⟩, .string ⟨([] : List UInt8).toArray⟩, .string ⟨([] : List UInt8).toArray⟩]) (by simp [results, Try.results36, go_sem, q0, q1, q2, q3]) rfl ⟨q, nm, ([] : List UInt8), ([] : List UInt8), ⟨hq5.1, hq5.2, by omega, HX.out, HY.out⟩, rfl, hc9, hg9⟩
      · have z0 : ((m : Int) == 0) = false := by rw [beq_eq_false_iff_ne]; omega
        by_cases m1 : m = 1
        · subst m1
          have HA := hide (H.out.alloc (.cells #[.string ⟨#[]⟩, .string ⟨#[49, 50, 51, 52, 53, 54, 55, 56, 57]⟩, .string ⟨#[110, 101, 119]⟩] 9))
          have hp6 : w6.heap.size ≠ p := by have := H.out.rs.cur.lt; omega
          clear H
          go_wp2_with fail
          refine (l01Pick_any B p a len cap w6.heap.size 3 oddL _ HA.out.rs.cur (by decide) (by decide) hp6 (odd_at w6)).mono ?_
          rintro r w7 ⟨nq, hq, rfl, hc7, hg7⟩
          have H7 := hide (HA.out.drawn hc7 hg7)
          have hq9 : nq.length ≤ 9 := oddL_short nq hq
          clear hc7 hg7 HA hq
          have r0 : w7.cell? ⟨w.heap.size, 0, none⟩ = some (.int .i64 0) := blk_cell H7.out.rs.rb 0 rfl
          have r1 : w7.cell? ⟨w.heap.size, 1, none⟩ = some (.string ⟨#[]⟩) := blk_cell H7.out.rs.rb 1 rfl
          have r2 : w7.cell? ⟨w.heap.size, 2, none⟩ = some (.string ⟨#[]⟩) := blk_cell H7.out.rs.rb 2 rfl
          have r3 : w7.cell? ⟨w.heap.size, 3, none⟩ = some (.string ⟨#[]⟩) := blk_cell H7.out.rs.rb 3 rfl
          have y0 := blk_free H7.out.rs.rb 0
          have y1 := blk_free H7.out.rs.rb 1
          have y2 := blk_free H7.out.rs.rb 2
          have y3 := blk_free H7.out.rs.rb 3
          have x0 : w7.cell? ⟨w2.heap.size, 0, none⟩ = some (.int .i64 (1 + (x : Int))) := blk_cell H7.out.xb 0 rfl
          have x1 : w7.cell? ⟨w2.heap.size, 1, none⟩ = some (.string ⟨nm.toArray⟩) := blk_cell H7.out.xb 1 rfl
          have x2 : w7.cell? ⟨w2.heap.size, 2, none⟩ = some (.string ⟨([] : List UInt8).toArray⟩) := blk_cell H7.out.xb 2 rfl
          have x3 : w7.cell? ⟨w2.heap.size, 3, none⟩ = some (.string ⟨([] : List UInt8).toArray⟩) := blk_cell H7.out.xb 3 rfl
          have u1 := blk_free H7.out.xb 1
          go_wp2_with fail
          obtain ⟨wL, hwL⟩ : ∃ wL, (w7.setCell ⟨w2.heap.size, 1, none⟩ (.string ⟨nq.toArray⟩)) = wL := ⟨_, rfl⟩
          have HL : Hid (RvV B p a len cap w #[.int .i64 0, .string ⟨#[]⟩, .string ⟨#[]⟩, .string ⟨#[]⟩] 37 w2.heap.size #[.int .i64 (1 + (x : Int)), .string ⟨nq.toArray⟩, .string ⟨([] : List UInt8).toArray⟩, .string ⟨([] : List UInt8).toArray⟩] 37 wL) := hide (by rw [← hwL]; exact H7.out.put 1 [.string ⟨nq.toArray⟩])
          rw [hwL]
          obtain ⟨w9, hw9⟩ : ∃ w9, ((((wL.setCell ⟨w.heap.size, 0, none⟩ (.int .i64 (1 + (x : Int)))).setCell ⟨w.heap.size, 1, none⟩ (.string ⟨nq.toArray⟩)).setCell ⟨w.heap.size, 2, none⟩ (.string ⟨([] : List UInt8).toArray⟩)).setCell ⟨w.heap.size, 3, none⟩ (.string ⟨([] : List UInt8).toArray⟩)) = w9 := ⟨_, rfl⟩
          obtain ⟨hr, hc9, hg9⟩ := HL.out.rs.ret [.int .i64 (1 + (x : Int)), .string ⟨nq.toArray⟩, .string ⟨([] : List UInt8).toArray⟩, .string ⟨([] : List UInt8).toArray⟩]
          rw [show wL.setCells w.heap.size 0 [.int .i64 (1 + (x : Int)), .string ⟨nq.toArray⟩, .string ⟨([] : List UInt8).toArray⟩, .string ⟨([] : List UInt8).toArray⟩] = w9 from hw9] at hr hc9 hg9
          rw [hw9]
          have q0 : w9.cell? ⟨w.heap.size, 0, none⟩ = some (.int .i64 (1 + (x : Int))) := blk_cell hr 0 rfl
          have q1 : w9.cell? ⟨w.heap.size, 1, none⟩ = some (.string ⟨nq.toArray⟩) := blk_cell hr 1 rfl
          have q2 : w9.cell? ⟨w.heap.size, 2, none⟩ = some (.string ⟨([] : List UInt8).toArray⟩) := blk_cell hr 2 rfl
          have q3 : w9.cell? ⟨w.heap.size, 3, none⟩ = some (.string ⟨([] : List UInt8).toArray⟩) := blk_cell hr 3 rfl
          exact bodyPost_ret (v := .agg #[.int .i64 (1 + (x : Int)), .string ⟨nq.toArray⟩, .string ⟨([] : List UInt8).toArray⟩, .string ⟨([] : List UInt8).toArray⟩]) (by simp [results, Try.results36, go_sem, q0, q1, q2, q3]) rfl ⟨1 + (x : Int), nq, ([] : List UInt8), ([] : List UInt8), ⟨by omega, by omega, hq9, HX.out, HY.out⟩, rfl, hc9, hg9⟩
        · have z1 : ((m : Int) == 1) = false := by rw [beq_eq_false_iff_ne]; omega
          by_cases m2 : m = 2
          · subst m2
            have r0 : w6.cell? ⟨w.heap.size, 0, none⟩ = some (.int .i64 0) := blk_cell H.out.rs.rb 0 rfl
            have r1 : w6.cell? ⟨w.heap.size, 1, none⟩ = some (.string ⟨#[]⟩) := blk_cell H.out.rs.rb 1 rfl
            have r2 : w6.cell? ⟨w.heap.size, 2, none⟩ = some (.string ⟨#[]⟩) := blk_cell H.out.rs.rb 2 rfl
            have r3 : w6.cell? ⟨w.heap.size, 3, none⟩ = some (.string ⟨#[]⟩) := blk_cell H.out.rs.rb 3 rfl
            have y0 := blk_free H.out.rs.rb 0
            have y1 := blk_free H.out.rs.rb 1
            have y2 := blk_free H.out.rs.rb 2
            have y3 := blk_free H.out.rs.rb 3
            have x0 : w6.cell? ⟨w2.heap.size, 0, none⟩ = some (.int .i64 (1 + (x : Int))) := blk_cell H.out.xb 0 rfl
            have x1 : w6.cell? ⟨w2.heap.size, 1, none⟩ = some (.string ⟨nm.toArray⟩) := blk_cell H.out.xb 1 rfl
            have x2 : w6.cell? ⟨w2.heap.size, 2, none⟩ = some (.string ⟨([] : List UInt8).toArray⟩) := blk_cell H.out.xb 2 rfl
            have x3 : w6.cell? ⟨w2.heap.size, 3, none⟩ = some (.string ⟨([] : List UInt8).toArray⟩) := blk_cell H.out.xb 3 rfl
            have u3 := blk_free H.out.xb 3
            go_wp2_with fail
            obtain ⟨wL, hwL⟩ : ∃ wL, (w6.setCell ⟨w2.heap.size, 3, none⟩ (.string ⟨#[120]⟩)) = wL := ⟨_, rfl⟩
            have HL : Hid (RvV B p a len cap w #[.int .i64 0, .string ⟨#[]⟩, .string ⟨#[]⟩, .string ⟨#[]⟩] 37 w2.heap.size #[.int .i64 (1 + (x : Int)), .string ⟨nm.toArray⟩, .string ⟨([] : List UInt8).toArray⟩, .string ⟨#[120]⟩] 37 wL) := hide (by rw [← hwL]; exact H.out.put 3 [.string ⟨#[120]⟩])
            rw [hwL]
            obtain ⟨w9, hw9⟩ : ∃ w9, ((((wL.setCell ⟨w.heap.size, 0, none⟩ (.int .i64 (1 + (x : Int)))).setCell ⟨w.heap.size, 1, none⟩ (.string ⟨nm.toArray⟩)).setCell ⟨w.heap.size, 2, none⟩ (.string ⟨([] : List UInt8).toArray⟩)).setCell ⟨w.heap.size, 3, none⟩ (.string ⟨#[120]⟩)) = w9 := ⟨_, rfl⟩
            obtain ⟨hr, hc9, hg9⟩ := HL.out.rs.ret [.int .i64 (1 + (x : Int)), .string ⟨nm.toArray⟩, .string ⟨([] : List UInt8).toArray⟩, .string ⟨#[120]⟩]
            rw [show wL.setCells w.heap.size 0 [.int .i64 (1 + (x : Int)), .string ⟨nm.toArray⟩, .string ⟨([] : List UInt8).toArray⟩, .string ⟨#[120]⟩] = w9 from hw9] at hr hc9 hg9
            rw [hw9]
            have q0 : w9.cell? ⟨w.heap.size, 0, none⟩ = some (.int .i64 (1 + (x : Int))) := blk_cell hr 0 rfl
            have q1 : w9.cell? ⟨w.heap.size, 1, none⟩ = some (.string ⟨nm.toArray⟩) := blk_cell hr 1 rfl
            have q2 : w9.cell? ⟨w.heap.size, 2, none⟩ = some (.string ⟨([] : List UInt8).toArray⟩) := blk_cell hr 2 rfl
            have q3 : w9.cell? ⟨w.heap.size, 3, none⟩ = some (.string ⟨#[120]⟩) := blk_cell hr 3 rfl
            exact bodyPost_ret (v := .agg #[.int .i64 (1 + (x : Int)), .string ⟨nm.toArray⟩, .string ⟨([] : List UInt8).toArray⟩, .string ⟨#[120]⟩]) (by simp [results, Try.results36, go_sem, q0, q1, q2, q3]) rfl ⟨1 + (x : Int), nm, ([] : List UInt8), [120], ⟨by omega, by omega, by omega, HX.out, by decide⟩, rfl, hc9, hg9⟩
          · have z2 : ((m : Int) == 2) = false := by rw [beq_eq_false_iff_ne]; omega
            by_cases m3 : m = 3
            · subst m3
              have r0 : w6.cell? ⟨w.heap.size, 0, none⟩ = some (.int .i64 0) := blk_cell H.out.rs.rb 0 rfl
              have r1 : w6.cell? ⟨w.heap.size, 1, none⟩ = some (.string ⟨#[]⟩) := blk_cell H.out.rs.rb 1 rfl
              have r2 : w6.cell? ⟨w.heap.size, 2, none⟩ = some (.string ⟨#[]⟩) := blk_cell H.out.rs.rb 2 rfl
              have r3 : w6.cell? ⟨w.heap.size, 3, none⟩ = some (.string ⟨#[]⟩) := blk_cell H.out.rs.rb 3 rfl
              have y0 := blk_free H.out.rs.rb 0
              have y1 := blk_free H.out.rs.rb 1
              have y2 := blk_free H.out.rs.rb 2
              have y3 := blk_free H.out.rs.rb 3
              have x0 : w6.cell? ⟨w2.heap.size, 0, none⟩ = some (.int .i64 (1 + (x : Int))) := blk_cell H.out.xb 0 rfl
              have x1 : w6.cell? ⟨w2.heap.size, 1, none⟩ = some (.string ⟨nm.toArray⟩) := blk_cell H.out.xb 1 rfl
              have x2 : w6.cell? ⟨w2.heap.size, 2, none⟩ = some (.string ⟨([] : List UInt8).toArray⟩) := blk_cell H.out.xb 2 rfl
              have x3 : w6.cell? ⟨w2.heap.size, 3, none⟩ = some (.string ⟨([] : List UInt8).toArray⟩) := blk_cell H.out.xb 3 rfl
              have u2 := blk_free H.out.xb 2
              go_wp2_with fail
              obtain ⟨wL, hwL⟩ : ∃ wL, (w6.setCell ⟨w2.heap.size, 2, none⟩ (.string ⟨#[120]⟩)) = wL := ⟨_, rfl⟩
              have HL : Hid (RvV B p a len cap w #[.int .i64 0, .string ⟨#[]⟩, .string ⟨#[]⟩, .string ⟨#[]⟩] 37 w2.heap.size #[.int .i64 (1 + (x : Int)), .string ⟨nm.toArray⟩, .string ⟨#[120]⟩, .string ⟨([] : List UInt8).toArray⟩] 37 wL) := hide (by rw [← hwL]; exact H.out.put 2 [.string ⟨#[120]⟩])
              rw [hwL]
              obtain ⟨w9, hw9⟩ : ∃ w9, ((((wL.setCell ⟨w.heap.size, 0, none⟩ (.int .i64 (1 + (x : Int)))).setCell ⟨w.heap.size, 1, none⟩ (.string ⟨nm.toArray⟩)).setCell ⟨w.heap.size, 2, none⟩ (.string ⟨#[120]⟩)).setCell ⟨w.heap.size, 3, none⟩ (.string ⟨([] : List UInt8).toArray⟩)) = w9 := ⟨_, rfl⟩
              obtain ⟨hr, hc9, hg9⟩ := HL.out.rs.ret [.int .i64 (1 + (x : Int)), .string ⟨nm.toArray⟩, .string ⟨#[120]⟩, .string ⟨([] : List UInt8).toArray⟩]
              rw [show wL.setCells w.heap.size 0 [.int .i64 (1 + (x : Int)), .string ⟨nm.toArray⟩, .string ⟨#[120]⟩, .string ⟨([] : List UInt8).toArray⟩] = w9 from hw9] at hr hc9 hg9
              rw [hw9]
              have q0 : w9.cell? ⟨w.heap.size, 0, none⟩ = some (.int .i64 (1 + (x : Int))) := blk_cell hr 0 rfl
              have q1 : w9.cell? ⟨w.heap.size, 1, none⟩ = some (.string ⟨nm.toArray⟩) := blk_cell hr 1 rfl
              have q2 : w9.cell? ⟨w.heap.size, 2, none⟩ = some (.string ⟨#[120]⟩) := blk_cell hr 2 rfl
              have q3 : w9.cell? ⟨w.heap.size, 3, none⟩ = some (.string ⟨([] : List UInt8).toArray⟩) := blk_cell hr 3 rfl
              exact bodyPost_ret (v := .agg #[.int .i64 (1 + (x : Int)), .string ⟨nm.toArray⟩, .string ⟨#[120]⟩, .string ⟨([] : List UInt8).toArray⟩]) (by simp [results, Try.results36, go_sem, q0, q1, q2, q3]) rfl ⟨1 + (x : Int), nm, [120], ([] : List UInt8), ⟨by omega, by omega, by omega, by decide, HY.out⟩, rfl, hc9, hg9⟩
            · have z3 : ((m : Int) == 3) = false := by rw [beq_eq_false_iff_ne]; omega
              have r0 : w6.cell? ⟨w.heap.size, 0, none⟩ = some (.int .i64 0) := blk_cell H.out.rs.rb 0 rfl
              have r1 : w6.cell? ⟨w.heap.size, 1, none⟩ = some (.string ⟨#[]⟩) := blk_cell H.out.rs.rb 1 rfl
              have r2 : w6.cell? ⟨w.heap.size, 2, none⟩ = some (.string ⟨#[]⟩) := blk_cell H.out.rs.rb 2 rfl
              have r3 : w6.cell? ⟨w.heap.size, 3, none⟩ = some (.string ⟨#[]⟩) := blk_cell H.out.rs.rb 3 rfl
              have y0 := blk_free H.out.rs.rb 0
              have y1 := blk_free H.out.rs.rb 1
              have y2 := blk_free H.out.rs.rb 2
              have y3 := blk_free H.out.rs.rb 3
              have x0 : w6.cell? ⟨w2.heap.size, 0, none⟩ = some (.int .i64 (1 + (x : Int))) := blk_cell H.out.xb 0 rfl
              have x1 : w6.cell? ⟨w2.heap.size, 1, none⟩ = some (.string ⟨nm.toArray⟩) := blk_cell H.out.xb 1 rfl
              have x2 : w6.cell? ⟨w2.heap.size, 2, none⟩ = some (.string ⟨([] : List UInt8).toArray⟩) := blk_cell H.out.xb 2 rfl
              have x3 : w6.cell? ⟨w2.heap.size, 3, none⟩ = some (.string ⟨([] : List UInt8).toArray⟩) := blk_cell H.out.xb 3 rfl
              go_wp2_with fail
              obtain ⟨wL, hwL⟩ : ∃ wL, w6 = wL := ⟨_, rfl⟩
              have HL : Hid (RvV B p a len cap w #[.int .i64 0, .string ⟨#[]⟩, .string ⟨#[]⟩, .string ⟨#[]⟩] 37 w2.heap.size #[.int .i64 (1 + (x : Int)), .string ⟨nm.toArray⟩, .string ⟨([] : List UInt8).toArray⟩, .string ⟨([] : List UInt8).toArray⟩] 37 wL) := hide (by rw [← hwL]; exact H.out)
              rw [hwL]
              obtain ⟨w9, hw9⟩ : ∃ w9, ((((wL.setCell ⟨w.heap.size, 0, none⟩ (.int .i64 (1 + (x : Int)))).setCell ⟨w.heap.size, 1, none⟩ (.string ⟨nm.toArray⟩)).setCell ⟨w.heap.size, 2, none⟩ (.string ⟨([] : List UInt8).toArray⟩)).setCell ⟨w.heap.size, 3, none⟩ (.string ⟨([] : List UInt8).toArray⟩)) = w9 := ⟨_, rfl⟩
              obtain ⟨hr, hc9, hg9⟩ := HL.out.rs.ret [.int .i64 (1 + (x : Int)), .string ⟨nm.toArray⟩, .string ⟨([] : List UInt8).toArray⟩, .string ⟨([] : List UInt8).toArray⟩]
              rw [show wL.setCells w.heap.size 0 [.int .i64 (1 + (x : Int)), .string ⟨nm.toArray⟩, .string ⟨([] : List UInt8).toArray⟩, .string ⟨([] : List UInt8).toArray⟩] = w9 from hw9] at hr hc9 hg9
              rw [hw9]
              have q0 : w9.cell? ⟨w.heap.size, 0, none⟩ = some (.int .i64 (1 + (x : Int))) := blk_cell hr 0 rfl
              have q1 : w9.cell? ⟨w.heap.size, 1, none⟩ = some (.string ⟨nm.toArray⟩) := blk_cell hr 1 rfl
              have q2 : w9.cell? ⟨w.heap.size, 2, none⟩ = some (.string ⟨([] : List UInt8).toArray⟩) := blk_cell hr 2 rfl
              have q3 : w9.cell? ⟨w.heap.size, 3, none⟩ = some (.string ⟨([] : List UInt8).toArray⟩) := blk_cell hr 3 rfl
              exact bodyPost_ret (v := .agg #[.int .i64 (1 + (x : Int)), .string ⟨nm.toArray⟩, .string ⟨([] : List UInt8).toArray⟩, .string ⟨([] : List UInt8).toArray⟩]) (by simp [results, Try.results36, go_sem, q0, q1, q2, q3]) rfl ⟨1 + (x : Int), nm, ([] : List UInt8), ([] : List UInt8), ⟨by omega, by omega, by omega, HX.out, HY.out⟩, rfl, hc9, hg9⟩

end Go.Proofs.Ytdcdlfkbdeogeaa
