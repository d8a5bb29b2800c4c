/-
  Walks and mathematics of Draw8, Draw9, Draw10.
-/
import Derived.Test.YtmllcomppjkhhaaGreatDoorRCmd5
import Derived.Test.YtmllcomppjkhhaaGreatDoorRWalk5b
import Derived.Test.YtmllcomppjkhhaaGreatDoorRCmd7
namespace Go.Proofs.YtmllcomppjkhhaaGreatDoor
open Go.RowKit P1 P9 K
set_option linter.unusedVariables false
set_option linter.unusedSimpArgs false

theorem icell_snoc (l : List Int) (n : Int) : l.map icell ++ [.int .i64 n] = (l ++ [n]).map icell := by simp [icell]

def ConfIn (n : Nat) (lo hi : Int) (l : List Int) : Prop := l.length ≤ n ∧ ∀ z ∈ l, lo ≤ z ∧ z ≤ hi

theorem ConfIn.snoc {n : Nat} {lo hi : Int} {l : List Int} (h : ConfIn n lo hi l) (z : Int) (h0 : lo ≤ z) (h1 : z ≤ hi) : ConfIn (n + 1) lo hi (l ++ [z]) := by
  refine ⟨by have := h.1; simp; omega, ?_⟩
  intro y hy
  rcases List.mem_append.1 hy with hy | hy
  · exact h.2 y hy
  · simp at hy
    omega

theorem ConfIn.mono {n m : Nat} {lo hi : Int} {l : List Int} (h : ConfIn n lo hi l) (hm : n ≤ m) : ConfIn m lo hi l := ⟨by have := h.1; omega, h.2⟩

set_option maxHeartbeats 2000000 in
theorem l05Conf_any (B p : Nat) (a : Option Addr) (len cap : Nat) (w : World) (hB : B ≤ w.heap.size) (hc : CurAt B w p a len cap) :
    Calls Tryz.prog 68 #[.pointer (some ⟨p, 0, none⟩)] w fun e w' => ∃ (l : List Int) (v : Value), ConfIn 4 1 4 l ∧ e = .returned v ∧ Drawing B p a len cap w 3 v l.length (l.map icell) w' := by
  have HS := hide (Drawing.start (e := 3) hB hc)
  clear hc
  go_enter Tryz.func68, Tryz.ntmps68
  go_wp2_with fail
  go_loopw [3, 4] (fun v i wr => ∃ (k : Nat) (l : List Int), i = .int .i64 ((k : Int) + 1) ∧ k ≤ 4 ∧ ConfIn k 1 4 l ∧ Drawing B p a len cap w 3 v l.length (l.map icell) wr) (fun _ i _ => 5 - (intOf i).toNat)
  case atStart => exact ⟨0, [], rfl, Nat.zero_le _, ⟨Nat.le_refl _, by simp⟩, HS.out⟩
  case round =>
    obtain ⟨k, l, rfl, hk, hl, hd⟩ := hrel
    obtain ⟨oa, cp, rfl⟩ := row_form hd.own
    have hl4 := hl.1
    have HL := hide hl
    have HD := hide hd
    clear hl HS hd
    by_cases hlt : k < 4
    · have j0 : (k : Int) + 1 ≤ 4 := by omega
      go_wp2_with fail
      refine (l01Once_any B p a len cap 2 (by decide) (by decide) _ HD.out.cur).mono ?_
      rintro e w3 ⟨b, rfl, hc3, hg3⟩
      have HD1 := hide (HD.out.drawn hc3 hg3)
      clear hc3 hg3 HD
      have hsz : w.heap.size ≤ w3.heap.size := HD1.out.grown.size
      cases b with
      | false =>
        go_wp2_with fail
        go_roundw
        case rel => exact ⟨k + 1, l, by go_num, by omega, HL.out.mono (by omega), HD1.out⟩
        case measure => simp [intOf]; omega
      | true =>
        go_wp2_with (at_builtin; refine wpList_push_raw rfl _ _ 25 rfl Tryz.underlying25 infoInt rfl rfl HD1.out.own rfl rfl hsz (by unfold maxLen; omega) (by omega) ?_)
        intro v' w4 hown4 hg4
        have hd4 := HD1.out.pushed hB hown4 hg4
        rw [icell_snoc] at hd4
        have HD2 := hide hd4
        clear hown4 hg4 hd4 HD1
        go_wp2_with fail
        go_roundw
        case rel => exact ⟨k + 1, l ++ [(k : Int) + 1], by go_num, by omega, HL.out.snoc _ (by omega) (by omega), by simpa using HD2.out⟩
        case measure => simp [intOf]; omega
    · have j0 : ¬ (k : Int) + 1 ≤ 4 := by omega
      have hsz : w.heap.size ≤ wr.heap.size := HD.out.grown.size
      by_cases h0 : l.length = 0
      · obtain rfl : l = [] := List.eq_nil_of_length_eq_zero h0
        go_wp2_with (at_builtin; refine wpList_push_raw rfl _ _ 25 rfl Tryz.underlying25 infoInt rfl rfl HD.out.own rfl rfl hsz (by decide) (by decide) ?_)
        intro v' w4 hown4 hg4
        have HD2 := hide (HD.out.pushed hB hown4 hg4)
        clear hown4 hg4 HD
        go_wp2_with fail
        go_ret
        exact ⟨[1], _, ⟨by decide, by decide⟩, rfl, HD2.out⟩
      · have q0 : ((l.length : Int) == 0) = false := by rw [beq_eq_false_iff_ne]; omega
        go_wp2_with fail
        go_ret
        exact ⟨l, HL.out.mono hk, _, rfl, HD.out⟩

end Go.Proofs.YtmllcomppjkhhaaGreatDoor

namespace Go.Proofs.YtmllcomppjkhhaaGreatDoor
open Go.RowKit P1 P9 K
attribute [local go_sem ↓] Go.wp_at_zero Go.wp_at_succ
set_option linter.unusedVariables false
set_option linter.unusedSimpArgs false

def EnPost (B p : Nat) (a : Option Addr) (len cap : Nat) (w : World) (e : Ending) (w' : World) : Prop :=
  ∃ (t k : Int) (z : ByteArray), z.size ≤ 200 ∧ e = .returned (.agg #[.int .i64 t, .int .i64 k, .string z]) ∧ CurAt B w' p a len cap ∧ w.grownBy w' (some p)

def kindL : List Int := [1, 2, 3, 3, 3]

theorem ctVal_form (l : List Int) (h : l.length ≤ 4) : ∃ (z : ByteArray) (b : Bool), z.size ≤ 200 ∧ ctVal l = .tuple #[.string z, .bool b] := by
  cases hok : confOk l with
  | true => exact ⟨_, _, by simp [confB, ByteArray.size]; omega, ctVal_yes hok⟩
  | false => exact ⟨_, _, by simp [ByteArray.size], ctVal_no hok⟩

theorem RvS.retA {B p : Nat} {a : Option Addr} {len cap : Nat} {w : World} {Z : Array Value} {T : TypeId} {w1 : World} (h : RvS B p a len cap w Z T w1) (vs : List Value) (o : Obj) :
    ((w1.setCells w.heap.size 0 vs).alloc o).heap[w.heap.size]? = some (.cells (setArr Z 0 vs) T (0, 0)) ∧ CurAt B ((w1.setCells w.heap.size 0 vs).alloc o) p a len cap ∧ w.grownBy ((w1.setCells w.heap.size 0 vs).alloc o) (some p) := by
  obtain ⟨h1, h2, h3⟩ := h.ret vs
  have hb := blk_lt h1
  have h4 := h.hB
  exact ⟨(Below.heap_alloc _ _ _ hb).trans h1, h2.kept ((Below.refl _ _).alloc (by omega) _) (Below.heap_alloc _ _ p h2.lt), grownBy_trans h3 (World.grownBy_alloc _ _ _)⟩

set_option maxHeartbeats 4000000 in
theorem l05Right_any (B p : Nat) (a : Option Addr) (len cap : Nat) (tm : Int) (w : World) (hB : B ≤ w.heap.size) (hc : CurAt B w p a len cap) :
    Calls Tryz.prog 67 #[.pointer (some ⟨p, 0, none⟩), .int .i64 tm] w (EnPost B p a len cap w) := by
  have hp := hc.lt
  have H0 := RvS.start hB hc #[.int .i64 0, .int .i64 0, .string ⟨#[]⟩] 56
  have H1 := hide (H0.alloc (.cells (I64z kindL).toArray 3))
  have HO : Hid (((w.alloc (.cells #[.int .i64 0, .int .i64 0, .string ⟨#[]⟩] 56)).alloc (.cells (I64z kindL).toArray 3)).ownsRow (w.heap.size + 1) 3 1 (.slice (some ⟨w.heap.size + 1, 0, none⟩) 5 5) 5 (I64z kindL)) := by
    have := World.ownsRow_lit (base := w.heap.size + 1) (size := 1) (w.alloc (.cells #[.int .i64 0, .int .i64 0, .string ⟨#[]⟩] 56)) (e := 3) (I64z kindL).toArray 5 (by simp) (by decide) (by simp [I64z, kindL])
    exact hide (by simpa using this)
  clear H0 hc
  go_enter Tryz.func67, Tryz.ntmps67
  go_wp2_with fail
  refine (l01PickInt_any B p a len cap (w.heap.size + 1) _ kindL (by decide) (by decide) _ (by omega) HO.out H1.out.cur).mono ?_
  rintro r w2 ⟨k, hk, rfl, hc2, hg2⟩
  have H2 := hide (H1.out.drawn hc2 hg2)
  have hk3 : k = 1 ∨ k = 2 ∨ k = 3 := by simp [kindL] at hk; omega
  have l2 := H2.out.size
  have H3 := hide (H2.out.var #[.int .i64 tm, .int .i64 k, .string ⟨#[]⟩] 56)
  have hB3 : B ≤ (w2.alloc (.cells #[.int .i64 tm, .int .i64 k, .string ⟨#[]⟩] 56)).heap.size := by have := H3.out.rs.size; omega
  clear hc2 hg2 hk H1 HO
  rcases hk3 with rfl | rfl | rfl
  · have r0 : w2.cell? ⟨w.heap.size, 0, none⟩ = some (.int .i64 0) := blk_cell H2.out.rb 0 rfl
    have r1 : w2.cell? ⟨w.heap.size, 1, none⟩ = some (.int .i64 0) := blk_cell H2.out.rb 1 rfl
    have r2 : w2.cell? ⟨w.heap.size, 2, none⟩ = some (.string ⟨#[]⟩) := blk_cell H2.out.rb 2 rfl
    have y0 := blk_free H2.out.rb 0
    have y1 := blk_free H2.out.rb 1
    have y2 := blk_free H2.out.rb 2
    go_wp2_with fail
    obtain ⟨w9, hw9⟩ : ∃ w9, (((w2.setCell ⟨w.heap.size, 0, none⟩ (.int .i64 tm)).setCell ⟨w.heap.size, 1, none⟩ (.int .i64 1)).setCell ⟨w.heap.size, 2, none⟩ (.string ⟨#[]⟩)).alloc (.cells #[.int .i64 tm, .int .i64 1, .string ⟨#[]⟩] 56) = w9 := ⟨_, rfl⟩
    obtain ⟨hr, hc9, hg9⟩ := H2.out.retA [.int .i64 tm, .int .i64 1, .string ⟨#[]⟩] (.cells #[.int .i64 tm, .int .i64 1, .string ⟨#[]⟩] 56)
    rw [show (w2.setCells w.heap.size 0 [.int .i64 tm, .int .i64 1, .string ⟨#[]⟩]).alloc (.cells #[.int .i64 tm, .int .i64 1, .string ⟨#[]⟩] 56) = w9 from hw9] at hr hc9 hg9
    rw [hw9]
    have q0 : w9.cell? ⟨w.heap.size, 0, none⟩ = some (.int .i64 tm) := blk_cell hr 0 rfl
    have q1 : w9.cell? ⟨w.heap.size, 1, none⟩ = some (.int .i64 1) := blk_cell hr 1 rfl
    have q2 : w9.cell? ⟨w.heap.size, 2, none⟩ = some (.string ⟨#[]⟩) := blk_cell hr 2 rfl
    exact bodyPost_ret (v := .agg #[.int .i64 tm, .int .i64 1, .string ⟨#[]⟩]) (by simp [results, Tryz.results67, go_sem, q0, q1, q2]) rfl ⟨tm, 1, ⟨#[]⟩, by decide, rfl, hc9, hg9⟩
  · go_wp2_with fail
    refine (l05Conf_any B p a len cap _ hB3 H3.out.rs.cur).mono ?_
    rintro r w4 ⟨l, v, hl, rfl, hd⟩
    have H4 := hide (H3.out.drawn hd.cur hd.grown)
    obtain ⟨oa, cp, rfl, hat⟩ := intsAt_of_own hd.own (fun z hz => wf_small (by have := hl.2 z hz; omega) (by have := hl.2 z hz; omega))
    have HAT := hide hat
    have hl4 := hl.1
    clear hat hd hl H3 hB3 H2
    go_wp2_with fail
    refine (specConfText_any oa l.length cp l _ HAT.out).mono ?_
    rintro r w5 ⟨rfl, hb5⟩
    obtain ⟨z, b, hz, hv⟩ := ctVal_form l hl4
    rw [hv]
    have H5 := hide (H4.out.on hb5)
    clear hb5 H4 hv HAT hl4
    have r0 : w5.cell? ⟨w.heap.size, 0, none⟩ = some (.int .i64 0) := blk_cell H5.out.rs.rb 0 rfl
    have r1 : w5.cell? ⟨w.heap.size, 1, none⟩ = some (.int .i64 0) := blk_cell H5.out.rs.rb 1 rfl
    have r2 : w5.cell? ⟨w.heap.size, 2, none⟩ = some (.string ⟨#[]⟩) := blk_cell H5.out.rs.rb 2 rfl
    have y0 := blk_free H5.out.rs.rb 0
    have y1 := blk_free H5.out.rs.rb 1
    have y2 := blk_free H5.out.rs.rb 2
    have x0 : w5.cell? ⟨w2.heap.size, 0, none⟩ = some (.int .i64 tm) := blk_cell H5.out.xb 0 rfl
    have x1 : w5.cell? ⟨w2.heap.size, 1, none⟩ = some (.int .i64 2) := blk_cell H5.out.xb 1 rfl
    have x2 : w5.cell? ⟨w2.heap.size, 2, none⟩ = some (.string ⟨#[]⟩) := blk_cell H5.out.xb 2 rfl
    have u2 := blk_free H5.out.xb 2
    go_wp2_with fail
    obtain ⟨w6, hw6⟩ : ∃ w6, w5.setCell ⟨w2.heap.size, 2, none⟩ (.string z) = w6 := ⟨_, rfl⟩
    have H6 : Hid (RvV B p a len cap w #[.int .i64 0, .int .i64 0, .string ⟨#[]⟩] 56 w2.heap.size #[.int .i64 tm, .int .i64 2, .string z] 56 w6) := hide (by rw [← hw6]; exact H5.out.put 2 [.string z])
    rw [hw6]
    obtain ⟨w9, hw9⟩ : ∃ w9, (((w6.setCell ⟨w.heap.size, 0, none⟩ (.int .i64 tm)).setCell ⟨w.heap.size, 1, none⟩ (.int .i64 2)).setCell ⟨w.heap.size, 2, none⟩ (.string z)) = w9 := ⟨_, rfl⟩
    obtain ⟨hr, hc9, hg9⟩ := H6.out.rs.ret [.int .i64 tm, .int .i64 2, .string z]
    rw [show w6.setCells w.heap.size 0 [.int .i64 tm, .int .i64 2, .string z] = w9 from hw9] at hr hc9 hg9
    rw [hw9]
    have q0 : w9.cell? ⟨w.heap.size, 0, none⟩ = some (.int .i64 tm) := blk_cell hr 0 rfl
    have q1 : w9.cell? ⟨w.heap.size, 1, none⟩ = some (.int .i64 2) := blk_cell hr 1 rfl
    have q2 : w9.cell? ⟨w.heap.size, 2, none⟩ = some (.string z) := blk_cell hr 2 rfl
    exact bodyPost_ret (v := .agg #[.int .i64 tm, .int .i64 2, .string z]) (by simp [results, Tryz.results67, go_sem, q0, q1, q2]) rfl ⟨tm, 2, z, hz, rfl, hc9, hg9⟩
  · go_wp2_with fail
    refine (l14Right_any B p a len cap _ hB3 H3.out.rs.cur).mono ?_
    rintro r w4 ⟨o, t, s, id, kd, sd, op, cp, d, u, hin, rfl, hc4, hg4⟩
    have H4 := hide (H3.out.drawn hc4 hg4)
    have HIN := hide hin
    clear hin hc4 hg4 H3 hB3 H2
    go_wp2_with fail
    refine (commandText_in o t s id kd sd op cp d u HIN.out _).mono ?_
    rintro r w5 ⟨z, hz, rfl, hb5⟩
    have H5 := hide (H4.out.on hb5)
    clear hb5 H4 HIN
    replace hz : z.size ≤ 200 := by omega
    have r0 : w5.cell? ⟨w.heap.size, 0, none⟩ = some (.int .i64 0) := blk_cell H5.out.rs.rb 0 rfl
    have r1 : w5.cell? ⟨w.heap.size, 1, none⟩ = some (.int .i64 0) := blk_cell H5.out.rs.rb 1 rfl
    have r2 : w5.cell? ⟨w.heap.size, 2, none⟩ = some (.string ⟨#[]⟩) := blk_cell H5.out.rs.rb 2 rfl
    have y0 := blk_free H5.out.rs.rb 0
    have y1 := blk_free H5.out.rs.rb 1
    have y2 := blk_free H5.out.rs.rb 2
    have x0 : w5.cell? ⟨w2.heap.size, 0, none⟩ = some (.int .i64 tm) := blk_cell H5.out.xb 0 rfl
    have x1 : w5.cell? ⟨w2.heap.size, 1, none⟩ = some (.int .i64 3) := blk_cell H5.out.xb 1 rfl
    have x2 : w5.cell? ⟨w2.heap.size, 2, none⟩ = some (.string ⟨#[]⟩) := blk_cell H5.out.xb 2 rfl
    have u2 := blk_free H5.out.xb 2
    go_wp2_with fail
    obtain ⟨w6, hw6⟩ : ∃ w6, w5.setCell ⟨w2.heap.size, 2, none⟩ (.string z) = w6 := ⟨_, rfl⟩
    have H6 : Hid (RvV B p a len cap w #[.int .i64 0, .int .i64 0, .string ⟨#[]⟩] 56 w2.heap.size #[.int .i64 tm, .int .i64 3, .string z] 56 w6) := hide (by rw [← hw6]; exact H5.out.put 2 [.string z])
    rw [hw6]
    obtain ⟨w9, hw9⟩ : ∃ w9, (((w6.setCell ⟨w.heap.size, 0, none⟩ (.int .i64 tm)).setCell ⟨w.heap.size, 1, none⟩ (.int .i64 3)).setCell ⟨w.heap.size, 2, none⟩ (.string z)) = w9 := ⟨_, rfl⟩
    obtain ⟨hr, hc9, hg9⟩ := H6.out.rs.ret [.int .i64 tm, .int .i64 3, .string z]
    rw [show w6.setCells w.heap.size 0 [.int .i64 tm, .int .i64 3, .string z] = w9 from hw9] at hr hc9 hg9
    rw [hw9]
    have q0 : w9.cell? ⟨w.heap.size, 0, none⟩ = some (.int .i64 tm) := blk_cell hr 0 rfl
    have q1 : w9.cell? ⟨w.heap.size, 1, none⟩ = some (.int .i64 3) := blk_cell hr 1 rfl
    have q2 : w9.cell? ⟨w.heap.size, 2, none⟩ = some (.string z) := blk_cell hr 2 rfl
    exact bodyPost_ret (v := .agg #[.int .i64 tm, .int .i64 3, .string z]) (by simp [results, Tryz.results67, go_sem, q0, q1, q2]) rfl ⟨tm, 3, z, hz, rfl, hc9, hg9⟩

def termL : List Int := [-1, 100000, 100001]

def kind2L : List Int := [0, 4, 1, 2]

set_option maxHeartbeats 4000000 in
theorem l05Any_any (B p : Nat) (a : Option Addr) (len cap : Nat) (w : World) (hB : B ≤ w.heap.size) (hc : CurAt B w p a len cap) :
    Calls Tryz.prog 39 #[.pointer (some ⟨p, 0, none⟩)] w (EnPost B p a len cap w) := by
  have H0 := hide (RvS.start hB hc #[.int .i64 0, .int .i64 0, .string ⟨#[]⟩] 56)
  clear hc
  go_enter Tryz.func39, Tryz.ntmps39
  go_wp2_with fail
  refine (l01Below_any B p a len cap 9 (by decide) (by decide) _ H0.out.cur).mono ?_
  rintro r w1 ⟨x, hx, rfl, hc1, hg1⟩
  have H1 := hide (H0.out.drawn hc1 hg1)
  have hB1 : B ≤ w1.heap.size := by have := H1.out.size; omega
  clear hc1 hg1 H0
  go_wp2_with fail
  refine (l05Right_any B p a len cap (x : Int) _ hB1 H1.out.cur).mono ?_
  rintro r w2 ⟨t, k, z, hz, rfl, hc2, hg2⟩
  have H2 := H1.out.drawn hc2 hg2
  have l2 := H2.size
  have H3 := hide (H2.var #[.int .i64 t, .int .i64 k, .string z] 56)
  clear hc2 hg2 H1 H2
  go_wp2_with fail
  refine (l01Below_any B p a len cap 30 (by decide) (by decide) _ H3.out.rs.cur).mono ?_
  rintro r w3 ⟨y, hy, rfl, hc3, hg3⟩
  have H4 := hide (H3.out.drawn hc3 hg3)
  clear hc3 hg3 H3
  by_cases y0 : y = 0
  · subst y0
    have H5 := hide (H4.out.alloc (.cells (I64z termL).toArray 3))
    have HO : Hid ((w3.alloc (.cells (I64z termL).toArray 3)).ownsRow w3.heap.size 3 1 (.slice (some ⟨w3.heap.size, 0, none⟩) 3 3) 3 (I64z termL)) := hide (World.ownsRow_lit (base := w3.heap.size) (size := 1) w3 (I64z termL).toArray 3 (Nat.le_refl _) (by decide) (by simp [I64z, termL]))
    have hp3 : p < w3.heap.size := H4.out.rs.cur.lt
    go_wp2_with fail
    refine (l01PickInt_any B p a len cap w3.heap.size _ termL (by decide) (by decide) _ hp3 HO.out H5.out.rs.cur).mono ?_
    rintro r w4 ⟨m, hm, rfl, hc4, hg4⟩
    have H6 := hide (H5.out.drawn hc4 hg4)
    clear hc4 hg4 H5 HO H4 hm hp3
    have r0 : w4.cell? ⟨w.heap.size, 0, none⟩ = some (.int .i64 0) := blk_cell H6.out.rs.rb 0 rfl
    have r1 : w4.cell? ⟨w.heap.size, 1, none⟩ = some (.int .i64 0) := blk_cell H6.out.rs.rb 1 rfl
    have r2 : w4.cell? ⟨w.heap.size, 2, none⟩ = some (.string ⟨#[]⟩) := blk_cell H6.out.rs.rb 2 rfl
    have y0 := blk_free H6.out.rs.rb 0
    have y1 := blk_free H6.out.rs.rb 1
    have y2 := blk_free H6.out.rs.rb 2
    have x0 : w4.cell? ⟨w2.heap.size, 0, none⟩ = some (.int .i64 t) := blk_cell H6.out.xb 0 rfl
    have x1 : w4.cell? ⟨w2.heap.size, 1, none⟩ = some (.int .i64 k) := blk_cell H6.out.xb 1 rfl
    have x2 : w4.cell? ⟨w2.heap.size, 2, none⟩ = some (.string z) := blk_cell H6.out.xb 2 rfl
    have u0 := blk_free H6.out.xb 0
    go_wp2_with fail
    obtain ⟨w6, hw6⟩ : ∃ w6, (w4.setCell ⟨w2.heap.size, 0, none⟩ (.int .i64 m)) = w6 := ⟨_, rfl⟩
    have HL : Hid (RvV B p a len cap w #[.int .i64 0, .int .i64 0, .string ⟨#[]⟩] 56 w2.heap.size #[.int .i64 m, .int .i64 k, .string z] 56 w6) := hide (by rw [← hw6]; exact H6.out.put 0 [.int .i64 m])
    rw [hw6]
    obtain ⟨w9, hw9⟩ : ∃ w9, (((w6.setCell ⟨w.heap.size, 0, none⟩ (.int .i64 m)).setCell ⟨w.heap.size, 1, none⟩ (.int .i64 k)).setCell ⟨w.heap.size, 2, none⟩ (.string z)) = w9 := ⟨_, rfl⟩
    obtain ⟨hr, hc9, hg9⟩ := HL.out.rs.ret [.int .i64 m, .int .i64 k, .string z]
    rw [show w6.setCells w.heap.size 0 [.int .i64 m, .int .i64 k, .string z] = w9 from hw9] at hr hc9 hg9
    rw [hw9]
    have q0 : w9.cell? ⟨w.heap.size, 0, none⟩ = some (.int .i64 m) := blk_cell hr 0 rfl
    have q1 : w9.cell? ⟨w.heap.size, 1, none⟩ = some (.int .i64 k) := blk_cell hr 1 rfl
    have q2 : w9.cell? ⟨w.heap.size, 2, none⟩ = some (.string z) := blk_cell hr 2 rfl
    exact bodyPost_ret (v := .agg #[.int .i64 m, .int .i64 k, .string z]) (by simp [results, Tryz.results39, go_sem, q0, q1, q2]) rfl ⟨m, k, z, hz, rfl, hc9, hg9⟩
  · have q0 : ((y : Int) == 0) = false := by rw [beq_eq_false_iff_ne]; omega
    by_cases y1 : y = 1
    · subst y1
      have H5 := hide (H4.out.alloc (.cells (I64z kind2L).toArray 3))
      have HO : Hid ((w3.alloc (.cells (I64z kind2L).toArray 3)).ownsRow w3.heap.size 3 1 (.slice (some ⟨w3.heap.size, 0, none⟩) 4 4) 4 (I64z kind2L)) := hide (World.ownsRow_lit (base := w3.heap.size) (size := 1) w3 (I64z kind2L).toArray 4 (Nat.le_refl _) (by decide) (by simp [I64z, kind2L]))
      have hp3 : p < w3.heap.size := H4.out.rs.cur.lt
      go_wp2_with fail
      refine (l01PickInt_any B p a len cap w3.heap.size _ kind2L (by decide) (by decide) _ hp3 HO.out H5.out.rs.cur).mono ?_
      rintro r w4 ⟨m, hm, rfl, hc4, hg4⟩
      have H6 := hide (H5.out.drawn hc4 hg4)
      clear hc4 hg4 H5 HO H4 hm hp3
      have r0 : w4.cell? ⟨w.heap.size, 0, none⟩ = some (.int .i64 0) := blk_cell H6.out.rs.rb 0 rfl
      have r1 : w4.cell? ⟨w.heap.size, 1, none⟩ = some (.int .i64 0) := blk_cell H6.out.rs.rb 1 rfl
      have r2 : w4.cell? ⟨w.heap.size, 2, none⟩ = some (.string ⟨#[]⟩) := blk_cell H6.out.rs.rb 2 rfl
      have y0 := blk_free H6.out.rs.rb 0
      have y1 := blk_free H6.out.rs.rb 1
      have y2 := blk_free H6.out.rs.rb 2
      have x0 : w4.cell? ⟨w2.heap.size, 0, none⟩ = some (.int .i64 t) := blk_cell H6.out.xb 0 rfl
      have x1 : w4.cell? ⟨w2.heap.size, 1, none⟩ = some (.int .i64 k) := blk_cell H6.out.xb 1 rfl
      have x2 : w4.cell? ⟨w2.heap.size, 2, none⟩ = some (.string z) := blk_cell H6.out.xb 2 rfl
      have u1 := blk_free H6.out.xb 1
      go_wp2_with fail
      obtain ⟨w6, hw6⟩ : ∃ w6, (w4.setCell ⟨w2.heap.size, 1, none⟩ (.int .i64 m)) = w6 := ⟨_, rfl⟩
      have HL : Hid (RvV B p a len cap w #[.int .i64 0, .int .i64 0, .string ⟨#[]⟩] 56 w2.heap.size #[.int .i64 t, .int .i64 m, .string z] 56 w6) := hide (by rw [← hw6]; exact H6.out.put 1 [.int .i64 m])
      rw [hw6]
      obtain ⟨w9, hw9⟩ : ∃ w9, (((w6.setCell ⟨w.heap.size, 0, none⟩ (.int .i64 t)).setCell ⟨w.heap.size, 1, none⟩ (.int .i64 m)).setCell ⟨w.heap.size, 2, none⟩ (.string z)) = w9 := ⟨_, rfl⟩
      obtain ⟨hr, hc9, hg9⟩ := HL.out.rs.ret [.int .i64 t, .int .i64 m, .string z]
      rw [show w6.setCells w.heap.size 0 [.int .i64 t, .int .i64 m, .string z] = w9 from hw9] at hr hc9 hg9
      rw [hw9]
      have q0 : w9.cell? ⟨w.heap.size, 0, none⟩ = some (.int .i64 t) := blk_cell hr 0 rfl
      have q1 : w9.cell? ⟨w.heap.size, 1, none⟩ = some (.int .i64 m) := blk_cell hr 1 rfl
      have q2 : w9.cell? ⟨w.heap.size, 2, none⟩ = some (.string z) := blk_cell hr 2 rfl
      exact bodyPost_ret (v := .agg #[.int .i64 t, .int .i64 m, .string z]) (by simp [results, Tryz.results39, go_sem, q0, q1, q2]) rfl ⟨t, m, z, hz, rfl, hc9, hg9⟩
    · have q1 : ((y : Int) == 1) = false := by rw [beq_eq_false_iff_ne]; omega
      by_cases y2 : y = 2
      · subst y2
        go_wp2_with fail
        refine (l01Below_any B p a len cap 2 (by decide) (by decide) _ H4.out.rs.cur).mono ?_
        rintro r w4 ⟨m, hm, rfl, hc4, hg4⟩
        have H5 := hide (H4.out.drawn hc4 hg4)
        clear hc4 hg4 H4
        go_wp2_with fail
        refine (l01Long_any (120 + m) (by omega) 65 _).mono ?_
        rintro r w5 ⟨l, hl, rfl, hb5⟩
        have H6 := hide (H5.out.on hb5)
        clear hb5 H5
        have hz2 : (⟨l.toArray⟩ : ByteArray).size ≤ 200 := by simp [ByteArray.size]; omega
        have r0 : w5.cell? ⟨w.heap.size, 0, none⟩ = some (.int .i64 0) := blk_cell H6.out.rs.rb 0 rfl
        have r1 : w5.cell? ⟨w.heap.size, 1, none⟩ = some (.int .i64 0) := blk_cell H6.out.rs.rb 1 rfl
        have r2 : w5.cell? ⟨w.heap.size, 2, none⟩ = some (.string ⟨#[]⟩) := blk_cell H6.out.rs.rb 2 rfl
        have y0 := blk_free H6.out.rs.rb 0
        have y1 := blk_free H6.out.rs.rb 1
        have y2 := blk_free H6.out.rs.rb 2
        have x0 : w5.cell? ⟨w2.heap.size, 0, none⟩ = some (.int .i64 t) := blk_cell H6.out.xb 0 rfl
        have x1 : w5.cell? ⟨w2.heap.size, 1, none⟩ = some (.int .i64 k) := blk_cell H6.out.xb 1 rfl
        have x2 : w5.cell? ⟨w2.heap.size, 2, none⟩ = some (.string z) := blk_cell H6.out.xb 2 rfl
        have u0 := blk_free H6.out.xb 0
        have u1 := blk_free H6.out.xb 1
        have u2 := blk_free H6.out.xb 2
        go_wp2_with fail
        obtain ⟨w6, hw6⟩ : ∃ w6, (((w5.setCell ⟨w2.heap.size, 0, none⟩ (.int .i64 0)).setCell ⟨w2.heap.size, 1, none⟩ (.int .i64 3)).setCell ⟨w2.heap.size, 2, none⟩ (.string ⟨l.toArray⟩)) = w6 := ⟨_, rfl⟩
        have HL : Hid (RvV B p a len cap w #[.int .i64 0, .int .i64 0, .string ⟨#[]⟩] 56 w2.heap.size #[.int .i64 0, .int .i64 3, .string ⟨l.toArray⟩] 56 w6) := hide (by rw [← hw6]; exact H6.out.put 0 [.int .i64 0, .int .i64 3, .string ⟨l.toArray⟩])
        rw [hw6]
        obtain ⟨w9, hw9⟩ : ∃ w9, (((w6.setCell ⟨w.heap.size, 0, none⟩ (.int .i64 0)).setCell ⟨w.heap.size, 1, none⟩ (.int .i64 3)).setCell ⟨w.heap.size, 2, none⟩ (.string ⟨l.toArray⟩)) = w9 := ⟨_, rfl⟩
        obtain ⟨hr, hc9, hg9⟩ := HL.out.rs.ret [.int .i64 0, .int .i64 3, .string ⟨l.toArray⟩]
        rw [show w6.setCells w.heap.size 0 [.int .i64 0, .int .i64 3, .string ⟨l.toArray⟩] = w9 from hw9] at hr hc9 hg9
        rw [hw9]
        have q0 : w9.cell? ⟨w.heap.size, 0, none⟩ = some (.int .i64 0) := blk_cell hr 0 rfl
        have q1 : w9.cell? ⟨w.heap.size, 1, none⟩ = some (.int .i64 3) := blk_cell hr 1 rfl
        have q2 : w9.cell? ⟨w.heap.size, 2, none⟩ = some (.string ⟨l.toArray⟩) := blk_cell hr 2 rfl
        exact bodyPost_ret (v := .agg #[.int .i64 0, .int .i64 3, .string ⟨l.toArray⟩]) (by simp [results, Tryz.results39, go_sem, q0, q1, q2]) rfl ⟨0, 3, ⟨l.toArray⟩, hz2, rfl, hc9, hg9⟩
      · have q2 : ((y : Int) == 2) = false := by rw [beq_eq_false_iff_ne]; omega
        have r0 : w3.cell? ⟨w.heap.size, 0, none⟩ = some (.int .i64 0) := blk_cell H4.out.rs.rb 0 rfl
        have r1 : w3.cell? ⟨w.heap.size, 1, none⟩ = some (.int .i64 0) := blk_cell H4.out.rs.rb 1 rfl
        have r2 : w3.cell? ⟨w.heap.size, 2, none⟩ = some (.string ⟨#[]⟩) := blk_cell H4.out.rs.rb 2 rfl
        have y0 := blk_free H4.out.rs.rb 0
        have y1 := blk_free H4.out.rs.rb 1
        have y2 := blk_free H4.out.rs.rb 2
        have x0 : w3.cell? ⟨w2.heap.size, 0, none⟩ = some (.int .i64 t) := blk_cell H4.out.xb 0 rfl
        have x1 : w3.cell? ⟨w2.heap.size, 1, none⟩ = some (.int .i64 k) := blk_cell H4.out.xb 1 rfl
        have x2 : w3.cell? ⟨w2.heap.size, 2, none⟩ = some (.string z) := blk_cell H4.out.xb 2 rfl
        go_wp2_with fail
        obtain ⟨w6, hw6⟩ : ∃ w6, w3 = w6 := ⟨_, rfl⟩
        have HL : Hid (RvV B p a len cap w #[.int .i64 0, .int .i64 0, .string ⟨#[]⟩] 56 w2.heap.size #[.int .i64 t, .int .i64 k, .string z] 56 w6) := hide (by rw [← hw6]; exact H4.out)
        rw [hw6]
        obtain ⟨w9, hw9⟩ : ∃ w9, (((w6.setCell ⟨w.heap.size, 0, none⟩ (.int .i64 t)).setCell ⟨w.heap.size, 1, none⟩ (.int .i64 k)).setCell ⟨w.heap.size, 2, none⟩ (.string z)) = w9 := ⟨_, rfl⟩
        obtain ⟨hr, hc9, hg9⟩ := HL.out.rs.ret [.int .i64 t, .int .i64 k, .string z]
        rw [show w6.setCells w.heap.size 0 [.int .i64 t, .int .i64 k, .string z] = w9 from hw9] at hr hc9 hg9
        rw [hw9]
        have q0 : w9.cell? ⟨w.heap.size, 0, none⟩ = some (.int .i64 t) := blk_cell hr 0 rfl
        have q1 : w9.cell? ⟨w.heap.size, 1, none⟩ = some (.int .i64 k) := blk_cell hr 1 rfl
        have q2 : w9.cell? ⟨w.heap.size, 2, none⟩ = some (.string z) := blk_cell hr 2 rfl
        exact bodyPost_ret (v := .agg #[.int .i64 t, .int .i64 k, .string z]) (by simp [results, Tryz.results39, go_sem, q0, q1, q2]) rfl ⟨t, k, z, hz, rfl, hc9, hg9⟩

end Go.Proofs.YtmllcomppjkhhaaGreatDoor

namespace Go.Proofs.YtmllcomppjkhhaaGreatDoor
open Go.RowKit P1 P9 K
attribute [local go_sem ↓] Go.wp_at_zero Go.wp_at_succ
set_option linter.unusedVariables false
set_option linter.unusedSimpArgs false

def confL : List Int := [0, 4, 5, 1]

set_option maxHeartbeats 2000000 in
theorem l05AnyConf_any (B p : Nat) (a : Option Addr) (len cap : Nat) (w : World) (hB : B ≤ w.heap.size) (hc : CurAt B w p a len cap) :
    Calls Tryz.prog 41 #[.pointer (some ⟨p, 0, none⟩)] w fun e w' => ∃ (l : List Int) (v : Value), ConfIn 5 0 5 l ∧ e = .returned v ∧ Drawing B p a len cap w 3 v l.length (l.map icell) w' := by
  go_enter Tryz.func41, Tryz.ntmps41
  go_wp2_with fail
  refine (l05Conf_any B p a len cap _ hB hc).mono ?_
  rintro e w1 ⟨l, v, hl, rfl, hd⟩
  have hl5 : ConfIn 4 0 5 l := ⟨hl.1, fun z hz => by have := hl.2 z hz; omega⟩
  have HL := hide hl5
  have hl4 := hl.1
  have HD := hide hd
  clear hc hl hd hl5
  go_wp2_with fail
  refine (l01Below_any B p a len cap 12 (by decide) (by decide) _ HD.out.cur).mono ?_
  rintro e w2 ⟨y, hy, rfl, hc2, hg2⟩
  have HD2 := hide (HD.out.drawn hc2 hg2)
  have hsz : w.heap.size ≤ w2.heap.size := HD2.out.grown.size
  clear hc2 hg2 HD
  by_cases y0 : y = 0
  · subst y0
    have hl2 : p < w2.heap.size := HD2.out.cur.lt
    have hba : w2.grownBy (w2.alloc (.cells (I64z confL).toArray 3)) (some p) := World.grownBy_alloc w2 _ _
    have hca := HD2.out.cur.kept ((Below.refl _ _).alloc (by omega) (.cells (I64z confL).toArray 3)) (Below.heap_alloc _ _ p hl2)
    have HD3 := hide (HD2.out.drawn hca hba)
    have HO : Hid ((w2.alloc (.cells (I64z confL).toArray 3)).ownsRow w2.heap.size 3 1 (.slice (some ⟨w2.heap.size, 0, none⟩) 4 4) 4 (I64z confL)) := hide (World.ownsRow_lit (base := w2.heap.size) (size := 1) w2 (I64z confL).toArray 4 (Nat.le_refl _) (by decide) (by simp [I64z, confL]))
    clear hba hca HD2
    go_wp2_with fail
    refine (l01PickInt_any B p a len cap w2.heap.size _ confL (by decide) (by decide) _ hl2 HO.out HD3.out.cur).mono ?_
    rintro e w3 ⟨m, hm, rfl, hc3, hg3⟩
    have HD4 := hide (HD3.out.drawn hc3 hg3)
    have hm5 : 0 ≤ m ∧ m ≤ 5 := by simp [confL] at hm; omega
    have hsz3 : w.heap.size ≤ w3.heap.size := HD4.out.grown.size
    clear hc3 hg3 HD3 HO hm
    go_wp2_with (at_builtin; refine wpList_push_raw rfl _ _ 25 rfl Tryz.underlying25 infoInt rfl rfl HD4.out.own rfl rfl hsz3 (by unfold maxLen; omega) (by omega) ?_)
    intro v' w4 hown4 hg4
    have hd4 := HD4.out.pushed hB hown4 hg4
    rw [icell_snoc] at hd4
    have HD5 := hide hd4
    clear hown4 hg4 hd4 HD4
    go_wp2_with fail
    go_ret
    exact ⟨l ++ [m], _, HL.out.snoc m hm5.1 hm5.2, rfl, by simpa using HD5.out⟩
  · have q0 : ((y : Int) == 0) = false := by rw [beq_eq_false_iff_ne]; omega
    by_cases y1 : y = 1
    · subst y1
      have hl2 : p < w2.heap.size := HD2.out.cur.lt
      have hs2 : B ≤ w2.heap.size := by omega
      have HD3 := hide (Drawing.start (e := 3) hs2 HD2.out.cur)
      go_wp2_with fail
      go_ret
      refine ⟨[], _, ⟨by decide, by simp⟩, rfl, ?_⟩
      have hd3 := HD3.out
      exact ⟨own_mono hd3.own hsz, hd3.cur, grownBy_trans HD2.out.grown hd3.grown, HD2.out.lt⟩
    · have q1 : ((y : Int) == 1) = false := by rw [beq_eq_false_iff_ne]; omega
      go_wp2_with fail
      go_ret
      exact ⟨l, _, HL.out.mono (by decide), rfl, HD2.out⟩

end Go.Proofs.YtmllcomppjkhhaaGreatDoor
