/-
  Walks and mathematics of Cmd7.
-/
import Derived.Test.YtmllcomppjkhhaaGreatDoorRCmd6
import Derived.Test.YtmllcomppjkhhaaGreatDoorRRv
namespace Go.Proofs.YtmllcomppjkhhaaGreatDoor
open Go.RowKit P1 P9 K
attribute [local go_sem ↓] Go.wp_at_zero Go.wp_at_succ
set_option linter.unusedVariables false
set_option linter.unusedSimpArgs false

set_option maxHeartbeats 4000000 in
theorem l14Right_any (B p : Nat) (a : Option Addr) (len cap : Nat) (w : World) (hB : B ≤ w.heap.size) (hc : CurAt B w p a len cap) :
    Calls Tryz.prog 83 #[.pointer (some ⟨p, 0, none⟩)] w (CmPost B p a len cap w) := by
  have H0 := hide (RvS.start hB hc (cmdC 0 0 0 0 0 0 none 0 0 0) 122)
  clear hc
  go_enter Tryz.func83, Tryz.ntmps83
  go_wp2_with fail
  refine (hallNew_any _).mono ?_
  rintro r w1 ⟨oo, no, co, rfl, hb1⟩
  have H1 := hide ((H0.out.on hb1).var #[.slice none 0 0, .slice none 0 0, .slice none 0 0, .slice none 0 0, .slice oo no co] 151)
  clear hb1 H0
  unfold hallV
  go_wp2_with fail
  refine (l01Below_any B p a len cap 5 (by decide) (by decide) _ H1.out.rs.cur).mono ?_
  rintro r w2 ⟨x, hx, rfl, hc2, hg2⟩
  have H2 := hide (H1.out.drawn hc2 hg2)
  clear H1 hc2 hg2
  go_wp2_with fail
  refine (l01Below_any B p a len cap 4 (by decide) (by decide) _ H2.out.rs.cur).mono ?_
  rintro r w3 ⟨y, hy, rfl, hc3, hg3⟩
  have H3 := hide (H2.out.drawn hc3 hg3)
  clear H2 hc3 hg3
  have c0 := blk_cell H3.out.xb 0 rfl
  have c1 := blk_cell H3.out.xb 1 rfl
  have c2 := blk_cell H3.out.xb 2 rfl
  have c3 := blk_cell H3.out.xb 3 rfl
  have c4 := blk_cell H3.out.xb 4 rfl
  have f0 := blk_free H3.out.xb 0
  have l1 := blk_lt H3.out.xb
  go_wp2_with fail
  obtain ⟨w4, hw4⟩ : ∃ w4, w3.setCell ⟨w1.heap.size, 0, none⟩ (.slice (some ⟨w3.heap.size, 0, none⟩) 1 1) = w4 := ⟨_, rfl⟩
  have hs4 : w4.heap.size = w3.heap.size := by rw [← hw4]; simp
  have H4 : Hid (RvV B p a len cap w (cmdC 0 0 0 0 0 0 none 0 0 0) 122 w1.heap.size #[.slice (some ⟨w3.heap.size, 0, none⟩) 1 1, .slice none 0 0, .slice none 0 0, .slice none 0 0, .slice oo no co] 151 w4) := hide (by rw [← hw4]; exact H3.out.put 0 [.slice (some ⟨w3.heap.size, 0, none⟩) 1 1])
  have hs3 := H3.out.rs.size
  have hp := H3.out.rs.hp
  rw [hw4]
  clear c0 c1 c2 c3 c4 f0 l1 H3
  have hsb : (w4.alloc (.cells #[.int .i64 ((1 + x : Nat) : Int), .int .i64 (y : Int), .string ⟨#[]⟩] 154)).heap[w3.heap.size]? = some (.cells #[.int .i64 ((1 + x : Nat) : Int), .int .i64 (y : Int), .string ⟨#[]⟩] 154 (0, 0)) := by rw [← hs4]; exact heap_alloc_new _ _
  have H5 := hide (H4.out.alloc (.cells #[.int .i64 ((1 + x : Nat) : Int), .int .i64 (y : Int), .string ⟨#[]⟩] 154))
  have hB5 : B ≤ (w4.alloc (.cells #[.int .i64 ((1 + x : Nat) : Int), .int .i64 (y : Int), .string ⟨#[]⟩] 154)).heap.size := by have := H5.out.rs.size; omega
  refine (l13Command_any B p a len cap w3.heap.size (1 + x) y oo no co (w4.alloc (.cells #[.int .i64 ((1 + x : Nat) : Int), .int .i64 (y : Int), .string ⟨#[]⟩] 154)) hB5 H5.out.rs.cur hsb (by omega) (by omega) (by omega)).mono ?_
  rintro r w6 ⟨o, t, s, id, kd, sd, op, cp, d, u, hin, rfl, hc6, hg6⟩
  have H6 := hide (H5.out.rs.drawn hc6 hg6)
  have HIN := hide hin
  clear hc6 hg6 H5 H4 hsb hB5 hin hw4
  have b0 : w6.cell? ⟨w.heap.size, 0, none⟩ = some (.int .i64 0) := blk_cell H6.out.rb 0 rfl
  have b1 : w6.cell? ⟨w.heap.size, 1, none⟩ = some (.int .i64 0) := blk_cell H6.out.rb 1 rfl
  have b2 : w6.cell? ⟨w.heap.size, 2, none⟩ = some (.int .i64 0) := blk_cell H6.out.rb 2 rfl
  have b3 : w6.cell? ⟨w.heap.size, 3, none⟩ = some (.int .i64 0) := blk_cell H6.out.rb 3 rfl
  have b4 : w6.cell? ⟨w.heap.size, 4, none⟩ = some (.int .i64 0) := blk_cell H6.out.rb 4 rfl
  have b5 : w6.cell? ⟨w.heap.size, 5, none⟩ = some (.int .i64 0) := blk_cell H6.out.rb 5 rfl
  have b6 : w6.cell? ⟨w.heap.size, 6, none⟩ = some (.int .i64 0) := blk_cell H6.out.rb 6 rfl
  have b7 : w6.cell? ⟨w.heap.size, 7, none⟩ = some (.int .i64 0) := blk_cell H6.out.rb 7 rfl
  have b8 : w6.cell? ⟨w.heap.size, 8, none⟩ = some (.slice none 0 0) := blk_cell H6.out.rb 8 rfl
  have b9 : w6.cell? ⟨w.heap.size, 9, none⟩ = some (.string ⟨#[]⟩) := blk_cell H6.out.rb 9 rfl
  have b10 : w6.cell? ⟨w.heap.size, 10, none⟩ = some (.slice none 0 0) := blk_cell H6.out.rb 10 rfl
  have b11 : w6.cell? ⟨w.heap.size, 11, none⟩ = some (.int .i64 0) := blk_cell H6.out.rb 11 rfl
  have b12 : w6.cell? ⟨w.heap.size, 12, none⟩ = some (.int .i64 0) := blk_cell H6.out.rb 12 rfl
  have b13 : w6.cell? ⟨w.heap.size, 13, none⟩ = some (.int .i64 0) := blk_cell H6.out.rb 13 rfl
  have f0 := blk_free H6.out.rb 0
  have f1 := blk_free H6.out.rb 1
  have f2 := blk_free H6.out.rb 2
  have f3 := blk_free H6.out.rb 3
  have f4 := blk_free H6.out.rb 4
  have f5 := blk_free H6.out.rb 5
  have f6 := blk_free H6.out.rb 6
  have f7 := blk_free H6.out.rb 7
  have f8 := blk_free H6.out.rb 8
  have f9 := blk_free H6.out.rb 9
  have f10 := blk_free H6.out.rb 10
  have f11 := blk_free H6.out.rb 11
  have f12 := blk_free H6.out.rb 12
  have f13 := blk_free H6.out.rb 13
  unfold cmdV
  go_wp2_with fail
  obtain ⟨w9, hw9⟩ : ∃ w9, ((((((((((((((w6.setCell ⟨w.heap.size, 0, none⟩ (.int .i64 (o : Int))).setCell ⟨w.heap.size, 1, none⟩ (.int .i64 (t : Int))).setCell ⟨w.heap.size, 2, none⟩ (.int .i64 (s : Int))).setCell ⟨w.heap.size, 3, none⟩ (.int .i64 id)).setCell ⟨w.heap.size, 4, none⟩ (.int .i64 kd)).setCell ⟨w.heap.size, 5, none⟩ (.int .i64 sd)).setCell ⟨w.heap.size, 6, none⟩ (.int .i64 0)).setCell ⟨w.heap.size, 7, none⟩ (.int .i64 0)).setCell ⟨w.heap.size, 8, none⟩ (.slice none 0 0)).setCell ⟨w.heap.size, 9, none⟩ (.string ⟨#[]⟩)).setCell ⟨w.heap.size, 10, none⟩ (.slice op 0 cp)).setCell ⟨w.heap.size, 11, none⟩ (.int .i64 0)).setCell ⟨w.heap.size, 12, none⟩ (.int .i64 d)).setCell ⟨w.heap.size, 13, none⟩ (.int .i64 u)) = w9 := ⟨_, rfl⟩
  obtain ⟨hr, hc9, hg9⟩ := H6.out.ret (cmdC (o : Int) t s id kd sd op cp d u).toList
  rw [setArr_cmdC] at hr
  rw [show w6.setCells w.heap.size 0 (cmdC (o : Int) t s id kd sd op cp d u).toList = w9 from hw9] at hr hc9 hg9
  rw [hw9]
  clear b0 f0 b1 f1 b2 f2 b3 f3 b4 f4 b5 f5 b6 f6 b7 f7 b8 f8 b9 f9 b10 f10 b11 f11 b12 f12 b13 f13
  have q0 : w9.cell? ⟨w.heap.size, 0, none⟩ = some (.int .i64 (o : Int)) := blk_cell hr 0 rfl
  have q1 : w9.cell? ⟨w.heap.size, 1, none⟩ = some (.int .i64 (t : Int)) := blk_cell hr 1 rfl
  have q2 : w9.cell? ⟨w.heap.size, 2, none⟩ = some (.int .i64 (s : Int)) := blk_cell hr 2 rfl
  have q3 : w9.cell? ⟨w.heap.size, 3, none⟩ = some (.int .i64 id) := blk_cell hr 3 rfl
  have q4 : w9.cell? ⟨w.heap.size, 4, none⟩ = some (.int .i64 kd) := blk_cell hr 4 rfl
  have q5 : w9.cell? ⟨w.heap.size, 5, none⟩ = some (.int .i64 sd) := blk_cell hr 5 rfl
  have q6 : w9.cell? ⟨w.heap.size, 6, none⟩ = some (.int .i64 0) := blk_cell hr 6 rfl
  have q7 : w9.cell? ⟨w.heap.size, 7, none⟩ = some (.int .i64 0) := blk_cell hr 7 rfl
  have q8 : w9.cell? ⟨w.heap.size, 8, none⟩ = some (.slice none 0 0) := blk_cell hr 8 rfl
  have q9 : w9.cell? ⟨w.heap.size, 9, none⟩ = some (.string ⟨#[]⟩) := blk_cell hr 9 rfl
  have q10 : w9.cell? ⟨w.heap.size, 10, none⟩ = some (.slice op 0 cp) := blk_cell hr 10 rfl
  have q11 : w9.cell? ⟨w.heap.size, 11, none⟩ = some (.int .i64 0) := blk_cell hr 11 rfl
  have q12 : w9.cell? ⟨w.heap.size, 12, none⟩ = some (.int .i64 d) := blk_cell hr 12 rfl
  have q13 : w9.cell? ⟨w.heap.size, 13, none⟩ = some (.int .i64 u) := blk_cell hr 13 rfl
  exact bodyPost_ret (v := cmdV (o : Int) t s id kd sd op cp d u) (by simp [results, Tryz.results83, go_sem, cmdV, evV, q0, q1, q2, q3, q4, q5, q6, q7, q8, q9, q10, q11, q12, q13]) rfl ⟨o, t, s, id, kd, sd, op, cp, d, u, HIN.out, rfl, hc9, hg9⟩

end Go.Proofs.YtmllcomppjkhhaaGreatDoor
