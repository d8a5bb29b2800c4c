/-
  A command drawn: l14Right. What a function with a result's variable and one more variable carries.
-/
import Derived.Test.YteilmhlhddihpaaCmd6
namespace Go.Proofs.Yteilmhlhddihpaa
open Go.RowKit P1 P9 K
attribute [local go_sem ↓] Go.wp_at_zero Go.wp_at_succ
set_option linter.unusedVariables false
set_option linter.unusedSimpArgs false

/-- The cursor, and the answer's variable. -/
structure RvS (B p : Nat) (a : Option Addr) (len cap : Nat) (w : World) (Z : Array Value) (T : TypeId) (wr : World) : Prop where
  cur : CurAt B wr p a len cap
  gr : w.grownBy wr (some p)
  rb : wr.heap[w.heap.size]? = some (.cells Z T (0, 0))
  hp : p < w.heap.size
  hB : B ≤ w.heap.size

/-- And one more variable. -/
structure RvV (B p : Nat) (a : Option Addr) (len cap : Nat) (w : World) (Z : Array Value) (T : TypeId) (b : Nat) (X : Array Value) (U : TypeId) (wr : World) : Prop where
  rs : RvS B p a len cap w Z T wr
  xb : wr.heap[b]? = some (.cells X U (0, 0))
  hb : w.heap.size < b

section
variable {B p : Nat} {a : Option Addr} {len cap : Nat} {w : World} {Z : Array Value} {T : TypeId} {b : Nat} {X : Array Value} {U : TypeId} {w1 w2 : World}

theorem RvS.start (hB : B ≤ w.heap.size) (hc : CurAt B w p a len cap) (Z : Array Value) (T : TypeId) : RvS B p a len cap w Z T (w.alloc (.cells Z T)) := by
  have hb : Below w.heap.size w (w.alloc (.cells Z T)) := (Below.refl _ _).alloc (Nat.le_refl _) _
  exact ⟨hc.kept (hb.mono hB) (hb.block p hc.lt), grown_below hb, heap_alloc_new _ _, hc.lt, hB⟩

theorem RvS.size (h : RvS B p a len cap w Z T w1) : w.heap.size < w1.heap.size := blk_lt h.rb

theorem RvS.drawn (h : RvS B p a len cap w Z T w1) (hc : CurAt B w2 p a len cap) (hg : w1.grownBy w2 (some p)) : RvS B p a len cap w Z T w2 :=
  ⟨hc, grown_trans h.gr hg, (hg.block _ h.size (fun e => by have := Option.some.inj e; have := h.hp; omega)).trans h.rb, h.hp, h.hB⟩

theorem RvS.on (h : RvS B p a len cap w Z T w1) (hb : Below w1.heap.size w1 w2) : RvS B p a len cap w Z T w2 := by
  have h1 := h.hp
  have h2 := h.size
  have h3 := h.hB
  exact ⟨h.cur.kept (hb.mono (by omega)) (hb.block p (by omega)), grown_trans h.gr (grown_below hb), (hb.block _ h2).trans h.rb, h1, h3⟩

theorem RvS.alloc (h : RvS B p a len cap w Z T w1) (o : Obj) : RvS B p a len cap w Z T (w1.alloc o) := h.on ((Below.refl _ _).alloc (Nat.le_refl _) _)

theorem RvS.ret (h : RvS B p a len cap w Z T w1) (vs : List Value) :
    (w1.setCells w.heap.size 0 vs).heap[w.heap.size]? = some (.cells (setArr Z 0 vs) T (0, 0)) ∧ CurAt B (w1.setCells w.heap.size 0 vs) p a len cap ∧ w.grownBy (w1.setCells w.heap.size 0 vs) (some p) := by
  have h1 := h.hp
  have h3 := h.hB
  have hs := h.size
  obtain ⟨hx, hg⟩ := blk_setAll vs w1 _ 0 h.rb
  have hbel : Below B w1 (w1.setCells w.heap.size 0 vs) := (Below.refl B w1).grown hg (by omega) (fun k hk => by cases hk; omega)
  refine ⟨hx, h.cur.kept hbel (hg.block p (by omega) (fun e => by have := Option.some.inj e; omega)), ?_⟩
  exact ⟨hg.os.trans h.gr.os, hg.tape.trans h.gr.tape, hg.output.trans h.gr.output, Nat.le_trans h.gr.size hg.size, fun i hi hne => (hg.block i (Nat.lt_of_lt_of_le hi h.gr.size) (fun e => by have := Option.some.inj e; omega)).trans (h.gr.block i hi hne)⟩

theorem RvS.var (h : RvS B p a len cap w Z T w1) (X : Array Value) (U : TypeId) : RvV B p a len cap w Z T w1.heap.size X U (w1.alloc (.cells X U)) := ⟨h.alloc _, heap_alloc_new _ _, h.size⟩

theorem RvV.drawn (h : RvV B p a len cap w Z T b X U w1) (hc : CurAt B w2 p a len cap) (hg : w1.grownBy w2 (some p)) : RvV B p a len cap w Z T b X U w2 :=
  ⟨h.rs.drawn hc hg, (hg.block _ (blk_lt h.xb) (fun e => by have := Option.some.inj e; have := h.rs.hp; have := h.hb; omega)).trans h.xb, h.hb⟩

theorem RvV.on (h : RvV B p a len cap w Z T b X U w1) (hb : Below w1.heap.size w1 w2) : RvV B p a len cap w Z T b X U w2 := ⟨h.rs.on hb, (hb.block _ (blk_lt h.xb)).trans h.xb, h.hb⟩

theorem RvV.alloc (h : RvV B p a len cap w Z T b X U w1) (o : Obj) : RvV B p a len cap w Z T b X U (w1.alloc o) := h.on ((Below.refl _ _).alloc (Nat.le_refl _) _)

theorem RvV.put (h : RvV B p a len cap w Z T b X U w1) (o : Nat) (vs : List Value) : RvV B p a len cap w Z T b (setArr X o vs) U (w1.setCells b o vs) := by
  have h1 := h.rs.hp
  have h2 := h.hb
  have h3 := h.rs.hB
  have h4 := blk_lt h.xb
  obtain ⟨hx, hg⟩ := blk_setAll vs w1 X o h.xb
  have hbel : Below B w1 (w1.setCells b o vs) := (Below.refl B w1).grown hg (by omega) (fun k hk => by cases hk; omega)
  refine ⟨⟨h.rs.cur.kept hbel (hg.block p (by omega) (fun e => by have := Option.some.inj e; omega)), ?_, (hg.block _ (by omega) (fun e => by have := Option.some.inj e; omega)).trans h.rs.rb, h1, h3⟩, hx, h2⟩
  exact ⟨hg.os.trans h.rs.gr.os, hg.tape.trans h.rs.gr.tape, hg.output.trans h.rs.gr.output, Nat.le_trans h.rs.gr.size hg.size, fun i hi hne => (hg.block i (Nat.lt_of_lt_of_le hi h.rs.gr.size) (fun e => by have := Option.some.inj e; omega)).trans (h.rs.gr.block i hi hne)⟩
end

set_option maxHeartbeats 4000000 in
theorem l14Right_any (B p : Nat) (a : Option Addr) (len cap : Nat) (w : World) (hB : B ≤ w.heap.size) (hc : CurAt B w p a len cap) :
    Calls Try.prog 44 #[.pointer (some ⟨p, 0, none⟩)] w (CmPost B p a len cap w) := by
  have H0 := hide (RvS.start hB hc (cmdC 0 0 0 0 0 0 none 0 0 0) 75)
  clear hc
  go_enter Try.func44, Try.ntmps44
  go_wp2_with fail
  refine (hallNew_any _).mono ?_
  rintro r w1 ⟨oo, no, co, rfl, hb1⟩
  have H1 := hide ((H0.out.on hb1).var #[.slice none 0 0, .slice none 0 0, .slice none 0 0, .slice none 0 0, .slice oo no co] 90)
  clear hb1 H0
  unfold hallV
  go_wp2_with fail
  refine (l01Below_any B p a len cap 5 (by decide) (by decide) _ H1.out.rs.cur).mono ?_
  rintro r w2 ⟨x, hx, rfl, hc2, hg2⟩
  have H2 := hide (H1.out.drawn hc2 hg2)
  clear H1 hc2 hg2
  go_wp2_with fail
  refine (l01Below_any B p a len cap 4 (by decide) (by decide) _ H2.out.rs.cur).mono ?_
  rintro r w3 ⟨y, hy, rfl, hc3, hg3⟩
  have H3 := hide (H2.out.drawn hc3 hg3)
  clear H2 hc3 hg3
  have c0 := blk_cell H3.out.xb 0 rfl
  have c1 := blk_cell H3.out.xb 1 rfl
  have c2 := blk_cell H3.out.xb 2 rfl
  have c3 := blk_cell H3.out.xb 3 rfl
  have c4 := blk_cell H3.out.xb 4 rfl
  have f0 := blk_free H3.out.xb 0
  have l1 := blk_lt H3.out.xb
  go_wp2_with fail
  obtain ⟨w4, hw4⟩ : ∃ w4, w3.setCell ⟨w1.heap.size, 0, none⟩ (.slice (some ⟨w3.heap.size, 0, none⟩) 1 1) = w4 := ⟨_, rfl⟩
  have hs4 : w4.heap.size = w3.heap.size := by rw [← hw4]; simp
  have H4 : Hid (RvV B p a len cap w (cmdC 0 0 0 0 0 0 none 0 0 0) 75 w1.heap.size #[.slice (some ⟨w3.heap.size, 0, none⟩) 1 1, .slice none 0 0, .slice none 0 0, .slice none 0 0, .slice oo no co] 90 w4) := hide (by rw [← hw4]; exact H3.out.put 0 [.slice (some ⟨w3.heap.size, 0, none⟩) 1 1])
  have hs3 := H3.out.rs.size
  have hp := H3.out.rs.hp
  rw [hw4]
  clear c0 c1 c2 c3 c4 f0 l1 H3
  have hsb : (w4.alloc (.cells #[.int .i64 ((1 + x : Nat) : Int), .int .i64 (y : Int), .string ⟨#[]⟩] 93)).heap[w3.heap.size]? = some (.cells #[.int .i64 ((1 + x : Nat) : Int), .int .i64 (y : Int), .string ⟨#[]⟩] 93 (0, 0)) := by rw [← hs4]; exact heap_alloc_new _ _
  have H5 := hide (H4.out.alloc (.cells #[.int .i64 ((1 + x : Nat) : Int), .int .i64 (y : Int), .string ⟨#[]⟩] 93))
  have hB5 : B ≤ (w4.alloc (.cells #[.int .i64 ((1 + x : Nat) : Int), .int .i64 (y : Int), .string ⟨#[]⟩] 93)).heap.size := by have := H5.out.rs.size; omega
  refine (l13Command_any B p a len cap w3.heap.size (1 + x) y oo no co (w4.alloc (.cells #[.int .i64 ((1 + x : Nat) : Int), .int .i64 (y : Int), .string ⟨#[]⟩] 93)) hB5 H5.out.rs.cur hsb (by omega) (by omega) (by omega)).mono ?_
  rintro r w6 ⟨o, t, s, id, kd, sd, op, cp, d, u, hin, rfl, hc6, hg6⟩
  have H6 := hide (H5.out.rs.drawn hc6 hg6)
  have HIN := hide hin
  clear hc6 hg6 H5 H4 hsb hB5 hin hw4
  have b0 : w6.cell? ⟨w.heap.size, 0, none⟩ = some (.int .i64 0) := blk_cell H6.out.rb 0 rfl
  have b1 : w6.cell? ⟨w.heap.size, 1, none⟩ = some (.int .i64 0) := blk_cell H6.out.rb 1 rfl
  have b2 : w6.cell? ⟨w.heap.size, 2, none⟩ = some (.int .i64 0) := blk_cell H6.out.rb 2 rfl
  have b3 : w6.cell? ⟨w.heap.size, 3, none⟩ = some (.int .i64 0) := blk_cell H6.out.rb 3 rfl
  have b4 : w6.cell? ⟨w.heap.size, 4, none⟩ = some (.int .i64 0) := blk_cell H6.out.rb 4 rfl
  have b5 : w6.cell? ⟨w.heap.size, 5, none⟩ = some (.int .i64 0) := blk_cell H6.out.rb 5 rfl
  have b6 : w6.cell? ⟨w.heap.size, 6, none⟩ = some (.int .i64 0) := blk_cell H6.out.rb 6 rfl
  have b7 : w6.cell? ⟨w.heap.size, 7, none⟩ = some (.int .i64 0) := blk_cell H6.out.rb 7 rfl
  have b8 : w6.cell? ⟨w.heap.size, 8, none⟩ = some (.slice none 0 0) := blk_cell H6.out.rb 8 rfl
  have b9 : w6.cell? ⟨w.heap.size, 9, none⟩ = some (.string ⟨#[]⟩) := blk_cell H6.out.rb 9 rfl
  have b10 : w6.cell? ⟨w.heap.size, 10, none⟩ = some (.slice none 0 0) := blk_cell H6.out.rb 10 rfl
  have b11 : w6.cell? ⟨w.heap.size, 11, none⟩ = some (.int .i64 0) := blk_cell H6.out.rb 11 rfl
  have b12 : w6.cell? ⟨w.heap.size, 12, none⟩ = some (.int .i64 0) := blk_cell H6.out.rb 12 rfl
  have b13 : w6.cell? ⟨w.heap.size, 13, none⟩ = some (.int .i64 0) := blk_cell H6.out.rb 13 rfl
  have f0 := blk_free H6.out.rb 0
  have f1 := blk_free H6.out.rb 1
  have f2 := blk_free H6.out.rb 2
  have f3 := blk_free H6.out.rb 3
  have f4 := blk_free H6.out.rb 4
  have f5 := blk_free H6.out.rb 5
  have f6 := blk_free H6.out.rb 6
  have f7 := blk_free H6.out.rb 7
  have f8 := blk_free H6.out.rb 8
  have f9 := blk_free H6.out.rb 9
  have f10 := blk_free H6.out.rb 10
  have f11 := blk_free H6.out.rb 11
  have f12 := blk_free H6.out.rb 12
  have f13 := blk_free H6.out.rb 13
  unfold cmdV
  go_wp2_with fail
  obtain ⟨w9, hw9⟩ : ∃ w9, ((((((((((((((w6.setCell ⟨w.heap.size, 0, none⟩ (.int .i64 (o : Int))).setCell ⟨w.heap.size, 1, none⟩ (.int .i64 (t : Int))).setCell ⟨w.heap.size, 2, none⟩ (.int .i64 (s : Int))).setCell ⟨w.heap.size, 3, none⟩ (.int .i64 id)).setCell ⟨w.heap.size, 4, none⟩ (.int .i64 kd)).setCell ⟨w.heap.size, 5, none⟩ (.int .i64 sd)).setCell ⟨w.heap.size, 6, none⟩ (.int .i64 0)).setCell ⟨w.heap.size, 7, none⟩ (.int .i64 0)).setCell ⟨w.heap.size, 8, none⟩ (.slice none 0 0)).setCell ⟨w.heap.size, 9, none⟩ (.string ⟨#[]⟩)).setCell ⟨w.heap.size, 10, none⟩ (.slice op 0 cp)).setCell ⟨w.heap.size, 11, none⟩ (.int .i64 0)).setCell ⟨w.heap.size, 12, none⟩ (.int .i64 d)).setCell ⟨w.heap.size, 13, none⟩ (.int .i64 u)) = w9 := ⟨_, rfl⟩
  obtain ⟨hr, hc9, hg9⟩ := H6.out.ret (cmdC (o : Int) t s id kd sd op cp d u).toList
  rw [setArr_cmdC] at hr
  rw [show w6.setCells w.heap.size 0 (cmdC (o : Int) t s id kd sd op cp d u).toList = w9 from hw9] at hr hc9 hg9
  rw [hw9]
  clear b0 f0 b1 f1 b2 f2 b3 f3 b4 f4 b5 f5 b6 f6 b7 f7 b8 f8 b9 f9 b10 f10 b11 f11 b12 f12 b13 f13
  have q0 : w9.cell? ⟨w.heap.size, 0, none⟩ = some (.int .i64 (o : Int)) := blk_cell hr 0 rfl
  have q1 : w9.cell? ⟨w.heap.size, 1, none⟩ = some (.int .i64 (t : Int)) := blk_cell hr 1 rfl
  have q2 : w9.cell? ⟨w.heap.size, 2, none⟩ = some (.int .i64 (s : Int)) := blk_cell hr 2 rfl
  have q3 : w9.cell? ⟨w.heap.size, 3, none⟩ = some (.int .i64 id) := blk_cell hr 3 rfl
  have q4 : w9.cell? ⟨w.heap.size, 4, none⟩ = some (.int .i64 kd) := blk_cell hr 4 rfl
  have q5 : w9.cell? ⟨w.heap.size, 5, none⟩ = some (.int .i64 sd) := blk_cell hr 5 rfl
  have q6 : w9.cell? ⟨w.heap.size, 6, none⟩ = some (.int .i64 0) := blk_cell hr 6 rfl
  have q7 : w9.cell? ⟨w.heap.size, 7, none⟩ = some (.int .i64 0) := blk_cell hr 7 rfl
  have q8 : w9.cell? ⟨w.heap.size, 8, none⟩ = some (.slice none 0 0) := blk_cell hr 8 rfl
  have q9 : w9.cell? ⟨w.heap.size, 9, none⟩ = some (.string ⟨#[]⟩) := blk_cell hr 9 rfl
  have q10 : w9.cell? ⟨w.heap.size, 10, none⟩ = some (.slice op 0 cp) := blk_cell hr 10 rfl
  have q11 : w9.cell? ⟨w.heap.size, 11, none⟩ = some (.int .i64 0) := blk_cell hr 11 rfl
  have q12 : w9.cell? ⟨w.heap.size, 12, none⟩ = some (.int .i64 d) := blk_cell hr 12 rfl
  have q13 : w9.cell? ⟨w.heap.size, 13, none⟩ = some (.int .i64 u) := blk_cell hr 13 rfl
  exact bodyPost_ret (v := cmdV (o : Int) t s id kd sd op cp d u) (by simp [results, Try.results44, go_sem, cmdV, evV, q0, q1, q2, q3, q4, q5, q6, q7, q8, q9, q10, q11, q12, q13]) rfl ⟨o, t, s, id, kd, sd, op, cp, d, u, HIN.out, rfl, hc9, hg9⟩

end Go.Proofs.Yteilmhlhddihpaa
