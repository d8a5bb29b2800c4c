/-
  Draws of chapter 5: DrawEntryText and DrawConfText.
-/
import Derived.Test.YteilmhlhddihpaaDraw9
namespace Go.Proofs.Yteilmhlhddihpaa
open Go.RowKit P1 P9 K
attribute [local go_sem ↓] Go.wp_at_zero Go.wp_at_succ
set_option linter.unusedVariables false
set_option linter.unusedSimpArgs false

set_option maxHeartbeats 2000000 in
theorem drawEntryText_any (B : Nat) (a : Option Addr) (len cap : Nat) (w : World) (hlen : len ≤ 1048576) (hB : B ≤ w.heap.size) (hcode : CodeAt B w a len) :
    Calls Try.prog 5 #[.slice a len cap] w fun e w' => ∃ (i t k : Int) (z : ByteArray), z.size ≤ 200 ∧ e = .returned (.tuple #[.int .i64 i, .agg #[.int .i64 t, .int .i64 k, .string z]]) ∧ Below w.heap.size w w' := by
  have hb0 : Below w.heap.size w (w.alloc (.cells #[.int .i64 0, .int .i64 0, .string ⟨#[]⟩] 25)) := (Below.refl _ _).alloc (Nat.le_refl _) _
  have HC := hide (show CodeAt B (w.alloc (.cells #[.int .i64 0, .int .i64 0, .string ⟨#[]⟩] 25)) a len from hcode.below (hb0.mono hB))
  have h0 := heap_alloc_new w (.cells #[.int .i64 0, .int .i64 0, .string ⟨#[]⟩] 25)
  have hs0 : (w.alloc (.cells #[.int .i64 0, .int .i64 0, .string ⟨#[]⟩] 25)).heap.size = w.heap.size + 1 := by simp
  have HB0 := hide hb0
  have HH0 := hide h0
  clear hcode hb0 h0
  go_enter Try.func5, Try.ntmps5
  go_wp2_with fail
  refine (l01New_any B a len cap _ hlen (by omega) HC.out).mono ?_
  rintro e w1 ⟨rfl, hc1, hb1⟩
  have hs1 := hb1.size
  have hh1 := (hb1.block w.heap.size (by omega)).trans HH0.out
  have HB1 := hide (HB0.out.trans (hb1.mono (by omega)))
  rw [hs0] at hc1
  have HH1 := hide hh1
  have HC1 := hide hc1
  clear hb1 hh1 hc1 HB0 HH0 HC
  try rw [hs0]
  go_wp2_with fail
  refine (l05Index_any B (w.heap.size + 1) a len cap _ (by omega) HC1.out).mono ?_
  rintro e w2 ⟨i, hi0, hi1, rfl, hc2, hg2⟩
  have hs2 := hg2.size
  have HH2 := hide ((hg2.block w.heap.size (by omega) (fun e => by have := Option.some.inj e; omega)).trans HH1.out)
  have HB2 := hide (HB1.out.grown hg2 HB1.out.size (fun k hk => by cases hk; omega))
  have HC2 := hide hc2
  clear hc2 hg2 HH1 HB1 HC1
  go_wp2_with fail
  refine (l05Any_any B (w.heap.size + 1) a len cap _ (by omega) HC2.out).mono ?_
  rintro e w3 ⟨t, k, z, hz, rfl, hc3, hg3⟩
  have hs3 := hg3.size
  have hh3 := (hg3.block w.heap.size (by omega) (fun e => by have := Option.some.inj e; omega)).trans HH2.out
  have HB3 := hide (HB2.out.grown hg3 HB2.out.size (fun k hk => by cases hk; omega))
  have r0 : w3.cell? ⟨w.heap.size, 0, none⟩ = some (.int .i64 0) := blk_cell hh3 0 rfl
  have r1 : w3.cell? ⟨w.heap.size, 1, none⟩ = some (.int .i64 0) := blk_cell hh3 1 rfl
  have r2 : w3.cell? ⟨w.heap.size, 2, none⟩ = some (.string ⟨#[]⟩) := blk_cell hh3 2 rfl
  have y0 := blk_free hh3 0
  have y1 := blk_free hh3 1
  have y2 := blk_free hh3 2
  have HH3 := hide hh3
  clear hc3 hg3 hh3 HH2 HB2 HC2
  go_wp2_with fail
  obtain ⟨w9, hw9⟩ : ∃ w9, (((w3.setCell ⟨w.heap.size, 0, none⟩ (.int .i64 t)).setCell ⟨w.heap.size, 1, none⟩ (.int .i64 k)).setCell ⟨w.heap.size, 2, none⟩ (.string z)) = w9 := ⟨_, rfl⟩
  obtain ⟨hr, hg9⟩ := blk_setAll [.int .i64 t, .int .i64 k, .string z] w3 _ 0 HH3.out
  rw [show w3.setCells w.heap.size 0 [.int .i64 t, .int .i64 k, .string z] = w9 from hw9] at hr hg9
  rw [hw9]
  have q0 : w9.cell? ⟨w.heap.size, 0, none⟩ = some (.int .i64 t) := blk_cell hr 0 rfl
  have q1 : w9.cell? ⟨w.heap.size, 1, none⟩ = some (.int .i64 k) := blk_cell hr 1 rfl
  have q2 : w9.cell? ⟨w.heap.size, 2, none⟩ = some (.string z) := blk_cell hr 2 rfl
  exact bodyPost_ret (v := .tuple #[.int .i64 i, .agg #[.int .i64 t, .int .i64 k, .string z]]) (by simp [results, Try.results5, go_sem, q0, q1, q2]) rfl ⟨i, t, k, z, hz, rfl, HB3.out.grown hg9 HB3.out.size (fun k hk => by cases hk; omega)⟩

def confL : List Int := [0, 4, 5, 1]

set_option maxHeartbeats 2000000 in
theorem l05AnyConf_any (B p : Nat) (a : Option Addr) (len cap : Nat) (w : World) (hB : B ≤ w.heap.size) (hc : CurAt B w p a len cap) :
    Calls Try.prog 29 #[.pointer (some ⟨p, 0, none⟩)] w fun e w' => ∃ (l : List Int) (v : Value), ConfIn 5 0 5 l ∧ e = .returned v ∧ Drawing B p a len cap w 3 v l.length (l.map icell) w' := by
  go_enter Try.func29, Try.ntmps29
  go_wp2_with fail
  refine (l05Conf_any B p a len cap _ hB hc).mono ?_
  rintro e w1 ⟨l, v, hl, rfl, hd⟩
  have hl5 : ConfIn 4 0 5 l := ⟨hl.1, fun z hz => by have := hl.2 z hz; omega⟩
  have HL := hide hl5
  have hl4 := hl.1
  have HD := hide hd
  clear hc hl hd hl5
  go_wp2_with fail
  refine (l01Below_any B p a len cap 12 (by decide) (by decide) _ HD.out.cur).mono ?_
  rintro e w2 ⟨y, hy, rfl, hc2, hg2⟩
  have HD2 := hide (HD.out.drawn hc2 hg2)
  have hsz : w.heap.size ≤ w2.heap.size := HD2.out.grown.size
  clear hc2 hg2 HD
  by_cases y0 : y = 0
  · subst y0
    have hl2 : p < w2.heap.size := HD2.out.cur.lt
    have hba : w2.grownBy (w2.alloc (.cells (I64z confL).toArray 3)) (some p) := World.grownBy_alloc w2 _ _
    have hca := HD2.out.cur.kept ((Below.refl _ _).alloc (by omega) (.cells (I64z confL).toArray 3)) (Below.heap_alloc _ _ p hl2)
    have HD3 := hide (HD2.out.drawn hca hba)
    have HO : Hid ((w2.alloc (.cells (I64z confL).toArray 3)).ownsRow w2.heap.size 3 1 (.slice (some ⟨w2.heap.size, 0, none⟩) 4 4) 4 (I64z confL)) := hide (World.ownsRow_lit (base := w2.heap.size) (size := 1) w2 (I64z confL).toArray 4 (Nat.le_refl _) (by decide) (by simp [I64z, confL]))
    clear hba hca HD2
    go_wp2_with fail
    refine (l01PickInt_any B p a len cap w2.heap.size _ confL (by decide) (by decide) _ hl2 HO.out HD3.out.cur).mono ?_
    rintro e w3 ⟨m, hm, rfl, hc3, hg3⟩
    have HD4 := hide (HD3.out.drawn hc3 hg3)
    have hm5 : 0 ≤ m ∧ m ≤ 5 := by simp [confL] at hm; omega
    have hsz3 : w.heap.size ≤ w3.heap.size := HD4.out.grown.size
    clear hc3 hg3 HD3 HO hm
    go_wp2_with (at_builtin; refine wpList_push_raw rfl _ _ 32 rfl Try.underlying32 infoInt rfl rfl HD4.out.own rfl rfl hsz3 (by unfold maxLen; omega) (by omega) ?_)
    intro v' w4 hown4 hg4
    have hd4 := HD4.out.pushed hB hown4 hg4
    rw [icell_snoc] at hd4
    have HD5 := hide hd4
    clear hown4 hg4 hd4 HD4
    go_wp2_with fail
    go_ret
    exact ⟨l ++ [m], _, HL.out.snoc m hm5.1 hm5.2, rfl, by simpa using HD5.out⟩
  · have q0 : ((y : Int) == 0) = false := by rw [beq_eq_false_iff_ne]; omega
    by_cases y1 : y = 1
    · subst y1
      have hl2 : p < w2.heap.size := HD2.out.cur.lt
      have hs2 : B ≤ w2.heap.size := by omega
      have HD3 := hide (Drawing.start (e := 3) hs2 HD2.out.cur)
      go_wp2_with fail
      go_ret
      refine ⟨[], _, ⟨by decide, by simp⟩, rfl, ?_⟩
      have hd3 := HD3.out
      exact ⟨own_mono hd3.own hsz, hd3.cur, grownBy_trans HD2.out.grown hd3.grown, HD2.out.lt⟩
    · have q1 : ((y : Int) == 1) = false := by rw [beq_eq_false_iff_ne]; omega
      go_wp2_with fail
      go_ret
      exact ⟨l, _, HL.out.mono (by decide), rfl, HD2.out⟩

theorem drawConfText_any (B : Nat) (a : Option Addr) (len cap : Nat) (w : World) (hlen : len ≤ 1048576) (hB : B ≤ w.heap.size) (hcode : CodeAt B w a len) :
    Calls Try.prog 9 #[.slice a len cap] w fun e w' => ∃ (l : List Int) (v : Value), ConfIn 5 0 5 l ∧ e = .returned v ∧ w'.ownsRow w.heap.size 3 1 v l.length (l.map icell) ∧ Below w.heap.size w w' := by
  have HC := hide hcode
  clear hcode
  go_enter Try.func9, Try.ntmps9
  go_wp2_with fail
  refine (l01New_any B a len cap _ hlen (by omega) HC.out).mono ?_
  rintro e w1 ⟨rfl, hc1, hb1⟩
  have hs1 := hb1.size
  go_wp2_with fail
  refine (l05AnyConf_any B w.heap.size a len cap _ (by omega) hc1).mono ?_
  rintro e w2 ⟨l, v, hl, rfl, hd⟩
  have HD := hide hd
  have HL := hide hl
  have HB := hide (hb1.grown hd.grown hb1.size (fun k hk => by cases hk; exact Nat.le_refl _))
  clear hc1 hb1 hd hl
  go_wp2_with fail
  go_ret
  exact ⟨l, _, HL.out, rfl, own_mono HD.out.own hs1, HB.out⟩

end Go.Proofs.Yteilmhlhddihpaa
