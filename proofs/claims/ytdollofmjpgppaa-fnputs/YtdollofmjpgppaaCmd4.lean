/-
  The hall as commands are drawn in it: HallNew, and the first event of an empty room.
-/
import Derived.Test.YtdollofmjpgppaaCmd3
import Derived.Test.YtdollofmjpgppaaRowK
namespace Go.Proofs.Ytdollofmjpgppaa
open Go.RowKit P1 P9 K
set_option linter.unusedVariables false
set_option linter.unusedSimpArgs false

/-- A hall whose room is empty. -/
def hallV (os : Option Addr) (ns cs : Nat) (oo : Option Addr) (no co : Nat) : Value := .agg #[.slice os ns cs, .slice none 0 0, .slice none 0 0, .slice none 0 0, .slice oo no co]

theorem infoOut : (Try.prog.info? 92).map (fun i => (i.zero, i.size, i.bytes)) = some (some (.agg #[.int .i64 0, .int .i64 0, .slice none 0 0]), 3, 40) := by kernel_rfl

/-- What the loop of HallNew carries. -/
structure HnRel (w : World) (j : Nat) (wr : World) : Prop where
  bel : Below w.heap.size w wr
  res : wr.heap[w.heap.size]? = some (.cells #[.slice none 0 0, .slice none 0 0, .slice none 0 0, .slice none 0 0, .slice none 0 0] 79 (0, 0))
  out : ∃ (oo : Option Addr) (co : Nat) (xs : List Value), wr.heap[w.heap.size + 1]? = some (.cells #[.slice none 0 0, .slice none 0 0, .slice none 0 0, .slice none 0 0, .slice oo j co] 79 (0, 0)) ∧ wr.ownsRow (w.heap.size + 2) 92 3 (.slice oo j co) j xs

set_option maxHeartbeats 2000000 in
theorem hallNew_any (w : World) :
    Calls Try.prog 44 #[] w fun e w' => ∃ (oo : Option Addr) (no co : Nat), e = .returned (hallV none 0 0 oo no co) ∧ Below w.heap.size w w' := by
  have K0 := ((Below.refl w.heap.size w).alloc (Nat.le_refl _) (.cells #[.slice none 0 0, .slice none 0 0, .slice none 0 0, .slice none 0 0, .slice none 0 0] 79)).alloc (by simp) (.cells #[.slice none 0 0, .slice none 0 0, .slice none 0 0, .slice none 0 0, .slice none 0 0] 79)
  have R0 : HnRel w 0 ((w.alloc (.cells #[.slice none 0 0, .slice none 0 0, .slice none 0 0, .slice none 0 0, .slice none 0 0] 79)).alloc (.cells #[.slice none 0 0, .slice none 0 0, .slice none 0 0, .slice none 0 0, .slice none 0 0] 79)) := by
    refine ⟨K0, ?_, none, 0, [], ?_, World.ownsRow_nil _ _ _ _⟩
    · exact (((Below.refl (w.heap.size + 1) (w.alloc (.cells #[.slice none 0 0, .slice none 0 0, .slice none 0 0, .slice none 0 0, .slice none 0 0] 79))).alloc (by simp) _).block _ (Nat.lt_succ_self _)).trans (heap_alloc_new _ _)
    · have := heap_alloc_new (w.alloc (.cells #[.slice none 0 0, .slice none 0 0, .slice none 0 0, .slice none 0 0, .slice none 0 0] 79)) (.cells #[.slice none 0 0, .slice none 0 0, .slice none 0 0, .slice none 0 0, .slice none 0 0] 79)
      simpa using this
  have HR0 := hide R0
  clear R0 K0
  go_enter Try.func44, Try.ntmps44
  go_wp2_with fail
  go_loopw [2] (fun i wr => ∃ j : Nat, i = .int .i64 ((j : Int) + 1) ∧ j ≤ 2 ∧ HnRel w j wr) (fun i _ => 3 - (intOf i).toNat)
  case atStart => exact ⟨0, rfl, by omega, HR0.out⟩
  case round =>
    obtain ⟨j, rfl, hj, hbel, hres, oo, co, xs, hout, hown⟩ := hrel
    have c4 := blk_cell hout 4 rfl
    have z4 := blk_free hout 4
    have hl1 := blk_lt hout
    have HOUT := hide hout
    have HRES := hide hres
    have HBEL := hide hbel
    by_cases hlt : j < 2
    · have j0 : (j : Int) + 1 ≤ 2 := by omega
      clear hout hres hbel
      go_wp2_with (at_builtin; refine wpList_pushK (W := wr) rfl _ _ 77 rfl (by decide) Try.underlying77 infoOut rfl rfl hown rfl rfl (by simp [Value.oneCell']) (Below.refl _ _) (by omega) (by unfold maxLen; omega) (by omega) ?_)
      intro v' w1 hown' hb1 hs1
      obtain ⟨o2, c2, rfl⟩ := row_form hown'
      have hout1 := (hb1.block (w.heap.size + 1) (by omega)).trans HOUT.out
      have hres1 := (hb1.block w.heap.size (by omega)).trans HRES.out
      have hz1 := blk_free hout1 4
      have hc1 := blk_cell hout1 4 rfl
      have hsz := HBEL.out.size
      have R2 : HnRel w (j + 1) (w1.setCell ⟨w.heap.size + 1, 4, none⟩ (.slice o2 (j + 1) c2)) := by
        have hg := blk_grown w1 (w.heap.size + 1) 4 (.slice o2 (j + 1) c2)
        refine ⟨(HBEL.out.trans (hb1.mono (by omega))).setCell (by simp) _, ?_, o2, c2, _, blk_set (k := 4) _ hout1, own_setCell hown' (by simp) _⟩
        exact (hg.block _ (by have := hb1.size; omega) (fun e => by have := Option.some.inj e; omega)).trans hres1
      have HR2 := hide R2
      clear R2 hown' hown hout1 hres1 c4 z4
      go_wp2_with fail
      go_roundw
      case rel => exact ⟨j + 1, by go_num, by omega, HR2.out⟩
      case measure => simp [intOf]; omega
    · have j0 : ¬ (j : Int) + 1 ≤ 2 := by omega
      have q0 := blk_cell hout 0 rfl
      have q1 := blk_cell hout 1 rfl
      have q2 := blk_cell hout 2 rfl
      have q3 := blk_cell hout 3 rfl
      have r0 := blk_cell hres 0 rfl
      have r1 := blk_cell hres 1 rfl
      have r2 := blk_cell hres 2 rfl
      have r3 := blk_cell hres 3 rfl
      have r4 := blk_cell hres 4 rfl
      have y0 := blk_free hres 0
      have y1 := blk_free hres 1
      have y2 := blk_free hres 2
      have y3 := blk_free hres 3
      have y4 := blk_free hres 4
      clear hout hres hbel hown
      go_wp2_with fail
      obtain ⟨w9, hw9⟩ : ∃ w9, ((((wr.setCell ⟨w.heap.size, 0, none⟩ (.slice none 0 0)).setCell ⟨w.heap.size, 1, none⟩ (.slice none 0 0)).setCell ⟨w.heap.size, 2, none⟩ (.slice none 0 0)).setCell ⟨w.heap.size, 3, none⟩ (.slice none 0 0)).setCell ⟨w.heap.size, 4, none⟩ (.slice oo j co) = w9 := ⟨_, rfl⟩
      have h9 := blk_setAll [.slice none 0 0, .slice none 0 0, .slice none 0 0, .slice none 0 0, .slice oo j co] wr _ 0 HRES.out
      rw [show wr.setCells w.heap.size 0 [.slice none 0 0, .slice none 0 0, .slice none 0 0, .slice none 0 0, .slice oo j co] = w9 from hw9] at h9
      have h91 : w9.heap[w.heap.size]? = some (.cells #[.slice none 0 0, .slice none 0 0, .slice none 0 0, .slice none 0 0, .slice oo j co] 79 (0, 0)) := h9.1
      have q0 := blk_cell h91 0 rfl
      have q1 := blk_cell h91 1 rfl
      have q2 := blk_cell h91 2 rfl
      have q3 := blk_cell h91 3 rfl
      have q4 := blk_cell h91 4 rfl
      rw [hw9]
      exact bodyPost_ret (v := hallV none 0 0 oo j co) (by simp [results, Try.results44, go_sem, hallV, q0, q1, q2, q3, q4]) rfl ⟨⟨oo, j, co, rfl⟩, HBEL.out.grown h9.2 HBEL.out.size (fun k hk => by cases hk; exact Nat.le_refl _)⟩

set_option maxHeartbeats 1000000 in
theorem l12Next_first (p : Nat) (id : Int) (w : World) :
    Calls Try.prog 52 #[.pointer (some ⟨p, 0, none⟩), .agg #[.slice none 0 0, .slice none 0 0, .slice none 0 0], .int .i64 id] w fun e w' => e = .returned (evV id 1 1 none 0) ∧ Below w.heap.size w w' := by
  have HB := hide (((Below.refl w.heap.size w).alloc (Nat.le_refl _) (.cells #[.slice none 0 0, .slice none 0 0, .slice none 0 0] 76)).alloc (by simp) (.cells #[.int .i64 id, .int .i64 1, .int .i64 1, .int .i64 0, .int .i64 0, .slice none 0 0, .string ⟨#[]⟩, .slice none 0 0, .int .i64 0] 58))
  go_enter Try.func52, Try.ntmps52
  go_wp2_with fail
  exact bodyPost_ret (v := evV id 1 1 none 0) (by simp [results, Try.results52, go_sem, evV]) rfl ⟨rfl, HB.out⟩

end Go.Proofs.Ytdollofmjpgppaa
