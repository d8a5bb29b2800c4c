/-
  Walks and mathematics of RoomW1.
-/
import Derived.Test.YtckkfjmjcknjdaaSHRoomArg
import Derived.Test.YtckkfjmjcknjdaaSHEvs2
import Derived.Test.YtckkfjmjcknjdaaSHEvs3
import Derived.Test.YtckkfjmjcknjdaaSHWalk10a
import Derived.Deep.Cut
namespace Go.Proofs.Ytckkfjmjcknjdaa.P1
end Go.Proofs.Ytckkfjmjcknjdaa.P1
namespace Go.Proofs.Ytckkfjmjcknjdaa.P11
end Go.Proofs.Ytckkfjmjcknjdaa.P11
namespace Go.Proofs.Ytckkfjmjcknjdaa.P14
end Go.Proofs.Ytckkfjmjcknjdaa.P14
namespace Go.Proofs.Ytckkfjmjcknjdaa.P3
end Go.Proofs.Ytckkfjmjcknjdaa.P3
namespace Go.Proofs.Ytckkfjmjcknjdaa.P5
end Go.Proofs.Ytckkfjmjcknjdaa.P5
namespace Go.Proofs.Ytckkfjmjcknjdaa
open Go.RowKit P1 P3 P5 P9 P11 P12 P14 K
set_option linter.unusedVariables false
set_option linter.unusedSimpArgs false

abbrev roomv (oa : Option Addr) (n cap : Nat) (so : Option Addr) (sn sc : Nat) (go : Option Addr) (gn gc : Nat) : Value := .agg #[.slice oa n cap, .slice so sn sc, .slice go gn gc]

def stW (ss : List (List (Int × Int))) : Nat := (ss.map List.length).sum

theorem stW_take {ss : List (List (Int × Int))} {j : Nat} {s : List (Int × Int)} (h : ss[j]? = some s) : stW (ss.take (j + 1)) = stW (ss.take j) + s.length := by
  unfold stW
  rw [List.take_add_one, h]
  simp

theorem stW_mem : ∀ {ss : List (List (Int × Int))} {s : List (Int × Int)}, s ∈ ss → s.length ≤ stW ss
  | x :: r, s, h => by
    unfold stW
    rw [List.map_cons, List.sum_cons]
    rcases List.mem_cons.1 h with rfl | h
    · omega
    · have := stW_mem h
      unfold stW at this
      omega

theorem infoLS : (Try.prog.info? 98).map (·.size) = some 1 := by kernel_rfl

theorem infoB1 : (Try.prog.info? 4).map (·.size) = some 1 := by kernel_rfl

theorem szItemS_at (oa : Option Addr) (n cap : Nat) (hn : n ≤ maxLen) (left : Int) (h0 : 0 ≤ left) (h1 : left ≤ 1048576) (w : World) :
    Calls Try.prog 73 #[.slice oa n cap, .int .i64 left] w fun e w' => e = .returned (.int .i64 (if left - n < 0 then -1 else left - n)) ∧ w' = w := by
  unfold maxLen at hn
  by_cases c1 : left - n < 0
  · have g1 : decide (left - (n : Int) < 0) = true := by simpa using c1
    rw [if_pos c1]
    go_enter Try.func73, Try.ntmps73
    go_wp2_with fail
    go_ret
    exact ⟨rfl, rfl⟩
  · have g1 : decide (left - (n : Int) < 0) = false := by simpa using c1
    rw [if_neg c1]
    go_enter Try.func73, Try.ntmps73
    go_wp2_with fail
    go_ret
    exact ⟨rfl, rfl⟩

theorem szBoolS_at (oa : Option Addr) (n cap : Nat) (hn : n ≤ maxLen) (left : Int) (h0 : 0 ≤ left) (h1 : left ≤ 1048576) (w : World) :
    Calls Try.prog 52 #[.slice oa n cap, .int .i64 left] w fun e w' => e = .returned (.int .i64 (if left - n < 0 then -1 else left - n)) ∧ w' = w := by
  unfold maxLen at hn
  by_cases c1 : left - n < 0
  · have g1 : decide (left - (n : Int) < 0) = true := by simpa using c1
    rw [if_pos c1]
    go_enter Try.func52, Try.ntmps52
    go_wp2_with fail
    go_ret
    exact ⟨rfl, rfl⟩
  · have g1 : decide (left - (n : Int) < 0) = false := by simpa using c1
    rw [if_neg c1]
    go_enter Try.func52, Try.ntmps52
    go_wp2_with fail
    go_ret
    exact ⟨rfl, rfl⟩

def SzS (w : World) (ss : List (List (Int × Int))) (left : Int) (e : Ending) (w' : World) : Prop := ∃ z : Int, e = .returned (.int .i64 z) ∧ z ≤ left ∧ (0 ≤ z → z + (stW ss : Int) + (ss.length : Int) = left) ∧ w' = w

set_option maxHeartbeats 2000000 in
theorem szItemSS_any (oa : Option Addr) (n cap : Nat) (ss : List (List (Int × Int))) (left : Int) (h0 : 0 ≤ left) (h1 : left ≤ 1048576) (w : World) (hat : StsAt w oa n cap ss) :
    Calls Try.prog 51 #[.slice oa n cap, .int .i64 left] w (SzS w ss left) := by
  have hn := hat.len
  have hmx := Nat.le_trans hat.room hat.most
  unfold maxLen at hmx
  by_cases c1 : left - n < 0
  · go_enter Try.func51, Try.ntmps51
    go_wp2_with fail
    go_ret
    exact ⟨-1, rfl, by omega, fun h => by omega, rfl⟩
  · have HN := hide hn
    have HAT := hide hat
    clear hn hat
    go_enter Try.func51, Try.ntmps51
    go_wp2_with fail
    go_loop [5, 1] (fun i l => ∃ (j : Nat) (x : Int), i = .int .i64 (j : Int) ∧ l = .int .i64 x ∧ j ≤ n ∧ 0 ≤ x ∧ x ≤ left ∧ x + (stW (ss.take j) : Int) + (n : Int) = left) (fun i _ => n - (intOf i).toNat)
    case atStart => exact ⟨0, left - n, rfl, rfl, Nat.zero_le _, by omega, by omega, by simp [stW]⟩
    case round =>
      obtain ⟨j, x, rfl, rfl, hj, hx0, hx1, hsum⟩ := hrel
      have HSUM := hide hsum
      clear hsum
      by_cases hlt : j < n
      · have j0 : (j : Int) < (n : Int) := by omega
        obtain ⟨s, b, q, xa, xc, hs, hidx, hc, hits⟩ := HAT.out.get Try.underlying37 infoLS j hlt
        have HC := hide (szItemS_at xa s.length xc (Nat.le_trans hits.room hits.most) x hx0 (by omega))
        have HT := hide (stW_take hs)
        have hsl := Nat.le_trans hits.room hits.most
        unfold maxLen at hsl
        clear hits hs
        by_cases c2 : x - s.length < 0
        · rw [if_pos c2] at HC
          go_wp2_with (go_at_call 73; refine (HC.out _).mono ?_; rintro e' w2 ⟨rfl, rfl⟩)
          go_ret
          exact ⟨-1, rfl, by omega, fun h => by omega, rfl⟩
        · rw [if_neg c2] at HC
          have HS2 := hide (show x - (s.length : Int) + (stW (ss.take (j + 1)) : Int) + (n : Int) = left by
            have := HSUM.out
            rw [HT.out]
            omega)
          have hx2 : 0 ≤ x - (s.length : Int) := by omega
          have hx3 : x - (s.length : Int) ≤ left := by omega
          generalize x - (s.length : Int) = y at HC HS2 hx2 hx3
          have g2 : ¬ y < 0 := by omega
          clear HT c2
          go_wp2_with (go_at_call 73; refine (HC.out _).mono ?_; rintro e' w2 ⟨rfl, rfl⟩)
          go_round
          case rel => exact ⟨j + 1, y, by go_num, rfl, by omega, hx2, hx3, HS2.out⟩
          case measure => simp [intOf]; omega
      · have HE := hide (show ss.take j = ss from List.take_of_length_le (by rw [HN.out]; omega))
        go_wp2_with fail
        go_ret
        refine ⟨x, rfl, hx1, fun _ => ?_, rfl⟩
        have := HSUM.out
        rw [HE.out] at this
        rw [HN.out]
        exact this

structure FineR (es : List EvV) (ss : List (List (Int × Int))) (gs : List Bool) : Prop where
  ev : FineE es
  sl : ss.length ≤ 1048576
  sw : stW ss ≤ 1048576
  gl : gs.length ≤ 1048576

def SzRl (w : World) (es : List EvV) (ss : List (List (Int × Int))) (gs : List Bool) (left : Int) (e : Ending) (w' : World) : Prop := ∃ z : Int, e = .returned (.int .i64 z) ∧ z ≤ left ∧ (0 ≤ z → FineR es ss gs) ∧ Below w.heap.size w w'

set_option maxHeartbeats 2000000 in
theorem szRoom_at (left : Int) (h0 : 0 ≤ left) (h1 : left ≤ 1048576) (oa : Option Addr) (n cap : Nat) (es : List EvV) (so : Option Addr) (sn sc : Nat) (ss : List (List (Int × Int))) (go : Option Addr) (gn gc : Nat) (gs : List Bool) (w : World) (hev : EvsAt w oa n cap es) (hst : StsAt w so sn sc ss) (hgs : BoolsAt w go gn gc gs) :
    Calls Try.prog 24 #[roomv oa n cap so sn sc go gn gc, .int .i64 left] w (SzRl w es ss gs left) := by
  obtain ⟨W0, hW0⟩ : ∃ W0, w.alloc (.cells #[.slice oa n cap, .slice so sn sc, .slice go gn gc] 39) = W0 := ⟨_, rfl⟩
  have hb0 : Below w.heap.size w W0 := by rw [← hW0]; exact (Below.refl _ _).alloc (Nat.le_refl _) _
  have hR0 : W0.heap[w.heap.size]? = some (.cells #[.slice oa n cap, .slice so sn sc, .slice go gn gc] 39 (0, 0)) := by rw [← hW0]; exact heap_alloc_new _ _
  have r0 := blk_cell hR0 0 rfl
  have HSE := hide (szEventS_any oa n cap es left h0 h1 W0 (hev.below hb0))
  have HST := hide (hst.below hb0)
  have hgm := Nat.le_trans hgs.room hgs.most
  have HGL := hide hgs.len
  have HR0 := hide hR0
  have HB0 := hide hb0
  have HW0 := hide hW0
  clear hev hst hgs hR0 hb0 hW0
  go_enter Try.func24, Try.ntmps24
  go_upto_region 1 with fail
  rw [HW0.out]
  clear HW0
  go_upto_region 2 with (go_at_call 50; (with_reducible refine HSE.out.mono ?_); rintro r w1 ⟨z1, rfl, hz1, hf1, hb1⟩)
  have hR1 := (hb1.block w.heap.size (blk_lt HR0.out)).trans HR0.out
  have r1 := blk_cell hR1 1 rfl
  have r2 := blk_cell hR1 2 rfl
  have HB1 := hide (HB0.out.trans (hb1.mono HB0.out.size))
  have HS1 := hide (HST.out.below hb1)
  have HF1 := hide hf1
  clear hb1 hR1 hf1 r0 HSE HST
  by_cases c1 : z1 < 0
  · go_wp2_with fail
    go_ret
    exact ⟨-1, rfl, by omega, fun h => by omega, HB1.out⟩
  · have HSS := hide (szItemSS_any so sn sc ss z1 (by omega) (by omega) w1 HS1.out)
    go_upto_region 5 with (go_at_call 51; (with_reducible refine HSS.out.mono ?_); rintro r w2 ⟨z2, rfl, hz2, hf2, rfl⟩)
    by_cases c2 : z2 < 0
    · go_wp2_with fail
      go_ret
      exact ⟨-1, rfl, by omega, fun h => by omega, HB1.out⟩
    · have HBB := hide (szBoolS_at go gn gc hgm z2 (by omega) (by omega))
      have HF2 := hide hf2
      clear hf2
      by_cases c3 : z2 - gn < 0
      · rw [if_pos c3] at HBB
        go_wp2_with (go_at_call 52; (with_reducible refine (HBB.out _).mono ?_); rintro r w3 ⟨rfl, rfl⟩)
        go_ret
        exact ⟨-1, rfl, by omega, fun h => by omega, HB1.out⟩
      · rw [if_neg c3] at HBB
        have HFR := hide (show FineR es ss gs from by
          have h1 := HF1.out (by omega)
          have h2 := HF2.out (by omega)
          have h3 := HGL.out
          exact ⟨⟨by omega, by omega⟩, by omega, by omega, by omega⟩)
        have hyl : z2 - (gn : Int) ≤ left := by omega
        generalize z2 - (gn : Int) = y at HBB c3 hyl
        clear HF1 HF2
        go_wp2_with (go_at_call 52; (with_reducible refine (HBB.out _).mono ?_); rintro r w3 ⟨rfl, rfl⟩)
        go_ret
        exact ⟨y, rfl, hyl, fun _ => HFR.out, HB1.out⟩

end Go.Proofs.Ytckkfjmjcknjdaa
