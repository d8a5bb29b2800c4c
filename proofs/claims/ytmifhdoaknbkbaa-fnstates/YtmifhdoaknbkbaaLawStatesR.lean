/-
  The law FnStates: its walk.
-/
import Derived.Test.YtmifhdoaknbkbaaWalk10q
import Derived.Test.YtmifhdoaknbkbaaWalk10e
import Derived.Test.YtmifhdoaknbkbaaQuietIn
namespace Go.Proofs.Ytmifhdoaknbkbaa
open Go.RowKit P1 P3 P5 P9 P11 P12 P14 P15 K
set_option linter.unusedVariables false
set_option linter.unusedSimpArgs false

set_option maxHeartbeats 4000000 in
theorem sameState_any (oa : Option Addr) (n cap : Nat) (s : St) (ob : Option Addr) (m cb : Nat) (t : St) (w : World) (hat : ItemsAt w oa n cap s) (hbt : ItemsAt w ob m cb t) :
    Calls Try.prog 10 #[.slice oa n cap, .slice ob m cb] w fun e w' => e = .returned (.bool (decide (s = t))) ∧ Drew w w' := by
  have hmx := Nat.le_trans hat.room hat.most
  unfold maxLen at hmx
  have HN := hide hat.len
  have HM := hide hbt.len
  have HAT := hide hat
  have HBT := hide hbt
  clear hat hbt
  by_cases hnm : n = m
  · subst hnm
    go_enter Try.func10, Try.ntmps10
    go_wp2_with fail
    go_loopw [5] (fun i wr => ∃ (j : Nat), i = .int .i64 (j : Int) ∧ j ≤ n ∧ s.take j = t.take j ∧ Drew w wr) (fun i _ => n - (intOf i).toNat)
    case atStart => exact ⟨0, rfl, Nat.zero_le _, rfl, ⟨0, rfl⟩⟩
    case round =>
      obtain ⟨j, rfl, hj, hsame, hdr⟩ := hrel
      obtain ⟨dn, rfl⟩ := hdr
      by_cases hlt : j < n
      · have j0 : (j : Int) < (n : Int) := by omega
        obtain ⟨x, b, q, hx, hidx, hb, c0, c1⟩ := HAT.out.get Try.underlying24 infoII j hlt
        obtain ⟨y, b2, q2, hy, hidx2, hb2, d0, d1⟩ := HBT.out.get Try.underlying24 infoII j (by omega)
        by_cases hxy : x = y
        · subst hxy
          have HT := hide (show s.take (j + 1) = t.take (j + 1) by rw [take_succ_of hx, take_succ_of hy, hsame])
          clear hx hy hsame
          go_wp2_with fail
          go_quiet (fail)
          go_wp2_with fail
          go_roundw
          case rel => exact ⟨j + 1, by go_num, by omega, HT.out, ⟨_, rfl⟩⟩
          case measure => simp [intOf]; omega
        · have hne : s ≠ t := by
            intro h
            subst h
            rw [hx] at hy
            exact hxy (Option.some.inj hy)
          have HE := hide (show decide (s = t) = false from decide_eq_false hne)
          by_cases h1 : x.1 = y.1
          · have h2 : ¬ x.2 = y.2 := fun h2 => hxy (Prod.ext h1 h2)
            have e1 : (x.1 == y.1) = true := by simpa using h1
            have e2 : (x.2 == y.2) = false := by simpa using h2
            clear hx hy hsame hne
            go_wp2_with fail
            go_quiet (fail)
            go_wp2_with fail
            go_ret
            exact ⟨by rw [HE.out]; rfl, drew_trans ⟨dn, rfl⟩ ⟨_, rfl⟩⟩
          · have e1 : (x.1 == y.1) = false := by simpa using h1
            clear hx hy hsame hne
            go_wp2_with fail
            go_quiet (fail)
            go_wp2_with fail
            go_ret
            exact ⟨by rw [HE.out]; rfl, drew_trans ⟨dn, rfl⟩ ⟨_, rfl⟩⟩
      · have hjn : j = n := by omega
        have HE := hide (show decide (s = t) = true by
          refine decide_eq_true ?_
          have h1 := hsame
          rw [hjn] at h1
          rw [List.take_of_length_le (by rw [HN.out]; omega), List.take_of_length_le (by rw [HM.out]; omega)] at h1
          exact h1)
        clear hsame
        go_wp2_with fail
        go_ret
        exact ⟨by rw [HE.out]; rfl, ⟨dn, rfl⟩⟩
  · have gnm : ((n : Int) == (m : Int)) = false := by rw [beq_eq_false_iff_ne]; omega
    have HE := hide (show decide (s = t) = false from decide_eq_false (fun h => hnm (by rw [← HN.out, ← HM.out, h])))
    go_enter Try.func10, Try.ntmps10
    go_wp2_with fail
    go_ret
    exact ⟨by rw [HE.out]; rfl, ⟨0, rfl⟩⟩

theorem put_new {s : St} {k i : Int} (h : stPut s k i ≠ s) : stPut s k i = stIns s k i ∧ stOk s = true := by
  rw [stPut_eq] at h ⊢
  split
  · rename_i hc
    simp only [Bool.and_eq_true] at hc
    exact ⟨rfl, hc.1⟩
  · rename_i hc
    rw [if_neg hc] at h
    exact absurd rfl h

set_option maxRecDepth 100000 in
set_option maxHeartbeats 16000000 in
theorem FnStates_walk (a0 : Option Addr) (len0 cap0 : Nat) (z0 : List Int) (w : World) (w0 : IsRow .u8 w a0 len0 cap0 z0) :
    Calls Try.prog 3 #[.slice a0 len0 cap0] w fun e w' => e = .returned (.bool true) ∧ Below w.heap.size w w' := by
  have HC := hide (codeAt_of_row w0)
  clear w0
  by_cases hbig : 1048576 < len0
  · go_enter Try.func3, Try.ntmps3
    go_wp2_with (go_at_call 7; refine (big_yes a0 len0 cap0 hbig _).mono ?_; rintro e w1 ⟨rfl, rfl⟩)
    go_ret
    exact ⟨rfl, Below.refl _ _⟩
  · have hlen : len0 ≤ 1048576 := by omega
    go_enter Try.func3, Try.ntmps3
    go_upto_region 4 with (first
      | (go_at_call 7; refine (big_no a0 len0 cap0 hlen _).mono ?_; rintro e w1 ⟨rfl, rfl⟩)
      | (go_at_call 8; refine (drawPut_any w.heap.size a0 len0 cap0 _ hlen (Nat.le_refl _) HC.out).mono ?_; rintro e w1 ⟨ov, cv, t, k, i, rfl, ho1, ht, hwd, hk0, hk1, hi0, hi1, hb1⟩))
    have hkw : (Lit.int .i64 k).wf = true := wide_id (by omega) (by omega)
    have hiw : (Lit.int .i64 i).wf = true := wide_id (by omega) (by omega)
    obtain ⟨_, _, heo, hat1⟩ := itemsAt_of_own ho1
    cases heo
    have HB1 := hide hb1
    have HAT1 := hide hat1
    have HWD := hide hwd
    have HIP := hide (implPut_any ov t.length cv t k i (by omega) hkw hiw w1 hat1 hwd)
    clear ho1 hwd hb1 hat1 HC
    go_upto_region 5 with (go_at_call 9; (with_reducible refine HIP.out.mono ?_); rintro r w2 ⟨v2, rfl, ho2, hb2⟩; obtain ⟨o2, c2, rfl⟩ := row_form ho2)
    obtain ⟨n, hn⟩ : ∃ n, stPut t k i = n := ⟨_, rfl⟩
    rw [hn] at ho2 ⊢
    have hn18 : n.length ≤ 18 := by rw [← hn, stPut_eq]; split <;> first | (have := stIns_len t k i; omega) | omega
    have HNW := hide (show ∀ x ∈ n, WideI x by
      intro x hx
      rw [← hn] at hx
      rcases stIn_mem hx with hx | rfl
      · exact HWD.out x hx
      · exact ⟨hkw, hiw⟩)
    obtain ⟨_, _, heo, hat2⟩ := itemsAt_of_own ho2
    cases heo
    have HN2 := hide hat2
    have HAT2 := hide (HAT1.out.below hb2)
    have HB2 := hide (HB1.out.trans (hb2.mono HB1.out.size))
    have HSP := hide (specPut_any ov t.length cv t k i (by omega) w2 HAT2.out)
    rw [hn] at HSP
    have HNP := hide hn
    clear ho2 hb2 hat2 hn HIP HAT1 HB1
    go_upto_region 7 with (first
      | (go_at_call 11; (with_reducible refine HSP.out.mono ?_); rintro r w3 ⟨v3, rfl, ho3, hb3⟩; obtain ⟨o3, c3, rfl⟩ := row_form ho3; obtain ⟨_, _, heo3, hat3⟩ := itemsAt_of_own ho3; cases heo3; have HS3 := hide (sameState_any o2 n.length c2 n o3 n.length c3 n w3 (HN2.out.below hb3) hat3); rw [decide_eq_true (rfl : n = n)] at HS3)
      | (go_at_call 10; (with_reducible refine HS3.out.mono ?_); rintro r w4 ⟨rfl, hd4⟩; have hb4 := hb3.trans (hd4.below.mono hb3.size); have HO4 := hide (implStateOk_any ov t.length cv t w4 (HAT2.out.below hb4)))
      | (go_at_call 12; (with_reducible refine HO4.out.mono ?_); rintro r w5 ⟨rfl, hb5'⟩; have hb5 := hb4.trans (hb5'.mono hb4.size); have HO5 := hide (specStateOk_any ov t.length cv t w5 (HAT2.out.below hb5)))
      | (go_at_call 13; (with_reducible refine HO5.out.mono ?_); rintro r w6 ⟨rfl, hd6⟩; have hb6 := hb5.trans (hd6.below.mono hb5.size)))
    have HN6 := hide (HN2.out.below hb6)
    have HAT6 := hide (HAT2.out.below hb6)
    have HB6 := hide (HB2.out.trans (hb6.mono HB2.out.size))
    have HS6 := hide (sameState_any o2 n.length c2 n ov t.length cv t w6 HN6.out HAT6.out)
    clear ho3 hat3 HS3 HO4 HO5 HN2 HAT2 HB2 HSP
    by_cases hsame : n = t
    · rw [decide_eq_true hsame] at HS6
      clear hsame
      go_wp2_with (go_at_call 10; (with_reducible refine HS6.out.mono ?_); rintro r w7 ⟨rfl, hd7⟩)
      go_ret
      exact ⟨rfl, HB6.out.trans (hd7.below.mono HB6.out.size)⟩
    · rw [decide_eq_false hsame] at HS6
      obtain ⟨hins, hok⟩ := put_new (s := t) (k := k) (i := i) (by rw [HNP.out]; exact hsame)
      rw [HNP.out] at hins
      have HOKN := hide (show stOk n = true by rw [← HNP.out]; exact stPut_ok hok)
      have HATK := hide (show stAt n k = i by rw [hins]; exact stAt_ins_same t k i)
      have HLEN := hide (show ((n.length : Nat) : Int) ≤ (t.length : Int) + 1 by have := stIns_len t k i; rw [← hins] at this; omega)
      have HOTH := hide (show ∀ x ∈ t, x.1 ≠ k → stAt n x.1 = x.2 from fun x hx hne => by
        rw [hins, stAt_ins_other t k i hne]
        rw [stOk_eq] at hok
        exact stAt_mem hok x hx)
      clear hins hok hsame HNP
      go_upto_region 11 with (first
        | (go_at_call 10; (with_reducible refine HS6.out.mono ?_); rintro r w7 ⟨rfl, hd7⟩; have hb7 := hd7.below; have HO7 := hide (implStateOk_any o2 n.length c2 n w7 (HN6.out.below hb7)); rw [HOKN.out] at HO7)
        | (go_at_call 12; (with_reducible refine HO7.out.mono ?_); rintro r w8 ⟨rfl, hb8'⟩; have hb8 := hb7.trans (hb8'.mono hb7.size); have HO8 := hide (implAt_any o2 n.length c2 n k (by omega) hkw w8 (HN6.out.below hb8) HNW.out); rw [HATK.out] at HO8)
        | (go_at_call 14; (with_reducible refine HO8.out.mono ?_); rintro r w9 ⟨rfl, hb9'⟩; have hb9 := hb8.trans (hb9'.mono hb8.size)))
      have HN9 := hide (HN6.out.below hb9)
      have HAT9 := hide (HAT6.out.below hb9)
      have HB9 := hide (HB6.out.trans (hb9.mono HB6.out.size))
      clear hd7 hb7 hb8 hb8' hb9 hb9' HO7 HO8 HS6 HN6 HAT6 HB6 HOKN HATK
      go_wp2_with fail
      go_loopw [7] (fun x wr => ∃ (j : Nat), x = .int .i64 (j : Int) ∧ j ≤ t.length ∧ Below w9.heap.size w9 wr) (fun x _ => t.length - (intOf x).toNat)
      case atStart => exact ⟨0, rfl, Nat.zero_le _, Below.refl _ _⟩
      case round =>
        obtain ⟨j, rfl, hj, hbel⟩ := hrel
        have HBEL := hide hbel
        have hsz := hbel.size
        have HNR := hide (HN9.out.below hbel)
        clear hbel
        by_cases hlt : j < t.length
        · have j0 : (j : Int) < (t.length : Int) := by omega
          obtain ⟨x, b, q, hx, hidx, hb, c0, c1⟩ := (HAT9.out.below HBEL.out).get Try.underlying24 infoII j hlt
          have hxm := List.mem_of_getElem? hx
          have hxw := (HWD.out x hxm).1
          clear hx
          by_cases hne : x.1 = k
          · have e1 : (x.1 == k) = true := by simpa using hne
            have e2 : (x.1 != k) = false := by rw [ne_beq e1]; rfl
            clear hne
            go_wp2_with fail
            refine wp_region_in (F := fun w' => Below wr.heap.size wr w') (by kernel_rfl) (by kernel_rfl) (Below.refl _ _).drew ?_
            have hne : Nonempty (InW (fun w' => Below wr.heap.size wr w')) := ⟨⟨_, Below.refl _ _⟩⟩
            have k0 : ∀ m : InW (fun w' => Below wr.heap.size wr w'), m.w.cell? ⟨b, q, none⟩ = some (.int .i64 x.1) := fun m => (m.h.cell hb).trans c0
            have k1 : ∀ m : InW (fun w' => Below wr.heap.size wr w'), m.w.cell? ⟨b, q + 1, none⟩ = some (.int .i64 x.2) := fun m => (m.h.cell hb).trans c1
            repeat (go_big_quiet_step (first
              | (go_at_call 14; (with_reducible refine (HATX.out _ (InW.h (F := fun w' => Below wr.heap.size wr w') _)).mono ?_); rintro e' w4 ⟨rfl, hb4⟩; exact ⟨rfl, ⟨w4, Below.trans (InW.h _) (hb4.mono (Below.size (InW.h (F := fun w' => Below wr.heap.size wr w') ‹_›)))⟩, rfl⟩)))
            refine wpQuiet_nil ?_
            intro _ hw'
            obtain ⟨nq, hw''⟩ := hw'
            subst hw''
            have hnq := nq.h
            generalize nq.w = w5 at hnq ⊢
            clear hne k0 k1
            have HB5 := hide (HBEL.out.trans (hnq.mono hsz))
            clear hnq
            go_wp2_with fail
            go_roundw
            case rel => exact ⟨j + 1, by go_num, by omega, HB5.out⟩
            case measure => simp [intOf]; omega
          · have e1 : (x.1 == k) = false := by simpa using hne
            have e2 : (x.1 != k) = true := by rw [ne_beq e1]; rfl
            have HATX := hide (fun w2 (h : Below wr.heap.size wr w2) => implAt_any o2 n.length c2 n x.1 (by omega) hxw w2 (HNR.out.below h) HNW.out)
            rw [HOTH.out x hxm hne] at HATX
            clear hne
            go_wp2_with fail
            refine wp_region_in (F := fun w' => Below wr.heap.size wr w') (by kernel_rfl) (by kernel_rfl) (Below.refl _ _).drew ?_
            have hne : Nonempty (InW (fun w' => Below wr.heap.size wr w')) := ⟨⟨_, Below.refl _ _⟩⟩
            have k0 : ∀ m : InW (fun w' => Below wr.heap.size wr w'), m.w.cell? ⟨b, q, none⟩ = some (.int .i64 x.1) := fun m => (m.h.cell hb).trans c0
            have k1 : ∀ m : InW (fun w' => Below wr.heap.size wr w'), m.w.cell? ⟨b, q + 1, none⟩ = some (.int .i64 x.2) := fun m => (m.h.cell hb).trans c1
            repeat (go_big_quiet_step (first
              | (go_at_call 14; (with_reducible refine (HATX.out _ (InW.h (F := fun w' => Below wr.heap.size wr w') _)).mono ?_); rintro e' w4 ⟨rfl, hb4⟩; exact ⟨rfl, ⟨w4, Below.trans (InW.h _) (hb4.mono (Below.size (InW.h (F := fun w' => Below wr.heap.size wr w') ‹_›)))⟩, rfl⟩)))
            refine wpQuiet_nil ?_
            intro _ hw'
            obtain ⟨nq, hw''⟩ := hw'
            subst hw''
            have hnq := nq.h
            generalize nq.w = w5 at hnq ⊢
            clear hne k0 k1
            have HB5 := hide (HBEL.out.trans (hnq.mono hsz))
            clear hnq
            go_wp2_with fail
            go_roundw
            case rel => exact ⟨j + 1, by go_num, by omega, HB5.out⟩
            case measure => simp [intOf]; omega
        · have j0 : ¬ ((j : Int) < (t.length : Int)) := by omega
          have hle := HLEN.out
          go_wp2_with fail
          go_ret
          exact ⟨by first | rfl | simp, HB9.out.trans (HBEL.out.mono HB9.out.size)⟩

end Go.Proofs.Ytmifhdoaknbkbaa
