/-
  Most of a conf, of the specification and of the program; the law FnExactMost: its walk.
-/
import Derived.Test.YtgimbffogmhbgaaWalk5a
import Derived.Test.YtgimbffogmhbgaaOpenInts
import Derived.Test.YtgimbffogmhbgaaShelf
namespace Go.Proofs.Ytgimbffogmhbgaa
open Go.RowKit P1 P9 K
set_option linter.unusedVariables false
set_option linter.unusedSimpArgs false

theorem contains_any (oa : Option Addr) (n cap : Nat) (zs : List Int) (x : Int) (w : World) (hat : IntsAt w oa n cap zs) :
    Calls Try.prog 29 #[.slice oa n cap, .int .i64 x] w fun e w' => e = .returned (.bool (zs.contains x)) ∧ w = w' := by
  have hn := hat.len
  have hm := hat.most
  have hr := hat.room
  unfold maxLen at hm
  by_cases h0 : n = 0
  · subst h0
    have : zs = [] := List.eq_nil_of_length_eq_zero hn
    subst this
    exact (Try.slices_Contains_int_empty oa cap x w).mono fun e w' ⟨h1, h2⟩ => ⟨h1, h2.symm⟩
  · obtain ⟨z, hz⟩ : ∃ z, zs[0]? = some z := ⟨_, List.getElem?_eq_getElem (by omega)⟩
    obtain ⟨b, o, rfl, _⟩ := hat.at_ 0 z hz
    have := Try.slices_Contains_int b o n cap zs x w (by omega) (by omega) (fun j hj => by
      obtain ⟨b', o', hbo, hc⟩ := hat.at_ j zs[j] (List.getElem?_eq_getElem hj)
      cases hbo
      rw [hc]
      simp [List.getD_eq_getElem?_getD, List.getElem?_eq_getElem hj])
    rw [List.take_of_length_le (by omega)] at this
    exact this.mono fun e w' ⟨h1, h2⟩ => ⟨h1, h2.symm⟩

set_option maxHeartbeats 1000000 in
theorem l05In_any (oa : Option Addr) (n cap : Nat) (zs : List Int) (x : Int) (w : World) (hat : IntsAt w oa n cap zs) :
    Calls Try.prog 26 #[.slice oa n cap, .int .i64 x] w fun e w' => e = .returned (.bool (zs.contains x)) ∧ w = w' := by
  obtain ⟨c, hc⟩ : ∃ c, zs.contains x = c := ⟨_, rfl⟩
  rw [hc]
  have HC := hide hc
  clear hc
  have hn := hat.len
  have HN := hide hn
  have HAT := hide hat
  have hm := hat.most
  have hr := hat.room
  unfold maxLen at hm
  clear hn hat
  go_enter Try.func26, Try.ntmps26
  go_wp2_with fail
  go_loop [5] (fun i => ∃ (j : Nat), i = .int .i64 (j : Int) ∧ j ≤ n ∧ (zs.drop j).contains x = c) (fun i => n - (intOf i).toNat)
  case atStart => exact ⟨0, rfl, Nat.zero_le _, HC.out⟩
  case round =>
    obtain ⟨j, rfl, hj, hrest⟩ := hrel
    by_cases hlt : j < n
    · have j0 : (j : Int) < (n : Int) := by omega
      obtain ⟨z, b, q, hz, hidx, hb, c0, hwf⟩ := HAT.out.get Try.underlying22 infoI j hlt
      have hdr : zs.drop j = z :: zs.drop (j + 1) := by
        obtain ⟨hj', he⟩ := List.getElem?_eq_some_iff.1 hz
        rw [List.drop_eq_getElem_cons hj', he]
      rw [hdr, List.contains_cons] at hrest
      by_cases hzx : z = x
      · have gx : (z == x) = true := by simpa using hzx
        have HR := hide (show c = true by rw [← hrest]; simp [hzx])
        clear hrest hz hdr
        go_wp2_with fail
        go_ret
        exact ⟨by rw [HR.out]; rfl, rfl⟩
      · have gx : (z == x) = false := by simpa using hzx
        have HR := hide (show (zs.drop (j + 1)).contains x = c by
          rw [← hrest]
          have : (x == z) = false := by simp; exact fun e => hzx e.symm
          rw [this, Bool.false_or])
        clear hrest hz hdr
        go_wp2_with fail
        go_round
        case rel => exact ⟨j + 1, by go_num, by omega, HR.out⟩
        case measure => simp [intOf]; omega
    · have hjn : j = n := by omega
      have HR := hide (show c = false by rw [← hrest, hjn, ← HN.out, List.drop_length]; rfl)
      clear hrest
      go_wp2_with fail
      go_ret
      exact ⟨by rw [HR.out]; rfl, rfl⟩

/-- How many of the first j are in the list. -/
def cnt (zs list : List Int) (j : Nat) : Nat := ((zs.take j).filter fun z => list.contains z).length

theorem cnt_le (zs list : List Int) (j : Nat) : cnt zs list j ≤ j := by
  unfold cnt
  have h1 := List.length_filter_le (fun z => list.contains z) (zs.take j)
  have h2 := List.length_take_le j zs
  omega
theorem cnt_step {zs list : List Int} {j : Nat} {z : Int} (hz : zs[j]? = some z) : cnt zs list (j + 1) = cnt zs list j + if list.contains z = true then 1 else 0 := by
  unfold cnt
  rw [List.take_add_one, hz, List.filter_append, List.length_append]
  congr 1
  simp only [Option.toList_some, List.filter_cons, List.filter_nil]
  split <;> rfl
theorem cnt_all {zs list : List Int} {n : Nat} (h : zs.length = n) : mostOf zs list = (confOk zs && decide ((n : Int) < 2 * (cnt zs list n : Int))) := by
  unfold mostOf cnt
  rw [← h, List.take_length]
  congr 1
  simp
  omega

set_option maxHeartbeats 1000000 in
theorem implMost_any (oa : Option Addr) (n cap : Nat) (zs : List Int) (ob : Option Addr) (m cap' : Nat) (list : List Int) (hn20 : n ≤ 1048576) (w : World) (hat : IntsAt w oa n cap zs) (hbt : IntsAt w ob m cap' list) :
    Calls Try.prog 8 #[.slice oa n cap, .slice ob m cap'] w fun e w' => e = .returned (.bool (mostOf zs list)) ∧ Below w.heap.size w w' := by
  have hn := hat.len
  rw [cnt_all hn]
  have HAT := hide hat
  have HBT := hide hbt
  clear hat hbt hn
  cases hok : confOk zs with
  | false =>
    have HOK := hide hok
    clear hok
    go_enter Try.func8, Try.ntmps8
    go_wp2_with (go_at_call 28; refine (implConfOk_any oa n cap zs _ HAT.out).mono ?_; rw [HOK.out]; rintro e w' ⟨rfl, rfl⟩)
    go_ret
    exact ⟨rfl, Below.refl _ _⟩
  | true =>
    have HOK := hide hok
    clear hok
    rw [Bool.true_and]
    go_enter Try.func8, Try.ntmps8
    go_wp2_with (go_at_call 28; refine (implConfOk_any oa n cap zs _ HAT.out).mono ?_; rw [HOK.out]; rintro e w' ⟨rfl, rfl⟩)
    go_loop [5, 13] (fun x i => ∃ (j : Nat), i = .int .i64 (j : Int) ∧ j ≤ n ∧ x = .int .i64 (cnt zs list j : Int)) (fun _ i => n - (intOf i).toNat)
    case atStart => exact ⟨0, rfl, Nat.zero_le _, by simp [cnt]⟩
    case round =>
      obtain ⟨j, rfl, hj, rfl⟩ := hrel
      have hcl := cnt_le zs list j
      by_cases hlt : j < n
      · have j0 : (j : Int) < (n : Int) := by omega
        obtain ⟨z, b, q, hz, hidx, hb, c0, hwf⟩ := HAT.out.get Try.underlying22 infoI j hlt
        have hst := cnt_step (list := list) hz
        have HCO := hide (fun w hb => contains_any ob m cap' list z w hb)
        cases hin : list.contains z with
        | false =>
          rw [hin] at hst
          have HST := hide hst
          have HIN := hide hin
          clear hst hin hz
          go_wp2_with fail
          refine (HCO.out _ HBT.out).mono ?_
          rw [HIN.out]
          rintro e w' ⟨rfl, rfl⟩
          go_wp2_with fail
          go_round
          case rel => exact ⟨j + 1, by go_num, by omega, by rw [HST.out]; rfl⟩
          case measure => simp [intOf]; omega
        | true =>
          rw [hin] at hst
          have HST := hide hst
          have HIN := hide hin
          clear hst hin hz
          go_wp2_with fail
          refine (HCO.out _ HBT.out).mono ?_
          rw [HIN.out]
          rintro e w' ⟨rfl, rfl⟩
          go_wp2_with fail
          go_round
          case rel => exact ⟨j + 1, by go_num, by omega, by rw [HST.out]; go_num⟩
          case measure => simp [intOf]; omega
      · have hjn : j = n := by omega
        subst hjn
        go_wp2_with fail
        go_ret
        exact ⟨rfl, Below.refl _ _⟩

set_option maxHeartbeats 1000000 in
theorem specMost_any (oa : Option Addr) (n cap : Nat) (zs : List Int) (ob : Option Addr) (m cap' : Nat) (list : List Int) (hn20 : n ≤ 1048576) (w : World) (hat : IntsAt w oa n cap zs) (hbt : IntsAt w ob m cap' list) :
    Calls Try.prog 6 #[.slice oa n cap, .slice ob m cap'] w fun e w' => e = .returned (.bool (mostOf zs list)) ∧ Below w.heap.size w w' := by
  have hn := hat.len
  rw [cnt_all hn]
  have HAT := hide hat
  have HBT := hide hbt
  clear hat hbt hn
  go_enter Try.func6, Try.ntmps6
  go_wp2_with fail
  go_loop [5, 6] (fun x i => ∃ (j : Nat), i = .int .i64 (j : Int) ∧ j ≤ n ∧ x = .int .i64 (cnt zs list j : Int)) (fun _ i => n - (intOf i).toNat)
  case atStart => exact ⟨0, rfl, Nat.zero_le _, by simp [cnt]⟩
  case round =>
    obtain ⟨j, rfl, hj, rfl⟩ := hrel
    have hcl := cnt_le zs list j
    by_cases hlt : j < n
    · have j0 : (j : Int) < (n : Int) := by omega
      obtain ⟨z, b, q, hz, hidx, hb, c0, hwf⟩ := HAT.out.get Try.underlying22 infoI j hlt
      have hst := cnt_step (list := list) hz
      have HCO := hide (fun w hb => l05In_any ob m cap' list z w hb)
      cases hin : list.contains z with
      | false =>
        rw [hin] at hst
        have HST := hide hst
        have HIN := hide hin
        clear hst hin hz
        go_wp2_with fail
        refine (HCO.out _ HBT.out).mono ?_
        rw [HIN.out]
        rintro e w' ⟨rfl, rfl⟩
        go_wp2_with fail
        go_round
        case rel => exact ⟨j + 1, by go_num, by omega, by rw [HST.out]; rfl⟩
        case measure => simp [intOf]; omega
      | true =>
        rw [hin] at hst
        have HST := hide hst
        have HIN := hide hin
        clear hst hin hz
        go_wp2_with fail
        refine (HCO.out _ HBT.out).mono ?_
        rw [HIN.out]
        rintro e w' ⟨rfl, rfl⟩
        go_wp2_with fail
        go_round
        case rel => exact ⟨j + 1, by go_num, by omega, by rw [HST.out]; go_num⟩
        case measure => simp [intOf]; omega
    · have hjn : j = n := by omega
      subst hjn
      cases hok : confOk zs with
      | false =>
        have HOK := hide hok
        clear hok
        go_wp2_with (go_at_call 27; refine (specConfOk_any oa j cap zs _ HAT.out).mono ?_; rw [HOK.out]; rintro e w' ⟨rfl, hdr⟩)
        go_ret
        exact ⟨by rw [HOK.out]; rfl, hdr.below⟩
      | true =>
        have HOK := hide hok
        clear hok
        go_wp2_with (go_at_call 27; refine (specConfOk_any oa j cap zs _ HAT.out).mono ?_; rw [HOK.out]; rintro e w' ⟨rfl, hdr⟩)
        go_ret
        exact ⟨by rw [HOK.out, Bool.true_and]; rfl, hdr.below⟩

set_option maxHeartbeats 2000000 in
theorem FnExactMost_walk (oa : Option Addr) (n cap : Nat) (zs : List Int) (ob : Option Addr) (m cap' : Nat) (list : List Int) (w : World) (hat : IntsAt w oa n cap zs) (hbt : IntsAt w ob m cap' list) :
    Calls Try.prog 3 #[.slice oa n cap, .slice ob m cap'] w fun e w' => e = .returned (.bool true) ∧ Below w.heap.size w w' := by
  have hc := hat.room
  have hm := hat.most
  have hc' := hbt.room
  have hm' := hbt.most
  unfold maxLen at hm hm'
  have HAT := hide hat
  have HBT := hide hbt
  clear hat hbt
  by_cases hbig : n ≤ 1048576
  · have gb : ¬ (1048576 : Int) < (n : Int) := by omega
    by_cases hbig' : m ≤ 1048576
    · have gb' : ¬ (1048576 : Int) < (m : Int) := by omega
      have HA := hide (fun w h => toIntS_any oa n cap zs hbig w h)
      have HB := hide (fun w h => toIntS_any ob m cap' list hbig' w h)
      go_enter Try.func3, Try.ntmps3
      go_wp2_with fail
      refine (HA.out _ HAT.out).mono ?_
      rintro e w1 ⟨g1, rfl, ho1, hb1⟩
      have B1 := hide hb1
      clear hb1
      go_wp2_with fail
      refine (HB.out _ (HBT.out.below B1.out)).mono ?_
      rintro e w2 ⟨g2, rfl, ho2, hb2⟩
      have B2 := hide (B1.out.trans (hb2.mono B1.out.size))
      obtain ⟨_, _, he, hat1⟩ := intsAt_of_own (own_below ho1 hb2) HAT.out.fits
      cases he
      obtain ⟨_, _, he, hat2⟩ := intsAt_of_own ho2 HBT.out.fits
      cases he
      have H1 := hide hat1
      have H2 := hide hat2
      clear ho1 ho2 hb2 hat1 hat2
      go_wp2_with fail
      refine (specMost_any _ n _ zs _ m _ list hbig _ H1.out H2.out).mono ?_
      rintro e w3 ⟨rfl, hb3⟩
      have B3 := hide (B2.out.trans (hb3.mono B2.out.size))
      clear hb3 H1 H2
      go_wp2_with fail
      refine (HA.out _ (HAT.out.below B3.out)).mono ?_
      rintro e w4 ⟨g4, rfl, ho4, hb4⟩
      have B4 := hide (B3.out.trans (hb4.mono B3.out.size))
      clear hb4
      have HO4 := hide ho4
      clear ho4
      go_wp2_with fail
      refine (HB.out _ (HBT.out.below B4.out)).mono ?_
      rintro e w5 ⟨g5, rfl, ho5, hb5⟩
      have B5 := hide (B4.out.trans (hb5.mono B4.out.size))
      obtain ⟨_, _, he, hat4⟩ := intsAt_of_own (own_below HO4.out hb5) HAT.out.fits
      cases he
      obtain ⟨_, _, he, hat5⟩ := intsAt_of_own ho5 HBT.out.fits
      cases he
      have H4 := hide hat4
      have H5 := hide hat5
      clear ho5 hb5 hat4 hat5 HO4
      go_wp2_with fail
      refine (implMost_any _ n _ zs _ m _ list hbig _ H4.out H5.out).mono ?_
      rintro e w6 ⟨rfl, hb6⟩
      have B6 := hide (B5.out.trans (hb6.mono B5.out.size))
      have H46 := hide (H4.out.below hb6)
      have H56 := hide (H5.out.below hb6)
      clear hb6 H4 H5
      go_wp2_with fail
      refine (HA.out _ (HAT.out.below B6.out)).mono ?_
      rintro e w7 ⟨g7, rfl, ho7, hb7⟩
      have B7 := hide (B6.out.trans (hb7.mono B6.out.size))
      obtain ⟨_, _, he, hat7⟩ := intsAt_of_own ho7 HAT.out.fits
      cases he
      have H7 := hide hat7
      have H47 := hide (H46.out.below hb7)
      have H57 := hide (H56.out.below hb7)
      clear ho7 hb7 hat7 H46 H56
      go_wp2_with fail
      refine (eqIntS_same _ n _ _ _ zs hbig _ H47.out H7.out).mono ?_
      rintro e w8 ⟨rfl, hb8⟩
      have B8 := hide (B7.out.trans (hb8.mono B7.out.size))
      have H58 := hide (H57.out.below hb8)
      clear hb8 H47 H57 H7
      go_wp2_with fail
      refine (HB.out _ (HBT.out.below B8.out)).mono ?_
      rintro e w9 ⟨g9, rfl, ho9, hb9⟩
      have B9 := hide (B8.out.trans (hb9.mono B8.out.size))
      obtain ⟨_, _, he, hat9⟩ := intsAt_of_own ho9 HBT.out.fits
      cases he
      have H9 := hide hat9
      have H59 := hide (H58.out.below hb9)
      clear ho9 hb9 hat9 H58
      go_wp2_with fail
      refine (eqIntS_same _ m _ _ _ list hbig' _ H59.out H9.out).mono ?_
      rintro e w10 ⟨rfl, hb10⟩
      have B10 := hide (B9.out.trans (hb10.mono B9.out.size))
      clear hb10
      go_wp2_with fail
      go_ret
      exact ⟨rfl, B10.out⟩
    · have gb' : (1048576 : Int) < (m : Int) := by omega
      go_enter Try.func3, Try.ntmps3
      go_wp2_with fail
      go_ret
      exact ⟨rfl, Below.refl _ _⟩
  · have gb : (1048576 : Int) < (n : Int) := by omega
    go_enter Try.func3, Try.ntmps3
    go_wp2_with fail
    go_ret
    exact ⟨rfl, Below.refl _ _⟩

end Go.Proofs.Ytgimbffogmhbgaa
