/-
  Most of a conf, of the specification and of the program; the law FnExactMost: its walk.
-/
import Derived.Test.YteilmhlhddihpaaWalk5a
import Derived.Test.YteilmhlhddihpaaOpenInts
import Derived.Test.YteilmhlhddihpaaShelf
namespace Go.Proofs.Yteilmhlhddihpaa
open Go.RowKit P1 P9 K
set_option linter.unusedVariables false
set_option linter.unusedSimpArgs false

theorem contains_any (oa : Option Addr) (n cap : Nat) (zs : List Int) (x : Int) (w : World) (hat : IntsAt w oa n cap zs) :
    Calls Try.prog 31 #[.slice oa n cap, .int .i64 x] w fun e w' => e = .returned (.bool (zs.contains x)) ∧ w = w' := by
  have hn := hat.len
  have hm := hat.most
  have hr := hat.room
  unfold maxLen at hm
  by_cases h0 : n = 0
  · subst h0
    have : zs = [] := List.eq_nil_of_length_eq_zero hn
    subst this
    exact (Try.slices_Contains_int_empty oa cap x w).mono fun e w' ⟨h1, h2⟩ => ⟨h1, h2.symm⟩
  · obtain ⟨z, hz⟩ : ∃ z, zs[0]? = some z := ⟨_, List.getElem?_eq_getElem (by omega)⟩
    obtain ⟨b, o, rfl, _⟩ := hat.at_ 0 z hz
    have := Try.slices_Contains_int b o n cap zs x w (by omega) (by omega) (fun j hj => by
      obtain ⟨b', o', hbo, hc⟩ := hat.at_ j zs[j] (List.getElem?_eq_getElem hj)
      cases hbo
      rw [hc]
      simp [List.getD_eq_getElem?_getD, List.getElem?_eq_getElem hj])
    rw [List.take_of_length_le (by omega)] at this
    exact this.mono fun e w' ⟨h1, h2⟩ => ⟨h1, h2.symm⟩

set_option maxHeartbeats 1000000 in
theorem l05In_any (oa : Option Addr) (n cap : Nat) (zs : List Int) (x : Int) (w : World) (hat : IntsAt w oa n cap zs) :
    Calls Try.prog 65 #[.slice oa n cap, .int .i64 x] w fun e w' => e = .returned (.bool (zs.contains x)) ∧ w = w' := by
  obtain ⟨c, hc⟩ : ∃ c, zs.contains x = c := ⟨_, rfl⟩
  rw [hc]
  have HC := hide hc
  clear hc
  have hn := hat.len
  have HN := hide hn
  have HAT := hide hat
  have hm := hat.most
  have hr := hat.room
  unfold maxLen at hm
  clear hn hat
  go_enter Try.func65, Try.ntmps65
  go_wp2_with fail
  go_loop [5] (fun i => ∃ (j : Nat), i = .int .i64 (j : Int) ∧ j ≤ n ∧ (zs.drop j).contains x = c) (fun i => n - (intOf i).toNat)
  case atStart => exact ⟨0, rfl, Nat.zero_le _, HC.out⟩
  case round =>
    obtain ⟨j, rfl, hj, hrest⟩ := hrel
    by_cases hlt : j < n
    · have j0 : (j : Int) < (n : Int) := by omega
      obtain ⟨z, b, q, hz, hidx, hb, c0, hwf⟩ := HAT.out.get Try.underlying32 infoI j hlt
      have hdr : zs.drop j = z :: zs.drop (j + 1) := by
        obtain ⟨hj', he⟩ := List.getElem?_eq_some_iff.1 hz
        rw [List.drop_eq_getElem_cons hj', he]
      rw [hdr, List.contains_cons] at hrest
      by_cases hzx : z = x
      · have gx : (z == x) = true := by simpa using hzx
        have HR := hide (show c = true by rw [← hrest]; simp [hzx])
        clear hrest hz hdr
        go_wp2_with fail
        go_ret
        exact ⟨by rw [HR.out]; rfl, rfl⟩
      · have gx : (z == x) = false := by simpa using hzx
        have HR := hide (show (zs.drop (j + 1)).contains x = c by
          rw [← hrest]
          have : (x == z) = false := by simp; exact fun e => hzx e.symm
          rw [this, Bool.false_or])
        clear hrest hz hdr
        go_wp2_with fail
        go_round
        case rel => exact ⟨j + 1, by go_num, by omega, HR.out⟩
        case measure => simp [intOf]; omega
    · have hjn : j = n := by omega
      have HR := hide (show c = false by rw [← hrest, hjn, ← HN.out, List.drop_length]; rfl)
      clear hrest
      go_wp2_with fail
      go_ret
      exact ⟨by rw [HR.out]; rfl, rfl⟩

/-- How many of the first j are in the list. -/
def cnt (zs list : List Int) (j : Nat) : Nat := ((zs.take j).filter fun z => list.contains z).length

theorem cnt_le (zs list : List Int) (j : Nat) : cnt zs list j ≤ j := by
  unfold cnt
  have h1 := List.length_filter_le (fun z => list.contains z) (zs.take j)
  have h2 := List.length_take_le j zs
  omega
theorem cnt_step {zs list : List Int} {j : Nat} {z : Int} (hz : zs[j]? = some z) : cnt zs list (j + 1) = cnt zs list j + if list.contains z = true then 1 else 0 := by
  unfold cnt
  rw [List.take_add_one, hz, List.filter_append, List.length_append]
  congr 1
  simp only [Option.toList_some, List.filter_cons, List.filter_nil]
  split <;> rfl
theorem cnt_all {zs list : List Int} {n : Nat} (h : zs.length = n) : mostOf zs list = (confOk zs && decide ((n : Int) < 2 * (cnt zs list n : Int))) := by
  unfold mostOf cnt
  rw [← h, List.take_length]
  congr 1
  simp
  omega

set_option maxHeartbeats 1000000 in
theorem implMost_any (oa : Option Addr) (n cap : Nat) (zs : List Int) (ob : Option Addr) (m cap' : Nat) (list : List Int) (hn20 : n ≤ 1048576) (w : World) (hat : IntsAt w oa n cap zs) (hbt : IntsAt w ob m cap' list) :
    Calls Try.prog 15 #[.slice oa n cap, .slice ob m cap'] w fun e w' => e = .returned (.bool (mostOf zs list)) ∧ Below w.heap.size w w' := by
  have hn := hat.len
  rw [cnt_all hn]
  have HAT := hide hat
  have HBT := hide hbt
  clear hat hbt hn
  cases hok : confOk zs with
  | false =>
    have HOK := hide hok
    clear hok
    go_enter Try.func15, Try.ntmps15
    go_wp2_with (go_at_call 14; refine (implConfOk_any oa n cap zs _ HAT.out).mono ?_; rw [HOK.out]; rintro e w' ⟨rfl, rfl⟩)
    go_ret
    exact ⟨rfl, Below.refl _ _⟩
  | true =>
    have HOK := hide hok
    clear hok
    rw [Bool.true_and]
    go_enter Try.func15, Try.ntmps15
    go_wp2_with (go_at_call 14; refine (implConfOk_any oa n cap zs _ HAT.out).mono ?_; rw [HOK.out]; rintro e w' ⟨rfl, rfl⟩)
    go_loop [5, 13] (fun x i => ∃ (j : Nat), i = .int .i64 (j : Int) ∧ j ≤ n ∧ x = .int .i64 (cnt zs list j : Int)) (fun _ i => n - (intOf i).toNat)
    case atStart => exact ⟨0, rfl, Nat.zero_le _, by simp [cnt]⟩
    case round =>
      obtain ⟨j, rfl, hj, rfl⟩ := hrel
      have hcl := cnt_le zs list j
      by_cases hlt : j < n
      · have j0 : (j : Int) < (n : Int) := by omega
        obtain ⟨z, b, q, hz, hidx, hb, c0, hwf⟩ := HAT.out.get Try.underlying32 infoI j hlt
        have hst := cnt_step (list := list) hz
        have HCO := hide (fun w hb => contains_any ob m cap' list z w hb)
        cases hin : list.contains z with
        | false =>
          rw [hin] at hst
          have HST := hide hst
          have HIN := hide hin
          clear hst hin hz
          go_wp2_with fail
          refine (HCO.out _ HBT.out).mono ?_
          rw [HIN.out]
          rintro e w' ⟨rfl, rfl⟩
          go_wp2_with fail
          go_round
          case rel => exact ⟨j + 1, by go_num, by omega, by rw [HST.out]; rfl⟩
          case measure => simp [intOf]; omega
        | true =>
          rw [hin] at hst
          have HST := hide hst
          have HIN := hide hin
          clear hst hin hz
          go_wp2_with fail
          refine (HCO.out _ HBT.out).mono ?_
          rw [HIN.out]
          rintro e w' ⟨rfl, rfl⟩
          go_wp2_with fail
          go_round
          case rel => exact ⟨j + 1, by go_num, by omega, by rw [HST.out]; go_num⟩
          case measure => simp [intOf]; omega
      · have hjn : j = n := by omega
        subst hjn
        go_wp2_with fail
        go_ret
        exact ⟨rfl, Below.refl _ _⟩

end Go.Proofs.Yteilmhlhddihpaa
