/-
  Walks of chapter 5: ConfOk, of the specification and of the program.
  Slices of numbers that a call owns: pushed to, marked, and the marks read again.
  Walks of chapter 5: ConfText and ReadConf, of the specification and of the program.
-/
import Derived.Test.YthbgklmnmoclhaaGreatDoorPack4
import Derived.Test.YthbgklmnmoclhaaGreatDoorPack5
import Derived.Test.YthbgklmnmoclhaaGreatDoorPack2
namespace Go.Proofs.YthbgklmnmoclhaaGreatDoor
open Go.RowKit P1 P9 K
set_option linter.unusedVariables false
set_option linter.unusedSimpArgs false

theorem l01In5_any (x a b : Int) (w : World) :
    Calls Tryz.prog 37 #[.int .i64 x, .int .i64 a, .int .i64 b] w fun e w' => e = .returned (.bool (decide (a ≤ x) && decide (x ≤ b))) ∧ w' = w := by
  by_cases h : a ≤ x ∧ x ≤ b
  · rw [decide_eq_true h.1, decide_eq_true h.2]
    exact (l01In_yes x a b h.1 h.2 w).mono fun e w' ⟨h1, h2⟩ => ⟨h1, h2.symm⟩
  · have : (decide (a ≤ x) && decide (x ≤ b)) = false := by simp; omega
    rw [this]
    exact (l01In_no x a b (by omega) w).mono fun e w' ⟨h1, h2⟩ => ⟨h1, h2.symm⟩

theorem within_yes (x a b : Int) (h0 : a ≤ x) (h1 : x ≤ b) (w : World) :
    Calls Tryz.prog 75 #[.int .i64 x, .int .i64 a, .int .i64 b] w fun e w' => e = .returned (.bool true) ∧ w = w' := by
  go_enter Tryz.func75, Tryz.ntmps75
  go_wp2
  go_ret
  exact ⟨rfl, rfl⟩

theorem within_no (x a b : Int) (h : x < a ∨ b < x) (w : World) :
    Calls Tryz.prog 75 #[.int .i64 x, .int .i64 a, .int .i64 b] w fun e w' => e = .returned (.bool false) ∧ w = w' := by
  by_cases h0 : x < a
  · go_enter Tryz.func75, Tryz.ntmps75
    go_wp2
    go_ret
    exact ⟨rfl, rfl⟩
  · have h1 : ¬ x ≤ b := by omega
    have h2 : a ≤ x := by omega
    clear h h0
    go_enter Tryz.func75, Tryz.ntmps75
    go_wp2
    go_ret
    exact ⟨rfl, rfl⟩

theorem within_any (x a b : Int) (w : World) :
    Calls Tryz.prog 75 #[.int .i64 x, .int .i64 a, .int .i64 b] w fun e w' => e = .returned (.bool (decide (a ≤ x) && decide (x ≤ b))) ∧ w = w' := by
  by_cases h : a ≤ x ∧ x ≤ b
  · rw [decide_eq_true h.1, decide_eq_true h.2]
    exact within_yes x a b h.1 h.2 w
  · have : (decide (a ≤ x) && decide (x ≤ b)) = false := by simp; omega
    rw [this]
    exact within_no x a b (by omega) w

/-- The world has only drawn. -/
def Drew (w w' : World) : Prop := ∃ q, w' = w.drewN q

theorem Drew.more {w w' : World} (h : Drew w w') (q : Nat) : Drew w (w'.drewN q) := by
  obtain ⟨k, rfl⟩ := h
  exact ⟨k + q, by simp⟩

theorem Drew.below {w w' : World} (h : Drew w w') : Below w.heap.size w w' := by
  obtain ⟨k, rfl⟩ := h
  exact below_drewN (Below.refl _ _) _

theorem IntsAt.drew {w w' : World} {oa : Option Addr} {n cap : Nat} {zs : List Int} (h : IntsAt w oa n cap zs) (hd : Drew w w') : IntsAt w' oa n cap zs := h.below hd.below

set_option maxHeartbeats 1000000 in
theorem implConfOk_any (oa : Option Addr) (n cap : Nat) (zs : List Int) (w : World) (hat : IntsAt w oa n cap zs) :
    Calls Tryz.prog 137 #[.slice oa n cap] w fun e w' => e = .returned (.bool (confOk zs)) ∧ w = w' := by
  have hn := hat.len
  have hc := hat.room
  have hm := hat.most
  unfold maxLen at hm
  by_cases hin : 1 ≤ n ∧ n ≤ 4
  · obtain ⟨hin1, hin2⟩ := hin
    have hC : confOk zs = riseF 1 4 none zs := confOk_mid (by rw [hn]; exact ⟨hin1, hin2⟩)
    rw [hC]
    have HN := hide hn
    have HAT := hide hat
    clear hn hat hC
    go_enter Tryz.func137, Tryz.ntmps137
    go_wp2_with (go_at_call 75; refine (within_yes _ _ _ (by omega) (by omega) _).mono ?_; rintro e w' ⟨rfl, rfl⟩)
    go_loop [11] (fun i => ∃ (j : Nat), i = .int .i64 (j : Int) ∧ j ≤ n ∧ riseF 1 4 (pv zs j) (zs.drop j) = riseF 1 4 none zs) (fun i => n - (intOf i).toNat)
    case atStart => exact ⟨0, rfl, Nat.zero_le _, rfl⟩
    case round =>
      obtain ⟨j, rfl, hj, hrest⟩ := hrel
      by_cases hlt : j < n
      · have j0 : (j : Int) < (n : Int) := by omega
        obtain ⟨z, b, q, hz, hidx, hb, c0, hwf⟩ := HAT.out.get Tryz.underlying139 infoI j hlt
        rw [riseF_at hz] at hrest
        by_cases hzr : 1 ≤ z ∧ z ≤ 4
        · obtain ⟨hz1, hz4⟩ := hzr
          rw [decide_eq_true hz1, decide_eq_true hz4] at hrest
          simp only [Bool.true_and] at hrest
          by_cases hj0 : j = 0
          · have gj : ¬ (0 : Int) < (j : Int) := by omega
            have HR := hide (show riseF 1 4 (pv zs (j + 1)) (zs.drop (j + 1)) = riseF 1 4 none zs by rw [← hrest, hj0]; simp [pv, after])
            clear hrest hz hj0
            go_wp2_with (go_at_call 75; refine (within_yes _ _ _ hz1 hz4 _).mono ?_; rintro e w' ⟨rfl, rfl⟩)
            go_round
            case rel => exact ⟨j + 1, by go_num, by omega, HR.out⟩
            case measure => simp [intOf]; omega
          · have gj : (0 : Int) < (j : Int) := by omega
            obtain ⟨y, b', q', hy, hidx', hb', c0', hwf'⟩ := HAT.out.get Tryz.underlying139 infoI (j - 1) (by omega)
            have hjc : ((j - 1 : Nat) : Int) = (j : Int) - 1 := by omega
            rw [hjc] at hidx'
            have hpv : pv zs j = some y := by
              obtain ⟨k, rfl⟩ : ∃ k, j = k + 1 := ⟨j - 1, by omega⟩
              exact hy
            rw [hpv] at hrest
            clear hpv hy hjc hz hj0
            by_cases hyz : y < z
            · have gyz : ¬ z ≤ y := by omega
              have HR := hide (show riseF 1 4 (pv zs (j + 1)) (zs.drop (j + 1)) = riseF 1 4 none zs by rw [← hrest]; simp [after, hyz])
              clear hrest
              go_wp2_with (go_at_call 75; refine (within_yes _ _ _ hz1 hz4 _).mono ?_; rintro e w' ⟨rfl, rfl⟩)
              go_round
              case rel => exact ⟨j + 1, by go_num, by omega, HR.out⟩
              case measure => simp [intOf]; omega
            · have gyz : z ≤ y := by omega
              have HR := hide (show riseF 1 4 none zs = false by rw [← hrest]; simp [after, hyz])
              clear hrest
              go_wp2_with (go_at_call 75; refine (within_yes _ _ _ hz1 hz4 _).mono ?_; rintro e w' ⟨rfl, rfl⟩)
              go_ret
              exact ⟨by rw [HR.out]; rfl, rfl⟩
        · have HR := hide (show riseF 1 4 none zs = false by rw [← hrest]; have : (decide (1 ≤ z) && decide (z ≤ 4)) = false := by (simp; omega)
                                                             rw [this]; rfl)
          clear hrest hz
          go_wp2_with (go_at_call 75; refine (within_no _ _ _ (by omega) _).mono ?_; rintro e w' ⟨rfl, rfl⟩)
          go_ret
          exact ⟨by rw [HR.out]; rfl, rfl⟩
      · have hjn : j = n := by omega
        have HR := hide (show riseF 1 4 none zs = true by rw [← hrest, hjn, ← HN.out, List.drop_length]; cases pv zs zs.length <;> rfl)
        clear hrest
        go_wp2_with fail
        go_ret
        exact ⟨by rw [HR.out]; rfl, rfl⟩
  · have hC : confOk zs = false := confOk_short (by rw [hn]; exact hin)
    rw [hC]
    go_enter Tryz.func137, Tryz.ntmps137
    go_wp2_with (go_at_call 75; refine (within_no _ _ _ (by omega) _).mono ?_; rintro e w' ⟨rfl, rfl⟩)
    go_ret
    exact ⟨rfl, rfl⟩

set_option maxHeartbeats 4000000 in
theorem l05Rise_any (oa : Option Addr) (n cap : Nat) (zs : List Int) (lo hi : Int) (w : World) (hat : IntsAt w oa n cap zs) :
    Calls Tryz.prog 123 #[.slice oa n cap, .int .i64 lo, .int .i64 hi] w fun e w' => e = .returned (.bool (riseF lo hi none zs)) ∧ Drew w w' := by
  have hn := hat.len
  have hc := hat.room
  have hm := hat.most
  unfold maxLen at hm
  have HN := hide hn
  have HAT := hide hat
  clear hn hat
  go_enter Tryz.func123, Tryz.ntmps123
  go_wp2_with fail
  go_loopw [7] (fun i wr => ∃ (j : Nat), i = .int .i64 (j : Int) ∧ j ≤ n ∧ riseF lo hi (pv zs j) (zs.drop j) = riseF lo hi none zs ∧ Drew w wr) (fun i _ => n - (intOf i).toNat)
  case atStart => exact ⟨0, rfl, Nat.zero_le _, rfl, 0, rfl⟩
  case round =>
    obtain ⟨j, rfl, hj, hrest, hdr⟩ := hrel
    by_cases hlt : j < n
    · have j0 : (j : Int) < (n : Int) := by omega
      obtain ⟨z, b, p, hz, hidx, hb, c0, hwf⟩ := (HAT.out.drew hdr).get Tryz.underlying139 infoI j hlt
      rw [riseF_at hz] at hrest
      by_cases hzr : lo ≤ z ∧ z ≤ hi
      · obtain ⟨hz1, hz4⟩ := hzr
        rw [decide_eq_true hz1, decide_eq_true hz4] at hrest
        simp only [Bool.true_and] at hrest
        have gz1 : decide (lo ≤ z) = true := decide_eq_true hz1
        have gz4 : decide (z ≤ hi) = true := decide_eq_true hz4
        by_cases hj0 : j = 0
        · have gj : decide (0 < j) = false := by simp [hj0]
          have HR := hide (show riseF lo hi (pv zs (j + 1)) (zs.drop (j + 1)) = riseF lo hi none zs by rw [← hrest, hj0]; simp [pv, after])
          clear hrest hz hj0
          go_wp2_with fail
          go_quiet ((go_at_call 37; exact Calls.quiet_of_same (l01In5_any _ _ _ _)))
          go_wp2_with fail
          go_roundw
          case rel => exact ⟨j + 1, by go_num, by omega, HR.out, hdr.more _⟩
          case measure => simp [intOf]; omega
        · have gj : decide (0 < j) = true := by simp; omega
          obtain ⟨y, b', p', hy, hidx', hb', c0', hwf'⟩ := (HAT.out.drew hdr).get Tryz.underlying139 infoI (j - 1) (by omega)
          have hjc : ((j - 1 : Nat) : Int) = (j : Int) - 1 := by omega
          rw [hjc] at hidx'
          have hwr : IntKind.i64.wrap ((j : Int) - 1) = (j : Int) - 1 := by rw [IntKind.wrap_i64]; omega
          have hpv : pv zs j = some y := by
            obtain ⟨k, rfl⟩ : ∃ k, j = k + 1 := ⟨j - 1, by omega⟩
            exact hy
          rw [hpv] at hrest
          clear hpv hy hjc hz hj0
          by_cases hyz : y < z
          · have gyz : decide (z ≤ y) = false := by simp; omega
            have HR := hide (show riseF lo hi (pv zs (j + 1)) (zs.drop (j + 1)) = riseF lo hi none zs by rw [← hrest]; simp [after, hyz])
            clear hrest
            go_wp2_with fail
            go_quiet ((go_at_call 37; exact Calls.quiet_of_same (l01In5_any _ _ _ _)))
            go_wp2_with fail
            go_roundw
            case rel => exact ⟨j + 1, by go_num, by omega, HR.out, hdr.more _⟩
            case measure => simp [intOf]; omega
          · have gyz : decide (z ≤ y) = true := by simp; omega
            have HR := hide (show riseF lo hi none zs = false by rw [← hrest]; simp [after, hyz])
            clear hrest
            go_wp2_with fail
            go_quiet ((go_at_call 37; exact Calls.quiet_of_same (l01In5_any _ _ _ _)))
            go_wp2_with fail
            go_ret
            exact ⟨by rw [HR.out]; rfl, hdr.more _⟩
      · have gz : (decide (lo ≤ z) && decide (z ≤ hi)) = false := by simp; omega
        have HR := hide (show riseF lo hi none zs = false by rw [← hrest, gz]; rfl)
        clear hrest hz
        go_wp2_with fail
        go_quiet ((go_at_call 37; exact Calls.quiet_of_same (l01In5_any _ _ _ _)))
        go_wp2_with fail
        go_ret
        exact ⟨by rw [HR.out]; rfl, hdr.more _⟩
    · have hjn : j = n := by omega
      have HR := hide (show riseF lo hi none zs = true by rw [← hrest, hjn, ← HN.out, List.drop_length]; cases pv zs zs.length <;> rfl)
      clear hrest
      go_wp2_with fail
      go_ret
      exact ⟨by rw [HR.out]; rfl, hdr⟩

theorem specConfOk_any (oa : Option Addr) (n cap : Nat) (zs : List Int) (w : World) (hat : IntsAt w oa n cap zs) :
    Calls Tryz.prog 107 #[.slice oa n cap] w fun e w' => e = .returned (.bool (confOk zs)) ∧ Drew w w' := by
  have hn := hat.len
  have hc := hat.room
  have hm := hat.most
  unfold maxLen at hm
  by_cases hin : 1 ≤ n ∧ n ≤ 4
  · obtain ⟨hin1, hin2⟩ := hin
    have hC : confOk zs = riseF 1 4 none zs := confOk_mid (by rw [hn]; exact ⟨hin1, hin2⟩)
    rw [hC]
    have HAT := hide hat
    clear hn hat hC
    go_enter Tryz.func107, Tryz.ntmps107
    go_wp2_with (first
      | (go_at_call 37; refine (l01In_yes _ _ _ (by omega) (by omega) _).mono ?_; rintro e w' ⟨rfl, rfl⟩)
      | (go_at_call 123; refine (l05Rise_any oa n cap zs _ _ _ HAT.out).mono ?_; rintro e w' ⟨rfl, hdr⟩))
    go_ret
    exact ⟨rfl, hdr⟩
  · have hC : confOk zs = false := confOk_short (by rw [hn]; exact hin)
    rw [hC]
    go_enter Tryz.func107, Tryz.ntmps107
    go_wp2_with (go_at_call 37; refine (l01In_no _ _ _ (by omega) _).mono ?_; rintro e w' ⟨rfl, rfl⟩)
    go_ret
    exact ⟨rfl, 0, rfl⟩

end Go.Proofs.YthbgklmnmoclhaaGreatDoor

namespace Go.Proofs.YthbgklmnmoclhaaGreatDoor
open Go.RowKit P5 P9 K
set_option linter.unusedVariables false
set_option linter.unusedSimpArgs false

/-- A row that is owned and not empty lies somewhere. -/
theorem own_some {w : World} {base : Nat} {e : TypeId} {size : Nat} {v : Value} {n : Nat} {xs : List Value} (h : w.ownsRow base e size v (n + 1) xs) (hs : 0 < size) : ∃ g cap, v = .slice (some ⟨g, 0, none⟩) (n + 1) cap := by
  have h1 := h.1
  rcases h.2 with ⟨rfl, h2⟩ | ⟨g, cap, cur, rfl, _⟩
  · exact absurd h2 (Nat.succ_ne_zero n)
  · exact ⟨g, cap, rfl⟩

/-- The marks k, k + 1 .. of n places. -/
def marksI (k n : Nat) : List Int := (List.range n).map fun i => ((k + i : Nat) : Int)

theorem marksI_length (k n : Nat) : (marksI k n).length = n := by simp [marksI]
theorem marksI_at (k n j : Nat) (h : j < n) : (marksI k n)[j]? = some ((k + j : Nat) : Int) := by simp [marksI, h]

theorem marksI_step (k j n : Nat) (xs : List Value) (hl : xs.length = n) (hj : j < n) : ((marksI k j).map icell ++ xs.drop j).set j (.int .i64 ((k + j : Nat) : Int)) = (marksI k (j + 1)).map icell ++ xs.drop (j + 1) := by
  have e1 : xs.drop j = xs[j] :: xs.drop (j + 1) := List.drop_eq_getElem_cons (by omega)
  have e2 : marksI k (j + 1) = marksI k j ++ [((k + j : Nat) : Int)] := by simp [marksI, List.range_succ]
  rw [e2, List.set_append_right _ _ (by simp [marksI_length]), List.map_append, List.length_map, marksI_length, Nat.sub_self, e1, List.set_cons_zero]
  simp [icell]

theorem wf_small {z : Int} (h0 : -1000000000 ≤ z) (h1 : z ≤ 1000000000000) : (Lit.int .i64 z).wf = true := by
  simp [Lit.wf, IntKind.min, IntKind.max, IntKind.signed, IntKind.bits]
  omega

theorem marksI_wf (k n : Nat) (hk : k ≤ 1000000000) (hn : n ≤ 1048576) : ∀ z ∈ marksI k n, (Lit.int .i64 z).wf = true := by
  intro z hz
  simp only [marksI, List.mem_map, List.mem_range] at hz
  obtain ⟨i, hi, rfl⟩ := hz
  exact wf_small (by omega) (by omega)

end Go.Proofs.YthbgklmnmoclhaaGreatDoor

namespace Go.Proofs.YthbgklmnmoclhaaGreatDoor
open Go.RowKit P1 P9 K
set_option linter.unusedVariables false
set_option linter.unusedSimpArgs false

/-- The results of ConfText. -/
def ctVal (zs : List Int) : Value := if confOk zs = true then .tuple #[.string ⟨(confB zs).toArray⟩, .bool true] else .tuple #[.string ⟨#[]⟩, .bool false]

theorem ctVal_yes {zs : List Int} (h : confOk zs = true) : ctVal zs = .tuple #[.string ⟨(confB zs).toArray⟩, .bool true] := by simp [ctVal, h]
theorem ctVal_no {zs : List Int} (h : confOk zs = false) : ctVal zs = .tuple #[.string ⟨#[]⟩, .bool false] := by simp [ctVal, h]

/-- What the loops of ConfText carry. -/
def CtRel (w : World) (zs : List Int) (j : Nat) (v : Value) (wr : World) : Prop :=
  wr.ownsRow w.heap.size 5 1 v j (B8 (confB (zs.take j))) ∧ Below w.heap.size w wr

theorem CtRel.next {w w' : World} {zs : List Int} {j : Nat} {v' : Value} {z : Int} (hz : zs[j]? = some z) (h1 : 1 ≤ z) (h4 : z ≤ 4)
    (hown : w'.ownsRow w.heap.size 5 1 v' (j + 1) (B8 (confB (zs.take j)) ++ [.int .u8 z])) (hb : Below w.heap.size w w') : CtRel w zs (j + 1) v' w' := by
  refine ⟨?_, hb⟩
  rw [List.take_add_one, hz]
  simp only [Option.toList_some]
  rw [confB_snoc, ← B8_snoc _ (UInt8.ofNat z.toNat) z (by rw [toNat_ofNat_small _ (by omega)]; omega)]
  exact hown

set_option maxHeartbeats 1000000 in
theorem implConfText_any (oa : Option Addr) (n cap : Nat) (zs : List Int) (w : World) (hat : IntsAt w oa n cap zs) :
    Calls Tryz.prog 183 #[.slice oa n cap] w fun e w' => e = .returned (ctVal zs) ∧ Below w.heap.size w w' := by
  have hn := hat.len
  cases hok : confOk zs with
  | false =>
    rw [ctVal_no hok]
    have HOK := hide hok
    have HAT := hide hat
    clear hok hat
    go_enter Tryz.func183, Tryz.ntmps183
    go_wp2_with (go_at_call 137; refine (implConfOk_any oa n cap zs _ HAT.out).mono ?_; rw [HOK.out]; rintro e w' ⟨rfl, rfl⟩)
    go_ret2
    exact ⟨rfl, Below.refl _ _⟩
  | true =>
    rw [ctVal_yes hok]
    have hlen := confOk_len hok
    have HMEM := hide (confOk_mem hok)
    rw [hn] at hlen
    obtain ⟨hl1, hl4⟩ := hlen
    have HN := hide hn
    have HOK := hide hok
    have HAT := hide hat
    clear hok hat hn
    go_enter Tryz.func183, Tryz.ntmps183
    go_wp2_with (go_at_call 137; refine (implConfOk_any oa n cap zs _ HAT.out).mono ?_; rw [HOK.out]; rintro e w' ⟨rfl, rfl⟩)
    go_loopw [4, 12] (fun v i wr => ∃ (j : Nat), i = .int .i64 (j : Int) ∧ j ≤ n ∧ CtRel w zs j v wr) (fun _ i _ => n - (intOf i).toNat)
    case atStart => exact ⟨0, rfl, Nat.zero_le _, World.ownsRow_nil _ _ _ _, Below.refl _ _⟩
    case round =>
      obtain ⟨j, rfl, hj, hown, hbel⟩ := hrel
      have hsz := hbel.size
      by_cases hlt : j < n
      · have j0 : (j : Int) < (n : Int) := by omega
        obtain ⟨z, b, q, hz, hidx, hb, c0, hwf⟩ := (HAT.out.below hbel).get Tryz.underlying139 infoI j hlt
        obtain ⟨hz1, hz4⟩ := HMEM.out z (List.mem_of_getElem? hz)
        have HZ := hide hz
        clear hz
        go_wp2_with (at_builtin; refine wpList_push rfl _ _ 101 rfl Tryz.underlying101 infoByte rfl rfl hown rfl rfl hbel hsz (by unfold maxLen; omega) (by omega) ?_)
        intro v' w1 hown' hbel' _
        have R := CtRel.next HZ.out hz1 hz4 hown' hbel'
        clear hown' hbel' hown hbel
        go_wp2
        go_roundw
        case rel => exact ⟨j + 1, by go_num, by omega, R⟩
        case measure => simp [intOf]; omega
      · have hjn : j = n := by omega
        rw [hjn, List.take_of_length_le (by rw [HN.out]; exact Nat.le_refl _)] at hown
        have hconv := run_string_own (P := Tryz.prog) (src := 101) (dst := 9) Tryz.underlying101 Tryz.underlying5 Tryz.underlying9 hown
        clear hown
        go_wp2
        go_ret2
        exact ⟨rfl, hbel⟩

/-- What ReadConf finds. -/
def rdConf (l : List UInt8) : List Int × Bool := if confOk (confZ l) = true then (confZ l, true) else ([], false)

theorem rdConf_yes {l : List UInt8} (h : confOk (confZ l) = true) : rdConf l = (confZ l, true) := by simp [rdConf, h]
theorem rdConf_no {l : List UInt8} (h : confOk (confZ l) = false) : rdConf l = ([], false) := by simp [rdConf, h]
theorem rdConf_long {l : List UInt8} (h : ¬ l.length ≤ 4) : confOk (confZ l) = false := confOk_short (by rw [confZ_length]; omega)

/-- The results of ReadConf: a new slice, and whether it is right. -/
def RcPost (w : World) (r : List Int × Bool) (e : Ending) (w' : World) : Prop :=
  ∃ g cap, e = .returned (.tuple #[.slice (some ⟨g, 0, none⟩) r.1.length cap, .bool r.2]) ∧ w'.ownsRow w.heap.size 3 1 (.slice (some ⟨g, 0, none⟩) r.1.length cap) r.1.length (r.1.map icell) ∧ Below w.heap.size w w'

/-- What the loops of ReadConf carry. -/
def RcRel (w : World) (s : ByteArray) (j : Nat) (v : Value) (wr : World) : Prop :=
  ∃ g cap, v = .slice (some ⟨g, 0, none⟩) j cap ∧ wr.ownsRow w.heap.size 3 1 v j ((confZ ((bl s).take j)).map icell) ∧ Below w.heap.size w wr

theorem RcRel.next {w w' : World} {s : ByteArray} {j : Nat} {v' : Value} (hj : j < s.size)
    (hown : w'.ownsRow w.heap.size 3 1 v' (j + 1) ((confZ ((bl s).take j)).map icell ++ [.int .i64 (s[j].toNat : Int)])) (hb : Below w.heap.size w w') : RcRel w s (j + 1) v' w' := by
  obtain ⟨g, cap, hv⟩ := own_some hown (by decide)
  refine ⟨g, cap, hv, ?_, hb⟩
  rw [bl_take s j hj, confZ_snoc, List.map_append]
  exact hown

theorem confZ_wf (l : List UInt8) : ∀ z ∈ confZ l, (Lit.int .i64 z).wf = true := by
  intro z hz
  simp only [confZ, List.mem_map] at hz
  obtain ⟨b, _, rfl⟩ := hz
  have := b.toNat_lt
  exact wf_small (by omega) (by omega)

set_option maxHeartbeats 1000000 in
theorem implReadConf_any (s : ByteArray) (hs : s.size ≤ 1048576) (w : World) :
    Calls Tryz.prog 129 #[.string s] w fun e w' => RcPost w (rdConf (bl s)) e w' := by
  obtain ⟨R, hR⟩ : ∃ R, rdConf (bl s) = R := ⟨_, rfl⟩
  rw [hR]
  have HR := hide hR
  clear hR
  by_cases h4 : s.size ≤ 4
  · have g4 : ¬ (4 : Int) < (s.size : Int) := by omega
    go_enter Tryz.func129, Tryz.ntmps129
    go_wp2_with fail
    go_loopw [4, 13] (fun v i wr => ∃ (j : Nat), i = .int .i64 (j : Int) ∧ j ≤ s.size ∧ RcRel w s j v wr) (fun _ i _ => s.size - (intOf i).toNat)
    case atStart => exact ⟨0, rfl, Nat.zero_le _, _, _, rfl, World.ownsRow_made (w := w) #[] 0 (Nat.le_refl _) (by decide) rfl, (Below.refl _ _).alloc (Nat.le_refl _) _⟩
    case round =>
      obtain ⟨j, rfl, hj, g, cap, rfl, hown, hbel⟩ := hrel
      have hsz := hbel.size
      by_cases hlt : j < s.size
      · have j0 : (j : Int) < (s.size : Int) := by omega
        have hidx : ∀ wx, (Instr.index 9 (.string s) (.int .i64 (j : Int))).run Tryz.prog wx = .ok (.int .u8 (s[j].toNat : Int)) wx := fun wx => idx_any s .i64 j hlt wx
        have hb0 : (s[j].toNat : Int) < 256 := by have := s[j].toNat_lt; omega
        have hb1 : 0 ≤ (s[j].toNat : Int) := by omega
        go_wp2_with (at_builtin; refine wpList_push rfl _ _ 139 rfl Tryz.underlying139 infoIz rfl rfl hown rfl rfl hbel hsz (by unfold maxLen; omega) (by omega) ?_)
        intro v' w1 hown' hbel' _
        have R := RcRel.next hlt hown' hbel'
        clear hown' hbel' hown hbel
        go_wp2
        go_roundw
        case rel => exact ⟨j + 1, by go_num, by omega, R⟩
        case measure => simp [intOf]; omega
      · have hjn : j = s.size := by omega
        subst hjn
        rw [List.take_of_length_le (by rw [bl_length]; exact Nat.le_refl _)] at hown
        obtain ⟨_, _, he, hat⟩ := intsAt_of_own hown (confZ_wf _)
        cases he
        have HAT := hide hat
        have HO := hide hown
        clear hat hown
        cases hok : confOk (confZ (bl s)) with
        | false =>
          obtain rfl : R = ([], false) := HR.out.symm.trans (rdConf_no hok)
          have HOK := hide hok
          clear hok
          go_wp2_with (go_at_call 137; refine (implConfOk_any _ _ _ _ _ HAT.out).mono ?_; rw [HOK.out]; rintro e w' ⟨rfl, rfl⟩)
          refine bodyPost_ret (v := .tuple #[.slice (some ⟨wr.heap.size, 0, none⟩) 0 0, .bool false]) (by simp [results, Tryz.results129, go_sem]) rfl ?_
          exact ⟨_, _, rfl, own_base (World.ownsRow_made (w := wr) #[] 0 (Nat.le_refl _) (by decide) rfl) hsz, hbel.alloc hsz _⟩
        | true =>
          obtain rfl : R = (confZ (bl s), true) := HR.out.symm.trans (rdConf_yes hok)
          have HOK := hide hok
          clear hok
          go_wp2_with (go_at_call 137; refine (implConfOk_any _ _ _ _ _ HAT.out).mono ?_; rw [HOK.out]; rintro e w' ⟨rfl, rfl⟩)
          refine bodyPost_ret (v := .tuple #[.slice (some ⟨g, 0, none⟩) s.size cap, .bool true]) (by simp [results, Tryz.results129, go_sem]) rfl ?_
          refine ⟨g, cap, ?_, ?_, hbel⟩
          · simp [confZ_length]
          · have := HO.out
            simpa [confZ_length] using this
  · have g4 : (4 : Int) < (s.size : Int) := by omega
    obtain rfl : R = ([], false) := HR.out.symm.trans (rdConf_no (rdConf_long (by rw [bl_length]; exact h4)))
    go_enter Tryz.func129, Tryz.ntmps129
    go_wp2_with fail
    refine bodyPost_ret (v := .tuple #[.slice (some ⟨w.heap.size, 0, none⟩) 0 0, .bool false]) (by simp [results, Tryz.results129, go_sem]) rfl ?_
    exact ⟨_, _, rfl, World.ownsRow_made (w := w) #[] 0 (Nat.le_refl _) (by decide) rfl, (Below.refl _ _).alloc (Nat.le_refl _) _⟩

end Go.Proofs.YthbgklmnmoclhaaGreatDoor
