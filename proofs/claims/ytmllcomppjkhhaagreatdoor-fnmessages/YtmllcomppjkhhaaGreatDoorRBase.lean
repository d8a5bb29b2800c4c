/-
  Walks and mathematics of Base, Walk1a, Walk5a.
-/
import Derived.Test.YtmllcomppjkhhaaGreatDoorRows
import Derived.Test.YtmllcomppjkhhaaGreatDoorRPlain1
import Derived.Test.YtmllcomppjkhhaaGreatDoorRKit
import Derived.Test.YtmllcomppjkhhaaGreatDoorRInts
namespace Go.Proofs.YtmllcomppjkhhaaGreatDoor
open Go.RowKit P1 K
set_option linter.unusedVariables false

theorem infoByte : (Tryz.prog.info? 5).map (fun i => (i.zero, i.size, i.bytes)) = some (some (.int .u8 0), 1, 1) := by kernel_rfl

theorem toNat_ofNat_small (x : Nat) (h : x < 256) : (UInt8.ofNat x).toNat = x := by
  simp [UInt8.toNat_ofNat']; omega

abbrev bl (s : ByteArray) : List UInt8 := s.data.toList

theorem bl_length (s : ByteArray) : (bl s).length = s.size := by simp

theorem bl_drop (s : ByteArray) (p : Nat) (h : p < s.size) : (bl s).drop p = s[p] :: (bl s).drop (p + 1) := by
  rw [List.drop_eq_getElem_cons (by simpa using h)]; rfl

theorem bl_take (s : ByteArray) (k : Nat) (h : k < s.size) : (bl s).take (k + 1) = (bl s).take k ++ [s[k]] := by
  rw [List.take_succ_eq_append_getElem (by simpa using h)]; rfl

theorem idx_any (s : ByteArray) (kd : IntKind) (k : Nat) (h : k < s.size) (wx : World) : (Instr.index 9 (.string s) (.int kd (k : Int))).run Tryz.prog wx = .ok (.int .u8 (s[k].toNat : Int)) wx := by
  rw [run_index_string (P := Tryz.prog) wx 9 s kd (k : Int) Tryz.underlying9, dif_pos ⟨by omega, by omega⟩]; rfl

end Go.Proofs.YtmllcomppjkhhaaGreatDoor

namespace Go.Proofs.YtmllcomppjkhhaaGreatDoor
open Go.RowKit P1 K
set_option linter.unusedVariables false

def VarRel (n : Nat) (w : World) (m : Nat) (v : Value) (wr : World) : Prop :=
  ∃ (f : Nat) (xs : List UInt8), m ≤ 1000000000 ∧ m < 128 ^ (f + 1) ∧ xs.length + f = 9 ∧ xs ++ varF f m = varB n ∧ wr.ownsRow w.heap.size 5 1 v xs.length (B8 xs) ∧ Below w.heap.size w wr

theorem VarRel.next {n m : Nat} {w w' : World} {v' : Value} (hm : m ≤ 1000000000) (hi : 127 < m) {f : Nat} {xs : List UInt8} (hf : m < 128 ^ (f + 1)) (hl : xs.length + f = 9) (hxs : xs ++ varF f m = varB n)
    (hown : w'.ownsRow w.heap.size 5 1 v' (xs.length + 1) (B8 xs ++ [.int .u8 ((m : Int) % 128 + 128)])) (hbel : Below w.heap.size w w') : VarRel n w (m / 128) v' w' := by
  obtain ⟨f', rfl, h1, h2⟩ := var_step f n m xs hf hxs hi
  refine ⟨f', xs ++ [UInt8.ofNat (m % 128 + 128)], by omega, h1, by simp; omega, h2, ?_, hbel⟩
  rw [B8_snoc xs (UInt8.ofNat (m % 128 + 128)) _ (by rw [toNat_ofNat_small _ (by omega)]; omega)] at hown
  simpa using hown

theorem var_last {n m : Nat} {w w' : World} {v' : Value} (lo : m ≤ 127) {f : Nat} {xs : List UInt8} (hxs : xs ++ varF f m = varB n)
    (hown : w'.ownsRow w.heap.size 5 1 v' (xs.length + 1) (B8 xs ++ [.int .u8 (m : Int)])) :
    w'.ownsRow w.heap.size 5 1 v' (xs.length + 1) (B8 (varB n)) := by
  rw [B8_snoc xs (UInt8.ofNat m) _ (by rw [toNat_ofNat_small _ (by omega)]), var_end f n m xs hxs lo] at hown
  exact hown

set_option maxHeartbeats 1000000 in
theorem l01Var_any (n : Nat) (hn : n ≤ 1000000000) (w : World) :
    Calls Tryz.prog 59 #[.int .i64 n] w fun e w' => e = .returned (.string ⟨(varB n).toArray⟩) ∧ Below w.heap.size w w' := by
  go_enter Tryz.func59, Tryz.ntmps59
  go_wp2
  go_loopw [0, 3] (fun t v wr => ∃ m : Nat, t = .int .i64 m ∧ VarRel n w m v wr) (fun t _ _ => (intOf t).toNat)
  case atStart =>
    refine ⟨n, rfl, 9, [], hn, by omega, rfl, rfl, ?_, (Below.refl _ _).alloc (Nat.le_refl _) _⟩
    exact World.ownsRow_made (w := w) #[] 0 (Nat.le_refl _) (by decide) rfl
  case round =>
    obtain ⟨m, rfl, f, xs, hm, hf, hl, hxs, hown, hbel⟩ := hrel
    have HX : Hid (xs ++ varF f m = varB n) := hxs
    have HF : Hid (xs.length + f = 9) := hl
    have HM : Hid (m < 128 ^ (f + 1)) := hf
    have hl' : xs.length ≤ 9 := by omega
    clear hxs hl hf
    have hsz := hbel.size
    by_cases hlt : 127 < m
    · go_wp2_with (at_builtin; refine wpList_push rfl _ _ 22 rfl Tryz.underlying22 infoByte rfl rfl hown rfl rfl hbel hsz (by unfold maxLen; omega) (by omega) ?_)
      intro v' w1 hown' hbel' _
      have R := VarRel.next hm hlt HM.out HF.out HX.out hown' hbel'
      clear hown' hbel' hown hbel
      go_wp2
      go_roundw
      case rel => exact ⟨m / 128, by go_num, R⟩
      case measure => simp [intOf]; omega
    · go_wp2_with (at_builtin; refine wpList_push rfl _ _ 22 rfl Tryz.underlying22 infoByte rfl rfl hown rfl rfl hbel hsz (by unfold maxLen; omega) (by omega) ?_)
      intro v' w1 hown' hbel' _
      have R := var_last (n := n) (by omega) HX.out hown'
      have hconv := run_string_own (P := Tryz.prog) (src := 22) (dst := 9) Tryz.underlying22 Tryz.underlying5 Tryz.underlying9 R
      clear hown' hown hbel R
      go_wp2
      go_ret
      exact ⟨rfl, hbel'⟩

set_option maxHeartbeats 1000000 in
theorem implVarText_yes (n : Nat) (hn : n ≤ 1000000000) (w : World) :
    Calls Tryz.prog 84 #[.int .i64 n] w fun e w' => e = .returned (.tuple #[.string ⟨(varB n).toArray⟩, .bool true]) ∧ Below w.heap.size w w' := by
  have g1 : ¬ ((n : Int) < 0) := by omega
  have g2 : ¬ ((1000000000 : Int) < (n : Int)) := by omega
  go_enter Tryz.func84, Tryz.ntmps84
  go_wp2
  go_loopw [0, 4] (fun t v wr => ∃ m : Nat, t = .int .i64 m ∧ VarRel n w m v wr) (fun t _ _ => (intOf t).toNat)
  case atStart => exact ⟨n, rfl, 9, [], hn, by omega, rfl, rfl, World.ownsRow_nil _ _ _ _, Below.refl _ _⟩
  case round =>
    obtain ⟨m, rfl, f, xs, hm, hf, hl, hxs, hown, hbel⟩ := hrel
    have HX : Hid (xs ++ varF f m = varB n) := hxs
    have HF : Hid (xs.length + f = 9) := hl
    have HM : Hid (m < 128 ^ (f + 1)) := hf
    have hl' : xs.length ≤ 9 := by omega
    clear hxs hl hf
    have hsz := hbel.size
    by_cases hlt : 127 < m
    · go_wp2_with (at_builtin; refine wpList_push rfl _ _ 22 rfl Tryz.underlying22 infoByte rfl rfl hown rfl rfl hbel hsz (by unfold maxLen; omega) (by omega) ?_)
      intro v' w1 hown' hbel' _
      have R := VarRel.next hm hlt HM.out HF.out HX.out hown' hbel'
      clear hown' hbel' hown hbel
      go_wp2
      go_roundw
      case rel => exact ⟨m / 128, by go_num, R⟩
      case measure => simp [intOf]; omega
    · go_wp2_with (at_builtin; refine wpList_push rfl _ _ 22 rfl Tryz.underlying22 infoByte rfl rfl hown rfl rfl hbel hsz (by unfold maxLen; omega) (by omega) ?_)
      intro v' w1 hown' hbel' _
      have R := var_last (n := n) (by omega) HX.out hown'
      have hconv := run_string_own (P := Tryz.prog) (src := 22) (dst := 9) Tryz.underlying22 Tryz.underlying5 Tryz.underlying9 R
      clear hown' hown hbel R
      go_wp2
      go_ret2
      exact ⟨rfl, hbel'⟩

theorem l01In_yes (x a b : Int) (h0 : a ≤ x) (h1 : x ≤ b) (w : World) :
    Calls Tryz.prog 19 #[.int .i64 x, .int .i64 a, .int .i64 b] w fun e w' => e = .returned (.bool true) ∧ w = w' := by
  go_enter Tryz.func19, Tryz.ntmps19
  go_wp2
  go_ret
  exact ⟨rfl, rfl⟩

theorem l01In_no (x a b : Int) (h : x < a ∨ b < x) (w : World) :
    Calls Tryz.prog 19 #[.int .i64 x, .int .i64 a, .int .i64 b] w fun e w' => e = .returned (.bool false) ∧ w = w' := by
  by_cases h0 : x < a
  · go_enter Tryz.func19, Tryz.ntmps19
    go_wp2
    go_ret
    exact ⟨rfl, rfl⟩
  · have h1 : ¬ x ≤ b := by omega
    have h2 : a ≤ x := by omega
    clear h h0
    go_enter Tryz.func19, Tryz.ntmps19
    go_wp2
    go_ret
    exact ⟨rfl, rfl⟩

end Go.Proofs.YtmllcomppjkhhaaGreatDoor

namespace Go.Proofs.YtmllcomppjkhhaaGreatDoor
open Go.RowKit P1 P9 K
set_option linter.unusedVariables false
set_option linter.unusedSimpArgs false

theorem l01In5_any (x a b : Int) (w : World) :
    Calls Tryz.prog 19 #[.int .i64 x, .int .i64 a, .int .i64 b] w fun e w' => e = .returned (.bool (decide (a ≤ x) && decide (x ≤ b))) ∧ w' = w := by
  by_cases h : a ≤ x ∧ x ≤ b
  · rw [decide_eq_true h.1, decide_eq_true h.2]
    exact (l01In_yes x a b h.1 h.2 w).mono fun e w' ⟨h1, h2⟩ => ⟨h1, h2.symm⟩
  · have : (decide (a ≤ x) && decide (x ≤ b)) = false := by simp; omega
    rw [this]
    exact (l01In_no x a b (by omega) w).mono fun e w' ⟨h1, h2⟩ => ⟨h1, h2.symm⟩

theorem within_yes (x a b : Int) (h0 : a ≤ x) (h1 : x ≤ b) (w : World) :
    Calls Tryz.prog 57 #[.int .i64 x, .int .i64 a, .int .i64 b] w fun e w' => e = .returned (.bool true) ∧ w = w' := by
  go_enter Tryz.func57, Tryz.ntmps57
  go_wp2
  go_ret
  exact ⟨rfl, rfl⟩

theorem within_no (x a b : Int) (h : x < a ∨ b < x) (w : World) :
    Calls Tryz.prog 57 #[.int .i64 x, .int .i64 a, .int .i64 b] w fun e w' => e = .returned (.bool false) ∧ w = w' := by
  by_cases h0 : x < a
  · go_enter Tryz.func57, Tryz.ntmps57
    go_wp2
    go_ret
    exact ⟨rfl, rfl⟩
  · have h1 : ¬ x ≤ b := by omega
    have h2 : a ≤ x := by omega
    clear h h0
    go_enter Tryz.func57, Tryz.ntmps57
    go_wp2
    go_ret
    exact ⟨rfl, rfl⟩

theorem within_any (x a b : Int) (w : World) :
    Calls Tryz.prog 57 #[.int .i64 x, .int .i64 a, .int .i64 b] w fun e w' => e = .returned (.bool (decide (a ≤ x) && decide (x ≤ b))) ∧ w = w' := by
  by_cases h : a ≤ x ∧ x ≤ b
  · rw [decide_eq_true h.1, decide_eq_true h.2]
    exact within_yes x a b h.1 h.2 w
  · have : (decide (a ≤ x) && decide (x ≤ b)) = false := by simp; omega
    rw [this]
    exact within_no x a b (by omega) w

def Drew (w w' : World) : Prop := ∃ q, w' = w.drewN q

theorem Drew.more {w w' : World} (h : Drew w w') (q : Nat) : Drew w (w'.drewN q) := by
  obtain ⟨k, rfl⟩ := h
  exact ⟨k + q, by simp⟩

theorem Drew.below {w w' : World} (h : Drew w w') : Below w.heap.size w w' := by
  obtain ⟨k, rfl⟩ := h
  exact below_drewN (Below.refl _ _) _

theorem IntsAt.drew {w w' : World} {oa : Option Addr} {n cap : Nat} {zs : List Int} (h : IntsAt w oa n cap zs) (hd : Drew w w') : IntsAt w' oa n cap zs := h.below hd.below

set_option maxHeartbeats 1000000 in
theorem implConfOk_any (oa : Option Addr) (n cap : Nat) (zs : List Int) (w : World) (hat : IntsAt w oa n cap zs) :
    Calls Tryz.prog 58 #[.slice oa n cap] w fun e w' => e = .returned (.bool (confOk zs)) ∧ w = w' := by
  have hn := hat.len
  have hc := hat.room
  have hm := hat.most
  unfold maxLen at hm
  by_cases hin : 1 ≤ n ∧ n ≤ 4
  · obtain ⟨hin1, hin2⟩ := hin
    have hC : confOk zs = riseF 1 4 none zs := confOk_mid (by rw [hn]; exact ⟨hin1, hin2⟩)
    rw [hC]
    have HN := hide hn
    have HAT := hide hat
    clear hn hat hC
    go_enter Tryz.func58, Tryz.ntmps58
    go_wp2_with (go_at_call 57; refine (within_yes _ _ _ (by omega) (by omega) _).mono ?_; rintro e w' ⟨rfl, rfl⟩)
    go_loop [11] (fun i => ∃ (j : Nat), i = .int .i64 (j : Int) ∧ j ≤ n ∧ riseF 1 4 (pv zs j) (zs.drop j) = riseF 1 4 none zs) (fun i => n - (intOf i).toNat)
    case atStart => exact ⟨0, rfl, Nat.zero_le _, rfl⟩
    case round =>
      obtain ⟨j, rfl, hj, hrest⟩ := hrel
      by_cases hlt : j < n
      · have j0 : (j : Int) < (n : Int) := by omega
        obtain ⟨z, b, q, hz, hidx, hb, c0, hwf⟩ := HAT.out.get Tryz.underlying25 infoI j hlt
        rw [riseF_at hz] at hrest
        by_cases hzr : 1 ≤ z ∧ z ≤ 4
        · obtain ⟨hz1, hz4⟩ := hzr
          rw [decide_eq_true hz1, decide_eq_true hz4] at hrest
          simp only [Bool.true_and] at hrest
          by_cases hj0 : j = 0
          · have gj : ¬ (0 : Int) < (j : Int) := by omega
            have HR := hide (show riseF 1 4 (pv zs (j + 1)) (zs.drop (j + 1)) = riseF 1 4 none zs by rw [← hrest, hj0]; simp [pv, after])
            clear hrest hz hj0
            go_wp2_with (go_at_call 57; refine (within_yes _ _ _ hz1 hz4 _).mono ?_; rintro e w' ⟨rfl, rfl⟩)
            go_round
            case rel => exact ⟨j + 1, by go_num, by omega, HR.out⟩
            case measure => simp [intOf]; omega
          · have gj : (0 : Int) < (j : Int) := by omega
            obtain ⟨y, b', q', hy, hidx', hb', c0', hwf'⟩ := HAT.out.get Tryz.underlying25 infoI (j - 1) (by omega)
            have hjc : ((j - 1 : Nat) : Int) = (j : Int) - 1 := by omega
            rw [hjc] at hidx'
            have hpv : pv zs j = some y := by
              obtain ⟨k, rfl⟩ : ∃ k, j = k + 1 := ⟨j - 1, by omega⟩
              exact hy
            rw [hpv] at hrest
            clear hpv hy hjc hz hj0
            by_cases hyz : y < z
            · have gyz : ¬ z ≤ y := by omega
              have HR := hide (show riseF 1 4 (pv zs (j + 1)) (zs.drop (j + 1)) = riseF 1 4 none zs by rw [← hrest]; simp [after, hyz])
              clear hrest
              go_wp2_with (go_at_call 57; refine (within_yes _ _ _ hz1 hz4 _).mono ?_; rintro e w' ⟨rfl, rfl⟩)
              go_round
              case rel => exact ⟨j + 1, by go_num, by omega, HR.out⟩
              case measure => simp [intOf]; omega
            · have gyz : z ≤ y := by omega
              have HR := hide (show riseF 1 4 none zs = false by rw [← hrest]; simp [after, hyz])
              clear hrest
              go_wp2_with (go_at_call 57; refine (within_yes _ _ _ hz1 hz4 _).mono ?_; rintro e w' ⟨rfl, rfl⟩)
              go_ret
              exact ⟨by rw [HR.out]; rfl, rfl⟩
        · have HR := hide (show riseF 1 4 none zs = false by rw [← hrest]; have : (decide (1 ≤ z) && decide (z ≤ 4)) = false := by (simp; omega)
                                                             rw [this]; rfl)
          clear hrest hz
          go_wp2_with (go_at_call 57; refine (within_no _ _ _ (by omega) _).mono ?_; rintro e w' ⟨rfl, rfl⟩)
          go_ret
          exact ⟨by rw [HR.out]; rfl, rfl⟩
      · have hjn : j = n := by omega
        have HR := hide (show riseF 1 4 none zs = true by rw [← hrest, hjn, ← HN.out, List.drop_length]; cases pv zs zs.length <;> rfl)
        clear hrest
        go_wp2_with fail
        go_ret
        exact ⟨by rw [HR.out]; rfl, rfl⟩
  · have hC : confOk zs = false := confOk_short (by rw [hn]; exact hin)
    rw [hC]
    go_enter Tryz.func58, Tryz.ntmps58
    go_wp2_with (go_at_call 57; refine (within_no _ _ _ (by omega) _).mono ?_; rintro e w' ⟨rfl, rfl⟩)
    go_ret
    exact ⟨rfl, rfl⟩

set_option maxHeartbeats 4000000 in
theorem l05Rise_any (oa : Option Addr) (n cap : Nat) (zs : List Int) (lo hi : Int) (w : World) (hat : IntsAt w oa n cap zs) :
    Calls Tryz.prog 54 #[.slice oa n cap, .int .i64 lo, .int .i64 hi] w fun e w' => e = .returned (.bool (riseF lo hi none zs)) ∧ Drew w w' := by
  have hn := hat.len
  have hc := hat.room
  have hm := hat.most
  unfold maxLen at hm
  have HN := hide hn
  have HAT := hide hat
  clear hn hat
  go_enter Tryz.func54, Tryz.ntmps54
  go_wp2_with fail
  go_loopw [7] (fun i wr => ∃ (j : Nat), i = .int .i64 (j : Int) ∧ j ≤ n ∧ riseF lo hi (pv zs j) (zs.drop j) = riseF lo hi none zs ∧ Drew w wr) (fun i _ => n - (intOf i).toNat)
  case atStart => exact ⟨0, rfl, Nat.zero_le _, rfl, 0, rfl⟩
  case round =>
    obtain ⟨j, rfl, hj, hrest, hdr⟩ := hrel
    by_cases hlt : j < n
    · have j0 : (j : Int) < (n : Int) := by omega
      obtain ⟨z, b, p, hz, hidx, hb, c0, hwf⟩ := (HAT.out.drew hdr).get Tryz.underlying25 infoI j hlt
      rw [riseF_at hz] at hrest
      by_cases hzr : lo ≤ z ∧ z ≤ hi
      · obtain ⟨hz1, hz4⟩ := hzr
        rw [decide_eq_true hz1, decide_eq_true hz4] at hrest
        simp only [Bool.true_and] at hrest
        have gz1 : decide (lo ≤ z) = true := decide_eq_true hz1
        have gz4 : decide (z ≤ hi) = true := decide_eq_true hz4
        by_cases hj0 : j = 0
        · have gj : decide (0 < j) = false := by simp [hj0]
          have HR := hide (show riseF lo hi (pv zs (j + 1)) (zs.drop (j + 1)) = riseF lo hi none zs by rw [← hrest, hj0]; simp [pv, after])
          clear hrest hz hj0
          go_wp2_with fail
          go_quiet ((go_at_call 19; exact Calls.quiet_of_same (l01In5_any _ _ _ _)))
          go_wp2_with fail
          go_roundw
          case rel => exact ⟨j + 1, by go_num, by omega, HR.out, hdr.more _⟩
          case measure => simp [intOf]; omega
        · have gj : decide (0 < j) = true := by simp; omega
          obtain ⟨y, b', p', hy, hidx', hb', c0', hwf'⟩ := (HAT.out.drew hdr).get Tryz.underlying25 infoI (j - 1) (by omega)
          have hjc : ((j - 1 : Nat) : Int) = (j : Int) - 1 := by omega
          rw [hjc] at hidx'
          have hwr : IntKind.i64.wrap ((j : Int) - 1) = (j : Int) - 1 := by rw [IntKind.wrap_i64]; omega
          have hpv : pv zs j = some y := by
            obtain ⟨k, rfl⟩ : ∃ k, j = k + 1 := ⟨j - 1, by omega⟩
            exact hy
          rw [hpv] at hrest
          clear hpv hy hjc hz hj0
          by_cases hyz : y < z
          · have gyz : decide (z ≤ y) = false := by simp; omega
            have HR := hide (show riseF lo hi (pv zs (j + 1)) (zs.drop (j + 1)) = riseF lo hi none zs by rw [← hrest]; simp [after, hyz])
            clear hrest
            go_wp2_with fail
            go_quiet ((go_at_call 19; exact Calls.quiet_of_same (l01In5_any _ _ _ _)))
            go_wp2_with fail
            go_roundw
            case rel => exact ⟨j + 1, by go_num, by omega, HR.out, hdr.more _⟩
            case measure => simp [intOf]; omega
          · have gyz : decide (z ≤ y) = true := by simp; omega
            have HR := hide (show riseF lo hi none zs = false by rw [← hrest]; simp [after, hyz])
            clear hrest
            go_wp2_with fail
            go_quiet ((go_at_call 19; exact Calls.quiet_of_same (l01In5_any _ _ _ _)))
            go_wp2_with fail
            go_ret
            exact ⟨by rw [HR.out]; rfl, hdr.more _⟩
      · have gz : (decide (lo ≤ z) && decide (z ≤ hi)) = false := by simp; omega
        have HR := hide (show riseF lo hi none zs = false by rw [← hrest, gz]; rfl)
        clear hrest hz
        go_wp2_with fail
        go_quiet ((go_at_call 19; exact Calls.quiet_of_same (l01In5_any _ _ _ _)))
        go_wp2_with fail
        go_ret
        exact ⟨by rw [HR.out]; rfl, hdr.more _⟩
    · have hjn : j = n := by omega
      have HR := hide (show riseF lo hi none zs = true by rw [← hrest, hjn, ← HN.out, List.drop_length]; cases pv zs zs.length <;> rfl)
      clear hrest
      go_wp2_with fail
      go_ret
      exact ⟨by rw [HR.out]; rfl, hdr⟩

theorem specConfOk_any (oa : Option Addr) (n cap : Nat) (zs : List Int) (w : World) (hat : IntsAt w oa n cap zs) :
    Calls Tryz.prog 21 #[.slice oa n cap] w fun e w' => e = .returned (.bool (confOk zs)) ∧ Drew w w' := by
  have hn := hat.len
  have hc := hat.room
  have hm := hat.most
  unfold maxLen at hm
  by_cases hin : 1 ≤ n ∧ n ≤ 4
  · obtain ⟨hin1, hin2⟩ := hin
    have hC : confOk zs = riseF 1 4 none zs := confOk_mid (by rw [hn]; exact ⟨hin1, hin2⟩)
    rw [hC]
    have HAT := hide hat
    clear hn hat hC
    go_enter Tryz.func21, Tryz.ntmps21
    go_wp2_with (first
      | (go_at_call 19; refine (l01In_yes _ _ _ (by omega) (by omega) _).mono ?_; rintro e w' ⟨rfl, rfl⟩)
      | (go_at_call 54; refine (l05Rise_any oa n cap zs _ _ _ HAT.out).mono ?_; rintro e w' ⟨rfl, hdr⟩))
    go_ret
    exact ⟨rfl, hdr⟩
  · have hC : confOk zs = false := confOk_short (by rw [hn]; exact hin)
    rw [hC]
    go_enter Tryz.func21, Tryz.ntmps21
    go_wp2_with (go_at_call 19; refine (l01In_no _ _ _ (by omega) _).mono ?_; rintro e w' ⟨rfl, rfl⟩)
    go_ret
    exact ⟨rfl, 0, rfl⟩

end Go.Proofs.YtmllcomppjkhhaaGreatDoor
