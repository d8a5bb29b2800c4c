/-
  Walks and mathematics of Walk1a.
-/
import Derived.Test.YtmllcomppjkhhaaDoorQbBase
namespace Go.Proofs.YtmllcomppjkhhaaDoor
open Go.RowKit P1 K
set_option linter.unusedVariables false

def VarRel (n : Nat) (w : World) (m : Nat) (v : Value) (wr : World) : Prop :=
  ∃ (f : Nat) (xs : List UInt8), m ≤ 1000000000 ∧ m < 128 ^ (f + 1) ∧ xs.length + f = 9 ∧ xs ++ varF f m = varB n ∧ wr.ownsRow w.heap.size 5 1 v xs.length (B8 xs) ∧ Below w.heap.size w wr

theorem VarRel.next {n m : Nat} {w w' : World} {v' : Value} (hm : m ≤ 1000000000) (hi : 127 < m) {f : Nat} {xs : List UInt8} (hf : m < 128 ^ (f + 1)) (hl : xs.length + f = 9) (hxs : xs ++ varF f m = varB n)
    (hown : w'.ownsRow w.heap.size 5 1 v' (xs.length + 1) (B8 xs ++ [.int .u8 ((m : Int) % 128 + 128)])) (hbel : Below w.heap.size w w') : VarRel n w (m / 128) v' w' := by
  obtain ⟨f', rfl, h1, h2⟩ := var_step f n m xs hf hxs hi
  refine ⟨f', xs ++ [UInt8.ofNat (m % 128 + 128)], by omega, h1, by simp; omega, h2, ?_, hbel⟩
  rw [B8_snoc xs (UInt8.ofNat (m % 128 + 128)) _ (by rw [toNat_ofNat_small _ (by omega)]; omega)] at hown
  simpa using hown

theorem var_last {n m : Nat} {w w' : World} {v' : Value} (lo : m ≤ 127) {f : Nat} {xs : List UInt8} (hxs : xs ++ varF f m = varB n)
    (hown : w'.ownsRow w.heap.size 5 1 v' (xs.length + 1) (B8 xs ++ [.int .u8 (m : Int)])) :
    w'.ownsRow w.heap.size 5 1 v' (xs.length + 1) (B8 (varB n)) := by
  rw [B8_snoc xs (UInt8.ofNat m) _ (by rw [toNat_ofNat_small _ (by omega)]), var_end f n m xs hxs lo] at hown
  exact hown

set_option maxHeartbeats 1000000 in
theorem l01Var_any (n : Nat) (hn : n ≤ 1000000000) (w : World) :
    Calls Tryd.prog 32 #[.int .i64 n] w fun e w' => e = .returned (.string ⟨(varB n).toArray⟩) ∧ Below w.heap.size w w' := by
  go_enter Tryd.func32, Tryd.ntmps32
  go_wp2
  go_loopw [0, 3] (fun t v wr => ∃ m : Nat, t = .int .i64 m ∧ VarRel n w m v wr) (fun t _ _ => (intOf t).toNat)
  case atStart =>
    refine ⟨n, rfl, 9, [], hn, by omega, rfl, rfl, ?_, (Below.refl _ _).alloc (Nat.le_refl _) _⟩
    exact World.ownsRow_made (w := w) #[] 0 (Nat.le_refl _) (by decide) rfl
  case round =>
    obtain ⟨m, rfl, f, xs, hm, hf, hl, hxs, hown, hbel⟩ := hrel
    have HX : Hid (xs ++ varF f m = varB n) := hxs
    have HF : Hid (xs.length + f = 9) := hl
    have HM : Hid (m < 128 ^ (f + 1)) := hf
    have hl' : xs.length ≤ 9 := by omega
    clear hxs hl hf
    have hsz := hbel.size
    by_cases hlt : 127 < m
    · go_wp2_with (at_builtin; refine wpList_push rfl _ _ 59 rfl Tryd.underlying59 infoByte rfl rfl hown rfl rfl hbel hsz (by unfold maxLen; omega) (by omega) ?_)
      intro v' w1 hown' hbel' _
      have R := VarRel.next hm hlt HM.out HF.out HX.out hown' hbel'
      clear hown' hbel' hown hbel
      go_wp2
      go_roundw
      case rel => exact ⟨m / 128, by go_num, R⟩
      case measure => simp [intOf]; omega
    · go_wp2_with (at_builtin; refine wpList_push rfl _ _ 59 rfl Tryd.underlying59 infoByte rfl rfl hown rfl rfl hbel hsz (by unfold maxLen; omega) (by omega) ?_)
      intro v' w1 hown' hbel' _
      have R := var_last (n := n) (by omega) HX.out hown'
      have hconv := run_string_own (P := Tryd.prog) (src := 59) (dst := 9) Tryd.underlying59 Tryd.underlying5 Tryd.underlying9 R
      clear hown' hown hbel R
      go_wp2
      go_ret
      exact ⟨rfl, hbel'⟩

set_option maxHeartbeats 1000000 in
theorem implVarText_yes (n : Nat) (hn : n ≤ 1000000000) (w : World) :
    Calls Tryd.prog 84 #[.int .i64 n] w fun e w' => e = .returned (.tuple #[.string ⟨(varB n).toArray⟩, .bool true]) ∧ Below w.heap.size w w' := by
  have g1 : ¬ ((n : Int) < 0) := by omega
  have g2 : ¬ ((1000000000 : Int) < (n : Int)) := by omega
  go_enter Tryd.func84, Tryd.ntmps84
  go_wp2
  go_loopw [0, 4] (fun t v wr => ∃ m : Nat, t = .int .i64 m ∧ VarRel n w m v wr) (fun t _ _ => (intOf t).toNat)
  case atStart => exact ⟨n, rfl, 9, [], hn, by omega, rfl, rfl, World.ownsRow_nil _ _ _ _, Below.refl _ _⟩
  case round =>
    obtain ⟨m, rfl, f, xs, hm, hf, hl, hxs, hown, hbel⟩ := hrel
    have HX : Hid (xs ++ varF f m = varB n) := hxs
    have HF : Hid (xs.length + f = 9) := hl
    have HM : Hid (m < 128 ^ (f + 1)) := hf
    have hl' : xs.length ≤ 9 := by omega
    clear hxs hl hf
    have hsz := hbel.size
    by_cases hlt : 127 < m
    · go_wp2_with (at_builtin; refine wpList_push rfl _ _ 59 rfl Tryd.underlying59 infoByte rfl rfl hown rfl rfl hbel hsz (by unfold maxLen; omega) (by omega) ?_)
      intro v' w1 hown' hbel' _
      have R := VarRel.next hm hlt HM.out HF.out HX.out hown' hbel'
      clear hown' hbel' hown hbel
      go_wp2
      go_roundw
      case rel => exact ⟨m / 128, by go_num, R⟩
      case measure => simp [intOf]; omega
    · go_wp2_with (at_builtin; refine wpList_push rfl _ _ 59 rfl Tryd.underlying59 infoByte rfl rfl hown rfl rfl hbel hsz (by unfold maxLen; omega) (by omega) ?_)
      intro v' w1 hown' hbel' _
      have R := var_last (n := n) (by omega) HX.out hown'
      have hconv := run_string_own (P := Tryd.prog) (src := 59) (dst := 9) Tryd.underlying59 Tryd.underlying5 Tryd.underlying9 R
      clear hown' hown hbel R
      go_wp2
      go_ret2
      exact ⟨rfl, hbel'⟩

theorem l01In_yes (x a b : Int) (h0 : a ≤ x) (h1 : x ≤ b) (w : World) :
    Calls Tryd.prog 19 #[.int .i64 x, .int .i64 a, .int .i64 b] w fun e w' => e = .returned (.bool true) ∧ w = w' := by
  go_enter Tryd.func19, Tryd.ntmps19
  go_wp2
  go_ret
  exact ⟨rfl, rfl⟩

theorem l01In_no (x a b : Int) (h : x < a ∨ b < x) (w : World) :
    Calls Tryd.prog 19 #[.int .i64 x, .int .i64 a, .int .i64 b] w fun e w' => e = .returned (.bool false) ∧ w = w' := by
  by_cases h0 : x < a
  · go_enter Tryd.func19, Tryd.ntmps19
    go_wp2
    go_ret
    exact ⟨rfl, rfl⟩
  · have h1 : ¬ x ≤ b := by omega
    have h2 : a ≤ x := by omega
    clear h h0
    go_enter Tryd.func19, Tryd.ntmps19
    go_wp2
    go_ret
    exact ⟨rfl, rfl⟩

end Go.Proofs.YtmllcomppjkhhaaDoor
