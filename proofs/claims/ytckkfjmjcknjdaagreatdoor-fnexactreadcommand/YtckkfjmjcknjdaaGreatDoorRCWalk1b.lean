/-
  Walks and mathematics of Walk1b, Walk1d.
-/
import Derived.Test.YtckkfjmjcknjdaaGreatDoorRCWalk1a
import Derived.Deep.RegionWith
import Derived.Deep.RegionHeld3
import Derived.Deep.QuietTactic
import Derived.BigQuiet
import Derived.WalkSmall
import Derived.Lib.Strings
namespace Go.Proofs.YtckkfjmjcknjdaaGreatDoor
open Go.RowKit P1 K
set_option linter.unusedVariables false

def rvVal (a : Nat) : Option (Nat × Nat) → Value
  | none => .tuple #[.int .i64 0, .int .i64 0, .bool false]
  | some (v, c) => .tuple #[.int .i64 v, .int .i64 (a + c : Nat), .bool true]

def RdRel (s : ByteArray) (a : Nat) (n sc p : Nat) : Prop :=
  ∃ (f : Nat) (pre : List UInt8), p = a + pre.length ∧ p ≤ s.size ∧ pre.length + f = 5 ∧ n = rawV pre ∧ sc = 128 ^ pre.length ∧ pre = ((bl s).drop a).take pre.length ∧ (∀ c ∈ pre, 128 ≤ c.toNat) ∧
    rdGo f pre ((bl s).drop p) = rdGo 5 [] ((bl s).drop a)

theorem RdRel.bounds {s : ByteArray} {a n sc p : Nat} (h : RdRel s a n sc p) : a ≤ p ∧ p ≤ s.size ∧ p ≤ a + 5 ∧ n < 34359738368 ∧ sc ≤ 34359738368 ∧ (p < a + 5 → sc ≤ 268435456 ∧ n < 268435456) ∧ (p = a + 5 → sc = 34359738368) ∧ 1 ≤ sc ∧ (p = a → n = 0 ∧ sc = 1) := by
  obtain ⟨f, pre, rfl, h1, h2, rfl, rfl, _⟩ := h
  have h3 := rawV_lt pre
  rcases (show pre.length = 0 ∨ pre.length = 1 ∨ pre.length = 2 ∨ pre.length = 3 ∨ pre.length = 4 ∨ pre.length = 5 by omega) with e | e | e | e | e | e <;> (rw [e] at h3 ⊢; refine ⟨by omega, by omega, by omega, by omega, by omega, fun _ => ⟨by omega, by omega⟩, fun _ => by omega, by omega, fun _ => ⟨by omega, by omega⟩⟩)

theorem RdRel.start (s : ByteArray) (a : Nat) (ha : a ≤ s.size) : RdRel s a 0 1 a :=
  ⟨5, [], rfl, ha, rfl, rfl, rfl, by simp, by simp, rfl⟩

theorem RdRel.on {s : ByteArray} {a n sc p : Nat} (h : RdRel s a n sc p) (hp : p < s.size) (h5 : p < a + 5) (hb : 128 ≤ s[p].toNat) : RdRel s a (n + (s[p].toNat - 128) * sc) (sc * 128) (p + 1) := by
  obtain ⟨f, pre, rfl, h1, h2, rfl, rfl, h3, h4, h6⟩ := h
  cases f with
  | zero => omega
  | succ f =>
    refine ⟨f, pre ++ [s[a + pre.length]], by simp; omega, by omega, by simp; omega, by rw [rawV_snoc], by simp [Nat.pow_succ], ?_, ?_, ?_⟩
    · rw [List.length_append, List.length_singleton, List.take_succ_eq_append_getElem (by rw [List.length_drop, bl_length]; omega), ← h3]
      simp
      rfl
    · intro c hc
      rcases List.mem_append.1 hc with hc | hc
      · exact h4 c hc
      · simp at hc; subst hc; exact hb
    · rw [← h6, bl_drop s _ hp, rdGo_on _ _ _ _ (by omega)]

theorem RdRel.yes {s : ByteArray} {a n sc p : Nat} (h : RdRel s a n sc p) (hp : p < s.size) (h5 : p < a + 5) (hb : s[p].toNat < 128) (h0 : p = a ∨ s[p].toNat ≠ 0) (hm : n + s[p].toNat * sc ≤ 1000000000) :
    rdGo 5 [] ((bl s).drop a) = some (n + s[p].toNat * sc, p + 1 - a) ∧ varB (n + s[p].toNat * sc) = ((bl s).drop a).take (p + 1 - a) := by
  obtain ⟨f, pre, rfl, h1, h2, rfl, rfl, h3, h4, h6⟩ := h
  have hne : pre = [] ∨ s[a + pre.length].toNat ≠ 0 := by
    rcases h0 with h0 | h0
    · left; exact List.eq_nil_of_length_eq_zero (by omega)
    · right; exact h0
  have e1 : a + pre.length + 1 - a = pre.length + 1 := by omega
  cases f with
  | zero => omega
  | succ f =>
    constructor
    · rw [← h6, bl_drop s _ hp, rdGo_yes _ _ _ _ hb hne hm, e1]
    · unfold varB
      rw [varF_raw pre _ hb h4 hne 9 (by omega), e1, List.take_succ_eq_append_getElem (by rw [List.length_drop, bl_length]; omega), ← h3]
      simp
      rfl

theorem RdRel.long {s : ByteArray} {a n sc p : Nat} (h : RdRel s a n sc p) (hp : p < s.size) (h5 : p < a + 5) (hb : s[p].toNat = 0) (h0 : a < p) :
    rdGo 5 [] ((bl s).drop a) = none ∧ varB (n + s[p].toNat * sc) ≠ ((bl s).drop a).take (p + 1 - a) := by
  obtain ⟨f, pre, rfl, h1, h2, rfl, rfl, h3, h4, h6⟩ := h
  have hne : pre ≠ [] := by intro h; subst h; simp at h0
  have e1 : a + pre.length + 1 - a = pre.length + 1 := by omega
  cases f with
  | zero => omega
  | succ f =>
    constructor
    · rw [← h6, bl_drop s _ hp, rdGo_long _ _ _ _ hb hne]
    · rw [e1, List.take_succ_eq_append_getElem (by rw [List.length_drop, bl_length]; omega), ← h3]
      have := varB_longer pre s[a + pre.length] hb hne
      simp only [List.getElem_drop]
      exact this

theorem RdRel.great {s : ByteArray} {a n sc p : Nat} (h : RdRel s a n sc p) (hp : p < s.size) (h5 : p < a + 5) (hb : s[p].toNat < 128) (hm : 1000000000 < n + s[p].toNat * sc) :
    rdGo 5 [] ((bl s).drop a) = none := by
  obtain ⟨f, pre, rfl, h1, h2, rfl, rfl, h3, h4, h6⟩ := h
  cases f with
  | zero => omega
  | succ f => rw [← h6, bl_drop s _ hp, rdGo_great _ _ _ _ hb hm]

theorem RdRel.out {s : ByteArray} {a n sc p : Nat} (h : RdRel s a n sc p) (hp : s.size ≤ p ∨ a + 5 ≤ p) : rdGo 5 [] ((bl s).drop a) = none := by
  obtain ⟨f, pre, rfl, h1, h2, rfl, rfl, h3, h4, h6⟩ := h
  rcases hp with hp | hp
  · rw [← h6, List.drop_eq_nil_of_le (by rw [bl_length]; exact hp), rdGo_nil]
  · obtain rfl : f = 0 := by omega
    rw [← h6]; rfl

theorem ret_rv_no {a : Nat} {r : Option (Nat × Nat)} (h : r = none) : Ending.returned (.tuple #[.int .i64 0, .int .i64 0, .bool false]) = .returned (rvVal a r) := by rw [h]; rfl

theorem ret_rv_yes {a v c : Nat} {r : Option (Nat × Nat)} {x y : Int} (h : r = some (v, c)) (hx : x = (v : Int)) (hy : y = ((a + c : Nat) : Int)) :
    Ending.returned (.tuple #[.int .i64 x, .int .i64 y, .bool true]) = .returned (rvVal a r) := by rw [h, hx, hy]; rfl

end Go.Proofs.YtckkfjmjcknjdaaGreatDoor

namespace Go.Proofs.YtckkfjmjcknjdaaGreatDoor
open Go.RowKit P1 K
set_option linter.unusedVariables false

theorem l01Var_int (x : Int) (h0 : 0 ≤ x) (h1 : x ≤ 1000000000) (w : World) :
    Calls Tryz.prog 27 #[.int .i64 x] w fun e w' => e = .returned (.string ⟨(varB x.toNat).toArray⟩) ∧ Below w.heap.size w w' := by
  obtain ⟨n, rfl⟩ := Int.eq_ofNat_of_zero_le h0
  exact l01Var_any n (by omega) w

set_option maxHeartbeats 1000000 in
theorem specReadVar_any (s : ByteArray) (hs : s.size ≤ 1048576) (a : Nat) (ha : a ≤ s.size) (w : World) :
    Calls Tryz.prog 62 #[.string s, .int .i64 a] w fun e w' => e = .returned (rvVal a (rdGo 5 [] ((bl s).drop a))) ∧ Below w.heap.size w w' := by
  go_enter Tryz.func62, Tryz.ntmps62
  go_wp2_with (go_at_call 18; refine (l01In_yes _ _ _ (by omega) (by omega) _).mono ?_; rintro e w' ⟨rfl, rfl⟩)
  go_loopw [7, 8, 9] (fun x y z wr => ∃ n sc p : Nat, x = .int .i64 n ∧ y = .int .i64 sc ∧ z = .int .i64 p ∧ RdRel s a n sc p ∧ w = wr) (fun _ _ z _ => s.size - (intOf z).toNat)
  case atStart => exact ⟨0, 1, a, rfl, rfl, rfl, RdRel.start s a ha, rfl⟩
  case round =>
    obtain ⟨n, sc, p, rfl, rfl, rfl, hr, rfl⟩ := hrel
    have hb := hr.bounds
    obtain ⟨b1, b2, b3, b4, b5, b6, b7, b8, b12⟩ := hb
    clear b12
    by_cases hp : p < s.size
    · by_cases h5 : p < a + 5
      · have b9 := b6 h5
        obtain ⟨b10, b11⟩ := b9
        clear b6 b7
        have hlt := s[p].toNat_lt
        have h5' : (p : Int) < (a : Int) + 5 := by omega
        by_cases hbig : 128 ≤ s[p].toNat
        · have R := hr.on hp h5 hbig
          have hpr : (0 : Int) ≤ ((s[p].toNat : Int) - 128) * (sc : Int) ∧ ((s[p].toNat : Int) - 128) * (sc : Int) ≤ 34091302912 := by
            constructor
            · exact Int.mul_nonneg (by omega) (by omega)
            · have := Int.mul_le_mul (show ((s[p].toNat : Int) - 128) ≤ 127 by omega) (show (sc : Int) ≤ 268435456 by omega) (by omega) (by omega)
              omega
          obtain ⟨hpr1, hpr2⟩ := hpr
          have hmod : (s[p].toNat : Int) % 128 = (s[p].toNat : Int) - 128 := by omega
          have hg : ¬ ((s[p].toNat : Int) < 128) := by omega
          have hcast : Hid (((s[p].toNat - 128 : Nat) : Int) = (s[p].toNat : Int) - 128) := by unfold Hid; omega
          go_wp2_with fail
          go_roundw
          case rel => exact ⟨_, _, p + 1, congrArg (Value.int .i64) (by rw [Int.natCast_add, Int.natCast_mul, hcast.out]), by go_num, by go_num, R, trivial⟩
          case measure => simp [intOf]; omega
        · have hb' : s[p].toNat < 128 := by omega
          clear hbig
          have hpr : (0 : Int) ≤ (s[p].toNat : Int) * (sc : Int) ∧ (s[p].toNat : Int) * (sc : Int) ≤ 34091302912 := by
            constructor
            · exact Int.mul_nonneg (by omega) (by omega)
            · have := Int.mul_le_mul (show (s[p].toNat : Int) ≤ 127 by omega) (show (sc : Int) ≤ 268435456 by omega) (by omega) (by omega)
              omega
          obtain ⟨hpr1, hpr2⟩ := hpr
          have hmod : (s[p].toNat : Int) % 128 = (s[p].toNat : Int) := by omega
          have hg : ((s[p].toNat : Int) < 128) := by omega
          have e : Hid (((n + s[p].toNat * sc : Nat) : Int) = (n : Int) + (s[p].toNat : Int) * (sc : Int)) := by unfold Hid; rw [Int.natCast_add, Int.natCast_mul]
          by_cases hmx : n + s[p].toNat * sc ≤ 1000000000
          · have hmx' : (n : Int) + (s[p].toNat : Int) * (sc : Int) ≤ 1000000000 := by have := e.out; omega
            have hmx2 : 0 ≤ (n : Int) + (s[p].toNat : Int) * (sc : Int) := by omega
            have ev : Hid ((((n : Int) + (s[p].toNat : Int) * (sc : Int))).toNat = n + s[p].toNat * sc) := by have := e.out; unfold Hid; omega
            have hwr : IntKind.i64.wrap ((p : Int) + 1) = (p : Int) + 1 := IntWalk.i64_in _ ⟨by omega, by omega⟩
            have hsl : ∀ wx, (Instr.slice 9 (.string s) (some (.int .i64 (a : Int))) (some (.int .i64 ((p : Int) + 1))) none).run Tryz.prog wx = .ok (.string (s.extract a (p + 1))) wx :=
              fun wx => run_slice_string (P := Tryz.prog) (w := wx) 9 s .i64 .i64 (a : Int) ((p : Int) + 1) Tryz.underlying9 (by omega) (by omega) (by omega)
            have hd : decide ((1000000000 : Int) < (n : Int) + (s[p].toNat : Int) * (sc : Int)) = false := by simp; omega
            by_cases hor : p = a ∨ s[p].toNat ≠ 0
            · have R := hr.yes hp h5 hb' hor hmx
              have hq : (varB ((n : Int) + (s[p].toNat : Int) * (sc : Int)).toNat == (s.extract a (p + 1)).toList) = true := by
                rw [ev.out, R.2, Lib.extract_toList]; simp
              have R1 := hide R.1
              clear R hor hmx
              go_wp2_with fail
              go_region_held3 (fun _ => True) (trivial) (first | (go_at_call 27; refine (l01Var_int _ hmx2 hmx' _).mono ?_; rintro e1 w1 ⟨rfl, hb1⟩))
              have hb2 : Below w.heap.size w w1 := ((Below.refl _ w).drew).trans hb1
              clear hb1
              go_wp2_with fail
              go_ret3
              exact ⟨ret_rv_yes R1.out (by rw [Int.natCast_add, Int.natCast_mul]) (by omega), hb2⟩
            · have R := hr.long hp h5 (by omega) (by omega)
              have hq : (varB ((n : Int) + (s[p].toNat : Int) * (sc : Int)).toNat == (s.extract a (p + 1)).toList) = false := by
                rw [ev.out, Lib.extract_toList]; simpa using R.2
              have R1 := hide R.1
              clear R hor hmx
              go_wp2_with fail
              go_region_held3 (fun _ => True) (trivial) (first | (go_at_call 27; refine (l01Var_int _ hmx2 hmx' _).mono ?_; rintro e1 w1 ⟨rfl, hb1⟩))
              have hb2 : Below w.heap.size w w1 := ((Below.refl _ w).drew).trans hb1
              clear hb1
              go_wp2_with fail
              go_ret3
              exact ⟨ret_rv_no R1.out, hb2⟩
          · have R := hide (hr.great hp h5 hb' (by omega))
            have hmx' : (1000000000 : Int) < (n : Int) + (s[p].toNat : Int) * (sc : Int) := by have := e.out; omega
            clear hmx
            have hd : decide ((1000000000 : Int) < (n : Int) + (s[p].toNat : Int) * (sc : Int)) = true := by simp; omega
            go_wp2_with fail
            go_quiet (fail)
            go_wp2
            go_ret3
            exact ⟨ret_rv_no R.out, below_drewN (Below.refl _ _) _⟩
      · have R := hide (hr.out (Or.inr (by omega)))
        have h5' : ¬ ((p : Int) < (a : Int) + 5) := by omega
        clear b6 b7 hr
        go_wp2_with fail
        go_ret3
        exact ⟨ret_rv_no R.out, Below.refl _ _⟩
    · have R := hide (hr.out (Or.inl (by omega)))
      clear b6 b7 hr
      go_wp2_with fail
      go_ret3
      exact ⟨ret_rv_no R.out, Below.refl _ _⟩

end Go.Proofs.YtckkfjmjcknjdaaGreatDoor
