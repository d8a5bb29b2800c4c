/-
  Walks of chapter 1: ReadVar of the specification.
  strings.Clone, out of the shelf's contract of what it calls.
  Walks of chapter 1: ShortText and ReadShort, of the specification and of the program; strings.Clone.
-/
import Derived.Test.YtpenpbopehbncaaDoorPack17
import Derived.Deep.RegionHeld3
import Derived.Deep.QuietTactic
import Derived.BigQuiet
import Derived.WalkSmall
import Derived.Lib.Strings
import Derived.Test.YtpenpbopehbncaaDoorPack9
import Derived.Test.YtpenpbopehbncaaDoorShelf
namespace Go.Proofs.YtpenpbopehbncaaDoor
open Go.RowKit P1 K
set_option linter.unusedVariables false

theorem l01Var_int (x : Int) (h0 : 0 ≤ x) (h1 : x ≤ 1000000000) (w : World) :
    Calls Tryd.prog 39 #[.int .i64 x] w fun e w' => e = .returned (.string ⟨(varB x.toNat).toArray⟩) ∧ Below w.heap.size w w' := by
  obtain ⟨n, rfl⟩ := Int.eq_ofNat_of_zero_le h0
  exact l01Var_any n (by omega) w

set_option maxHeartbeats 1000000 in
theorem specReadVar_any (s : ByteArray) (hs : s.size ≤ 1048576) (a : Nat) (ha : a ≤ s.size) (w : World) :
    Calls Tryd.prog 78 #[.string s, .int .i64 a] w fun e w' => e = .returned (rvVal a (rdGo 5 [] ((bl s).drop a))) ∧ Below w.heap.size w w' := by
  go_enter Tryd.func78, Tryd.ntmps78
  go_wp2_with (go_at_call 33; refine (l01In_yes _ _ _ (by omega) (by omega) _).mono ?_; rintro e w' ⟨rfl, rfl⟩)
  go_loopw [7, 8, 9] (fun x y z wr => ∃ n sc p : Nat, x = .int .i64 n ∧ y = .int .i64 sc ∧ z = .int .i64 p ∧ RdRel s a n sc p ∧ w = wr) (fun _ _ z _ => s.size - (intOf z).toNat)
  case atStart => exact ⟨0, 1, a, rfl, rfl, rfl, RdRel.start s a ha, rfl⟩
  case round =>
    obtain ⟨n, sc, p, rfl, rfl, rfl, hr, rfl⟩ := hrel
    have hb := hr.bounds
    obtain ⟨b1, b2, b3, b4, b5, b6, b7, b8, b12⟩ := hb
    clear b12
    by_cases hp : p < s.size
    · by_cases h5 : p < a + 5
      · have b9 := b6 h5
        obtain ⟨b10, b11⟩ := b9
        clear b6 b7
        have hlt := s[p].toNat_lt
        have h5' : (p : Int) < (a : Int) + 5 := by omega
        by_cases hbig : 128 ≤ s[p].toNat
        · have R := hr.on hp h5 hbig
          have hpr : (0 : Int) ≤ ((s[p].toNat : Int) - 128) * (sc : Int) ∧ ((s[p].toNat : Int) - 128) * (sc : Int) ≤ 34091302912 := by
            constructor
            · exact Int.mul_nonneg (by omega) (by omega)
            · have := Int.mul_le_mul (show ((s[p].toNat : Int) - 128) ≤ 127 by omega) (show (sc : Int) ≤ 268435456 by omega) (by omega) (by omega)
              omega
          obtain ⟨hpr1, hpr2⟩ := hpr
          have hmod : (s[p].toNat : Int) % 128 = (s[p].toNat : Int) - 128 := by omega
          have hg : ¬ ((s[p].toNat : Int) < 128) := by omega
          have hcast : Hid (((s[p].toNat - 128 : Nat) : Int) = (s[p].toNat : Int) - 128) := by unfold Hid; omega
          go_wp2_with fail
          go_roundw
          case rel => exact ⟨_, _, p + 1, congrArg (Value.int .i64) (by rw [Int.natCast_add, Int.natCast_mul, hcast.out]), by go_num, by go_num, R, trivial⟩
          case measure => simp [intOf]; omega
        · have hb' : s[p].toNat < 128 := by omega
          clear hbig
          have hpr : (0 : Int) ≤ (s[p].toNat : Int) * (sc : Int) ∧ (s[p].toNat : Int) * (sc : Int) ≤ 34091302912 := by
            constructor
            · exact Int.mul_nonneg (by omega) (by omega)
            · have := Int.mul_le_mul (show (s[p].toNat : Int) ≤ 127 by omega) (show (sc : Int) ≤ 268435456 by omega) (by omega) (by omega)
              omega
          obtain ⟨hpr1, hpr2⟩ := hpr
          have hmod : (s[p].toNat : Int) % 128 = (s[p].toNat : Int) := by omega
          have hg : ((s[p].toNat : Int) < 128) := by omega
          have e : Hid (((n + s[p].toNat * sc : Nat) : Int) = (n : Int) + (s[p].toNat : Int) * (sc : Int)) := by unfold Hid; rw [Int.natCast_add, Int.natCast_mul]
          by_cases hmx : n + s[p].toNat * sc ≤ 1000000000
          · have hmx' : (n : Int) + (s[p].toNat : Int) * (sc : Int) ≤ 1000000000 := by have := e.out; omega
            have hmx2 : 0 ≤ (n : Int) + (s[p].toNat : Int) * (sc : Int) := by omega
            have ev : Hid ((((n : Int) + (s[p].toNat : Int) * (sc : Int))).toNat = n + s[p].toNat * sc) := by have := e.out; unfold Hid; omega
            have hwr : IntKind.i64.wrap ((p : Int) + 1) = (p : Int) + 1 := IntWalk.i64_in _ ⟨by omega, by omega⟩
            have hsl : ∀ wx, (Instr.slice 9 (.string s) (some (.int .i64 (a : Int))) (some (.int .i64 ((p : Int) + 1))) none).run Tryd.prog wx = .ok (.string (s.extract a (p + 1))) wx :=
              fun wx => run_slice_string (P := Tryd.prog) (w := wx) 9 s .i64 .i64 (a : Int) ((p : Int) + 1) Tryd.underlying9 (by omega) (by omega) (by omega)
            have hd : decide ((1000000000 : Int) < (n : Int) + (s[p].toNat : Int) * (sc : Int)) = false := by simp; omega
            by_cases hor : p = a ∨ s[p].toNat ≠ 0
            · have R := hr.yes hp h5 hb' hor hmx
              have hq : (varB ((n : Int) + (s[p].toNat : Int) * (sc : Int)).toNat == (s.extract a (p + 1)).toList) = true := by
                rw [ev.out, R.2, Lib.extract_toList]; simp
              have R1 := hide R.1
              clear R hor hmx
              go_wp2_with fail
              go_region_held3 (fun _ => True) (trivial) (first | (go_at_call 39; refine (l01Var_int _ hmx2 hmx' _).mono ?_; rintro e1 w1 ⟨rfl, hb1⟩))
              have hb2 : Below w.heap.size w w1 := ((Below.refl _ w).drew).trans hb1
              clear hb1
              go_wp2_with fail
              go_ret3
              exact ⟨ret_rv_yes R1.out (by rw [Int.natCast_add, Int.natCast_mul]) (by omega), hb2⟩
            · have R := hr.long hp h5 (by omega) (by omega)
              have hq : (varB ((n : Int) + (s[p].toNat : Int) * (sc : Int)).toNat == (s.extract a (p + 1)).toList) = false := by
                rw [ev.out, Lib.extract_toList]; simpa using R.2
              have R1 := hide R.1
              clear R hor hmx
              go_wp2_with fail
              go_region_held3 (fun _ => True) (trivial) (first | (go_at_call 39; refine (l01Var_int _ hmx2 hmx' _).mono ?_; rintro e1 w1 ⟨rfl, hb1⟩))
              have hb2 : Below w.heap.size w w1 := ((Below.refl _ w).drew).trans hb1
              clear hb1
              go_wp2_with fail
              go_ret3
              exact ⟨ret_rv_no R1.out, hb2⟩
          · have R := hide (hr.great hp h5 hb' (by omega))
            have hmx' : (1000000000 : Int) < (n : Int) + (s[p].toNat : Int) * (sc : Int) := by have := e.out; omega
            clear hmx
            have hd : decide ((1000000000 : Int) < (n : Int) + (s[p].toNat : Int) * (sc : Int)) = true := by simp; omega
            go_wp2_with fail
            go_quiet (fail)
            go_wp2
            go_ret3
            exact ⟨ret_rv_no R.out, below_drewN (Below.refl _ _) _⟩
      · have R := hide (hr.out (Or.inr (by omega)))
        have h5' : ¬ ((p : Int) < (a : Int) + 5) := by omega
        clear b6 b7 hr
        go_wp2_with fail
        go_ret3
        exact ⟨ret_rv_no R.out, Below.refl _ _⟩
    · have R := hide (hr.out (Or.inl (by omega)))
      clear b6 b7 hr
      go_wp2_with fail
      go_ret3
      exact ⟨ret_rv_no R.out, Below.refl _ _⟩

theorem specReadVar_off (s : ByteArray) (hs : s.size ≤ 1048576) (a : Int) (ha : a < 0 ∨ (s.size : Int) < a) (w : World) :
    Calls Tryd.prog 78 #[.string s, .int .i64 a] w fun e w' => e = .returned (.tuple #[.int .i64 0, .int .i64 0, .bool false]) ∧ w = w' := by
  go_enter Tryd.func78, Tryd.ntmps78
  go_wp2_with (go_at_call 33; refine (l01In_no _ _ _ (by omega) _).mono ?_; rintro e w' ⟨rfl, rfl⟩)
  go_ret3
  exact ⟨rfl, rfl⟩

end Go.Proofs.YtpenpbopehbncaaDoor

namespace Go.Proofs.YtpenpbopehbncaaDoor
open Go.RowKit P1 K

theorem stringsClone_any (s : ByteArray) (hs : s.size ≤ 281474976710656) (w : World) :
    Calls Tryd.prog 88 #[.string s] w fun e w' => e = .returned (.string s) ∧ Below w.heap.size w w' := by
  go_enter Tryd.func88, Tryd.ntmps88
  go_wp2_with (go_at_call 103; refine (Tryd.stringslite_Clone s _ hs).mono ?_; rintro e w1 ⟨rfl, hb1⟩)
  go_ret
  exact ⟨rfl, hb1⟩

end Go.Proofs.YtpenpbopehbncaaDoor

namespace Go.Proofs.YtpenpbopehbncaaDoor
open Go.RowKit P1 K
set_option linter.unusedVariables false

theorem implShortText_no (s : ByteArray) (hs : s.size ≤ 1048576) (hbig : 20000 < s.size) (w : World) :
    Calls Tryd.prog 46 #[.string s] w fun e w' => e = .returned (.tuple #[.string ⟨#[]⟩, .bool false]) ∧ w = w' := by
  go_enter Tryd.func46, Tryd.ntmps46
  go_wp2_with fail
  go_ret2
  exact ⟨rfl, rfl⟩

theorem implShortText_yes (s : ByteArray) (hs : s.size ≤ 20000) (w : World) :
    Calls Tryd.prog 46 #[.string s] w fun e w' => e = .returned (.tuple #[.string (⟨(varB s.size).toArray⟩ ++ s), .bool true]) ∧ Below w.heap.size w w' := by
  have hl := varB_length s.size
  go_enter Tryd.func46, Tryd.ntmps46
  go_wp2_with (go_at_call 44; refine (implVarText_yes s.size (by omega) _).mono ?_; rintro e w1 ⟨rfl, hb1⟩)
  go_ret2
  exact ⟨rfl, hb1⟩

/-- The results of ReadShort as values. -/
def rsVal (s : ByteArray) (a : Nat) : Option (Nat × Nat) → Value
  | none => .tuple #[.string ⟨#[]⟩, .int .i64 0, .bool false]
  | some (v, c) => if v ≤ 20000 ∧ a + c + v ≤ s.size then .tuple #[.string (s.extract (a + c) (a + c + v)), .int .i64 (a + c + v : Nat), .bool true] else .tuple #[.string ⟨#[]⟩, .int .i64 0, .bool false]

theorem rsVal_yes {s : ByteArray} {a v c : Nat} {r : Option (Nat × Nat)} {x : Int} (hr : r = some (v, c)) (h1 : v ≤ 20000) (h2 : a + c + v ≤ s.size) (hx : x = ((a + c + v : Nat) : Int)) :
    Ending.returned (.tuple #[.string (s.extract (a + c) (a + c + v)), .int .i64 x, .bool true]) = .returned (rsVal s a r) := by
  subst hr; simp only [rsVal, if_pos (And.intro h1 h2), hx]

theorem rsVal_no {s : ByteArray} {a : Nat} {r : Option (Nat × Nat)} (h : r = none ∨ ∃ v c, r = some (v, c) ∧ ¬ (v ≤ 20000 ∧ a + c + v ≤ s.size)) :
    Ending.returned (.tuple #[.string ⟨#[]⟩, .int .i64 0, .bool false]) = .returned (rsVal s a r) := by
  rcases h with rfl | ⟨v, c, rfl, h⟩
  · rfl
  · simp only [rsVal, if_neg h]

set_option maxHeartbeats 1000000 in
theorem implReadShort_any (s : ByteArray) (hs : s.size ≤ 1048576) (a : Nat) (ha : a ≤ s.size) (w : World) :
    Calls Tryd.prog 110 #[.string s, .int .i64 a] w fun e w' => e = .returned (rsVal s a (rdGo 5 [] ((bl s).drop a))) ∧ Below w.heap.size w w' := by
  cases hrd : rdGo 5 [] ((bl s).drop a) with
  | none =>
    have H := hide hrd
    clear hrd
    go_enter Tryd.func110, Tryd.ntmps110
    go_wp2_with (go_at_call 108; refine (implReadVar_any s hs a ha _).mono ?_; rintro e w1 ⟨rfl, rfl⟩; rw [H.out]; unfold rvVal)
    go_ret3
    exact ⟨rsVal_no (Or.inl rfl), Below.refl _ _⟩
  | some r =>
    obtain ⟨v, c⟩ := r
    have hbd := rdGo_some 5 [] _ v c hrd
    have hlen : ((bl s).drop a).length = s.size - a := by rw [List.length_drop, bl_length]
    rw [hlen] at hbd
    simp only [List.length_nil] at hbd
    obtain ⟨d1, d2, d3, d4⟩ := hbd
    clear hlen
    have H := hide hrd
    clear hrd
    by_cases h1 : v ≤ 20000
    · by_cases h2 : a + c + v ≤ s.size
      · have g1 : ¬ ((s.size : Int) - ((a + c : Nat) : Int) < (v : Int)) := by omega
        have hsl : ∀ wx, (Instr.slice 9 (.string s) (some (.int .i64 ((a : Int) + (c : Int)))) (some (.int .i64 ((a : Int) + (c : Int) + (v : Int)))) none).run Tryd.prog wx = .ok (.string (s.extract (a + c) (a + c + v))) wx :=
          fun wx => run_slice_string (P := Tryd.prog) (w := wx) 9 s .i64 .i64 ((a : Int) + (c : Int)) ((a : Int) + (c : Int) + (v : Int)) Tryd.underlying9 (by omega) (by omega) (by omega)
        have hsz : (s.extract (a + c) (a + c + v)).size ≤ 281474976710656 := by rw [ByteArray.size_extract]; omega
        go_enter Tryd.func110, Tryd.ntmps110
        go_wp2_with (first
          | (go_at_call 108; refine (implReadVar_any s hs a ha _).mono ?_; rintro e w1 ⟨rfl, rfl⟩; rw [H.out]; unfold rvVal)
          | (go_at_call 88; refine (stringsClone_any _ hsz _).mono ?_; rintro e w1 ⟨rfl, hb1⟩))
        go_ret3
        exact ⟨rsVal_yes rfl h1 h2 (by omega), hb1⟩
      · have g1 : ((s.size : Int) - ((a + c : Nat) : Int) < (v : Int)) := by omega
        go_enter Tryd.func110, Tryd.ntmps110
        go_wp2_with (go_at_call 108; refine (implReadVar_any s hs a ha _).mono ?_; rintro e w1 ⟨rfl, rfl⟩; rw [H.out]; unfold rvVal)
        go_ret3
        exact ⟨rsVal_no (Or.inr ⟨v, c, rfl, by omega⟩), Below.refl _ _⟩
    · go_enter Tryd.func110, Tryd.ntmps110
      go_wp2_with (go_at_call 108; refine (implReadVar_any s hs a ha _).mono ?_; rintro e w1 ⟨rfl, rfl⟩; rw [H.out]; unfold rvVal)
      go_ret3
      exact ⟨rsVal_no (Or.inr ⟨v, c, rfl, by omega⟩), Below.refl _ _⟩

theorem implReadShort_off (s : ByteArray) (hs : s.size ≤ 1048576) (a : Int) (ha : a < 0 ∨ (s.size : Int) < a) (w : World) :
    Calls Tryd.prog 110 #[.string s, .int .i64 a] w fun e w' => e = .returned (.tuple #[.string ⟨#[]⟩, .int .i64 0, .bool false]) ∧ w = w' := by
  go_enter Tryd.func110, Tryd.ntmps110
  go_wp2_with (go_at_call 108; refine (implReadVar_off s hs a ha _).mono ?_; rintro e w1 ⟨rfl, rfl⟩)
  go_ret3
  exact ⟨rfl, rfl⟩

end Go.Proofs.YtpenpbopehbncaaDoor
