/-
  Walks of chapter 1: Decimal, of the specification and of the program.
  Walks of chapter 1: ReadDecimal, of the specification and of the program.
  Walks of chapter 7: names, numbers, right journals, the frame of a term and a vote, of the specification.
  A journal in a variable: its cells; what keeps them.
-/
import Derived.Test.YthbgklmnmoclhaaDoorPack4
import Derived.Test.YthbgklmnmoclhaaDoorPack3
import Derived.Test.YthbgklmnmoclhaaDoorShelf
import Derived.WalkSmall
import Derived.Deep.RegionHeld3
import Derived.Deep.QuietTactic
import Derived.BigQuiet
import Derived.Lib.Strings
import Derived.Test.YthbgklmnmoclhaaDoorPack19
import Derived.Test.YthbgklmnmoclhaaDoorPack20
import Derived.Test.YthbgklmnmoclhaaDoorPack16
namespace Go.Proofs.YthbgklmnmoclhaaDoor
open Go.RowKit P1 K
set_option linter.unusedVariables false

theorem l01Figure_dec (x : Int) (h0 : 0 ≤ x) (h1 : x < 10) (w : World) :
    Calls Tryd.prog 42 #[.int .i64 x] w fun e w' => e = .returned (.int .u8 ((figB x.toNat).toNat : Int)) ∧ w = w' := by
  have hv : Hid (48 + x = ((figB x.toNat).toNat : Int)) := by unfold Hid; rw [figB_lo _ (by omega)]; omega
  go_enter Tryd.func42, Tryd.ntmps42
  go_wp2
  go_ret
  exact ⟨by rw [← hv.out]; rfl, rfl⟩

theorem below_grow {w : World} {k : Nat} {os : Array Obj} : Below w.heap.size w (Go.Sort.grow (w.drewN k) os) :=
  ⟨rfl, rfl, rfl, by simp [Go.Sort.grow], fun i hi => by simp [Go.Sort.grow, Array.getElem?_append_left hi]⟩

theorem implDecimal_any (n : Int) (h0 : -9223372036854775808 ≤ n) (h1 : n ≤ 9223372036854775807) (w : World) (htab : Lib.TabIs Tryd.prog w "internal/strconv.uint64pow10" .u64 Lib.pow10Tab) :
    Calls Tryd.prog 20 #[.int .i64 n] w fun e w' => e = .returned (.string ⟨(Lib.itoa n).toArray⟩) ∧ Below w.heap.size w w' := by
  go_enter Tryd.func20, Tryd.ntmps20
  go_wp2_with (go_at_call 43; refine (Tryd.strconv_Itoa n h0 h1 _ htab).mono ?_; rintro e w1 ⟨rfl, k, os, rfl⟩)
  go_ret
  exact ⟨rfl, below_grow⟩

set_option maxHeartbeats 1000000 in
theorem specDecimal_pos (N : Nat) (h0 : 1 ≤ N) (h1 : N ≤ 9223372036854775807) (w : World) :
    Calls Tryd.prog 18 #[.int .i64 (N : Int)] w fun e w' => e = .returned (.string ⟨(Lib.decDigits N).toArray⟩) ∧ Below w.heap.size w w' := by
  have g1 : ((N : Int) == 0) = false := by simp; omega
  have g2 : ¬ ((N : Int) < 0) := by omega
  have hlen := hide (dec_length N (by omega))
  go_enter Tryd.func18, Tryd.ntmps18
  go_wp2_with fail
  go_loopw [0, 4] (fun x s wr => ∃ (m : Nat) (t : List UInt8), x = .int .i64 (m : Int) ∧ s = .string ⟨t.toArray⟩ ∧ m ≤ 9223372036854775807 ∧ DecRel N m t ∧ Below w.heap.size w wr) (fun x _ _ => (intOf x).toNat)
  case atStart => exact ⟨N, [], rfl, rfl, h1, DecRel.start N (by omega), Below.refl _ _⟩
  case round =>
    obtain ⟨m, t, rfl, rfl, hm, hd, hbel⟩ := hrel
    have hsz := hbel.size
    have hl : t.length ≤ 20 := Nat.le_trans hd.length hlen.out
    by_cases h : m = 0
    · have q : ((m : Int) != 0) = false := by simp [h]
      have e := hide (hd.1 h)
      clear hd h
      go_wp2_with fail
      go_ret
      exact ⟨by rw [e.out]; rfl, hbel⟩
    · have q : ((m : Int) != 0) = true := by rw [bne_iff_ne]; omega
      have R := hd.step h
      have HS := hide (show (m / 10 : Nat) < m by omega)
      clear hd h
      have hconv := fun wx => run_string_one (P := Tryd.prog) wx (src := 70) (dst := 9) Tryd.underlying70 Tryd.underlying5 Tryd.underlying9 (figB (m % 10))
      have e10 : ((m : Int) % 10).toNat = m % 10 := by omega
      go_wp2_with (go_at_call 42; refine (l01Figure_dec _ (by omega) (by omega) _).mono ?_; rintro e w1 ⟨rfl, rfl⟩)
      go_roundw
      case rel => exact ⟨m / 10, figB (m % 10) :: t, by go_num, congrArg Value.string (cat_one _ _), by omega, R, hbel.alloc hsz _⟩
      case measure => have := HS.out; simp only [intOf]; omega

set_option maxHeartbeats 1000000 in
theorem specDecimal_neg (N : Nat) (h0 : 1 ≤ N) (h1 : N ≤ 9223372036854775808) (w : World) :
    Calls Tryd.prog 18 #[.int .i64 (-(N : Int))] w fun e w' => e = .returned (.string ⟨(45 :: Lib.decDigits N).toArray⟩) ∧ Below w.heap.size w w' := by
  have g1 : ((-(N : Int)) == 0) = false := by rw [beq_eq_false_iff_ne]; omega
  have g2 : (-(N : Int)) < 0 := by omega
  have hlen := hide (dec_length N h1)
  go_enter Tryd.func18, Tryd.ntmps18
  go_wp2_with fail
  go_loopw [0, 4] (fun x s wr => ∃ (m : Nat) (t : List UInt8), x = .int .i64 (-(m : Int)) ∧ s = .string ⟨t.toArray⟩ ∧ m ≤ 9223372036854775808 ∧ DecRel N m t ∧ Below w.heap.size w wr) (fun x _ _ => (-(intOf x)).toNat)
  case atStart => exact ⟨N, [], rfl, rfl, h1, DecRel.start N (by omega), Below.refl _ _⟩
  case round =>
    obtain ⟨m, t, rfl, rfl, hm, hd, hbel⟩ := hrel
    have hsz := hbel.size
    have hl : t.length ≤ 20 := Nat.le_trans hd.length hlen.out
    by_cases h : m = 0
    · have q : ((-(m : Int)) != 0) = false := by simp [h]
      have e := hide (hd.1 h)
      clear hd h
      go_wp2_with fail
      go_ret
      exact ⟨by rw [e.out]; exact congrArg (fun x => Ending.returned (Value.string x)) (cat_one 45 t), hbel⟩
    · have q : ((-(m : Int)) != 0) = true := by rw [bne_iff_ne]; omega
      have R := hd.step h
      have HS := hide (show (m / 10 : Nat) < m by omega)
      have hconv := fun wx => run_string_one (P := Tryd.prog) wx (src := 70) (dst := 9) Tryd.underlying70 Tryd.underlying5 Tryd.underlying9 (figB (m % 10))
      have e10 : ((m : Int) % 10).toNat = m % 10 := by omega
      have em : (-(m : Int)).tmod 10 = -((m : Int) % 10) := by rw [Int.neg_tmod, Int.tmod_eq_emod_of_nonneg (by omega)]
      have ed : (-(m : Int)).tdiv 10 = -((m : Int) / 10) := by rw [Int.neg_tdiv, Int.tdiv_eq_ediv_of_nonneg (by omega)]
      clear hd
      by_cases hz : m % 10 = 0
      · have l1 : ¬ (-((m : Int) % 10) < 0) := by omega
        have ez : (-((m : Int) % 10)).toNat = m % 10 := by omega
        clear hz
        go_wp2_with (go_at_call 42; refine (l01Figure_dec _ (by omega) (by omega) _).mono ?_; rintro e w1 ⟨rfl, rfl⟩)
        exact ⟨⟨m / 10, figB (m % 10) :: t, congrArg (Value.int .i64) (by omega), congrArg Value.string (cat_one _ _), by omega, R, hbel.alloc hsz _⟩, by have := HS.out; simp only [intOf]; omega⟩
      · have l1 : (-((m : Int) % 10) < 0) := by omega
        go_wp2_with (go_at_call 42; refine (l01Figure_dec _ (by omega) (by omega) _).mono ?_; rintro e w1 ⟨rfl, rfl⟩)
        exact ⟨⟨m / 10, figB (m % 10) :: t, congrArg (Value.int .i64) (by omega), congrArg Value.string (cat_one _ _), by omega, R, hbel.alloc hsz _⟩, by have := HS.out; simp only [intOf]; omega⟩

theorem specDecimal_any (n : Int) (h0 : -9223372036854775808 ≤ n) (h1 : n ≤ 9223372036854775807) (w : World) :
    Calls Tryd.prog 18 #[.int .i64 n] w fun e w' => e = .returned (.string ⟨(Lib.itoa n).toArray⟩) ∧ Below w.heap.size w w' := by
  by_cases hz : n = 0
  · subst hz
    go_enter Tryd.func18, Tryd.ntmps18
    go_wp2_with fail
    go_ret
    exact ⟨by rw [show (0 : Int) = ((0 : Nat) : Int) from rfl, Lib.itoa_nonneg, dec_small 0 (by decide)]; rfl, Below.refl _ _⟩
  · by_cases hn : n < 0
    · obtain ⟨N, hN⟩ := Int.eq_ofNat_of_zero_le (show 0 ≤ -n by omega)
      have e : n = -(N : Int) := by omega
      subst e
      rw [Lib.itoa_neg N (by omega)]
      exact specDecimal_neg N (by omega) (by omega) w
    · obtain ⟨N, rfl⟩ := Int.eq_ofNat_of_zero_le (show 0 ≤ n by omega)
      rw [Lib.itoa_nonneg]
      exact specDecimal_pos N (by omega) (by omega) w

end Go.Proofs.YthbgklmnmoclhaaDoor

namespace Go.Proofs.YthbgklmnmoclhaaDoor
open Go.RowKit P1 K
set_option linter.unusedVariables false

/-- The results of ReadDecimal as values. -/
def rdVal : Option Nat → Value
  | none => .tuple #[.int .i64 0, .bool false]
  | some n => .tuple #[.int .i64 (n : Int), .bool true]

theorem ret_rd_no {r : Option Nat} (h : r = none) : Ending.returned (.tuple #[.int .i64 0, .bool false]) = .returned (rdVal r) := by rw [h]; rfl
theorem ret_rd_yes {r : Option Nat} {n : Nat} {x : Int} (h : r = some n) (hx : x = (n : Int)) : Ending.returned (.tuple #[.int .i64 x, .bool true]) = .returned (rdVal r) := by rw [h, hx]; rfl

theorem mem_bl (s : ByteArray) (k : Nat) (h : k < s.size) : s[k] ∈ bl s := by
  have : (bl s)[k]'(by rw [bl_length]; exact h) = s[k] := rfl
  rw [← this]; exact List.getElem_mem _

theorem toList_bl (s : ByteArray) : s.toList = bl s := Lib.toList_data s

theorem bad_ne (s : ByteArray) (k : Nat) (h : k < s.size) (hf : s[k].toNat < 48 ∨ 57 < s[k].toNat) (n : Nat) : (Lib.itoa (n : Int) == s.toList) = false := by
  rw [toList_bl, Lib.itoa_nonneg, beq_eq_false_iff_ne]
  intro e
  have h1 := mem_bl s k h
  rw [← e] at h1
  have := dec_figures n _ h1
  omega

end Go.Proofs.YthbgklmnmoclhaaDoor

namespace Go.Proofs.YthbgklmnmoclhaaDoor
open Go.RowKit P1 P3 P9 K
set_option linter.unusedVariables false
set_option linter.unusedSimpArgs false

theorem cat_name (d : List UInt8) : (⟨#[106]⟩ : ByteArray) ++ ⟨d.toArray⟩ = ⟨(106 :: d).toArray⟩ := by
  apply ByteArray.ext
  simp

set_option maxHeartbeats 1000000 in
theorem specJournalName_any (n : Int) (h0 : -9223372036854775808 ≤ n) (h1 : n ≤ 9223372036854775807) (w : World) :
    Calls Tryd.prog 6 #[.int .i64 n] w fun e w' => e = .returned (.string ⟨(jnName n).toArray⟩) ∧ Below w.heap.size w w' := by
  by_cases hi : 0 ≤ n ∧ n ≤ 999
  · obtain ⟨i0, i1⟩ := hi
    obtain ⟨N, rfl⟩ := Int.eq_ofNat_of_zero_le i0
    have R := hide (show jnName (N : Int) = 106 :: Lib.decDigits N by unfold jnName; rw [if_pos (jnIn_iff.2 ⟨i0, i1⟩)]; rfl)
    have hr := dec_room N (by omega)
    have C := cat_name (Lib.decDigits N)
    go_enter Tryd.func6, Tryd.ntmps6
    go_wp2_with (first
      | (go_at_call 17; refine (l01In_yes _ _ _ (by omega) (by omega) _).mono ?_; rintro e w1 ⟨rfl, rfl⟩)
      | (go_at_call 18; refine (specDecimal_any (N : Int) (by omega) (by omega) _).mono ?_; rw [Lib.itoa_nonneg]; rintro e w1 ⟨rfl, hb1⟩))
    go_ret
    exact ⟨by rw [R.out]; rfl, hb1⟩
  · have R := hide (show jnName n = [] by unfold jnName; rw [if_neg (fun h => hi (jnIn_iff.1 h))])
    go_enter Tryd.func6, Tryd.ntmps6
    go_wp2_with (go_at_call 17; refine (l01In_no _ _ _ (by omega) _).mono ?_; rintro e w1 ⟨rfl, rfl⟩)
    go_ret
    exact ⟨by rw [R.out]; rfl, Below.refl _ _⟩

theorem bl_rest (l : List UInt8) : bl ((⟨l.toArray⟩ : ByteArray).extract 1 (⟨l.toArray⟩ : ByteArray).size) = l.drop 1 := by
  unfold bl
  rw [ByteArray.data_extract, Array.toList_extract, List.extract_eq_take_drop]
  show List.take (l.length - 1) (l.drop 1) = l.drop 1
  exact List.take_of_length_le (by simp)

/-- A journal as a value. -/
abbrev jval (n t v s u : Int) (x : Value) : Value := .agg #[.int .i64 n, .int .i64 t, .int .i64 v, .int .i64 s, .int .i64 u, x]

theorem ok_false_n {j : JnV} (h : j.number < 0 ∨ 999 < j.number) : j.ok = false := by
  unfold JnV.ok
  rw [show jnIn j.number = false by simp [jnIn]; omega, Bool.false_and]
theorem ok_false_h {j : JnV} (h : j.term < 0 ∨ 100000 < j.term ∨ j.vote < 0 ∨ 4 < j.vote) : j.ok = false := by
  unfold JnV.ok
  rw [show jnHd j.term j.vote = false by simp [jnHd]; omega, Bool.false_and, Bool.and_false]
theorem ok_log {j : JnV} (h : 0 ≤ j.number ∧ j.number ≤ 999) (h2 : 0 ≤ j.term ∧ j.term ≤ 100000 ∧ 0 ≤ j.vote ∧ j.vote ≤ 4) : j.ok = lgOk j.s j.u j.es := by
  unfold JnV.ok
  rw [jnIn_iff.2 h, jnHd_iff.2 h2, Bool.true_and, Bool.true_and]

set_option maxHeartbeats 2000000 in
theorem specJournalOk_any (j : JnV) (oa : Option Addr) (n cap : Nat) (w : World) (hat : EntsAt w oa n cap j.es) (hw : ∀ f ∈ j.es, f.data.size ≤ 1048576) :
    Calls Tryd.prog 22 #[jval j.number j.term j.vote j.s j.u (.slice oa n cap)] w fun e w' => e = .returned (.bool j.ok) ∧ Below w.heap.size w w' := by
  have hb0 := (Below.refl w.heap.size w).alloc (Nat.le_refl _) (.cells #[.int .i64 j.number, .int .i64 j.term, .int .i64 j.vote, .int .i64 j.s, .int .i64 j.u, .slice oa n cap] 36)
  have HLO := hide (specLogOk_any j.s j.u oa n cap j.es _ (hat.below hb0) hw)
  have HB0 := hide hb0
  clear hat hw hb0
  by_cases c1 : 0 ≤ j.number ∧ j.number ≤ 999
  · by_cases c2 : 0 ≤ j.term ∧ j.term ≤ 100000
    · by_cases c3 : 0 ≤ j.vote ∧ j.vote ≤ 4
      · have R := hide (ok_log c1 ⟨c2.1, c2.2, c3⟩)
        go_enter Tryd.func22, Tryd.ntmps22
        go_wp2_with (go_at_call 17; refine (l01In_yes _ _ _ (by omega) (by omega) _).mono ?_; rintro e w1 ⟨rfl, rfl⟩)
        refine HLO.out.mono ?_
        rintro e w1 ⟨rfl, hb1⟩
        go_wp2_with fail
        go_ret
        exact ⟨by rw [R.out]; rfl, HB0.out.trans (hb1.mono (by simp))⟩
      · have R := hide (ok_false_h (j := j) (by omega))
        go_enter Tryd.func22, Tryd.ntmps22
        go_wp2_with (go_at_call 17; first | (refine (l01In_yes _ _ _ (by omega) (by omega) _).mono ?_; rintro e w1 ⟨rfl, rfl⟩) | (refine (l01In_no _ _ _ (by omega) _).mono ?_; rintro e w1 ⟨rfl, rfl⟩))
        go_ret
        exact ⟨by rw [R.out]; rfl, HB0.out⟩
    · have R := hide (ok_false_h (j := j) (by omega))
      go_enter Tryd.func22, Tryd.ntmps22
      go_wp2_with (go_at_call 17; first | (refine (l01In_yes _ _ _ (by omega) (by omega) _).mono ?_; rintro e w1 ⟨rfl, rfl⟩) | (refine (l01In_no _ _ _ (by omega) _).mono ?_; rintro e w1 ⟨rfl, rfl⟩))
      go_ret
      exact ⟨by rw [R.out]; rfl, HB0.out⟩
  · have R := hide (ok_false_n (j := j) (by omega))
    go_enter Tryd.func22, Tryd.ntmps22
    go_wp2_with (go_at_call 17; refine (l01In_no _ _ _ (by omega) _).mono ?_; rintro e w1 ⟨rfl, rfl⟩)
    go_ret
    exact ⟨by rw [R.out]; rfl, HB0.out⟩

theorem cat_hard (x : UInt8) (a b : Nat) : (⟨#[x]⟩ : ByteArray) ++ ⟨(varB a).toArray⟩ ++ ⟨(varB b).toArray⟩ = ⟨(twoB x a b).toArray⟩ := by
  apply ByteArray.ext
  simp [twoB]

theorem bl_mk7 (l : List UInt8) : bl ⟨l.toArray⟩ = l := rfl
theorem size_mk7 (l : List UInt8) : (⟨l.toArray⟩ : ByteArray).size = l.length := rfl

theorem specFrame_in (l : List UInt8) (h1 : 1 ≤ l.length) (h2 : l.length ≤ 9000) (w : World) :
    Calls Tryd.prog 23 #[.string ⟨l.toArray⟩] w fun e w' => e = .returned (.tuple #[.string ⟨(frameL l).toArray⟩, .bool true]) ∧ Below w.heap.size w w' := by
  have h := specFrame_any ⟨l.toArray⟩ (by rw [size_mk7]; omega) w
  rw [bl_mk7, frameVal_yes h1 h2] at h
  exact h

set_option maxHeartbeats 1000000 in
theorem l07Hard_any (t v : Int) (h : 0 ≤ t ∧ t ≤ 100000 ∧ 0 ≤ v ∧ v ≤ 4) (w : World) :
    Calls Tryd.prog 25 #[.int .i64 t, .int .i64 v] w fun e w' => e = .returned (.string ⟨(hardB t v).toArray⟩) ∧ Below w.heap.size w w' := by
  obtain ⟨t0, t1, v0, v1⟩ := h
  obtain ⟨T, rfl⟩ := Int.eq_ofNat_of_zero_le t0
  obtain ⟨V, rfl⟩ := Int.eq_ofNat_of_zero_le v0
  have C := cat_hard 72 T V
  have R := hide (show hardB (T : Int) (V : Int) = frameL (twoB 72 T V) from rfl)
  have h1 := varB_room T
  have h2 := varB_room V
  have hl := twoB_length 72 T V
  have HF := hide (specFrame_in (twoB 72 T V) hl.1 (by omega))
  generalize twoB 72 T V = L at C R hl HF
  go_enter Tryd.func25, Tryd.ntmps25
  go_wp2_with fail
  refine (l01Var_any T (by omega) _).mono ?_
  rintro e w1 ⟨rfl, hb1⟩
  go_wp2_with fail
  refine (l01Var_any V (by omega) _).mono ?_
  rintro e w2 ⟨rfl, hb2⟩
  go_wp2_with fail
  refine (HF.out _).mono ?_
  rintro e w3 ⟨rfl, hb3⟩
  go_wp2_with fail
  go_ret
  exact ⟨by rw [R.out]; rfl, (hb1.trans (hb2.mono hb1.size)).trans (hb3.mono (Nat.le_trans hb1.size hb2.size))⟩

end Go.Proofs.YthbgklmnmoclhaaDoor

namespace Go.Proofs.YthbgklmnmoclhaaDoor
open Go.RowKit P1 P9 K
set_option linter.unusedVariables false

/-- A variable that holds a journal. -/
structure JV (w : World) (b : Nat) (n t v s u : Int) (x : Value) : Prop where
  c0 : w.cell? ⟨b, 0, none⟩ = some (.int .i64 n)
  c1 : w.cell? ⟨b, 1, none⟩ = some (.int .i64 t)
  c2 : w.cell? ⟨b, 2, none⟩ = some (.int .i64 v)
  c3 : w.cell? ⟨b, 3, none⟩ = some (.int .i64 s)
  c4 : w.cell? ⟨b, 4, none⟩ = some (.int .i64 u)
  c5 : w.cell? ⟨b, 5, none⟩ = some x

section
variable {w w' : World} {b : Nat} {n t v s u : Int} {x : Value}
theorem JV.lt (h : JV w b n t v s u x) : b < w.heap.size := cell_lt h.c0
theorem JV.on (h : JV w b n t v s u x) (hb : Below w.heap.size w w') : JV w' b n t v s u x :=
  ⟨(hb.cell h.lt).trans h.c0, (hb.cell h.lt).trans h.c1, (hb.cell h.lt).trans h.c2, (hb.cell h.lt).trans h.c3, (hb.cell h.lt).trans h.c4, (hb.cell h.lt).trans h.c5⟩
theorem JV.new (w : World) (n t v s u : Int) (x : Value) (ty : TypeId) : JV (w.alloc (.cells #[.int .i64 n, .int .i64 t, .int .i64 v, .int .i64 s, .int .i64 u, x] ty)) w.heap.size n t v s u x := ⟨by simp, by simp, by simp, by simp, by simp, by simp⟩
theorem JV.kept {row : Option Nat} (h : JV w b n t v s u x) (hg : w.grownBy w' row) (hne : row ≠ some b) : JV w' b n t v s u x := by
  have hb := hg.block b h.lt (fun e => hne e.symm)
  exact ⟨(cell_block hb).trans h.c0, (cell_block hb).trans h.c1, (cell_block hb).trans h.c2, (cell_block hb).trans h.c3, (cell_block hb).trans h.c4, (cell_block hb).trans h.c5⟩
end

theorem JV.under {w w' : World} {b B : Nat} {n t v s u : Int} {x : Value} (h : JV w b n t v s u x) (hb : Below B w w') (hlt : b < B) : JV w' b n t v s u x :=
  ⟨(hb.cell hlt).trans h.c0, (hb.cell hlt).trans h.c1, (hb.cell hlt).trans h.c2, (hb.cell hlt).trans h.c3, (hb.cell hlt).trans h.c4, (hb.cell hlt).trans h.c5⟩

theorem JV.drew {w : World} {b : Nat} {n t v s u : Int} {x : Value} (h : JV w b n t v s u x) : JV w.drew b n t v s u x := h.on (Below.refl _ _).drew

end Go.Proofs.YthbgklmnmoclhaaDoor
