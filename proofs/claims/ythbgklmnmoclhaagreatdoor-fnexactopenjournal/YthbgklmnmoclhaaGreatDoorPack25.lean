/-
  Walks of chapter 7: a letter and two numbers, the first record, of the program.
  Walks of chapter 7: which file is opened, what is dropped, of the program.
-/
import Derived.Test.YthbgklmnmoclhaaGreatDoorPack14
import Derived.Test.YthbgklmnmoclhaaGreatDoorWalk5k
import Derived.Test.YthbgklmnmoclhaaGreatDoorPack24
import Derived.Test.YthbgklmnmoclhaaGreatDoorPack13
import Derived.Test.YthbgklmnmoclhaaGreatDoorPack16
import Derived.Test.YthbgklmnmoclhaaGreatDoorPack17
import Derived.Test.YthbgklmnmoclhaaGreatDoorPack18
import Derived.Test.YthbgklmnmoclhaaGreatDoorPack19
import Derived.Test.YthbgklmnmoclhaaGreatDoorPack20
namespace Go.Proofs.YthbgklmnmoclhaaGreatDoor
open Go.RowKit P1 P3 P9 K
attribute [local go_sem ↓] Go.wp_at_zero Go.wp_at_succ
set_option linter.unusedVariables false
set_option linter.unusedSimpArgs false

theorem hasPrefix_one (x : UInt8) (l : List UInt8) : Lib.hasPrefix l [x] = decide (l.head? = some x) := by
  cases l with
  | nil => rfl
  | cons b r =>
    simp only [Lib.hasPrefix, List.isPrefixOf, List.head?_cons, Bool.and_true]
    by_cases h : b = x
    · subst h; simp
    · have h1 : (x == b) = false := by rw [beq_eq_false_iff_ne]; exact fun e => h e.symm
      rw [h1]
      simp [h]

/-- The results of readPair. -/
def rpVal : Option (Nat × Nat) → Value
  | none => .tuple #[.int .i64 0, .int .i64 0, .bool false]
  | some (a, b) => .tuple #[.int .i64 (a : Int), .int .i64 (b : Int), .bool true]

set_option maxHeartbeats 4000000 in
theorem readPair_any (x : UInt8) (s : ByteArray) (hs : s.size ≤ 1048576) (m1 m2 : Nat) (M1 M2 : Int) (hm1 : M1 = (m1 : Int)) (hm2 : M2 = (m2 : Int)) (w : World) :
    Calls Tryz.prog 96 #[.string ⟨#[x]⟩, .string s, .int .i64 M1, .int .i64 M2] w fun r w' => r = .returned (rpVal (rdPair x (bl s) m1 m2)) ∧ w = w' := by
  subst hm1 hm2
  obtain ⟨R, hR⟩ : ∃ R, rdPair x (bl s) m1 m2 = R := ⟨_, rfl⟩
  rw [hR]
  have HR := hide hR
  clear hR
  have HLEN := hide (bl_length s)
  by_cases hh : (bl s).head? = some x
  · have HPRE := hide (show Lib.hasPrefix (bl s) [x] = true by rw [hasPrefix_one]; simpa using hh)
    have h1s : 1 ≤ s.size := by
      rw [← HLEN.out]
      cases hb : bl s with
      | nil => rw [hb] at hh; cases hh
      | cons b r => simp
    have HH := hide hh
    clear hh
    cases hr1 : rdGo 5 [] ((bl s).drop 1) with
    | none =>
      have HR1 := hide hr1
      obtain rfl : R = none := HR.out.symm.trans (rdPair_none (rdTwo_one hr1))
      clear hr1
      go_enter Tryz.func96, Tryz.ntmps96
      go_wp2_with fail
      refine (Tryz.strings_HasPrefix _ _ _).mono ?_
      rw [show Lib.hasPrefix s.data.toList (⟨#[x]⟩ : ByteArray).data.toList = true from HPRE.out]
      rintro r w' ⟨rfl, rfl⟩
      go_wp2_with fail
      refine (implReadVar_at s hs 1 1 rfl h1s _).mono ?_
      rw [HR1.out, rvVal_none]
      rintro r w' ⟨rfl, rfl⟩
      go_wp2_with fail
      refine bodyPost_ret (v := .tuple #[.int .i64 0, .int .i64 0, .bool false]) (by simp [results, Tryz.results96, go_sem]) rfl ?_
      exact ⟨rfl, rfl⟩
    | some p =>
      obtain ⟨a, c1⟩ := p
      have hbd := rdGo_some 5 [] _ a c1 hr1
      rw [List.length_drop, HLEN.out] at hbd
      simp only [List.length_nil] at hbd
      obtain ⟨i1, i2, i3, i4⟩ := hbd
      have HR1 := hide hr1
      obtain ⟨p1, hp1⟩ : ∃ p1, 1 + c1 = p1 := ⟨_, rfl⟩
      have HP1 := hide hp1
      have hp1s : p1 ≤ s.size := by omega
      clear hr1 hp1
      by_cases ha : m1 < a
      · obtain rfl : R = none := HR.out.symm.trans (rdPair_first HR1.out ha)
        have g1 : decide (m1 < a) = true := by simpa using ha
        go_enter Tryz.func96, Tryz.ntmps96
        go_wp2_with fail
        refine (Tryz.strings_HasPrefix _ _ _).mono ?_
        rw [show Lib.hasPrefix s.data.toList (⟨#[x]⟩ : ByteArray).data.toList = true from HPRE.out]
        rintro r w' ⟨rfl, rfl⟩
        go_wp2_with fail
        refine (implReadVar_at s hs 1 1 rfl h1s _).mono ?_
        rw [HR1.out, rvVal_some, HP1.out]
        rintro r w' ⟨rfl, rfl⟩
        go_wp2_with fail
        refine bodyPost_ret (v := .tuple #[.int .i64 0, .int .i64 0, .bool false]) (by simp [results, Tryz.results96, go_sem]) rfl ?_
        exact ⟨rfl, rfl⟩
      · have g1 : decide (m1 < a) = false := by simpa using ha
        cases hr2 : rdGo 5 [] ((bl s).drop p1) with
        | none =>
          have HR2 := hide hr2
          obtain rfl : R = none := HR.out.symm.trans (rdPair_none (rdTwo_two HR1.out (by rw [HP1.out]; exact hr2)))
          clear hr2 ha
          go_enter Tryz.func96, Tryz.ntmps96
          go_wp2_with fail
          refine (Tryz.strings_HasPrefix _ _ _).mono ?_
          rw [show Lib.hasPrefix s.data.toList (⟨#[x]⟩ : ByteArray).data.toList = true from HPRE.out]
          rintro r w' ⟨rfl, rfl⟩
          go_wp2_with fail
          refine (implReadVar_at s hs 1 1 rfl h1s _).mono ?_
          rw [HR1.out, rvVal_some, HP1.out]
          rintro r w' ⟨rfl, rfl⟩
          go_wp2_with fail
          refine (implReadVar_at s hs p1 _ rfl hp1s _).mono ?_
          rw [HR2.out, rvVal_none]
          rintro r w' ⟨rfl, rfl⟩
          go_wp2_with fail
          refine bodyPost_ret (v := .tuple #[.int .i64 0, .int .i64 0, .bool false]) (by simp [results, Tryz.results96, go_sem]) rfl ?_
          exact ⟨rfl, rfl⟩
        | some q =>
          obtain ⟨b, c2⟩ := q
          have hbd := rdGo_some 5 [] _ b c2 hr2
          rw [List.length_drop, HLEN.out] at hbd
          simp only [List.length_nil] at hbd
          obtain ⟨j1, j2, j3, j4⟩ := hbd
          have HR2 := hide hr2
          obtain ⟨p2, hp2⟩ : ∃ p2, p1 + c2 = p2 := ⟨_, rfl⟩
          have HP2 := hide hp2
          have hA := HR.out.symm.trans (rdPair_all HR1.out (by rw [HP1.out]; exact hr2) HH.out (by omega))
          rw [HP1.out, hp2, HLEN.out] at hA
          have HALL := hide hA
          have hp2s : p2 ≤ s.size := by omega
          clear hr2 hp2 hA ha
          by_cases hb : b ≤ m2
          · have g2 : decide (m2 < b) = false := by simpa using hb
            by_cases hend : p2 = s.size
            · have hRR := HALL.out
              rw [if_pos ⟨hb, hend⟩] at hRR
              subst hRR
              have g3 : ((p2 : Int) == (s.size : Int)) = true := by simp [hend]
              have g4 : (p2 == s.size) = true := by simp [hend]
              have HE := hide hend
              clear hend
              go_enter Tryz.func96, Tryz.ntmps96
              go_wp2_with fail
              refine (Tryz.strings_HasPrefix _ _ _).mono ?_
              rw [show Lib.hasPrefix s.data.toList (⟨#[x]⟩ : ByteArray).data.toList = true from HPRE.out]
              rintro r w' ⟨rfl, rfl⟩
              go_wp2_with fail
              refine (implReadVar_at s hs 1 1 rfl h1s _).mono ?_
              rw [HR1.out, rvVal_some, HP1.out]
              rintro r w' ⟨rfl, rfl⟩
              go_wp2_with fail
              refine (implReadVar_at s hs p1 _ rfl hp1s _).mono ?_
              rw [HR2.out, rvVal_some, HP2.out]
              rintro r w' ⟨rfl, rfl⟩
              go_wp2_with fail
              refine bodyPost_ret (v := .tuple #[.int .i64 (a : Int), .int .i64 (b : Int), .bool true]) (by simp [results, Tryz.results96, go_sem]) rfl ?_
              exact ⟨rfl, rfl⟩
            · have hRR := HALL.out
              rw [if_neg (fun h => hend h.2)] at hRR
              subst hRR
              have g3 : ((p2 : Int) == (s.size : Int)) = false := by rw [beq_eq_false_iff_ne]; omega
              have g4 : (p2 == s.size) = false := by rw [beq_eq_false_iff_ne]; exact hend
              clear hend
              go_enter Tryz.func96, Tryz.ntmps96
              go_wp2_with fail
              refine (Tryz.strings_HasPrefix _ _ _).mono ?_
              rw [show Lib.hasPrefix s.data.toList (⟨#[x]⟩ : ByteArray).data.toList = true from HPRE.out]
              rintro r w' ⟨rfl, rfl⟩
              go_wp2_with fail
              refine (implReadVar_at s hs 1 1 rfl h1s _).mono ?_
              rw [HR1.out, rvVal_some, HP1.out]
              rintro r w' ⟨rfl, rfl⟩
              go_wp2_with fail
              refine (implReadVar_at s hs p1 _ rfl hp1s _).mono ?_
              rw [HR2.out, rvVal_some, HP2.out]
              rintro r w' ⟨rfl, rfl⟩
              go_wp2_with fail
              refine bodyPost_ret (v := .tuple #[.int .i64 0, .int .i64 0, .bool false]) (by simp [results, Tryz.results96, go_sem]) rfl ?_
              exact ⟨rfl, rfl⟩
          · have g2 : decide (m2 < b) = true := by simpa using hb
            have hRR := HALL.out
            rw [if_neg (fun h => hb h.1)] at hRR
            subst hRR
            clear hb
            go_enter Tryz.func96, Tryz.ntmps96
            go_wp2_with fail
            refine (Tryz.strings_HasPrefix _ _ _).mono ?_
            rw [show Lib.hasPrefix s.data.toList (⟨#[x]⟩ : ByteArray).data.toList = true from HPRE.out]
            rintro r w' ⟨rfl, rfl⟩
            go_wp2_with fail
            refine (implReadVar_at s hs 1 1 rfl h1s _).mono ?_
            rw [HR1.out, rvVal_some, HP1.out]
            rintro r w' ⟨rfl, rfl⟩
            go_wp2_with fail
            refine (implReadVar_at s hs p1 _ rfl hp1s _).mono ?_
            rw [HR2.out, rvVal_some, HP2.out]
            rintro r w' ⟨rfl, rfl⟩
            go_wp2_with fail
            refine bodyPost_ret (v := .tuple #[.int .i64 0, .int .i64 0, .bool false]) (by simp [results, Tryz.results96, go_sem]) rfl ?_
            exact ⟨rfl, rfl⟩
  · have HPRE := hide (show Lib.hasPrefix (bl s) [x] = false by rw [hasPrefix_one]; simpa using hh)
    obtain rfl : R = none := HR.out.symm.trans (rdPair_none (rdTwo_head hh))
    clear hh
    go_enter Tryz.func96, Tryz.ntmps96
    go_wp2_with fail
    refine (Tryz.strings_HasPrefix _ _ _).mono ?_
    rw [show Lib.hasPrefix s.data.toList (⟨#[x]⟩ : ByteArray).data.toList = false from HPRE.out]
    rintro r w' ⟨rfl, rfl⟩
    go_wp2_with fail
    refine bodyPost_ret (v := .tuple #[.int .i64 0, .int .i64 0, .bool false]) (by simp [results, Tryz.results96, go_sem]) rfl ?_
    exact ⟨rfl, rfl⟩

/-- A journal in a block of its own. -/
abbrev jcells (n t v s u : Int) (x : Value) : Array Value := #[.int .i64 n, .int .i64 t, .int .i64 v, .int .i64 s, .int .i64 u, x]
def JB (w : World) (b : Nat) (n t v s u : Int) (x : Value) : Prop := w.heap[b]? = some (.cells (jcells n t v s u x) 30 (0, 0))

theorem JB.new (w : World) (n t v s u : Int) (x : Value) : JB (w.alloc (.cells (jcells n t v s u x) 30)) w.heap.size n t v s u x := heap_alloc_new _ _
theorem JB.lt {w : World} {b : Nat} {n t v s u : Int} {x : Value} (h : JB w b n t v s u x) : b < w.heap.size := blk_lt h
theorem JB.on {w w' : World} {b B : Nat} {n t v s u : Int} {x : Value} (h : JB w b n t v s u x) (hb : Below B w w') (hlt : b < B) : JB w' b n t v s u x := (hb.block b hlt).trans h
theorem JB.kept {w w' : World} {b : Nat} {row : Option Nat} {n t v s u : Int} {x : Value} (h : JB w b n t v s u x) (hg : w.grownBy w' row) (hne : row ≠ some b) : JB w' b n t v s u x := (hg.block b h.lt (fun e => hne e.symm)).trans h
theorem JB.jv {w : World} {b : Nat} {n t v s u : Int} {x : Value} (h : JB w b n t v s u x) : JV w b n t v s u x :=
  ⟨blk_cell h 0 rfl, blk_cell h 1 rfl, blk_cell h 2 rfl, blk_cell h 3 rfl, blk_cell h 4 rfl, blk_cell h 5 rfl⟩
theorem JB.free {w : World} {b : Nat} {n t v s u : Int} {x : Value} (h : JB w b n t v s u x) (j : Nat) : w.frozen? ⟨b, j, none⟩ = false := blk_free h j
theorem JB.log {w : World} {b : Nat} {n t v s u : Int} {x : Value} (h : JB w b n t v s u x) (s' u' : Int) (x' : Value) :
    JB (((w.setCell ⟨b, 3, none⟩ (.int .i64 s')).setCell ⟨b, 4, none⟩ (.int .i64 u')).setCell ⟨b, 5, none⟩ x') b n t v s' u' x' ∧ w.grownBy (((w.setCell ⟨b, 3, none⟩ (.int .i64 s')).setCell ⟨b, 4, none⟩ (.int .i64 u')).setCell ⟨b, 5, none⟩ x') (some b) :=
  ⟨blk_set (k := 5) x' (blk_set (k := 4) (.int .i64 u') (blk_set (k := 3) (.int .i64 s') h)), grown_trans (blk_grown _ _ _ _) (grown_trans (blk_grown _ _ _ _) (blk_grown _ _ _ _))⟩
theorem JB.vote {w : World} {b : Nat} {n t v s u : Int} {x : Value} (h : JB w b n t v s u x) (t' v' : Int) :
    JB ((w.setCell ⟨b, 1, none⟩ (.int .i64 t')).setCell ⟨b, 2, none⟩ (.int .i64 v')) b n t' v' s u x ∧ w.grownBy ((w.setCell ⟨b, 1, none⟩ (.int .i64 t')).setCell ⟨b, 2, none⟩ (.int .i64 v')) (some b) :=
  ⟨blk_set (k := 2) (.int .i64 v') (blk_set (k := 1) (.int .i64 t') h), grown_trans (blk_grown _ _ _ _) (blk_grown _ _ _ _)⟩
theorem JB.all {w : World} {b : Nat} {n t v s u : Int} {x : Value} (h : JB w b n t v s u x) (n' t' v' s' u' : Int) (x' : Value) :
    JB ((((((w.setCell ⟨b, 0, none⟩ (.int .i64 n')).setCell ⟨b, 1, none⟩ (.int .i64 t')).setCell ⟨b, 2, none⟩ (.int .i64 v')).setCell ⟨b, 3, none⟩ (.int .i64 s')).setCell ⟨b, 4, none⟩ (.int .i64 u')).setCell ⟨b, 5, none⟩ x') b n' t' v' s' u' x' ∧
    w.grownBy ((((((w.setCell ⟨b, 0, none⟩ (.int .i64 n')).setCell ⟨b, 1, none⟩ (.int .i64 t')).setCell ⟨b, 2, none⟩ (.int .i64 v')).setCell ⟨b, 3, none⟩ (.int .i64 s')).setCell ⟨b, 4, none⟩ (.int .i64 u')).setCell ⟨b, 5, none⟩ x') (some b) :=
  ⟨blk_set (k := 5) x' (blk_set (k := 4) (.int .i64 u') (blk_set (k := 3) (.int .i64 s') (blk_set (k := 2) (.int .i64 v') (blk_set (k := 1) (.int .i64 t') (blk_set (k := 0) (.int .i64 n') h))))),
   grown_trans (blk_grown _ _ _ _) (grown_trans (blk_grown _ _ _ _) (grown_trans (blk_grown _ _ _ _) (grown_trans (blk_grown _ _ _ _) (grown_trans (blk_grown _ _ _ _) (blk_grown _ _ _ _)))))⟩

/-- What the first record leaves. -/
def BgPost (l : List UInt8) (w : World) (b : Nat) (n t v : Int) (e : Ending) (w' : World) : Prop :=
  ∃ s u : Nat, e = .returned (.bool (rdPair 66 l 1000000 100000).isSome) ∧ (∀ p, rdPair 66 l 1000000 100000 = some p → p = (s, u)) ∧ JB w' b n t v s u (.slice none 0 0) ∧ w.grownBy w' (some b)

set_option maxHeartbeats 2000000 in
theorem begin_any (s : ByteArray) (hs : s.size ≤ 1048576) (w : World) (b : Nat) (n t v s0 u0 : Int) (x : Value) (h : JB w b n t v s0 u0 x) :
    Calls Tryz.prog 78 #[.pointer (some ⟨b, 0, none⟩), .string s] w fun e w' => BgPost (bl s) w b n t v e w' := by
  have HJ := hide h
  have c3 := h.jv.c3
  have c4 := h.jv.c4
  have c5 := h.jv.c5
  have f3 := h.free 3
  have f4 := h.free 4
  have f5 := h.free 5
  clear h
  have HR := hide (readPair_any 66 s hs 1000000 100000 1000000 100000 rfl rfl w)
  cases hp : rdPair 66 (bl s) 1000000 100000 with
  | none =>
    have HP := hide hp
    have HE := hide (HJ.out.log 0 0 (.slice none 0 0))
    rw [hp, show rpVal none = .tuple #[.int .i64 0, .int .i64 0, .bool false] from rfl] at HR
    clear hp
    go_enter Tryz.func78, Tryz.ntmps78
    go_wp2_with fail
    refine HR.out.mono ?_
    rintro r w' ⟨rfl, rfl⟩
    go_wp2_with fail
    refine bodyPost_ret (v := .bool false) (by simp [results, Tryz.results78, go_sem]) rfl ?_
    exact ⟨0, 0, (by rw [HP.out]; rfl), fun p hp => (by rw [HP.out] at hp; cases hp), HE.out.1, HE.out.2⟩
  | some q =>
    obtain ⟨a, c⟩ := q
    have HP := hide hp
    have HE := hide (HJ.out.log a c (.slice none 0 0))
    rw [hp, show rpVal (some (a, c)) = .tuple #[.int .i64 (a : Int), .int .i64 (c : Int), .bool true] from rfl] at HR
    clear hp
    go_enter Tryz.func78, Tryz.ntmps78
    go_wp2_with fail
    refine HR.out.mono ?_
    rintro r w' ⟨rfl, rfl⟩
    go_wp2_with fail
    refine bodyPost_ret (v := .bool true) (by simp [results, Tryz.results78, go_sem]) rfl ?_
    exact ⟨a, c, (by rw [HP.out]; rfl), fun p hp => (by rw [HP.out] at hp; cases hp; rfl), HE.out.1, HE.out.2⟩

end Go.Proofs.YthbgklmnmoclhaaGreatDoor

namespace Go.Proofs.YthbgklmnmoclhaaGreatDoor
open Go.RowKit P1 P3 P5 P9 K
attribute [local go_sem ↓] Go.wp_at_zero Go.wp_at_succ
set_option linter.unusedVariables false
set_option linter.unusedSimpArgs false

/-- strconv's table of powers of ten lies in its variable. -/
abbrev PowIs (w : World) : Prop := Lib.TabIs Tryz.prog w "internal/strconv.uint64pow10" .u64 Lib.pow10Tab

theorem infoIF7 : (Tryz.prog.info? 49).map (·.size) = some 3 := by kernel_rfl

theorem numB_un {b : UInt8} {t : List UInt8} (h : ¬ b = 106) : numB (b :: t) = -1 := by simp [numB, h]
theorem numB_none {t : List UInt8} (h : rdDec t = none) : numB (106 :: t) = -1 := by simp [numB, h]
theorem numB_some {t : List UInt8} {n : Nat} (h : rdDec t = some n) : numB (106 :: t) = if 999 < n then -1 else (n : Int) := by simp [numB, h]

theorem cut_yes (t : List UInt8) : Lib.trimPrefix (106 :: t) [106] = t ∧ Lib.hasPrefix (106 :: t) [106] = true := by
  have h : Lib.hasPrefix (106 :: t) [106] = true := by rw [hasPrefix_one]; simp
  exact ⟨by unfold Lib.trimPrefix; rw [if_pos h]; rfl, h⟩
theorem cut_no {l : List UInt8} (hh : l.head? ≠ some 106) : Lib.trimPrefix l [106] = l ∧ Lib.hasPrefix l [106] = false := by
  have h : Lib.hasPrefix l [106] = false := by rw [hasPrefix_one]; simpa using hh
  exact ⟨by unfold Lib.trimPrefix; rw [h]; rfl, h⟩

set_option maxHeartbeats 1000000 in
theorem numberOf_any (l : List UInt8) (hl : l.length ≤ 1048576) (w : World) (ht : PowIs w) :
    Calls Tryz.prog 73 #[.string ⟨l.toArray⟩] w fun e w' => e = .returned (.int .i64 (jnNumber l)) ∧ Below w.heap.size w w' := by
  rw [← numB_is]
  by_cases hh : l.head? = some 106
  · obtain ⟨t, rfl⟩ : ∃ t, l = 106 :: t := by
      cases l with
      | nil => cases hh
      | cons b t => exact ⟨t, by simpa using hh⟩
    have hc := cut_yes t
    have HC := hide hc
    have HRD := hide (implReadDecimal_any ⟨t.toArray⟩ (by rw [size_mk7]; simp only [List.length_cons] at hl; omega) w ht)
    rw [bl_mk7] at HRD
    clear hc hh ht
    cases hr : rdDec t with
    | none =>
      have HN := hide (numB_none hr)
      rw [hr, show rdVal none = .tuple #[.int .i64 0, .bool false] from rfl] at HRD
      clear hr
      go_enter Tryz.func73, Tryz.ntmps73
      go_wp2_with fail
      refine (Tryz.strings_CutPrefix _ _ _).mono ?_
      rw [show Lib.trimPrefix (⟨(106 :: t).toArray⟩ : ByteArray).data.toList (⟨#[106]⟩ : ByteArray).data.toList = t from HC.out.1, show Lib.hasPrefix (⟨(106 :: t).toArray⟩ : ByteArray).data.toList (⟨#[106]⟩ : ByteArray).data.toList = true from HC.out.2]
      rintro e w1 ⟨rfl, rfl⟩
      go_wp2_with fail
      refine HRD.out.mono ?_
      rintro e w2 ⟨rfl, hb2⟩
      go_wp2_with fail
      go_ret
      exact ⟨by rw [HN.out]; rfl, hb2⟩
    | some n =>
      have hn := rdDec_some hr
      have HN := hide (numB_some hr)
      rw [hr, show rdVal (some n) = .tuple #[.int .i64 (n : Int), .bool true] from rfl] at HRD
      clear hr
      by_cases hbig : 999 < n
      · have g1 : decide (999 < n) = true := by simpa using hbig
        have g2 : (999 : Int) < (n : Int) := by omega
        go_enter Tryz.func73, Tryz.ntmps73
        go_wp2_with fail
        refine (Tryz.strings_CutPrefix _ _ _).mono ?_
        rw [show Lib.trimPrefix (⟨(106 :: t).toArray⟩ : ByteArray).data.toList (⟨#[106]⟩ : ByteArray).data.toList = t from HC.out.1, show Lib.hasPrefix (⟨(106 :: t).toArray⟩ : ByteArray).data.toList (⟨#[106]⟩ : ByteArray).data.toList = true from HC.out.2]
        rintro e w1 ⟨rfl, rfl⟩
        go_wp2_with fail
        refine HRD.out.mono ?_
        rintro e w2 ⟨rfl, hb2⟩
        go_wp2_with fail
        go_ret
        exact ⟨by rw [HN.out, if_pos hbig]; rfl, hb2⟩
      · have g1 : decide (999 < n) = false := by simpa using hbig
        have g2 : ¬ (999 : Int) < (n : Int) := by omega
        go_enter Tryz.func73, Tryz.ntmps73
        go_wp2_with fail
        refine (Tryz.strings_CutPrefix _ _ _).mono ?_
        rw [show Lib.trimPrefix (⟨(106 :: t).toArray⟩ : ByteArray).data.toList (⟨#[106]⟩ : ByteArray).data.toList = t from HC.out.1, show Lib.hasPrefix (⟨(106 :: t).toArray⟩ : ByteArray).data.toList (⟨#[106]⟩ : ByteArray).data.toList = true from HC.out.2]
        rintro e w1 ⟨rfl, rfl⟩
        go_wp2_with fail
        refine HRD.out.mono ?_
        rintro e w2 ⟨rfl, hb2⟩
        go_wp2_with fail
        go_ret
        exact ⟨by rw [HN.out, if_neg hbig]; rfl, hb2⟩
  · have HC := hide (cut_no hh)
    have HN := hide (show numB l = -1 by
      cases l with
      | nil => rfl
      | cons b t => exact numB_un (fun e => hh (by rw [e]; rfl)))
    have HRD := hide (implReadDecimal_any ⟨l.toArray⟩ (by rw [size_mk7]; omega) w ht)
    obtain ⟨x, y, hxy⟩ : ∃ x y, rdVal (rdDec (bl ⟨l.toArray⟩)) = .tuple #[.int .i64 x, .bool y] := by
      cases rdDec (bl ⟨l.toArray⟩) with
      | none => exact ⟨_, _, rfl⟩
      | some n => exact ⟨_, _, rfl⟩
    rw [hxy] at HRD
    clear hxy hh ht
    go_enter Tryz.func73, Tryz.ntmps73
    go_wp2_with fail
    refine (Tryz.strings_CutPrefix _ _ _).mono ?_
    rw [show Lib.trimPrefix (⟨l.toArray⟩ : ByteArray).data.toList (⟨#[106]⟩ : ByteArray).data.toList = l from HC.out.1, show Lib.hasPrefix (⟨l.toArray⟩ : ByteArray).data.toList (⟨#[106]⟩ : ByteArray).data.toList = false from HC.out.2]
    rintro e w1 ⟨rfl, rfl⟩
    go_wp2_with fail
    refine HRD.out.mono ?_
    rintro e w2 ⟨rfl, hb2⟩
    go_wp2_with fail
    go_ret
    exact ⟨by rw [HN.out]; rfl, hb2⟩

theorem lastOf_next {fs : List FileV} {k : Nat} {f : FileV} (m : Int) (h : fs[k]? = some f) : lastOf m (fs.take (k + 1)) = max (lastOf m (fs.take k)) (jnNumber f.name) := by
  unfold lastOf
  rw [List.take_add_one, h, List.foldl_append]
  rfl

/-- A disk in a variable. -/
def DV (w : World) (b : Nat) (x : Value) : Prop := w.heap[b]? = some (.cells #[x] 36 (0, 0))
theorem DV.new (w : World) (x : Value) : DV (w.alloc (.cells #[x] 36)) w.heap.size x := heap_alloc_new _ _
theorem DV.on {w w' : World} {b B : Nat} {x : Value} (h : DV w b x) (hb : Below B w w') (hlt : b < B) : DV w' b x := (hb.block b hlt).trans h
theorem DV.lt {w : World} {b : Nat} {x : Value} (h : DV w b x) : b < w.heap.size := blk_lt h
theorem DV.cell {w : World} {b : Nat} {x : Value} (h : DV w b x) : w.cell? ⟨b, 0, none⟩ = some x := blk_cell h 0 rfl

set_option maxHeartbeats 2000000 in
theorem lastNumber_any (oa : Option Addr) (n cap : Nat) (fs : List FileV) (w : World) (hat : FilesAt w oa n cap fs) (hn : n ≤ 1048576) (hw : ∀ f ∈ fs, f.name.length ≤ 1048576) (ht : PowIs w) :
    Calls Tryz.prog 48 #[.agg #[.slice oa n cap]] w fun e w' => e = .returned (.int .i64 (lastOf (-1) fs)) ∧ Below w.heap.size w w' := by
  have HN := hide hat.len
  have HAT := hide hat
  have HW := hide hw
  have HT := hide ht
  clear hat hw ht
  go_enter Tryz.func48, Tryz.ntmps48
  go_wp2_with fail
  go_loopw [3, 9] (fun m i wr => ∃ (k : Nat), i = .int .i64 (k : Int) ∧ m = .int .i64 (lastOf (-1) (fs.take k)) ∧ k ≤ n ∧ Below w.heap.size w wr) (fun _ i _ => n - (intOf i).toNat)
  case atStart => exact ⟨0, rfl, rfl, Nat.zero_le _, (Below.refl w.heap.size w).alloc (Nat.le_refl _) _⟩
  case round =>
    obtain ⟨k, rfl, rfl, hk, hbel⟩ := hrel
    have HBL := hide hbel
    by_cases hlt : k < n
    · have k0 : (k : Int) < (n : Int) := by omega
      obtain ⟨f, b, q, hf, hidx, hb, c0, c1, c2⟩ := (HAT.out.below hbel).get Tryz.underlying34 infoIF7 k hlt
      have HNX := hide (lastOf_next (-1) hf)
      have hr := lastOf_range (-1) (fs.take k) (by omega)
      have hr2 := jnNumber_range f.name
      have hnl := HW.out f (List.mem_of_getElem? hf)
      clear hf hbel
      generalize lastOf (-1) (fs.take k) = m at HNX hr
      have HB1 := hide (HBL.out.alloc HBL.out.size (.cells #[.string ⟨f.name.toArray⟩, .string ⟨f.text.toArray⟩, .int .i64 f.kept] 49))
      have HNB := hide (fun w => numberOf_any f.name hnl w)
      go_wp2_with fail
      refine (HNB.out _ (tab_below HT.out HB1.out)).mono ?_
      rintro e w1 ⟨rfl, hb1⟩
      have HB2 := hide (HB1.out.trans (hb1.mono HB1.out.size))
      clear hb1 HB1 HBL
      generalize jnNumber f.name = y at HNX hr2
      go_wp2_with fail
      go_roundw
      case rel => exact ⟨k + 1, by go_num, by rw [HNX.out], by omega, HB2.out⟩
      case measure => simp [intOf]; omega
    · obtain rfl : k = n := by omega
      have k1 : decide ((k : Int) < (k : Int)) = false := by simp
      have RD := hide (show lastOf (-1) fs = lastOf (-1) (fs.take k) by rw [List.take_of_length_le (by rw [HN.out]; exact Nat.le_refl _)])
      go_wp2_with fail
      go_ret
      exact ⟨by rw [RD.out]; rfl, HBL.out⟩

theorem drops_next {fs : List FileV} {k : Nat} {f : FileV} (b : Int) (h : fs[k]? = some f) : drops b (fs.take (k + 1)) = drops b (fs.take k) ++ (if isDrop b f = true then [dropA f.name] else []) := by
  unfold drops
  rw [List.take_add_one, h, List.filter_append, List.map_append]
  congr 1
  simp only [Option.toList_some, List.filter_cons, List.filter_nil]
  split <;> rfl
theorem drops_room (b : Int) (fs : List FileV) : (drops b fs).length ≤ fs.length := by
  unfold drops
  rw [List.length_map]
  exact List.length_filter_le _ _

/-- A row of acts that is handed back. -/
def ActRes (w : World) (xs : List ActV) (e : Ending) (w' : World) : Prop :=
  ∃ v, e = .returned v ∧ w'.ownsRow w.heap.size 57 4 v xs.length (xs.flatMap akc) ∧ Below w.heap.size w w'

theorem new_eq (l : List UInt8) : ((⟨l.toArray⟩ : ByteArray).toList == (⟨#[106, 43]⟩ : ByteArray).toList) = decide (l = nmNew) := by
  rw [Lib.toList_data, Lib.toList_data]
  show (l == [106, 43]) = decide (l = [106, 43])
  by_cases h : l = [106, 43]
  · simp [h]
  · simp [h]

theorem dr_own {w : World} {base : Nat} {v : Value} {X Y : List ActV} {l : List UInt8} (h : Y = X ++ [dropA l]) (ho : w.ownsRow base 57 4 v (X.length + 1) (X.flatMap akc ++ [.int .i64 4, .string ⟨l.toArray⟩, .string ⟨#[]⟩, .string ⟨#[]⟩])) : w.ownsRow base 57 4 v Y.length (Y.flatMap akc) := by
  subst h
  rw [List.length_append, List.flatMap_append]
  exact ho

set_option maxHeartbeats 4000000 in
theorem dropOthers_any (oa : Option Addr) (n cap : Nat) (fs : List FileV) (b : Int) (hb : -1 ≤ b ∧ b ≤ 999) (w : World) (hat : FilesAt w oa n cap fs) (hn : n ≤ 1000) (hw : ∀ f ∈ fs, f.name.length ≤ 1048576) (ht : PowIs w) :
    Calls Tryz.prog 52 #[.agg #[.slice oa n cap], .int .i64 b] w fun e w' => ActRes w (drops b fs) e w' := by
  have HN := hide hat.len
  have HAT := hide hat
  have HW := hide hw
  have HT := hide ht
  clear hat hw ht
  go_enter Tryz.func52, Tryz.ntmps52
  go_wp2_with fail
  go_loopw [5, 13] (fun v i wr => ∃ (k : Nat), i = .int .i64 (k : Int) ∧ k ≤ n ∧ wr.ownsRow w.heap.size 57 4 v (drops b (fs.take k)).length ((drops b (fs.take k)).flatMap akc) ∧ Below w.heap.size w wr) (fun _ i _ => n - (intOf i).toNat)
  case atStart =>
    refine ⟨0, rfl, Nat.zero_le _, ?_, ((Below.refl w.heap.size w).alloc (Nat.le_refl _) _).alloc (by simp) _⟩
    have := World.ownsRow_made (w := w.alloc (.cells #[.slice oa n cap] 36)) (e := 57) (base := w.heap.size) (size := 4) #[] 0 (by simp) (by decide) rfl
    simpa [drops] using this
  case round =>
    obtain ⟨k, rfl, hk, hown, hbel⟩ := hrel
    have HOW := hide hown
    have HBL := hide hbel
    clear hown
    by_cases hlt : k < n
    · have k0 : (k : Int) < (n : Int) := by omega
      obtain ⟨f, bk, q, hf, hidx, hbk, c0, c1, c2⟩ := (HAT.out.below hbel).get Tryz.underlying34 infoIF7 k hlt
      have HNX := hide (drops_next b hf)
      have hr2 := jnNumber_range f.name
      have hnl := HW.out f (List.mem_of_getElem? hf)
      have hdl : (drops b (fs.take k)).length ≤ 1000 := by have := drops_room b (fs.take k); rw [List.length_take] at this; omega
      clear hf hbel
      generalize drops b (fs.take k) = X at HNX HOW hdl
      have HB1 := hide (HBL.out.alloc HBL.out.size (.cells #[.string ⟨f.name.toArray⟩, .string ⟨f.text.toArray⟩, .int .i64 f.kept] 49))
      have HO1 := hide (HOW.out.alloc (.cells #[.string ⟨f.name.toArray⟩, .string ⟨f.text.toArray⟩, .int .i64 f.kept] 49))
      have HNB := hide (fun w => numberOf_any f.name hnl w)
      have HF1 := hide (heap_alloc_new wr (.cells #[.string ⟨f.name.toArray⟩, .string ⟨f.text.toArray⟩, .int .i64 f.kept] 49))
      have qn := new_eq f.name
      have qn2 : (f.name == [106, 43]) = decide (f.name = nmNew) := by rw [← new_eq, Lib.toList_data, Lib.toList_data]
      go_wp2_with fail
      refine (HNB.out _ (tab_below HT.out HB1.out)).mono ?_
      rintro e w1 ⟨rfl, hb1⟩
      have HB2 := hide (HB1.out.trans (hb1.mono HB1.out.size))
      have HO2 := hide (own_below HO1.out hb1)
      have HF2 := (hb1.block _ (blk_lt HF1.out)).trans HF1.out
      have d0 := blk_cell HF2 0 rfl
      simp only [List.getElem_toArray, List.getElem_cons_zero] at d0
      have HCL := hide (stringsClone3_any ⟨f.name.toArray⟩ (by rw [size_mk7]; omega))
      clear hb1 HB1 HBL HO1 HOW HF1 HF2 hidx hbk c0 c1 c2 HNB
      obtain ⟨ov, cv, hv⟩ := own_form3 HO2.out
      subst hv
      have hsz2 := HB2.out.size
      have hid : isDrop b f = (decide (f.name = nmNew) || (decide (0 ≤ jnNumber f.name) && decide (jnNumber f.name ≠ b))) := rfl
      rw [hid] at HNX
      clear hid
      generalize jnNumber f.name = y at HNX hr2 ⊢
      by_cases hnew : f.name = nmNew
      · rw [decide_eq_true hnew] at qn qn2 HNX
        rw [Bool.true_or, if_pos rfl] at HNX
        clear hnew
        go_wp2_with fail
        refine (HCL.out _).mono ?_
        rintro e w2 ⟨rfl, hb2⟩
        have HB3 := hide (HB2.out.trans (hb2.mono hsz2))
        have HO3 := hide (own_below HO2.out hb2)
        clear hb2 HB2 HO2 d0
        go_wp2_with (at_builtin; refine wpList_pushK (cs := #[.int .i64 4, .string ⟨f.name.toArray⟩, .string ⟨#[]⟩, .string ⟨#[]⟩]) rfl _ _ 31 rfl (by decide) Tryz.underlying31 infoKAz rfl rfl HO3.out rfl rfl (akc_one (dropA f.name)) HB3.out HB3.out.size (by unfold maxLen; omega) (by omega) ?_)
        intro v' w3 ho3 hb3 _
        have HO4 := hide ho3
        have HB4 := hide hb3
        clear ho3 hb3 HO3 HB3
        go_wp2_with fail
        go_roundw
        case rel =>
          exact ⟨k + 1, by go_num, by omega, dr_own HNX.out HO4.out, HB4.out⟩
        case measure => simp [intOf]; omega
      · rw [decide_eq_false hnew] at qn qn2 HNX
        have qn3 : ¬ f.name = [106, 43] := hnew
        rw [Bool.false_or] at HNX
        clear hnew
        by_cases hy : 0 ≤ y ∧ y ≠ b
        · rw [decide_eq_true hy.1, decide_eq_true hy.2, Bool.true_and, if_pos rfl] at HNX
          have y1 : decide (0 ≤ y) = true := by simpa using hy.1
          have y2 : (y == b) = false := by simpa using hy.2
          clear hy
          go_wp2_with fail
          refine (HCL.out _).mono ?_
          rintro e w2 ⟨rfl, hb2⟩
          have HB3 := hide (HB2.out.trans (hb2.mono hsz2))
          have HO3 := hide (own_below HO2.out hb2)
          clear hb2 HB2 HO2 d0
          go_wp2_with (at_builtin; refine wpList_pushK (cs := #[.int .i64 4, .string ⟨f.name.toArray⟩, .string ⟨#[]⟩, .string ⟨#[]⟩]) rfl _ _ 31 rfl (by decide) Tryz.underlying31 infoKAz rfl rfl HO3.out rfl rfl (akc_one (dropA f.name)) HB3.out HB3.out.size (by unfold maxLen; omega) (by omega) ?_)
          intro v' w3 ho3 hb3 _
          have HO4 := hide ho3
          have HB4 := hide hb3
          clear ho3 hb3 HO3 HB3
          go_wp2_with fail
          go_roundw
          case rel =>
            exact ⟨k + 1, by go_num, by omega, dr_own HNX.out HO4.out, HB4.out⟩
          case measure => simp [intOf]; omega
        · have hnx : drops b (fs.take (k + 1)) = X := by
            rw [HNX.out, if_neg, List.append_nil]
            simpa using hy
          have HNY := hide hnx
          clear hnx
          by_cases hy0 : 0 ≤ y
          · have hyb : y = b := Classical.byContradiction fun e => hy ⟨hy0, e⟩
            have y1 : decide (0 ≤ y) = true := by simpa using hy0
            have y2 : (y == b) = true := by simpa using hyb
            clear hy hy0 hyb
            go_wp2_with fail
            go_roundw
            case rel => exact ⟨k + 1, by go_num, by omega, by rw [HNY.out]; exact HO2.out, HB2.out⟩
            case measure => simp [intOf]; omega
          · have y1 : decide (0 ≤ y) = false := by simpa using hy0
            clear hy hy0
            go_wp2_with fail
            go_roundw
            case rel => exact ⟨k + 1, by go_num, by omega, by rw [HNY.out]; exact HO2.out, HB2.out⟩
            case measure => simp [intOf]; omega
    · obtain rfl : k = n := by omega
      have k1 : decide ((k : Int) < (k : Int)) = false := by simp
      have RD := hide (show drops b fs = drops b (fs.take k) by rw [List.take_of_length_le (by rw [HN.out]; exact Nat.le_refl _)])
      go_wp2_with fail
      refine bodyPost_ret (v := u5) (by simp [results, Tryz.results52, go_sem]) rfl ?_
      exact ⟨_, rfl, by rw [RD.out]; exact HOW.out, HBL.out⟩

end Go.Proofs.YthbgklmnmoclhaaGreatDoor
