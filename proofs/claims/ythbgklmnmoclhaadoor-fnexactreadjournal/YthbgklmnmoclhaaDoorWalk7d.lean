/-
  Walks of chapter 7: a letter and two numbers, the first record, of the program.
-/
import Derived.Test.YthbgklmnmoclhaaDoorPack19
import Derived.Test.YthbgklmnmoclhaaDoorWalk5k
import Derived.Test.YthbgklmnmoclhaaDoorWalk7b
import Derived.Test.YthbgklmnmoclhaaDoorPack18
namespace Go.Proofs.YthbgklmnmoclhaaDoor
open Go.RowKit P1 P3 P9 K
attribute [local go_sem ↓] Go.wp_at_zero Go.wp_at_succ
set_option linter.unusedVariables false
set_option linter.unusedSimpArgs false

theorem hasPrefix_one (x : UInt8) (l : List UInt8) : Lib.hasPrefix l [x] = decide (l.head? = some x) := by
  cases l with
  | nil => rfl
  | cons b r =>
    simp only [Lib.hasPrefix, List.isPrefixOf, List.head?_cons, Bool.and_true]
    by_cases h : b = x
    · subst h; simp
    · have h1 : (x == b) = false := by rw [beq_eq_false_iff_ne]; exact fun e => h e.symm
      rw [h1]
      simp [h]

/-- The results of readPair. -/
def rpVal : Option (Nat × Nat) → Value
  | none => .tuple #[.int .i64 0, .int .i64 0, .bool false]
  | some (a, b) => .tuple #[.int .i64 (a : Int), .int .i64 (b : Int), .bool true]

set_option maxHeartbeats 4000000 in
theorem readPair_any (x : UInt8) (s : ByteArray) (hs : s.size ≤ 1048576) (m1 m2 : Nat) (M1 M2 : Int) (hm1 : M1 = (m1 : Int)) (hm2 : M2 = (m2 : Int)) (w : World) :
    Calls Tryd.prog 83 #[.string ⟨#[x]⟩, .string s, .int .i64 M1, .int .i64 M2] w fun r w' => r = .returned (rpVal (rdPair x (bl s) m1 m2)) ∧ w = w' := by
  subst hm1 hm2
  obtain ⟨R, hR⟩ : ∃ R, rdPair x (bl s) m1 m2 = R := ⟨_, rfl⟩
  rw [hR]
  have HR := hide hR
  clear hR
  have HLEN := hide (bl_length s)
  by_cases hh : (bl s).head? = some x
  · have HPRE := hide (show Lib.hasPrefix (bl s) [x] = true by rw [hasPrefix_one]; simpa using hh)
    have h1s : 1 ≤ s.size := by
      rw [← HLEN.out]
      cases hb : bl s with
      | nil => rw [hb] at hh; cases hh
      | cons b r => simp
    have HH := hide hh
    clear hh
    cases hr1 : rdGo 5 [] ((bl s).drop 1) with
    | none =>
      have HR1 := hide hr1
      obtain rfl : R = none := HR.out.symm.trans (rdPair_none (rdTwo_one hr1))
      clear hr1
      go_enter Tryd.func83, Tryd.ntmps83
      go_wp2_with fail
      refine (Tryd.strings_HasPrefix _ _ _).mono ?_
      rw [show Lib.hasPrefix s.data.toList (⟨#[x]⟩ : ByteArray).data.toList = true from HPRE.out]
      rintro r w' ⟨rfl, rfl⟩
      go_wp2_with fail
      refine (implReadVar_at s hs 1 1 rfl h1s _).mono ?_
      rw [HR1.out, rvVal_none]
      rintro r w' ⟨rfl, rfl⟩
      go_wp2_with fail
      refine bodyPost_ret (v := .tuple #[.int .i64 0, .int .i64 0, .bool false]) (by simp [results, Tryd.results83, go_sem]) rfl ?_
      exact ⟨rfl, rfl⟩
    | some p =>
      obtain ⟨a, c1⟩ := p
      have hbd := rdGo_some 5 [] _ a c1 hr1
      rw [List.length_drop, HLEN.out] at hbd
      simp only [List.length_nil] at hbd
      obtain ⟨i1, i2, i3, i4⟩ := hbd
      have HR1 := hide hr1
      obtain ⟨p1, hp1⟩ : ∃ p1, 1 + c1 = p1 := ⟨_, rfl⟩
      have HP1 := hide hp1
      have hp1s : p1 ≤ s.size := by omega
      clear hr1 hp1
      by_cases ha : m1 < a
      · obtain rfl : R = none := HR.out.symm.trans (rdPair_first HR1.out ha)
        have g1 : decide (m1 < a) = true := by simpa using ha
        go_enter Tryd.func83, Tryd.ntmps83
        go_wp2_with fail
        refine (Tryd.strings_HasPrefix _ _ _).mono ?_
        rw [show Lib.hasPrefix s.data.toList (⟨#[x]⟩ : ByteArray).data.toList = true from HPRE.out]
        rintro r w' ⟨rfl, rfl⟩
        go_wp2_with fail
        refine (implReadVar_at s hs 1 1 rfl h1s _).mono ?_
        rw [HR1.out, rvVal_some, HP1.out]
        rintro r w' ⟨rfl, rfl⟩
        go_wp2_with fail
        refine bodyPost_ret (v := .tuple #[.int .i64 0, .int .i64 0, .bool false]) (by simp [results, Tryd.results83, go_sem]) rfl ?_
        exact ⟨rfl, rfl⟩
      · have g1 : decide (m1 < a) = false := by simpa using ha
        cases hr2 : rdGo 5 [] ((bl s).drop p1) with
        | none =>
          have HR2 := hide hr2
          obtain rfl : R = none := HR.out.symm.trans (rdPair_none (rdTwo_two HR1.out (by rw [HP1.out]; exact hr2)))
          clear hr2 ha
          go_enter Tryd.func83, Tryd.ntmps83
          go_wp2_with fail
          refine (Tryd.strings_HasPrefix _ _ _).mono ?_
          rw [show Lib.hasPrefix s.data.toList (⟨#[x]⟩ : ByteArray).data.toList = true from HPRE.out]
          rintro r w' ⟨rfl, rfl⟩
          go_wp2_with fail
          refine (implReadVar_at s hs 1 1 rfl h1s _).mono ?_
          rw [HR1.out, rvVal_some, HP1.out]
          rintro r w' ⟨rfl, rfl⟩
          go_wp2_with fail
          refine (implReadVar_at s hs p1 _ rfl hp1s _).mono ?_
          rw [HR2.out, rvVal_none]
          rintro r w' ⟨rfl, rfl⟩
          go_wp2_with fail
          refine bodyPost_ret (v := .tuple #[.int .i64 0, .int .i64 0, .bool false]) (by simp [results, Tryd.results83, go_sem]) rfl ?_
          exact ⟨rfl, rfl⟩
        | some q =>
          obtain ⟨b, c2⟩ := q
          have hbd := rdGo_some 5 [] _ b c2 hr2
          rw [List.length_drop, HLEN.out] at hbd
          simp only [List.length_nil] at hbd
          obtain ⟨j1, j2, j3, j4⟩ := hbd
          have HR2 := hide hr2
          obtain ⟨p2, hp2⟩ : ∃ p2, p1 + c2 = p2 := ⟨_, rfl⟩
          have HP2 := hide hp2
          have hA := HR.out.symm.trans (rdPair_all HR1.out (by rw [HP1.out]; exact hr2) HH.out (by omega))
          rw [HP1.out, hp2, HLEN.out] at hA
          have HALL := hide hA
          have hp2s : p2 ≤ s.size := by omega
          clear hr2 hp2 hA ha
          by_cases hb : b ≤ m2
          · have g2 : decide (m2 < b) = false := by simpa using hb
            by_cases hend : p2 = s.size
            · have hRR := HALL.out
              rw [if_pos ⟨hb, hend⟩] at hRR
              subst hRR
              have g3 : ((p2 : Int) == (s.size : Int)) = true := by simp [hend]
              have g4 : (p2 == s.size) = true := by simp [hend]
              have HE := hide hend
              clear hend
              go_enter Tryd.func83, Tryd.ntmps83
              go_wp2_with fail
              refine (Tryd.strings_HasPrefix _ _ _).mono ?_
              rw [show Lib.hasPrefix s.data.toList (⟨#[x]⟩ : ByteArray).data.toList = true from HPRE.out]
              rintro r w' ⟨rfl, rfl⟩
              go_wp2_with fail
              refine (implReadVar_at s hs 1 1 rfl h1s _).mono ?_
              rw [HR1.out, rvVal_some, HP1.out]
              rintro r w' ⟨rfl, rfl⟩
              go_wp2_with fail
              refine (implReadVar_at s hs p1 _ rfl hp1s _).mono ?_
              rw [HR2.out, rvVal_some, HP2.out]
              rintro r w' ⟨rfl, rfl⟩
              go_wp2_with fail
              refine bodyPost_ret (v := .tuple #[.int .i64 (a : Int), .int .i64 (b : Int), .bool true]) (by simp [results, Tryd.results83, go_sem]) rfl ?_
              exact ⟨rfl, rfl⟩
            · have hRR := HALL.out
              rw [if_neg (fun h => hend h.2)] at hRR
              subst hRR
              have g3 : ((p2 : Int) == (s.size : Int)) = false := by rw [beq_eq_false_iff_ne]; omega
              have g4 : (p2 == s.size) = false := by rw [beq_eq_false_iff_ne]; exact hend
              clear hend
              go_enter Tryd.func83, Tryd.ntmps83
              go_wp2_with fail
              refine (Tryd.strings_HasPrefix _ _ _).mono ?_
              rw [show Lib.hasPrefix s.data.toList (⟨#[x]⟩ : ByteArray).data.toList = true from HPRE.out]
              rintro r w' ⟨rfl, rfl⟩
              go_wp2_with fail
              refine (implReadVar_at s hs 1 1 rfl h1s _).mono ?_
              rw [HR1.out, rvVal_some, HP1.out]
              rintro r w' ⟨rfl, rfl⟩
              go_wp2_with fail
              refine (implReadVar_at s hs p1 _ rfl hp1s _).mono ?_
              rw [HR2.out, rvVal_some, HP2.out]
              rintro r w' ⟨rfl, rfl⟩
              go_wp2_with fail
              refine bodyPost_ret (v := .tuple #[.int .i64 0, .int .i64 0, .bool false]) (by simp [results, Tryd.results83, go_sem]) rfl ?_
              exact ⟨rfl, rfl⟩
          · have g2 : decide (m2 < b) = true := by simpa using hb
            have hRR := HALL.out
            rw [if_neg (fun h => hb h.1)] at hRR
            subst hRR
            clear hb
            go_enter Tryd.func83, Tryd.ntmps83
            go_wp2_with fail
            refine (Tryd.strings_HasPrefix _ _ _).mono ?_
            rw [show Lib.hasPrefix s.data.toList (⟨#[x]⟩ : ByteArray).data.toList = true from HPRE.out]
            rintro r w' ⟨rfl, rfl⟩
            go_wp2_with fail
            refine (implReadVar_at s hs 1 1 rfl h1s _).mono ?_
            rw [HR1.out, rvVal_some, HP1.out]
            rintro r w' ⟨rfl, rfl⟩
            go_wp2_with fail
            refine (implReadVar_at s hs p1 _ rfl hp1s _).mono ?_
            rw [HR2.out, rvVal_some, HP2.out]
            rintro r w' ⟨rfl, rfl⟩
            go_wp2_with fail
            refine bodyPost_ret (v := .tuple #[.int .i64 0, .int .i64 0, .bool false]) (by simp [results, Tryd.results83, go_sem]) rfl ?_
            exact ⟨rfl, rfl⟩
  · have HPRE := hide (show Lib.hasPrefix (bl s) [x] = false by rw [hasPrefix_one]; simpa using hh)
    obtain rfl : R = none := HR.out.symm.trans (rdPair_none (rdTwo_head hh))
    clear hh
    go_enter Tryd.func83, Tryd.ntmps83
    go_wp2_with fail
    refine (Tryd.strings_HasPrefix _ _ _).mono ?_
    rw [show Lib.hasPrefix s.data.toList (⟨#[x]⟩ : ByteArray).data.toList = false from HPRE.out]
    rintro r w' ⟨rfl, rfl⟩
    go_wp2_with fail
    refine bodyPost_ret (v := .tuple #[.int .i64 0, .int .i64 0, .bool false]) (by simp [results, Tryd.results83, go_sem]) rfl ?_
    exact ⟨rfl, rfl⟩

/-- A journal in a block of its own. -/
abbrev jcells (n t v s u : Int) (x : Value) : Array Value := #[.int .i64 n, .int .i64 t, .int .i64 v, .int .i64 s, .int .i64 u, x]
def JB (w : World) (b : Nat) (n t v s u : Int) (x : Value) : Prop := w.heap[b]? = some (.cells (jcells n t v s u x) 36 (0, 0))

theorem JB.new (w : World) (n t v s u : Int) (x : Value) : JB (w.alloc (.cells (jcells n t v s u x) 36)) w.heap.size n t v s u x := heap_alloc_new _ _
theorem JB.lt {w : World} {b : Nat} {n t v s u : Int} {x : Value} (h : JB w b n t v s u x) : b < w.heap.size := blk_lt h
theorem JB.on {w w' : World} {b B : Nat} {n t v s u : Int} {x : Value} (h : JB w b n t v s u x) (hb : Below B w w') (hlt : b < B) : JB w' b n t v s u x := (hb.block b hlt).trans h
theorem JB.kept {w w' : World} {b : Nat} {row : Option Nat} {n t v s u : Int} {x : Value} (h : JB w b n t v s u x) (hg : w.grownBy w' row) (hne : row ≠ some b) : JB w' b n t v s u x := (hg.block b h.lt (fun e => hne e.symm)).trans h
theorem JB.jv {w : World} {b : Nat} {n t v s u : Int} {x : Value} (h : JB w b n t v s u x) : JV w b n t v s u x :=
  ⟨blk_cell h 0 rfl, blk_cell h 1 rfl, blk_cell h 2 rfl, blk_cell h 3 rfl, blk_cell h 4 rfl, blk_cell h 5 rfl⟩
theorem JB.free {w : World} {b : Nat} {n t v s u : Int} {x : Value} (h : JB w b n t v s u x) (j : Nat) : w.frozen? ⟨b, j, none⟩ = false := blk_free h j
theorem JB.log {w : World} {b : Nat} {n t v s u : Int} {x : Value} (h : JB w b n t v s u x) (s' u' : Int) (x' : Value) :
    JB (((w.setCell ⟨b, 3, none⟩ (.int .i64 s')).setCell ⟨b, 4, none⟩ (.int .i64 u')).setCell ⟨b, 5, none⟩ x') b n t v s' u' x' ∧ w.grownBy (((w.setCell ⟨b, 3, none⟩ (.int .i64 s')).setCell ⟨b, 4, none⟩ (.int .i64 u')).setCell ⟨b, 5, none⟩ x') (some b) :=
  ⟨blk_set (k := 5) x' (blk_set (k := 4) (.int .i64 u') (blk_set (k := 3) (.int .i64 s') h)), grown_trans (blk_grown _ _ _ _) (grown_trans (blk_grown _ _ _ _) (blk_grown _ _ _ _))⟩
theorem JB.vote {w : World} {b : Nat} {n t v s u : Int} {x : Value} (h : JB w b n t v s u x) (t' v' : Int) :
    JB ((w.setCell ⟨b, 1, none⟩ (.int .i64 t')).setCell ⟨b, 2, none⟩ (.int .i64 v')) b n t' v' s u x ∧ w.grownBy ((w.setCell ⟨b, 1, none⟩ (.int .i64 t')).setCell ⟨b, 2, none⟩ (.int .i64 v')) (some b) :=
  ⟨blk_set (k := 2) (.int .i64 v') (blk_set (k := 1) (.int .i64 t') h), grown_trans (blk_grown _ _ _ _) (blk_grown _ _ _ _)⟩
theorem JB.all {w : World} {b : Nat} {n t v s u : Int} {x : Value} (h : JB w b n t v s u x) (n' t' v' s' u' : Int) (x' : Value) :
    JB ((((((w.setCell ⟨b, 0, none⟩ (.int .i64 n')).setCell ⟨b, 1, none⟩ (.int .i64 t')).setCell ⟨b, 2, none⟩ (.int .i64 v')).setCell ⟨b, 3, none⟩ (.int .i64 s')).setCell ⟨b, 4, none⟩ (.int .i64 u')).setCell ⟨b, 5, none⟩ x') b n' t' v' s' u' x' ∧
    w.grownBy ((((((w.setCell ⟨b, 0, none⟩ (.int .i64 n')).setCell ⟨b, 1, none⟩ (.int .i64 t')).setCell ⟨b, 2, none⟩ (.int .i64 v')).setCell ⟨b, 3, none⟩ (.int .i64 s')).setCell ⟨b, 4, none⟩ (.int .i64 u')).setCell ⟨b, 5, none⟩ x') (some b) :=
  ⟨blk_set (k := 5) x' (blk_set (k := 4) (.int .i64 u') (blk_set (k := 3) (.int .i64 s') (blk_set (k := 2) (.int .i64 v') (blk_set (k := 1) (.int .i64 t') (blk_set (k := 0) (.int .i64 n') h))))),
   grown_trans (blk_grown _ _ _ _) (grown_trans (blk_grown _ _ _ _) (grown_trans (blk_grown _ _ _ _) (grown_trans (blk_grown _ _ _ _) (grown_trans (blk_grown _ _ _ _) (blk_grown _ _ _ _)))))⟩

/-- What the first record leaves. -/
def BgPost (l : List UInt8) (w : World) (b : Nat) (n t v : Int) (e : Ending) (w' : World) : Prop :=
  ∃ s u : Nat, e = .returned (.bool (rdPair 66 l 1000000 100000).isSome) ∧ (∀ p, rdPair 66 l 1000000 100000 = some p → p = (s, u)) ∧ JB w' b n t v s u (.slice none 0 0) ∧ w.grownBy w' (some b)

set_option maxHeartbeats 2000000 in
theorem begin_any (s : ByteArray) (hs : s.size ≤ 1048576) (w : World) (b : Nat) (n t v s0 u0 : Int) (x : Value) (h : JB w b n t v s0 u0 x) :
    Calls Tryd.prog 63 #[.pointer (some ⟨b, 0, none⟩), .string s] w fun e w' => BgPost (bl s) w b n t v e w' := by
  have HJ := hide h
  have c3 := h.jv.c3
  have c4 := h.jv.c4
  have c5 := h.jv.c5
  have f3 := h.free 3
  have f4 := h.free 4
  have f5 := h.free 5
  clear h
  have HR := hide (readPair_any 66 s hs 1000000 100000 1000000 100000 rfl rfl w)
  cases hp : rdPair 66 (bl s) 1000000 100000 with
  | none =>
    have HP := hide hp
    have HE := hide (HJ.out.log 0 0 (.slice none 0 0))
    rw [hp, show rpVal none = .tuple #[.int .i64 0, .int .i64 0, .bool false] from rfl] at HR
    clear hp
    go_enter Tryd.func63, Tryd.ntmps63
    go_wp2_with fail
    refine HR.out.mono ?_
    rintro r w' ⟨rfl, rfl⟩
    go_wp2_with fail
    refine bodyPost_ret (v := .bool false) (by simp [results, Tryd.results63, go_sem]) rfl ?_
    exact ⟨0, 0, (by rw [HP.out]; rfl), fun p hp => (by rw [HP.out] at hp; cases hp), HE.out.1, HE.out.2⟩
  | some q =>
    obtain ⟨a, c⟩ := q
    have HP := hide hp
    have HE := hide (HJ.out.log a c (.slice none 0 0))
    rw [hp, show rpVal (some (a, c)) = .tuple #[.int .i64 (a : Int), .int .i64 (c : Int), .bool true] from rfl] at HR
    clear hp
    go_enter Tryd.func63, Tryd.ntmps63
    go_wp2_with fail
    refine HR.out.mono ?_
    rintro r w' ⟨rfl, rfl⟩
    go_wp2_with fail
    refine bodyPost_ret (v := .bool true) (by simp [results, Tryd.results63, go_sem]) rfl ?_
    exact ⟨a, c, (by rw [HP.out]; rfl), fun p hp => (by rw [HP.out] at hp; cases hp; rfl), HE.out.1, HE.out.2⟩

end Go.Proofs.YthbgklmnmoclhaaDoor
