/-
  Walks and mathematics of Walk10b.
-/
import Derived.Test.YtnkjjbpmdghcbaaGreatQWalk10a
import Derived.Test.YtnkjjbpmdghcbaaGreatQPlain1
import Derived.Test.YtnkjjbpmdghcbaaGreatQBase
namespace Go.Proofs.YtnkjjbpmdghcbaaGreat.P11
end Go.Proofs.YtnkjjbpmdghcbaaGreat.P11
namespace Go.Proofs.YtnkjjbpmdghcbaaGreat
open Go.RowKit P1 P5 P9 P11 P12 P14 K
set_option linter.unusedVariables false
set_option linter.unusedSimpArgs false

def pk (s : List (Int × Int)) : Nat → Option Int
 | 0 => none
 | j + 1 => (s[j]?).map (·.1)

theorem stFrom_at {s : List (Int × Int)} {j : Nat} {x : Int × Int} (h : s[j]? = some x) : stFrom (pk s j) (s.drop j) = ((stKey x.1 && (inR x.2 1 1000000 && after (pk s j) x.1)) && stFrom (pk s (j + 1)) (s.drop (j + 1))) := by
 obtain ⟨hj, rfl⟩ := List.getElem?_eq_some_iff.1 h
 rw [List.drop_eq_getElem_cons hj]
 simp [stFrom, pk, h]

theorem pk_prev {s : List (Int × Int)} {j : Nat} {y : Int × Int} (h0 : ¬ j = 0) (h : s[j - 1]? = some y) : pk s j = some y.1 := by
 obtain ⟨k, rfl⟩ : ∃ k, j = k + 1 := ⟨j - 1, by omega⟩
 simp only [pk]
 rw [show k + 1 - 1 = k from rfl] at h
 rw [h]
 rfl

theorem ItemsAt.drew {w w' : World} {oa : Option Addr} {n cap : Nat} {s : List (Int × Int)} (h : ItemsAt w oa n cap s) (hd : Drew w w') : ItemsAt w' oa n cap s := h.below hd.below

theorem l01InR_any (x a b : Int) (w : World) :
  Calls Tryz.prog 95 #[.int .i64 x, .int .i64 a, .int .i64 b] w fun e w' => e = .returned (.bool (inR x a b)) ∧ w' = w := l01In5_any x a b w

theorem l10Key_any (k : Int) (w : World) :
  Calls Tryz.prog 166 #[.int .i64 k] w fun e w' => e = .returned (.bool (stKey k)) ∧ w' = w := by
 unfold stKey
 have W1 := hide (fun w => l01InR_any k 1 3 w)
 have W2 := hide (fun w => l01InR_any k 11 15 w)
 generalize inR k 1 3 = r1 at W1 ⊢
 generalize inR k 11 15 = r2 at W2 ⊢
 cases r1
 all_goals
  go_enter Tryz.func166, Tryz.ntmps166
  go_wp2_with (first
   | (go_at_call 95; with_reducible refine (W1.out _).mono ?_; rintro e w' ⟨rfl, rfl⟩)
   | (go_at_call 95; with_reducible refine (W2.out _).mono ?_; rintro e w' ⟨rfl, rfl⟩))
  go_ret
  exact ⟨by simp, rfl⟩

set_option maxHeartbeats 4000000 in
theorem specStateOk_any (oa : Option Addr) (n cap : Nat) (s : List (Int × Int)) (w : World) (hat : ItemsAt w oa n cap s) :
  Calls Tryz.prog 116 #[.slice oa n cap] w fun e w' => e = .returned (.bool (stOk s)) ∧ Drew w w' := by
 have hn := hat.len
 have hc := hat.room
 have hm := hat.most
 unfold maxLen at hm
 unfold stOk
 rw [hn]
 by_cases c1 : n ≤ 8
 ·have g1 : ¬ (8 : Int) < (n : Int) := by omega
  rw [decide_eq_true c1, Bool.true_and]
  have HN := hide hn
  have HAT := hide hat
  clear hn hat
  go_enter Tryz.func116, Tryz.ntmps116
  go_wp2_with fail
  go_loopw [3] (fun i wr => ∃ (j : Nat), i = .int .i64 (j : Int) ∧ j ≤ n ∧ stFrom (pk s j) (s.drop j) = stFrom none s ∧ Drew w wr) (fun i _ => n - (intOf i).toNat)
  case atStart => exact ⟨0, rfl, Nat.zero_le _, rfl, 0, rfl⟩
  case round =>
   obtain ⟨j, rfl, hj, hrest, hdr⟩ := hrel
   by_cases hlt : j < n
   ·have j0 : (j : Int) < (n : Int) := by omega
    obtain ⟨x, b, p, hx, hidx, hb, c0, c1'⟩ := (HAT.out.drew hdr).get Tryz.underlying28 infoII j hlt
    rw [stFrom_at hx] at hrest
    have W1 := hide (fun w => l10Key_any x.1 w)
    have W2 := hide (fun w => l01InR_any x.2 1 1000000 w)
    generalize stKey x.1 = r1 at W1 hrest
    generalize inR x.2 1 1000000 = r2 at W2 hrest
    cases r1 with
    | false =>
     have HR := hide (show stFrom none s = false by rw [← hrest]; rfl)
     clear hrest
     go_wp2_with fail
     go_quiet (first
      | (go_at_call 166; with_reducible exact Calls.quiet_of_same (W1.out _))
      | (go_at_call 95; with_reducible exact Calls.quiet_of_same (W2.out _)))
     go_wp2_with fail
     go_ret
     exact ⟨by rw [HR.out]; rfl, hdr.more _⟩
    | true =>
     cases r2 with
     | false =>
      have HR := hide (show stFrom none s = false by rw [← hrest]; rfl)
      clear hrest
      go_wp2_with fail
      go_quiet (first
      | (go_at_call 166; with_reducible exact Calls.quiet_of_same (W1.out _))
      | (go_at_call 95; with_reducible exact Calls.quiet_of_same (W2.out _)))
      go_wp2_with fail
      go_ret
      exact ⟨by rw [HR.out]; rfl, hdr.more _⟩
     | true =>
      by_cases hj0 : j = 0
      ·have gj : decide (0 < j) = false := by simp [hj0]
       have hp0 : pk s j = none := by rw [hj0]; rfl
       rw [hp0] at hrest
       clear hx hj0 hp0
       have HR := hide (show stFrom (pk s (j + 1)) (s.drop (j + 1)) = stFrom none s by rw [← hrest]; simp [after])
       clear hrest
       go_wp2_with fail
       go_quiet (first
      | (go_at_call 166; with_reducible exact Calls.quiet_of_same (W1.out _))
      | (go_at_call 95; with_reducible exact Calls.quiet_of_same (W2.out _)))
       go_wp2_with fail
       go_roundw
       case rel => exact ⟨j + 1, by go_num, by omega, HR.out, hdr.more _⟩
       case measure => simp [intOf]; omega
      ·have gj : decide (0 < j) = true := by simp; omega
       obtain ⟨y, b', p', hy, hidx', hb', c0', c1''⟩ := (HAT.out.drew hdr).get Tryz.underlying28 infoII (j - 1) (by omega)
       have hjc : ((j - 1 : Nat) : Int) = (j : Int) - 1 := by omega
       rw [hjc] at hidx'
       have hwr : IntKind.i64.wrap ((j : Int) - 1) = (j : Int) - 1 := by rw [IntKind.wrap_i64]; omega
       rw [pk_prev hj0 hy] at hrest
       clear hy hjc hx hj0
       by_cases hyz : y.1 < x.1
       ·have gyz : decide (x.1 ≤ y.1) = false := by simp; omega
        have HR := hide (show stFrom (pk s (j + 1)) (s.drop (j + 1)) = stFrom none s by rw [← hrest]; simp [after, hyz])
        clear hrest
        go_wp2_with fail
        go_quiet (first
      | (go_at_call 166; with_reducible exact Calls.quiet_of_same (W1.out _))
      | (go_at_call 95; with_reducible exact Calls.quiet_of_same (W2.out _)))
        go_wp2_with fail
        go_roundw
        case rel => exact ⟨j + 1, by go_num, by omega, HR.out, hdr.more _⟩
        case measure => simp [intOf]; omega
       ·have gyz : decide (x.1 ≤ y.1) = true := by simp; omega
        have HR := hide (show stFrom none s = false by rw [← hrest]; simp [after, hyz])
        clear hrest
        go_wp2_with fail
        go_quiet (first
      | (go_at_call 166; with_reducible exact Calls.quiet_of_same (W1.out _))
      | (go_at_call 95; with_reducible exact Calls.quiet_of_same (W2.out _)))
        go_wp2_with fail
        go_ret
        exact ⟨by rw [HR.out]; rfl, hdr.more _⟩
   ·have hjn : j = n := by omega
    have HR := hide (show stFrom none s = true by rw [← hrest, hjn, ← HN.out, List.drop_length]; cases pk s s.length <;> rfl)
    clear hrest
    go_wp2_with fail
    go_ret
    exact ⟨by rw [HR.out]; rfl, hdr⟩
 ·have g1 : (8 : Int) < (n : Int) := by omega
  rw [decide_eq_false c1, Bool.false_and]
  clear hn hat
  go_enter Tryz.func116, Tryz.ntmps116
  go_wp2_with fail
  go_ret
  exact ⟨rfl, 0, rfl⟩

def FW (wr : World) (x : Int × Int) (w' : World) : Prop := Below (wr.heap.size + 1) (wr.alloc (.cells #[.int .i64 x.1, .int .i64 x.2] 36)) w'

theorem FW.c0 {wr w' : World} {x : Int × Int} (h : FW wr x w') : w'.cell? ⟨wr.heap.size, 0, none⟩ = some (.int .i64 x.1) := (h.cell (by simp)).trans (by simp)
theorem FW.c1 {wr w' : World} {x : Int × Int} (h : FW wr x w') : w'.cell? ⟨wr.heap.size, 1, none⟩ = some (.int .i64 x.2) := (h.cell (by simp)).trans (by simp)
theorem FW.old {wr w' : World} {x : Int × Int} (h : FW wr x w') {p : Addr} {u : Value} (hp : wr.cell? p = some u) : w'.cell? p = some u :=
 (Below.cell h (p := p) (by have := cell_lt hp; omega)).trans ((((Below.refl wr.heap.size wr).alloc (Nat.le_refl _) _).cell (cell_lt hp)).trans hp)
theorem FW.below {B : Nat} {w wr w' : World} {x : Int × Int} (h : FW wr x w') (hb : Below B w wr) (hB : B ≤ wr.heap.size) : Below B w w' := (hb.alloc hB _).trans (Below.mono h (by omega))
theorem FW.on {wr w' w'' : World} {x : Int × Int} (h : FW wr x w') (hb : Below w'.heap.size w' w'') : FW wr x w'' :=
 Below.trans h (hb.mono (by have := Below.size h; simp at this; omega))

end Go.Proofs.YtnkjjbpmdghcbaaGreat
