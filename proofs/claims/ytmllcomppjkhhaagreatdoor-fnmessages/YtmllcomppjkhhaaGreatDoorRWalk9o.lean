/-
  Walks and mathematics of Walk9o.
-/
import Derived.Test.YtmllcomppjkhhaaGreatDoorRPlain1
import Derived.Test.YtmllcomppjkhhaaGreatDoorRWalk1b
import Derived.Test.YtmllcomppjkhhaaGreatDoorRHeldMore
namespace Go.Proofs.YtmllcomppjkhhaaGreatDoor.P3
end Go.Proofs.YtmllcomppjkhhaaGreatDoor.P3
namespace Go.Proofs.YtmllcomppjkhhaaGreatDoor
open Go.RowKit P1 P3 P9 P11 P12 K
set_option linter.unusedVariables false
set_option linter.unusedSimpArgs false

def RdL (w : World) (g : Nat) (s : ByteArray) (r : Lf) : Prop := ∃ a b, RdC w g s a b ∧ r = if b = true then none else some ((bl s).drop a)

theorem RdL.lt {w : World} {g : Nat} {s : ByteArray} {r : Lf} (h : RdL w g s r) : g < w.heap.size := by
  obtain ⟨a, b, hc, _⟩ := h
  exact hc.lt

theorem RdL.kept {w w' : World} {g : Nat} {s : ByteArray} {r : Lf} (h : RdL w g s r) (hb : w'.heap[g]? = w.heap[g]?) : RdL w' g s r := by
  obtain ⟨a, b, hc, hr⟩ := h
  exact ⟨a, b, hc.kept hb, hr⟩

theorem RdL.bad {w : World} {g : Nat} {s : ByteArray} {r : Lf} (h : RdL w g s r) : w.cell? ⟨g, 2, none⟩ = some (.bool r.isNone) := by
  obtain ⟨a, b, hc, rfl⟩ := h
  have := (rdc_cells hc.2).2.2.1
  cases b with
  | true => exact this
  | false => exact this

theorem l05Var_L (g : Nat) (s : ByteArray) (hs : s.size ≤ 1048576) (r : Lf) (w : World) (h : RdL w g s r) :
    Calls Tryz.prog 32 #[.pointer (some ⟨g, 0, none⟩)] w fun e w' => e = .returned (.int .i64 ((numL r).1 : Int)) ∧ RdL w' g s (numL r).2 ∧ w.grownBy w' (some g) := by
  obtain ⟨a, b, hc, rfl⟩ := h
  have H := l05Var_any g s hs a b w hc
  have key : numL (if b = true then none else some ((bl s).drop a)) = ((varV s a b).1, if (varV s a b).2.2 = true then none else some ((bl s).drop (varV s a b).2.1)) := by
    cases b with
    | true => rfl
    | false =>
      unfold varV numL rdV
      cases hr : rdGo 5 [] ((bl s).drop a) with
      | none => simp [hr]
      | some p =>
        obtain ⟨v, c⟩ := p
        simp [hr]
  rw [key]
  exact H.mono fun e w' q => ⟨q.1, ⟨_, _, q.2.1, rfl⟩, q.2.2⟩

theorem l05ReadShort_L (g : Nat) (s : ByteArray) (hs : s.size ≤ 1048576) (r : Lf) (w : World) (h : RdL w g s r) :
    Calls Tryz.prog 34 #[.pointer (some ⟨g, 0, none⟩)] w fun e w' => e = .returned (.string ⟨(shL 1048576 r).1.toArray⟩) ∧ RdL w' g s (shL 1048576 r).2 ∧ w.grownBy w' (some g) := by
  obtain ⟨a, b, hc, rfl⟩ := h
  have H := l05ReadShort_any g s hs a b w hc
  have key : shL 1048576 (if b = true then none else some ((bl s).drop a)) = ((shortV s a b).1, if (shortV s a b).2.2 = true then none else some ((bl s).drop (shortV s a b).2.1)) := by
    have hx : (shortV s a b).2.2 = true → (shortV s a b).1 = [] := by
      unfold shortV takeV
      simp only
      split
      · intro q; cases q
      · intro _; rfl
    have hl := shortV_len s a b
    obtain ⟨x, a', b', hv⟩ : ∃ x a' b', shortV s a b = (x, a', b') := ⟨_, _, _, rfl⟩
    obtain ⟨g1, g2⟩ := shortV_rd hc.1 hv
    rw [hv] at hx hl ⊢
    simp only at hx hl ⊢
    cases b' with
    | false =>
      obtain ⟨hb, hr⟩ := g1 rfl
      subst hb
      simp only [Bool.false_eq_true, if_false]
      unfold shL
      simp only
      rw [hr]
      simp only
      rw [if_pos (by omega)]
    | true =>
      rw [hx rfl]
      cases b with
      | true => rfl
      | false =>
        have hr := g2 rfl rfl
        simp only [Bool.false_eq_true, if_false, if_true]
        unfold shL
        simp only
        rw [hr]
  rw [key]
  exact H.mono fun e w' q => ⟨q.1, ⟨_, _, q.2.1, rfl⟩, q.2.2⟩

end Go.Proofs.YtmllcomppjkhhaaGreatDoor
