/-
  Walks and mathematics of Walk9o.
-/
import Derived.Test.YtckkfjmjcknjdaaGreatDoorRCEv4
import Derived.Test.YtckkfjmjcknjdaaGreatDoorRCShort1
import Derived.Test.YtckkfjmjcknjdaaGreatDoorRCBox
namespace Go.Proofs.YtckkfjmjcknjdaaGreatDoor.P3
end Go.Proofs.YtckkfjmjcknjdaaGreatDoor.P3
namespace Go.Proofs.YtckkfjmjcknjdaaGreatDoor
open Go.RowKit P1 P3 P9 P11 P12 K
set_option linter.unusedVariables false
set_option linter.unusedSimpArgs false

def RdL (w : World) (g : Nat) (s : ByteArray) (r : Lf) : Prop := ∃ a b, RdC w g s a b ∧ r = if b = true then none else some ((bl s).drop a)

theorem RdL.lt {w : World} {g : Nat} {s : ByteArray} {r : Lf} (h : RdL w g s r) : g < w.heap.size := by
  obtain ⟨a, b, hc, _⟩ := h
  exact hc.lt

theorem RdL.kept {w w' : World} {g : Nat} {s : ByteArray} {r : Lf} (h : RdL w g s r) (hb : w'.heap[g]? = w.heap[g]?) : RdL w' g s r := by
  obtain ⟨a, b, hc, hr⟩ := h
  exact ⟨a, b, hc.kept hb, hr⟩

theorem RdL.bad {w : World} {g : Nat} {s : ByteArray} {r : Lf} (h : RdL w g s r) : w.cell? ⟨g, 2, none⟩ = some (.bool r.isNone) := by
  obtain ⟨a, b, hc, rfl⟩ := h
  have := (rdc_cells hc.2).2.2.1
  cases b with
  | true => exact this
  | false => exact this

theorem l05Var_L (g : Nat) (s : ByteArray) (hs : s.size ≤ 1048576) (r : Lf) (w : World) (h : RdL w g s r) :
    Calls Tryz.prog 34 #[.pointer (some ⟨g, 0, none⟩)] w fun e w' => e = .returned (.int .i64 ((numL r).1 : Int)) ∧ RdL w' g s (numL r).2 ∧ w.grownBy w' (some g) := by
  obtain ⟨a, b, hc, rfl⟩ := h
  have H := l05Var_any g s hs a b w hc
  have key : numL (if b = true then none else some ((bl s).drop a)) = ((varV s a b).1, if (varV s a b).2.2 = true then none else some ((bl s).drop (varV s a b).2.1)) := by
    cases b with
    | true => rfl
    | false =>
      unfold varV numL rdV
      cases hr : rdGo 5 [] ((bl s).drop a) with
      | none => simp [hr]
      | some p =>
        obtain ⟨v, c⟩ := p
        simp [hr]
  rw [key]
  exact H.mono fun e w' q => ⟨q.1, ⟨_, _, q.2.1, rfl⟩, q.2.2⟩

theorem l05ReadShort_L (g : Nat) (s : ByteArray) (hs : s.size ≤ 1048576) (r : Lf) (w : World) (h : RdL w g s r) :
    Calls Tryz.prog 37 #[.pointer (some ⟨g, 0, none⟩)] w fun e w' => e = .returned (.string ⟨(shL 1048576 r).1.toArray⟩) ∧ RdL w' g s (shL 1048576 r).2 ∧ w.grownBy w' (some g) := by
  obtain ⟨a, b, hc, rfl⟩ := h
  have H := l05ReadShort_any g s hs a b w hc
  have key : shL 1048576 (if b = true then none else some ((bl s).drop a)) = ((shortV s a b).1, if (shortV s a b).2.2 = true then none else some ((bl s).drop (shortV s a b).2.1)) := by
    have hx : (shortV s a b).2.2 = true → (shortV s a b).1 = [] := by
      unfold shortV takeV
      simp only
      split
      · intro q; cases q
      · intro _; rfl
    have hl := shortV_len s a b
    obtain ⟨x, a', b', hv⟩ : ∃ x a' b', shortV s a b = (x, a', b') := ⟨_, _, _, rfl⟩
    obtain ⟨g1, g2⟩ := shortV_rd hc.1 hv
    rw [hv] at hx hl ⊢
    simp only at hx hl ⊢
    cases b' with
    | false =>
      obtain ⟨hb, hr⟩ := g1 rfl
      subst hb
      simp only [Bool.false_eq_true, if_false]
      unfold shL
      simp only
      rw [hr]
      simp only
      rw [if_pos (by omega)]
    | true =>
      rw [hx rfl]
      cases b with
      | true => rfl
      | false =>
        have hr := g2 rfl rfl
        simp only [Bool.false_eq_true, if_false, if_true]
        unfold shL
        simp only
        rw [hr]
  rw [key]
  exact H.mono fun e w' q => ⟨q.1, ⟨_, _, q.2.1, rfl⟩, q.2.2⟩

set_option maxHeartbeats 2000000 in
theorem l09One_L (g : Nat) (s : ByteArray) (hs : s.size ≤ 1048576) (r : Lf) (w : World) (h : RdL w g s r) :
    Calls Tryz.prog 33 #[.pointer (some ⟨g, 0, none⟩)] w fun e w' => e = .returned (.int .i64 ((byteL r).1 : Int)) ∧ RdL w' g s (byteL r).2 ∧ w.grownBy w' (some g) := by
  obtain ⟨a, b, hc, rfl⟩ := h
  have HT := hide (l05Take_any g s hs a b 1 (by omega) w hc)
  by_cases hf : b = false ∧ a + 1 ≤ s.size
  · obtain ⟨rfl, hlt⟩ := hf
    have hv : takeV s a false 1 = (s.extract a (a + 1), a + 1, false) := by unfold takeV; rw [if_pos ⟨rfl, hlt⟩]
    rw [hv] at HT
    have hby : byteL (if false = true then none else some ((bl s).drop a)) = (s[a].toNat, some ((bl s).drop (a + 1))) := by
      simp only [Bool.false_eq_true, if_false]
      rw [bl_drop s a (by omega)]
      rfl
    rw [hby]
    simp only at HT ⊢
    have hX : s.extract a (a + 1) = ⟨#[s[a]]⟩ := by
      rw [extract_list s a 1 hlt, bl_drop s a (by omega)]
      rfl
    have hidx : ∀ wx, (Instr.index 9 (.string (s.extract a (a + 1))) (.int .i64 0)).run Tryz.prog wx = .ok (.int .u8 (s[a].toNat : Int)) wx := by
      rw [hX]
      exact fun wx => idx_any ⟨#[s[a]]⟩ .i64 0 (by show 0 < 1; omega) wx
    have hb0 : (s[a].toNat : Int) < 256 := by have := s[a].toNat_lt; omega
    have hb1 : 0 ≤ (s[a].toNat : Int) := by omega
    generalize s[a].toNat = bv at hidx hb0 hb1 ⊢
    generalize s.extract a (a + 1) = X at HT hidx
    clear hX hby hv hc
    go_enter Tryz.func33, Tryz.ntmps33
    go_wp2_with fail
    refine HT.out.mono ?_
    rintro e w1 ⟨rfl, hc1, hg1⟩
    have HC1 := hide hc1
    have HG1 := hide hg1
    obtain ⟨c0, c1, c2, z0, z1, z2⟩ := rdc_cells hc1.2
    clear hc1 hg1
    go_wp2_with fail
    go_ret
    exact ⟨rfl, ⟨_, _, HC1.out, rfl⟩, HG1.out⟩
  · have hv : takeV s a b 1 = (⟨#[]⟩, a, true) := by unfold takeV; rw [if_neg hf]
    rw [hv] at HT
    have hby : byteL (if b = true then none else some ((bl s).drop a)) = (0, none) := by
      cases b with
      | true => rfl
      | false =>
        simp only [Bool.false_eq_true, if_false]
        rw [List.drop_eq_nil_of_le (by rw [bl_length]; simp at hf; omega)]
        rfl
    rw [hby]
    simp only at HT ⊢
    clear hby hv hc
    go_enter Tryz.func33, Tryz.ntmps33
    go_wp2_with fail
    refine HT.out.mono ?_
    rintro e w1 ⟨rfl, hc1, hg1⟩
    have HC1 := hide hc1
    have HG1 := hide hg1
    obtain ⟨c0, c1, c2, z0, z1, z2⟩ := rdc_cells hc1.2
    clear hc1 hg1
    go_wp2_with fail
    go_ret
    exact ⟨rfl, ⟨_, _, HC1.out, rfl⟩, HG1.out⟩

end Go.Proofs.YtckkfjmjcknjdaaGreatDoor
