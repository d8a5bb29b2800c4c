/-
  Walks and mathematics of Walk6c.
-/
import Derived.Test.YtoalbeiinlcgpaaKWalk6b
namespace Go.Proofs.Ytoalbeiinlcgpaa
open Go.RowKit P1 P9 K
set_option linter.unusedVariables false
set_option linter.unusedSimpArgs false

theorem l06Last_any (s u : Int) (oa : Option Addr) (n cap : Nat) (h0 : 0 ≤ s) (h1 : s ≤ 1000000) (hn : n ≤ 60) (w : World) :
    Calls Try.prog 68 #[lgv s u (.slice oa n cap)] w fun e w' => e = .returned (.int .i64 (s + n)) ∧ Below w.heap.size w w' := by
  have HB0 := hide ((Below.refl w.heap.size w).alloc (Nat.le_refl _) (.cells #[.int .i64 s, .int .i64 u, .slice oa n cap] 33))
  go_enter Try.func68, Try.ntmps68
  go_wp2_with fail
  go_ret
  exact ⟨rfl, HB0.out⟩

theorem lastT_take {es : List EntV} {k : Nat} {f : EntV} (u : Int) (h : es[k]? = some f) : lastT u (es.take (k + 1)) = f.term := by
  have hk := (List.getElem?_eq_some_iff.1 h).1
  refine lastT_at (es.take (k + 1)) u k f (by rw [List.length_take]; omega) ?_
  rw [List.getElem?_take_of_lt (by omega)]
  exact h

set_option maxHeartbeats 1000000 in
theorem specLogTerm_in (s u : Int) (oa : Option Addr) (n cap : Nat) (es : List EntV) (w : World) (hat : EntsAt w oa n cap es) (h0 : 0 ≤ s) (h1 : s ≤ 1000000) (hn : n ≤ 60) (ix : Int) (k : Nat) (hix : ix = s + k) (hk : k ≤ n) :
    Calls Try.prog 49 #[lgv s u (.slice oa n cap), .int .i64 ix] w fun e w' => e = .returned (.int .i64 (lastT u (es.take k))) ∧ Below w.heap.size w w' := by
  subst hix
  have hb0 := (Below.refl w.heap.size w).alloc (Nat.le_refl _) (.cells #[.int .i64 s, .int .i64 u, .slice oa n cap] 33)
  have HB0 := hide hb0
  match k, hk with
  | 0, hk =>
    clear hat hb0
    have e0 : s + ((0 : Nat) : Int) = s := by omega
    rw [List.take_zero, show lastT u [] = u from rfl, e0]
    go_enter Try.func49, Try.ntmps49
    go_wp2_with fail
    go_ret
    exact ⟨rfl, HB0.out⟩
  | m + 1, hk =>
    have hba := fun (w1 : World) (hb : Below w.heap.size w w1) => (hat.below hb).get3 Try.underlying31 infoIE m (by omega)
    have HBA := hide hba
    have e1 : s + ((m + 1 : Nat) : Int) = s + (m : Int) + 1 := by omega
    rw [e1]
    obtain ⟨f, hf⟩ : ∃ f, es[m]? = some f := ⟨_, List.getElem?_eq_getElem (by rw [hat.len]; omega)⟩
    rw [lastT_take u hf]
    have HF := hide hf
    have g1 : (s + (m : Int) + 1 == s) = false := by simp; omega
    have g2 : decide (s + (m : Int) + 1 < s) = false := by simp; omega
    have g3 : s + (m : Int) + 1 ≤ s + (n : Int) := by omega
    have g4 : s + (m : Int) + 1 - s - 1 = (m : Int) := by omega
    have g5 : s + (m : Int) + 1 - s = (m : Int) + 1 := by omega
    clear hat hb0 hba hf
    go_enter Try.func49, Try.ntmps49
    go_wp2_with fail
    refine (l06Last_any s u oa n cap h0 h1 hn _).mono ?_
    rintro e w1 ⟨rfl, hb1⟩
    have B1 := HB0.out.trans (hb1.mono (by simp))
    obtain ⟨f', b, q, hf', hidx, hb, d0, d1, d2⟩ := HBA.out w1 B1
    rw [HF.out] at hf'
    cases hf'
    have c0 : w1.cell? ⟨w.heap.size, 0, none⟩ = some (.int .i64 s) := (hb1.cell (by simp)).trans (by simp)
    have c2 : w1.cell? ⟨w.heap.size, 2, none⟩ = some (.slice oa n cap) := (hb1.cell (by simp)).trans (by simp)
    have B1 := hide B1
    clear hb1
    go_wp2_with fail
    go_ret
    exact ⟨rfl, B1.out⟩

theorem RowsAt.idxU {w : World} {oa : Option Addr} {n cap : Nat} {es : List EntV} (h : EntsAt w oa n cap es) (i : Nat) (hin : i < n) {v : Value} (hx : ∀ wx, (Instr.indexAt 31 (.slice oa n cap) (.int .i64 (i : Int))).run Try.prog wx = .ok v wx) (wx : World) : (Instr.indexAt 31 (.slice oa n cap) (.int .u64 (i : Int))).run Try.prog wx = .ok v wx := by
  obtain ⟨x, hx1⟩ : ∃ x, es[i]? = some x := ⟨_, List.getElem?_eq_getElem (by rw [h.len]; exact hin)⟩
  obtain ⟨b, o, rfl, _⟩ := h.at_ i x hx1
  have h1 := hx wx
  have hc : 0 ≤ (i : Int) ∧ (i : Int) < (n : Int) := by omega
  rw [Go.run_indexAt_slice _ _ _ _ _ _ _ elemE, if_pos hc] at h1 ⊢
  exact h1

set_option maxHeartbeats 1000000 in
theorem implLogTerm_in (s u : Int) (oa : Option Addr) (n cap : Nat) (es : List EntV) (w : World) (hat : EntsAt w oa n cap es) (h0 : 0 ≤ s) (h1 : s ≤ 1000000) (hn : n ≤ 60) (ix : Int) (k : Nat) (hix : ix = s + k) (hk : k ≤ n) :
    Calls Try.prog 52 #[lgv s u (.slice oa n cap), .int .i64 ix] w fun e w' => e = .returned (.int .i64 (lastT u (es.take k))) ∧ Below w.heap.size w w' := by
  subst hix
  have hb0 := (Below.refl w.heap.size w).alloc (Nat.le_refl _) (.cells #[.int .i64 s, .int .i64 u, .slice oa n cap] 33)
  have HB0 := hide hb0
  match k, hk with
  | 0, hk =>
    clear hat hb0
    have e0 : s + ((0 : Nat) : Int) = s := by omega
    rw [List.take_zero, show lastT u [] = u from rfl, e0]
    go_enter Try.func52, Try.ntmps52
    go_wp2_with fail
    go_ret
    exact ⟨rfl, HB0.out⟩
  | m + 1, hk =>
    obtain ⟨f, b, q, hf, hidx, hb, d0, d1, d2⟩ := (hat.below hb0).get3 Try.underlying31 infoIE m (by omega)
    have e1 : s + ((m + 1 : Nat) : Int) = s + (m : Int) + 1 := by omega
    rw [e1, lastT_take u hf]
    have g1 : (s + (m : Int) + 1 == s) = false := by simp; omega
    have g2 : s < s + (m : Int) + 1 := by omega
    have g3 : s + (m : Int) + 1 - s = (m : Int) + 1 := by omega
    have g5 : (m : Int) + 1 ≤ (n : Int) := by omega
    have g6 : (m : Int) + 1 - 1 = (m : Int) := by omega
    have hidx2 := (hat.below hb0).idxU m (by omega) hidx
    clear hat hb0 hf
    go_enter Try.func52, Try.ntmps52
    go_wp2_with fail
    go_ret
    exact ⟨rfl, HB0.out⟩

end Go.Proofs.Ytoalbeiinlcgpaa
