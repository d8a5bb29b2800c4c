/-
  Walks and mathematics of Piece.
-/
import Derived.Test.YtoalbeiinlcgpaaKLog3
import Derived.Test.YtoalbeiinlcgpaaKWalk6c
import Derived.Deep.RegionHeld3
import Derived.Deep.DrawnRows
namespace Go.Proofs.Ytoalbeiinlcgpaa
open Go.RowKit P1 P9 K
set_option linter.unusedVariables false
set_option linter.unusedSimpArgs false

theorem ecells_flat_one (xs : List EntV) : ∀ u ∈ xs.flatMap ecells, u.oneCell' = true := by
  intro u hu
  obtain ⟨e, -, he⟩ := List.mem_flatMap.1 hu
  exact ecells_one e u he

theorem RowsAt.news {w : World} {b o n cap : Nat} {xs : List EntV} (h : EntsAt w (some ⟨b, o, none⟩) n cap xs) : ∀ j u, (xs.flatMap ecells)[j]? = some u → w.cell? ((⟨b, o, none⟩ : Addr).add j) = some u := by
  intro j u hu
  have hj : j < n * 3 := by
    have := (List.getElem?_eq_some_iff.1 hu).1
    rw [flat_length ecells 3 ecells_length, h.len] at this
    exact this
  have h1 : j / 3 < xs.length := by rw [h.len]; omega
  obtain ⟨f, hf⟩ : ∃ f, xs[j / 3]? = some f := ⟨_, List.getElem?_eq_getElem h1⟩
  have hfe : xs[j / 3] = f := (List.getElem?_eq_some_iff.1 hf).2
  have h3 := flat_get ecells 3 ecells_length xs (j / 3) (j % 3) h1 (by omega)
  have e1 : j / 3 * 3 + j % 3 = j := by omega
  rw [e1, hfe, hu] at h3
  obtain ⟨b', o', he, hc⟩ := h.at_ (j / 3) f hf
  cases he
  have h4 := hc (j % 3) u h3.symm
  rw [Addr.add_mid]
  rw [← h4]
  congr 2
  omega

theorem run_append_none {P : Program} {w : World} (t ty e : TypeId) (i : TypeInfo) (ht : P.underlying t = some (.slice e)) (hi : P.info? e = some i) (g : Nat) (ox : Option Addr) (c : Nat) :
    (Builtin.append_ #[t, t] ty #[.slice (some ⟨g, 0, none⟩) 0 0, .slice ox 0 c]).run P w = .ok (.slice (some ⟨g, 0, none⟩) 0 0) w := by
  have hfc : (Builtin.firstCells i.size 0 (.slice ox 0 c)).run P w = .ok #[] w := by
    cases ox with
    | none => simp [Builtin.firstCells]
    | some a => simpa using run_firstCells_some (P := P) w i.size 0 a 0 c [] (by simp) (by simp)
  simp [Builtin.append_, run_underlying ht, sizeOf, typeInfo, hi, Builtin.lenOf, hfc, storeCells]

theorem run_append_piece {w : World} (ty : TypeId) (g : Nat) (hg : w.heap[g]? = some (.cells #[] 75 (0, 0))) (px : Option Addr) (m c : Nat) (xs : List EntV) (hat : EntsAt w px m c xs) (hm : m ≤ 1048576) (base : Nat) (hb : base ≤ g) :
    ∃ v' w', (Builtin.append_ #[31, 31] ty #[.slice (some ⟨g, 0, none⟩) 0 0, .slice px m c]).run Try.prog w = .ok v' w' ∧ w'.ownsRow base 75 3 v' m (xs.flatMap ecells) ∧ w.grownBy w' (some g) := by
  obtain ⟨i0, hi, hz0, hz1, hz2⟩ := info_parts infoIEz
  have hlt : g < w.heap.size := (Array.getElem?_eq_some_iff.1 hg).1
  have hown : w.ownsRow base 75 3 (.slice (some ⟨g, 0, none⟩) 0 0) 0 [] := ⟨rfl, Or.inr ⟨g, 0, #[], rfl, hb, hg, Nat.le_refl _, by unfold maxLen; omega, rfl, rfl⟩⟩
  match m, hat with
  | 0, hat =>
    have : xs = [] := List.eq_nil_of_length_eq_zero hat.len
    subst this
    exact ⟨_, _, run_append_none _ ty _ i0 Try.underlying31 hi g px c, hown, World.grownBy.refl _ _⟩
  | m + 1, hat =>
    obtain ⟨x, hx⟩ : ∃ x, xs[0]? = some x := ⟨_, List.getElem?_eq_getElem (by rw [hat.len]; omega)⟩
    obtain ⟨b, o, rfl, _⟩ := hat.at_ 0 x hx
    obtain ⟨v', w', h1, h2, h3, -⟩ := run_append_own (P := Try.prog) w base 31 ty 75 i0 _ 3 32 Try.underlying31 hi hz0 hz1 hz2 rfl (by decide) _ 0 [] hown ⟨b, o, none⟩ (m + 1) c (xs.flatMap ecells) (by rw [flat_length ecells 3 ecells_length, hat.len]) hat.news (ecells_flat_one xs) (by unfold maxLen; omega) (by omega) (by omega)
    refine ⟨v', w', h1, ?_, h3⟩
    rw [Nat.zero_add, List.nil_append] at h2
    exact h2

theorem wp_append_piece {w : World} {o : Oper} {a : Act} {K : Act → World → Prop} {Q : Exit → Act → World → Prop} (s x : Operand)
    (ho : o.op = .call { callee := .builtin .append, args := #[s, x], argTypes := #[31, 31] }) (g : Nat) (hg : w.heap[g]? = some (.cells #[] 75 (0, 0))) (hs : a.eval s = .slice (some ⟨g, 0, none⟩) 0 0)
    (px : Option Addr) (m c : Nat) (xs : List EntV) (hx : a.eval x = .slice px m c) (hat : EntsAt w px m c xs) (hm : m ≤ 1048576) (base : Nat) (hb : base ≤ g)
    (h : ∀ v' w', w'.ownsRow base 75 3 v' m (xs.flatMap ecells) → w.grownBy w' (some g) → K (a.put o.dst v') w') : o.wp Try.prog a w K Q := by
  obtain ⟨v', w', hr, h2, h3⟩ := run_append_piece o.type g hg px m c xs hat hm base hb
  unfold Oper.wp execOp
  simp only [ho, resolve, invoke, builtin, Sem.run_bind, Sem.run_pure, Result.andThen_ok, List.map_toArray, List.map_cons, List.map_nil, hs, hx, hr]
  exact h v' w' h2 h3

theorem wpList_append_piece {w : World} {ops : Array Oper} {rest : List Oper} {o : Oper} {a : Act} {Q : Exit → Act → World → Prop} (hgd : o.guard = none) (s x : Operand)
    (ho : o.op = .call { callee := .builtin .append, args := #[s, x], argTypes := #[31, 31] }) (g : Nat) (hg : w.heap[g]? = some (.cells #[] 75 (0, 0))) (hs : a.eval s = .slice (some ⟨g, 0, none⟩) 0 0)
    (px : Option Addr) (m c : Nat) (xs : List EntV) (hx : a.eval x = .slice px m c) (hat : EntsAt w px m c xs) (hm : m ≤ 1048576) (base : Nat) (hb : base ≤ g)
    (h : ∀ v' w', w'.ownsRow base 75 3 v' m (xs.flatMap ecells) → w.grownBy w' (some g) → wpList Try.prog ops Q rest (a.put o.dst v') w') : wpList Try.prog ops Q (o :: rest) a w :=
  wpList_plain hgd fun _ hK => wp_append_piece s x ho g hg hs px m c xs hx hat hm base hb fun v' w' h2 h3 => hK _ _ (h v' w' h2 h3)

end Go.Proofs.Ytoalbeiinlcgpaa
