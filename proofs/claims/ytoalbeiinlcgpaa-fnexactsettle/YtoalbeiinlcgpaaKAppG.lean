/-
  Walks and mathematics of AppG.
-/
import Derived.Test.YtoalbeiinlcgpaaKBox
import Derived.Test.YtoalbeiinlcgpaaKIntsMark
import Derived.Test.YtoalbeiinlcgpaaKBase
import Derived.Laws.AppendOwn
namespace Go.Proofs.Ytoalbeiinlcgpaa
open Go.RowKit P1 P9 K
set_option linter.unusedVariables false
set_option linter.unusedSimpArgs false

section
variable {α : Type} {k : Nat} {cf : α → List Value}

theorem RowsAt.newsK (hk : ∀ x, (cf x).length = k) (hk0 : 0 < k) {w : World} {b o n cap : Nat} {xs : List α} (h : RowsAt k cf w (some ⟨b, o, none⟩) n cap xs) : ∀ j u, (xs.flatMap cf)[j]? = some u → w.cell? ((⟨b, o, none⟩ : Addr).add j) = some u := by
  intro j u hu
  have hj : j < n * k := by
    have := (List.getElem?_eq_some_iff.1 hu).1
    rw [flat_length cf k hk, h.len] at this
    exact this
  have h1 : j / k < xs.length := by rw [h.len, Nat.div_lt_iff_lt_mul hk0]; exact hj
  obtain ⟨f, hf⟩ : ∃ f, xs[j / k]? = some f := ⟨_, List.getElem?_eq_getElem h1⟩
  have hfe : xs[j / k] = f := (List.getElem?_eq_some_iff.1 hf).2
  have h3 := flat_get cf k hk xs (j / k) (j % k) h1 (Nat.mod_lt j hk0)
  have e1 : j / k * k + j % k = j := by rw [Nat.mul_comm]; exact Nat.div_add_mod j k
  rw [e1, hfe, hu] at h3
  obtain ⟨b', o', he, hc⟩ := h.at_ (j / k) f hf
  cases he
  have h4 := hc (j % k) u h3.symm
  rw [Addr.add_mid]
  rw [← h4]
  congr 2
  omega

theorem run_append_noneG {P : Program} {w : World} (t ty e : TypeId) (i : TypeInfo) (ht : P.underlying t = some (.slice e)) (hi : P.info? e = some i) (g : Nat) (ox : Option Addr) (c : Nat) :
    (Builtin.append_ #[t, t] ty #[.slice (some ⟨g, 0, none⟩) 0 0, .slice ox 0 c]).run P w = .ok (.slice (some ⟨g, 0, none⟩) 0 0) w := by
  have hfc : (Builtin.firstCells i.size 0 (.slice ox 0 c)).run P w = .ok #[] w := by
    cases ox with
    | none => simp [Builtin.firstCells]
    | some a => simpa using run_firstCells_some (P := P) w i.size 0 a 0 c [] (by simp) (by simp)
  simp [Builtin.append_, run_underlying ht, sizeOf, typeInfo, hi, Builtin.lenOf, hfc, storeCells]

theorem run_append_rowsG (hk : ∀ x, (cf x).length = k) (h1 : ∀ x, ∀ u ∈ cf x, u.oneCell' = true) (hk0 : 0 < k) {P : Program} {w : World} {t e : TypeId} (ty : TypeId) {z : Value} {bytes : Nat} (ht : P.underlying t = some (.slice e)) (hi : (P.info? e).map (fun i => (i.zero, i.size, i.bytes)) = some (some z, k, bytes)) (hzs : z.cells.size = k)
    (g : Nat) (hg : w.heap[g]? = some (.cells #[] e (0, 0))) (px : Option Addr) (m c : Nat) (xs : List α) (hat : RowsAt k cf w px m c xs) (hm : m ≤ 1048576) (hby : m * bytes ≤ 140737488355328) (base : Nat) (hb : base ≤ g) :
    ∃ v' w', (Builtin.append_ #[t, t] ty #[.slice (some ⟨g, 0, none⟩) 0 0, .slice px m c]).run P w = .ok v' w' ∧ w'.ownsRow base e k v' m (xs.flatMap cf) ∧ w.grownBy w' (some g) := by
  obtain ⟨i0, hi, hz0, hz1, hz2⟩ := info_parts hi
  have hlt : g < w.heap.size := (Array.getElem?_eq_some_iff.1 hg).1
  have hown : w.ownsRow base e k (.slice (some ⟨g, 0, none⟩) 0 0) 0 [] := ⟨by simp, Or.inr ⟨g, 0, #[], rfl, hb, hg, Nat.le_refl _, by unfold maxLen; omega, by simp, by simp⟩⟩
  match m, hat with
  | 0, hat =>
    have : xs = [] := List.eq_nil_of_length_eq_zero hat.len
    subst this
    exact ⟨_, _, run_append_noneG t ty e i0 ht hi g px c, hown, World.grownBy.refl _ _⟩
  | m + 1, hat =>
    obtain ⟨x, hx⟩ : ∃ x, xs[0]? = some x := ⟨_, List.getElem?_eq_getElem (by rw [hat.len]; omega)⟩
    obtain ⟨b, o, rfl, _⟩ := hat.at_ 0 x hx
    have hu : ∀ u ∈ xs.flatMap cf, u.oneCell' = true := fun u hu => by
      obtain ⟨y, -, hy⟩ := List.mem_flatMap.1 hu
      exact h1 y u hy
    obtain ⟨v', w', h2, h3, h4, -⟩ := run_append_own (P := P) w base t ty e i0 _ k bytes ht hi hz0 hz1 hz2 hzs hk0 _ 0 [] hown ⟨b, o, none⟩ (m + 1) c (xs.flatMap cf) (by rw [flat_length cf k hk, hat.len]) (hat.newsK hk hk0) hu (by unfold maxLen; omega) (by rw [Nat.zero_add]; exact hby) (by omega)
    refine ⟨v', w', h2, ?_, h4⟩
    rw [Nat.zero_add, List.nil_append] at h3
    exact h3

theorem wpList_append_rowsG (hk : ∀ x, (cf x).length = k) (h1 : ∀ x, ∀ u ∈ cf x, u.oneCell' = true) (hk0 : 0 < k) {P : Program} {w : World} {ops : Array Oper} {rest : List Oper} {o : Oper} {a : Act} {Q : Exit → Act → World → Prop} (hgd : o.guard = none) (s x : Operand) (t : TypeId)
    (ho : o.op = .call { callee := .builtin .append, args := #[s, x], argTypes := #[t, t] }) {e : TypeId} {z : Value} {bytes : Nat} (ht : P.underlying t = some (.slice e)) (hi : (P.info? e).map (fun i => (i.zero, i.size, i.bytes)) = some (some z, k, bytes)) (hzs : z.cells.size = k)
    (g : Nat) (hg : w.heap[g]? = some (.cells #[] e (0, 0))) (hs : a.eval s = .slice (some ⟨g, 0, none⟩) 0 0) (px : Option Addr) (m c : Nat) (xs : List α) (hx : a.eval x = .slice px m c) (hat : RowsAt k cf w px m c xs) (hm : m ≤ 1048576) (hby : m * bytes ≤ 140737488355328) (base : Nat) (hb : base ≤ g)
    (h : ∀ v' w', w'.ownsRow base e k v' m (xs.flatMap cf) → w.grownBy w' (some g) → wpList P ops Q rest (a.put o.dst v') w') : wpList P ops Q (o :: rest) a w :=
  wpList_plain hgd fun K hK => by
    obtain ⟨v', w', hr, h2, h3⟩ := run_append_rowsG hk h1 hk0 o.type ht hi hzs g hg px m c xs hat hm hby base hb
    unfold Oper.wp execOp
    simp only [ho, resolve, invoke, builtin, Sem.run_bind, Sem.run_pure, Result.andThen_ok, List.map_toArray, List.map_cons, List.map_nil, hs, hx, hr]
    exact hK _ _ (h v' w' h2 h3)
end

def icells1 (z : Int) : List Value := [icell z]

theorem icells1_length (z : Int) : (icells1 z).length = 1 := rfl

theorem icells1_one (z : Int) : ∀ u ∈ icells1 z, u.oneCell' = true := by
  intro u hu
  simp only [icells1, List.mem_cons, List.not_mem_nil, or_false] at hu
  subst hu
  rfl

theorem icells1_flat (zs : List Int) : zs.flatMap icells1 = zs.map icell := by
  induction zs with
  | nil => rfl
  | cons a r ih => rw [List.flatMap_cons, ih]; rfl

theorem IntsAt.rows {w : World} {oa : Option Addr} {n cap : Nat} {zs : List Int} (h : IntsAt w oa n cap zs) : RowsAt 1 icells1 w oa n cap zs :=
  ⟨h.len, h.room, h.most, fun i z hz => by
    obtain ⟨b, o, ha, hc⟩ := h.at_ i z hz
    refine ⟨b, o, ha, fun j u hu => ?_⟩
    match j, hu with
    | 0, hu =>
      simp only [icells1, List.getElem?_cons_zero, Option.some.injEq] at hu
      subst hu
      rw [Nat.mul_one, Nat.add_zero]
      exact hc⟩

end Go.Proofs.Ytoalbeiinlcgpaa
