/-
  Walks and mathematics of ItemsArg.
-/
import Derived.Test.YtckkfjmjcknjdaaSHFlat2
import Derived.Deep.Slices
import Derived.ChangeSame
namespace Go.Proofs.Ytckkfjmjcknjdaa
open Go.RowKit Go.Deep Go.ChangeShapes Go.WideShapes K
set_option linter.unusedVariables false

def icells (x : Int × Int) : List Value := [.int .i64 x.1, .int .i64 x.2]

def ival (x : Int × Int) : Value := .agg #[.int .i64 x.1, .int .i64 x.2]

theorem icells_length (x : Int × Int) : (icells x).length = 2 := rfl

def WideI (x : Int × Int) : Prop := (Lit.int .i64 x.1).wf = true ∧ (Lit.int .i64 x.2).wf = true

structure ItemsAt (w : World) (oa : Option Addr) (n cap : Nat) (s : List (Int × Int)) : Prop where
  len : s.length = n
  room : n ≤ cap
  most : cap ≤ maxLen
  at_ : ∀ (i : Nat) (x : Int × Int), s[i]? = some x → ∃ b o, oa = some ⟨b, o, none⟩ ∧ ∀ (j : Nat) u, (icells x)[j]? = some u → w.cell? ⟨b, o + i * 2 + j, none⟩ = some u

theorem ItemsAt.below {w w' : World} {oa : Option Addr} {n cap : Nat} {s : List (Int × Int)} (h : ItemsAt w oa n cap s) (hb : Below w.heap.size w w') : ItemsAt w' oa n cap s :=
  ⟨h.len, h.room, h.most, fun i f hf => by
    obtain ⟨b, o, ha, hc⟩ := h.at_ i f hf
    refine ⟨b, o, ha, fun j u hu => ?_⟩
    have h1 := hc j u hu
    rw [hb.cell (cell_lt h1)]
    exact h1⟩

theorem items_nil (w : World) : ItemsAt w none 0 0 [] := ⟨rfl, Nat.le_refl _, by unfold maxLen; omega, fun i x hx => by simp at hx⟩

theorem ItemsAt.get {w : World} {oa : Option Addr} {n cap : Nat} {s : List (Int × Int)} (h : ItemsAt w oa n cap s) {P : Program} {t e : TypeId} (ht : P.underlying t = some (.slice e)) (hi : (P.info? e).map (·.size) = some 2) (i : Nat) (hin : i < n) :
    ∃ x b q, s[i]? = some x ∧ (∀ wx, (Instr.indexAt t (.slice oa n cap) (.int .i64 (i : Int))).run P wx = .ok (.pointer (some ⟨b, q, none⟩)) wx) ∧ b < w.heap.size ∧
      w.cell? ⟨b, q, none⟩ = some (.int .i64 x.1) ∧ w.cell? ⟨b, q + 1, none⟩ = some (.int .i64 x.2) := by
  obtain ⟨f, hf⟩ : ∃ f, s[i]? = some f := ⟨_, List.getElem?_eq_getElem (by rw [h.len]; exact hin)⟩
  obtain ⟨b, o, rfl, hc⟩ := h.at_ i f hf
  refine ⟨f, b, o + i * 2, hf, fun wx => run_indexAt_slice wx t e 2 ht hi b o n cap i hin, ?_, hc 0 _ rfl, hc 1 _ rfl⟩
  exact cell_lt (hc 0 _ rfl)

def FilledI (s : List (Int × Int)) (j : Nat) (xs : List Value) : Prop := ∀ (i : Nat) x, i < j → s[i]? = some x → ∀ (c : Nat) u, (icells x)[c]? = some u → xs[i * 2 + c]? = some u

theorem filledI_zero (s : List (Int × Int)) (xs : List Value) : FilledI s 0 xs := fun i f h => absurd h (Nat.not_lt_zero _)

def set2 (xs : List Value) (j : Nat) (x : Int × Int) : List Value := (xs.set (j * 2) (.int .i64 x.1)).set (j * 2 + 1) (.int .i64 x.2)

theorem filledI_step {s : List (Int × Int)} {j : Nat} {xs : List Value} (h : FilledI s j xs) {x : Int × Int} (hf : s[j]? = some x) (hl : j * 2 + 2 ≤ xs.length) : FilledI s (j + 1) (set2 xs j x) := by
  intro i g hi hg c u hu
  have hc : c < 2 := by
    have := (List.getElem?_eq_some_iff.1 hu).1
    simpa [icells] using this
  by_cases e : i = j
  · subst e
    rw [hf] at hg
    cases hg
    unfold set2
    match c, hc with
    | 0, _ =>
      simp only [icells, List.getElem?_cons_zero] at hu
      cases hu
      rw [List.getElem?_set_ne (by omega), Nat.add_zero, List.getElem?_set_self (by omega)]
    | 1, _ =>
      simp only [icells, List.getElem?_cons_succ, List.getElem?_cons_zero] at hu
      cases hu
      rw [List.getElem?_set_self (by simp; omega)]
  · unfold set2
    rw [List.getElem?_set_ne (by omega), List.getElem?_set_ne (by omega)]
    exact h i g (by omega) hg c u hu

theorem filledI_end {s : List (Int × Int)} {n : Nat} {xs : List Value} (h : FilledI s n xs) (hn : s.length = n) (hl : xs.length = n * 2) : xs = s.flatMap icells := by
  apply List.ext_getElem?
  intro k
  by_cases hk : k < n * 2
  · have h1 : k / 2 < s.length := by omega
    have e1 : k = k / 2 * 2 + k % 2 := by omega
    obtain ⟨f, hf⟩ : ∃ f, s[k / 2]? = some f := ⟨_, List.getElem?_eq_getElem h1⟩
    have hfe : s[k / 2] = f := (List.getElem?_eq_some_iff.1 hf).2
    obtain ⟨u, hu⟩ : ∃ u, (icells f)[k % 2]? = some u := ⟨_, List.getElem?_eq_getElem (by rw [icells_length]; omega)⟩
    have h2 := h (k / 2) f (by omega) hf (k % 2) u hu
    rw [← e1] at h2
    have h3 := flat_get icells 2 icells_length s (k / 2) (k % 2) h1 (by omega)
    rw [← e1, hfe] at h3
    rw [h2, h3, hu]
  · rw [List.getElem?_eq_none (by omega), List.getElem?_eq_none (by rw [flat_length icells 2 icells_length]; omega)]

theorem own_set2 {w : World} {base : Nat} {e : TypeId} {g n cap : Nat} {xs : List Value} (h : w.ownsRow base e 2 (.slice (some ⟨g, 0, none⟩) n cap) n xs) (j : Nat) (x : Int × Int) :
    ((w.setCell ⟨g, j * 2, none⟩ (.int .i64 x.1)).setCell ⟨g, j * 2 + 1, none⟩ (.int .i64 x.2)).ownsRow base e 2 (.slice (some ⟨g, 0, none⟩) n cap) n (set2 xs j x) ∧
      w.grownBy ((w.setCell ⟨g, j * 2, none⟩ (.int .i64 x.1)).setCell ⟨g, j * 2 + 1, none⟩ (.int .i64 x.2)) (some g) :=
  ⟨((h.stored (j * 2) _).1.stored (j * 2 + 1) _).1, grown_trans (h.stored (j * 2) _).2 ((h.stored (j * 2) _).1.stored (j * 2 + 1) _).2⟩

theorem itemsAt_of_own {w : World} {base : Nat} {e : TypeId} {v : Value} {n : Nat} {s : List (Int × Int)} (h : w.ownsRow base e 2 v n (s.flatMap icells)) :
    ∃ oa cap, v = .slice oa n cap ∧ ItemsAt w oa n cap s := by
  have hlen : s.length = n := by
    have := h.1
    rw [flat_length icells 2 icells_length] at this
    omega
  rcases h.2 with ⟨rfl, rfl⟩ | ⟨g, cap, cur, rfl, hb, hg, hnc, hcm, hcs, htake⟩
  · have : s = [] := List.eq_nil_of_length_eq_zero hlen
    subst this
    exact ⟨none, 0, rfl, items_nil w⟩
  · refine ⟨some ⟨g, 0, none⟩, cap, rfl, ⟨hlen, hnc, hcm, fun i f hf => ⟨g, 0, rfl, fun j u hu => ?_⟩⟩⟩
    have hi : i < s.length := (List.getElem?_eq_some_iff.1 hf).1
    have hfe : s[i] = f := (List.getElem?_eq_some_iff.1 hf).2
    have hj : j < 2 := by simpa [icells] using (List.getElem?_eq_some_iff.1 hu).1
    have h3 := flat_get icells 2 icells_length s i j hi hj
    rw [hfe, hu] at h3
    rw [Nat.zero_add]
    rw [h.cellAt (i * 2 + j) (by omega), h3]

section
variable {H : Type} {enc : TypeId × Value → H} {P : Program} {w : World} {base : Nat} {held : Bool}

theorem item_of_trod {e tI : TypeId} {f0 f1 : Field} {fuel : Nat} {cs : List Value} {x : DataW H × List MemPlace} (he : P.underlying e = some (.struct #[f0, f1]))
    (hI : P.underlying tI = some (.int .i64)) (t0 : f0.type = tI) (t1 : f1.type = tI) (o0 : f0.offset = 0) (o1 : f1.offset = 1)
    (ce : P.cellsOf e = 2) (cI : P.cellsOf tI = 1) (h : DataW.trod enc P w base (fun _ => true) held fuel e cs = some x) :
    ∃ y : Int × Int, cs = icells y ∧ WideI y := by
  obtain ⟨xs, n, _, _, hlen, hxl, hf⟩ := DataW.trod_struct he h
  rw [ce] at hlen
  match xs, hxl, cs, hlen with
  | [y0, y1], _, [v0, v1], _ =>
    have g0 := hf 0 f0 rfl
    have g1 := hf 1 f1 rfl
    simp [o0, o1, t0, t1, cI] at g0 g1
    obtain ⟨k0, e0, _, m0⟩ := DataW.trod_int hI g0
    obtain ⟨k1, e1, _, m1⟩ := DataW.trod_int hI g1
    cases e0; cases e1
    exact ⟨(k0, k1), rfl, m0, m1⟩

theorem open_items {t e tI : TypeId} {f0 f1 : Field} {fuel : Nat} {cs : List Value} {x : DataW H × List MemPlace} (ht : P.underlying t = some (.slice e)) (he : P.underlying e = some (.struct #[f0, f1]))
    (hI : P.underlying tI = some (.int .i64)) (t0 : f0.type = tI) (t1 : f1.type = tI) (o0 : f0.offset = 0) (o1 : f1.offset = 1)
    (ce : P.cellsOf e = 2) (cI : P.cellsOf tI = 1) (h : DataW.trod enc P w base (fun _ => true) held fuel t cs = some x) :
    ∃ (oa : Option Addr) (n cap : Nat) (s : List (Int × Int)), cs = [.slice oa n cap] ∧ ItemsAt w oa n cap s ∧ ∀ y ∈ s, WideI y := by
  rcases open_slice ht h with h0 | ⟨a, len, cap, m, n, D, Pl, rfl, hb, hl, hm, hmm, _, hx⟩
  · exact ⟨none, 0, 0, [], h0.1, items_nil w, fun y hy => by simp at hy⟩
  · have each : ∀ i, i < len → ∃ q : Int × Int, (∀ j, j < 2 → w.cell? (a.add (i * 2 + j)) = (icells q)[j]?) ∧ WideI q := by
      intro i hi
      obtain ⟨cs', h1, h2⟩ := hx i (by rw [hmm]; simp; omega)
      rw [ce] at h1
      obtain ⟨_, _, hcell⟩ := World.cells?_some h1
      obtain ⟨y, rfl, hy⟩ := item_of_trod he hI t0 t1 o0 o1 ce cI h2
      exact ⟨y, fun j hj => by rw [← add_add]; exact hcell j hj, hy⟩
    obtain ⟨F, hF⟩ := choose_lt each
    refine ⟨some a, len, cap, (List.range len).map F, rfl, ⟨by simp, hl, hm, fun i x hx => ?_⟩, fun y hy => ?_⟩
    · have hi : i < len := by simpa using (List.getElem?_eq_some_iff.1 hx).1
      have hfe : F i = x := by simpa [hi] using hx
      have k1 := (hF i hi).1
      have hsp : a.spot = none := by
        have q1 := (hF 0 (by omega)).1 0 (by omega)
        have q2 : w.cell? a = some (.int .i64 (F 0).1) := by simpa [Addr.add, icells] using q1
        exact cell_spot q2
      obtain ⟨b, o, sp⟩ := a
      simp only at hsp
      subst hsp
      subst hfe
      refine ⟨b, o, rfl, fun j u hu => ?_⟩
      have hj : j < 2 := by simpa [icells] using (List.getElem?_eq_some_iff.1 hu).1
      have q1 := k1 j hj
      rw [Addr.add_mid, hu] at q1
      rw [Nat.add_assoc]
      exact q1
    · obtain ⟨i, hi, rfl⟩ := List.mem_map.1 hy
      exact (hF i (by simpa using hi)).2
end

end Go.Proofs.Ytckkfjmjcknjdaa
