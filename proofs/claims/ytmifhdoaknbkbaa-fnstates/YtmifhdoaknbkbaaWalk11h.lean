/-
  A slice of rows of numbers, made by the call; what chapter 11's Order walks over.
-/
import Derived.Test.YtmifhdoaknbkbaaWalk11g
import Derived.Test.YtmifhdoaknbkbaaWalk11e
namespace Go.Proofs.Ytmifhdoaknbkbaa
open Go.RowKit P1 P3 P5 P9 P11 P12 P14 P15 K
set_option linter.unusedVariables false
set_option linter.unusedSimpArgs false

theorem infoRs : (Try.prog.info? 38).map (·.size) = some 1 := by kernel_rfl
theorem infoRz : (Try.prog.info? 38).map (fun i => (i.zero, i.size, i.bytes)) = some (some (.slice none 0 0), 1, 24) := by kernel_rfl

/-- A slice of rows of numbers that reads as ls. -/
structure NumsAt (w : World) (oa : Option Addr) (n cap : Nat) (ls : List (List Int)) : Prop where
  len : ls.length = n
  room : n ≤ cap
  most : cap ≤ maxLen
  at_ : ∀ (i : Nat) (l : List Int), ls[i]? = some l → ∃ b o xa xc, oa = some ⟨b, o, none⟩ ∧ w.cell? ⟨b, o + i, none⟩ = some (.slice xa l.length xc) ∧ IntsAt w xa l.length xc l

theorem NumsAt.below {w w' : World} {oa : Option Addr} {n cap : Nat} {ls : List (List Int)} (h : NumsAt w oa n cap ls) (hb : Below w.heap.size w w') : NumsAt w' oa n cap ls :=
  ⟨h.len, h.room, h.most, fun i s hs => by
    obtain ⟨b, o, xa, xc, h1, h2, h3⟩ := h.at_ i s hs
    exact ⟨b, o, xa, xc, h1, (hb.cell (cell_lt h2)).trans h2, h3.below hb⟩⟩

theorem NumsAt.get {w : World} {oa : Option Addr} {n cap : Nat} {ls : List (List Int)} (h : NumsAt w oa n cap ls) {P : Program} {t e : TypeId} (ht : P.underlying t = some (.slice e)) (hi : (P.info? e).map (·.size) = some 1) (i : Nat) (hin : i < n) :
    ∃ s b q xa xc, ls[i]? = some s ∧ (∀ wx, (Instr.indexAt t (.slice oa n cap) (.int .i64 (i : Int))).run P wx = .ok (.pointer (some ⟨b, q, none⟩)) wx) ∧ w.cell? ⟨b, q, none⟩ = some (.slice xa s.length xc) ∧ IntsAt w xa s.length xc s := by
  obtain ⟨s, hs⟩ : ∃ s, ls[i]? = some s := ⟨_, List.getElem?_eq_getElem (by rw [h.len]; exact hin)⟩
  obtain ⟨b, o, xa, xc, rfl, h2, h3⟩ := h.at_ i s hs
  refine ⟨s, b, o + i, xa, xc, hs, fun wx => ?_, h2, h3⟩
  have := run_indexAt_slice wx t e 1 ht hi b o n cap i hin
  rwa [Nat.mul_one] at this

/-- Rows of numbers so far: each in a block of its own, beside the row that names them. -/
structure Ahd (w wr : World) (va : Value) (ls : List (List Int)) : Prop where
  rows : ∃ vs : List Value, vs.length = ls.length ∧ wr.ownsRow w.heap.size 38 1 va ls.length vs ∧ ∀ (i : Nat) (v : Value) (l : List Int), vs[i]? = some v → ls[i]? = some l → ∃ base, wr.ownsRow base 3 1 v l.length (l.map icell) ∧ Aside2 v va ∧ ∀ z ∈ l, (Lit.int .i64 z).wf = true
  bel : Below w.heap.size w wr

theorem Ahd.new (w : World) : Ahd w (w.alloc (.cells #[] 38)) (.slice (some ⟨w.heap.size, 0, none⟩) 0 0) [] :=
  ⟨⟨[], rfl, World.ownsRow_made (w := w) #[] 0 (Nat.le_refl _) (by decide) rfl, fun i v l h => by simp at h⟩, (Below.refl _ _).alloc (Nat.le_refl _) _⟩

theorem Ahd.below {w wr w2 : World} {va : Value} {ls : List (List Int)} (h : Ahd w wr va ls) (hb : Below wr.heap.size wr w2) : Ahd w w2 va ls := by
  obtain ⟨⟨vs, h1, h2, h3⟩, h4⟩ := h
  exact ⟨⟨vs, h1, own_below h2 hb, fun i v l hv hl => by
    obtain ⟨base, k1, k2, k3⟩ := h3 i v l hv hl
    exact ⟨base, own_below k1 hb, k2, k3⟩⟩, h4.trans (hb.mono h4.size)⟩

theorem Ahd.own {w wr : World} {va : Value} {ls : List (List Int)} (h : Ahd w wr va ls) : ∃ vs, wr.ownsRow w.heap.size 38 1 va ls.length vs := by
  obtain ⟨⟨vs, _, h2, _⟩, _⟩ := h
  exact ⟨vs, h2⟩

/-- One more row. -/
theorem wpList_pushR {W0 : World} {ops : Array Oper} {rest : List Oper} {o : Oper} {a : Act} {Q : Exit → Act → World → Prop} (hgd : o.guard = none) (s x : Operand)
    (ho : o.op = .call { callee := .builtin .append, args := #[s, x], argTypes := #[121, 121] })
    {w : World} {va : Value} {ls : List (List Int)} (h : Ahd w W0 va ls) {l : List Int} {v : Value} {base : Nat} (hv : W0.ownsRow base 3 1 v l.length (l.map icell)) (hap : Aside2 v va) (hwf : ∀ z ∈ l, (Lit.int .i64 z).wf = true)
    (hs : a.eval s = va) (hx : a.eval x = .slice (some ⟨W0.heap.size, 0, none⟩) 1 1) (hl : ls.length + 1 ≤ 10000000)
    (hK : ∀ va' w', Ahd w w' va' (ls ++ [l]) → wpList Try.prog ops Q rest (a.put o.dst va') w') : wpList Try.prog ops Q (o :: rest) a (W0.alloc (.cells #[v] 38)) := by
  obtain ⟨⟨vs, h1, h2, h3⟩, h4⟩ := h
  have hone : v.oneCell' = true := by
    obtain ⟨oa, cap, rfl⟩ := row_form hv
    rfl
  refine wpList_pushL (cs := #[v]) hgd s x 121 ho (by decide) Try.underlying121 infoRz rfl hs h2 hx rfl (by simpa using hone) h4.size (by unfold maxLen; omega) (by omega) ?_
  intro va' w' hown hg hloc
  refine hK va' w' ⟨⟨vs ++ [v], by simp [h1], by rw [len_snoc]; exact hown, fun i v' l' hv' hl' => ?_⟩, grown_up h4 h4.size h2 (Nat.le_refl _) hg⟩
  rcases Nat.lt_or_ge i ls.length with hi | hi
  · rw [List.getElem?_append_left (by omega)] at hv' hl'
    obtain ⟨base', k1, k2, k3⟩ := h3 i v' l' hv' hl'
    obtain ⟨b1, b2⟩ := beside k1 k2 hg hloc
    exact ⟨base', b1, b2, k3⟩
  · have hie : i = ls.length := by
      have := (List.getElem?_eq_some_iff.1 hl').1
      simp at this
      omega
    subst hie
    rw [List.getElem?_append_right (Nat.le_refl _)] at hl'
    rw [← h1, List.getElem?_append_right (Nat.le_refl _)] at hv'
    simp at hl' hv'
    subst hl'
    subst hv'
    obtain ⟨b1, b2⟩ := beside hv hap hg hloc
    exact ⟨base, b1, b2, hwf⟩

theorem Ahd.view {w wr : World} {va : Value} {ls : List (List Int)} (h : Ahd w wr va ls) : ∃ oa cap, va = .slice oa ls.length cap ∧ NumsAt wr oa ls.length cap ls := by
  obtain ⟨⟨vs, h1, h2, h3⟩, h4⟩ := h
  rcases h2.2 with ⟨rfl, hn⟩ | ⟨g, cap, cur, rfl, hb, hg, hnc, hcm, hcs, htake⟩
  · have hls : ls = [] := List.eq_nil_of_length_eq_zero hn
    subst hls
    exact ⟨none, 0, rfl, ⟨rfl, Nat.le_refl _, by unfold maxLen; omega, fun i f hf => by simp at hf⟩⟩
  · refine ⟨some ⟨g, 0, none⟩, cap, rfl, ⟨rfl, hnc, hcm, fun i l hl => ?_⟩⟩
    have hi : i < ls.length := (List.getElem?_eq_some_iff.1 hl).1
    obtain ⟨v, hv⟩ : ∃ v, vs[i]? = some v := ⟨_, List.getElem?_eq_getElem (by omega)⟩
    obtain ⟨base, k1, k2, k3⟩ := h3 i v l hv hl
    obtain ⟨xa, xc, rfl, hia⟩ := intsAt_of_own k1 k3
    refine ⟨g, 0, xa, xc, rfl, ?_, hia⟩
    rw [Nat.zero_add, h2.cellAt i (by omega)]
    exact hv

theorem leftOf_at {es : List EvV} {ids L : List Int} {j : Nat} {z : Int} (h : ids[j]? = some z) : P15.leftOf es (ids.drop j) L = P15.leftOf es (ids.drop (j + 1)) (if (evFind es z).isSome then addI L z else L) := by
  obtain ⟨hj, rfl⟩ := List.getElem?_eq_some_iff.1 h
  rw [List.drop_eq_getElem_cons hj]
  rfl

theorem addI_wf {L : List Int} {z : Int} (h : ∀ y ∈ L, (Lit.int .i64 y).wf = true) (hz : (Lit.int .i64 z).wf = true) : ∀ y ∈ addI L z, (Lit.int .i64 y).wf = true := fun y hy => by
  rcases addI_mem.1 hy with hy | hy
  · exact h y hy
  · subst hy; exact hz

end Go.Proofs.Ytmifhdoaknbkbaa
