/-
  Walks and mathematics of Walk11h.
-/
import Derived.Test.YthieilmjbefamaaQApart2
import Derived.Test.YthieilmjbefamaaQBox
import Derived.Test.YthieilmjbefamaaQWalk10c
import Derived.Test.YthieilmjbefamaaQWalk10b
import Derived.Deep.AppendLies
import Derived.Deep.AppendSrc
import Derived.Test.YthieilmjbefamaaQRes1
import Derived.Deep.RegionHeld3
import Derived.Deep.QuietTactic
import Derived.Deep.Cut
namespace Go.Proofs.Ythieilmjbefamaa.P11
end Go.Proofs.Ythieilmjbefamaa.P11
namespace Go.Proofs.Ythieilmjbefamaa.P3
end Go.Proofs.Ythieilmjbefamaa.P3
namespace Go.Proofs.Ythieilmjbefamaa.P9
end Go.Proofs.Ythieilmjbefamaa.P9
namespace Go.Proofs.Ythieilmjbefamaa
open Go.RowKit P1 P3 P5 P9 P11 P12 P14 P15 K
set_option linter.unusedVariables false
set_option linter.unusedSimpArgs false

structure NumsAt (w : World) (oa : Option Addr) (n cap : Nat) (ls : List (List Int)) : Prop where
  len : ls.length = n
  room : n ≤ cap
  most : cap ≤ maxLen
  at_ : ∀ (i : Nat) (l : List Int), ls[i]? = some l → ∃ b o xa xc, oa = some ⟨b, o, none⟩ ∧ w.cell? ⟨b, o + i, none⟩ = some (.slice xa l.length xc) ∧ IntsAt w xa l.length xc l

theorem NumsAt.below {w w' : World} {oa : Option Addr} {n cap : Nat} {ls : List (List Int)} (h : NumsAt w oa n cap ls) (hb : Below w.heap.size w w') : NumsAt w' oa n cap ls :=
  ⟨h.len, h.room, h.most, fun i s hs => by
    obtain ⟨b, o, xa, xc, h1, h2, h3⟩ := h.at_ i s hs
    exact ⟨b, o, xa, xc, h1, (hb.cell (cell_lt h2)).trans h2, h3.below hb⟩⟩

theorem NumsAt.get {w : World} {oa : Option Addr} {n cap : Nat} {ls : List (List Int)} (h : NumsAt w oa n cap ls) {P : Program} {t e : TypeId} (ht : P.underlying t = some (.slice e)) (hi : (P.info? e).map (·.size) = some 1) (i : Nat) (hin : i < n) :
    ∃ s b q xa xc, ls[i]? = some s ∧ (∀ wx, (Instr.indexAt t (.slice oa n cap) (.int .i64 (i : Int))).run P wx = .ok (.pointer (some ⟨b, q, none⟩)) wx) ∧ w.cell? ⟨b, q, none⟩ = some (.slice xa s.length xc) ∧ IntsAt w xa s.length xc s := by
  obtain ⟨s, hs⟩ : ∃ s, ls[i]? = some s := ⟨_, List.getElem?_eq_getElem (by rw [h.len]; exact hin)⟩
  obtain ⟨b, o, xa, xc, rfl, h2, h3⟩ := h.at_ i s hs
  refine ⟨s, b, o + i, xa, xc, hs, fun wx => ?_, h2, h3⟩
  have := run_indexAt_slice wx t e 1 ht hi b o n cap i hin
  rwa [Nat.mul_one] at this

structure Ahd (w wr : World) (va : Value) (ls : List (List Int)) : Prop where
  rows : ∃ vs : List Value, vs.length = ls.length ∧ wr.ownsRow w.heap.size 27 1 va ls.length vs ∧ ∀ (i : Nat) (v : Value) (l : List Int), vs[i]? = some v → ls[i]? = some l → ∃ base, wr.ownsRow base 3 1 v l.length (l.map icell) ∧ Aside2 v va ∧ ∀ z ∈ l, (Lit.int .i64 z).wf = true
  bel : Below w.heap.size w wr

theorem Ahd.new (w : World) : Ahd w (w.alloc (.cells #[] 27)) (.slice (some ⟨w.heap.size, 0, none⟩) 0 0) [] :=
  ⟨⟨[], rfl, World.ownsRow_made (w := w) #[] 0 (Nat.le_refl _) (by decide) rfl, fun i v l h => by simp at h⟩, (Below.refl _ _).alloc (Nat.le_refl _) _⟩

theorem Ahd.below {w wr w2 : World} {va : Value} {ls : List (List Int)} (h : Ahd w wr va ls) (hb : Below wr.heap.size wr w2) : Ahd w w2 va ls := by
  obtain ⟨⟨vs, h1, h2, h3⟩, h4⟩ := h
  exact ⟨⟨vs, h1, own_below h2 hb, fun i v l hv hl => by
    obtain ⟨base, k1, k2, k3⟩ := h3 i v l hv hl
    exact ⟨base, own_below k1 hb, k2, k3⟩⟩, h4.trans (hb.mono h4.size)⟩

theorem Ahd.own {w wr : World} {va : Value} {ls : List (List Int)} (h : Ahd w wr va ls) : ∃ vs, wr.ownsRow w.heap.size 27 1 va ls.length vs := by
  obtain ⟨⟨vs, _, h2, _⟩, _⟩ := h
  exact ⟨vs, h2⟩

end Go.Proofs.Ythieilmjbefamaa
