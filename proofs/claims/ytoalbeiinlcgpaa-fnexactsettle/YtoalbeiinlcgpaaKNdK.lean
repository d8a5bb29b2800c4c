/-
  Walks and mathematics of NdK.
-/
import Derived.Test.YtoalbeiinlcgpaaKNodeA
namespace Go.Proofs.Ytoalbeiinlcgpaa.P11
end Go.Proofs.Ytoalbeiinlcgpaa.P11
namespace Go.Proofs.Ytoalbeiinlcgpaa.P18
end Go.Proofs.Ytoalbeiinlcgpaa.P18
namespace Go.Proofs.Ytoalbeiinlcgpaa.P3
end Go.Proofs.Ytoalbeiinlcgpaa.P3
namespace Go.Proofs.Ytoalbeiinlcgpaa
open Go.RowKit P1 P3 P9 P11 P12 P18 K
set_option linter.unusedVariables false
set_option linter.unusedSimpArgs false

def NdNot (x : NdV) (S : NdS) (b : Nat) : Prop := (Value.slice S.oc x.cf.length S.cc).ownBlock ≠ some b ∧ (Value.slice S.oe x.es.length S.ce).ownBlock ≠ some b ∧ (Value.slice S.ov x.vs.length S.cv).ownBlock ≠ some b ∧ (Value.slice S.op x.ps.length S.cp).ownBlock ≠ some b

structure NdIn (w : World) (lo hi : Nat) (x : NdV) (S : NdS) : Prop where
  own : NdOwn w lo x S
  top : ∀ b, hi ≤ b → NdNot x S b

theorem NdOwn.not {w : World} {lo b : Nat} {x : NdV} {S : NdS} (h : NdOwn w lo x S) (hb : w.heap.size ≤ b ∨ b < lo) : NdNot x S b :=
  ⟨fun q => by have := h.c.lt b q; omega, fun q => by have := h.e.lt b q; omega, fun q => by have := h.v.lt b q; omega, fun q => by have := h.p.lt b q; omega⟩

theorem NdIn.of {w : World} {lo : Nat} {x : NdV} {S : NdS} (h : NdOwn w lo x S) : NdIn w lo w.heap.size x S := ⟨h, fun b hb => h.not (Or.inl hb)⟩

theorem NdIn.on {w w' : World} {lo hi : Nat} {x : NdV} {S : NdS} (h : NdIn w lo hi x S) (hb : Below w.heap.size w w') : NdIn w' lo hi x S := ⟨h.own.on hb, h.top⟩

theorem own_out {w w' : World} {b2 : Nat} {e2 : TypeId} {k2 n2 : Nat} {v2 : Value} {xs2 : List Value} {row : Option Nat} (h2 : w.ownsRow b2 e2 k2 v2 n2 xs2) (hg : w.grownBy w' row) (hne : ∀ b, row = some b → v2.ownBlock ≠ some b) : w'.ownsRow b2 e2 k2 v2 n2 xs2 :=
  h2.kept hg (by
    cases hq : v2.ownBlock with
    | none => exact Or.inl rfl
    | some j => exact Or.inr (fun q => hne j q.symm hq))

theorem NdIn.out {w w' : World} {lo hi : Nat} {x : NdV} {S : NdS} {row : Option Nat} (h : NdIn w lo hi x S) (hg : w.grownBy w' row) (hne : ∀ b, row = some b → b < lo ∨ hi ≤ b) : NdIn w' lo hi x S := by
  have hn : ∀ b, row = some b → NdNot x S b := fun b q => by
    rcases hne b q with h1 | h1
    · exact h.own.not (Or.inr h1)
    · exact h.top b h1
  exact ⟨⟨own_out h.own.c hg (fun b q => (hn b q).1), own_out h.own.e hg (fun b q => (hn b q).2.1), own_out h.own.v hg (fun b q => (hn b q).2.2.1), own_out h.own.p hg (fun b q => (hn b q).2.2.2), h.own.cv⟩, h.top⟩

theorem own_lowN {w w' : World} {base B : Nat} {v : Value} {e : TypeId} {k n : Nat} {xs : List Value} (h : w.ownsRow base e k v n xs) (hb : Below B w w') (hl : ∀ g, v.ownBlock = some g → g < B) : w'.ownsRow base e k v n xs := by
  obtain ⟨h1, h2⟩ := h
  refine ⟨h1, ?_⟩
  rcases h2 with h2 | ⟨g, cap, cur, hv, hg, hh, r⟩
  · exact Or.inl h2
  · exact Or.inr ⟨g, cap, cur, hv, hg, (hb.block g (hl g (by rw [hv]; rfl))).trans hh, r⟩

theorem NdIn.low {w w' : World} {lo hi B : Nat} {x : NdV} {S : NdS} (h : NdIn w lo hi x S) (hb : Below B w w') (hB : hi ≤ B) : NdIn w' lo hi x S := by
  have hl : ∀ {v : Value}, (∀ b, hi ≤ b → v.ownBlock ≠ some b) → ∀ g, v.ownBlock = some g → g < B := fun hv g q => by
    rcases Nat.lt_or_ge g hi with h1 | h1
    · omega
    · exact absurd q (hv g h1)
  exact ⟨⟨own_lowN h.own.c hb (hl fun b q => (h.top b q).1), own_lowN h.own.e hb (hl fun b q => (h.top b q).2.1), own_lowN h.own.v hb (hl fun b q => (h.top b q).2.2.1), own_lowN h.own.p hb (hl fun b q => (h.top b q).2.2.2), h.own.cv⟩, h.top⟩

end Go.Proofs.Ytoalbeiinlcgpaa
