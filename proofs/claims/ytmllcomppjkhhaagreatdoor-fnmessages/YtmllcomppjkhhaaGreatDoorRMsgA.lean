/-
  Walks and mathematics of MsgA.
-/
import Derived.Test.YtmllcomppjkhhaaGreatDoorRLog1
import Derived.Test.YtmllcomppjkhhaaGreatDoorRTab
import Derived.Test.YtmllcomppjkhhaaGreatDoorRInts
import Derived.ChangeSlices
import Derived.WideShapes
import Derived.Deep.Cut
namespace Go.Proofs.YtmllcomppjkhhaaGreatDoor.P18
end Go.Proofs.YtmllcomppjkhhaaGreatDoor.P18
namespace Go.Proofs.YtmllcomppjkhhaaGreatDoor.P3
end Go.Proofs.YtmllcomppjkhhaaGreatDoor.P3
namespace Go.Proofs.YtmllcomppjkhhaaGreatDoor
open Go.RowKit P1 P3 P9 P11 P12 P18 K
set_option linter.unusedVariables false
set_option linter.unusedSimpArgs false

abbrev mgval (kd fr to tm ix lt cm : Int) (ok : Bool) (xe xc : Value) (da : List UInt8) (la : Bool) : Value := .agg #[.int .i64 kd, .int .i64 fr, .int .i64 to, .int .i64 tm, .int .i64 ix, .int .i64 lt, .int .i64 cm, .bool ok, xe, xc, .string ⟨da.toArray⟩, .bool la]

theorem xs12 {h : Nat} {c0 c1 c2 c3 c4 c5 c6 c7 c8 c9 c10 c11 : Value} {T : TypeId} {w : World} (k : XS h #[c0, c1, c2, c3, c4, c5, c6, c7, c8, c9, c10, c11] T w) : w.cell? ⟨h, 0, none⟩ = some c0 ∧ w.cell? ⟨h, 1, none⟩ = some c1 ∧ w.cell? ⟨h, 2, none⟩ = some c2 ∧ w.cell? ⟨h, 3, none⟩ = some c3 ∧ w.cell? ⟨h, 4, none⟩ = some c4 ∧ w.cell? ⟨h, 5, none⟩ = some c5 ∧ w.cell? ⟨h, 6, none⟩ = some c6 ∧ w.cell? ⟨h, 7, none⟩ = some c7 ∧ w.cell? ⟨h, 8, none⟩ = some c8 ∧ w.cell? ⟨h, 9, none⟩ = some c9 ∧ w.cell? ⟨h, 10, none⟩ = some c10 ∧ w.cell? ⟨h, 11, none⟩ = some c11 :=
  ⟨k.cell 0 rfl, k.cell 1 rfl, k.cell 2 rfl, k.cell 3 rfl, k.cell 4 rfl, k.cell 5 rfl, k.cell 6 rfl, k.cell 7 rfl, k.cell 8 rfl, k.cell 9 rfl, k.cell 10 rfl, k.cell 11 rfl⟩

theorem sets12 {w : World} {b : Nat} {T : TypeId} {c0 c1 c2 c3 c4 c5 c6 c7 c8 c9 c10 c11 : Value} (h : XS b #[c0, c1, c2, c3, c4, c5, c6, c7, c8, c9, c10, c11] T w) (v0 v1 v2 v3 v4 v5 v6 v7 v8 v9 v10 v11 : Value) : ∃ W', ((((((((((((w.setCell ⟨b, 0, none⟩ (v0)).setCell ⟨b, 1, none⟩ (v1)).setCell ⟨b, 2, none⟩ (v2)).setCell ⟨b, 3, none⟩ (v3)).setCell ⟨b, 4, none⟩ (v4)).setCell ⟨b, 5, none⟩ (v5)).setCell ⟨b, 6, none⟩ (v6)).setCell ⟨b, 7, none⟩ (v7)).setCell ⟨b, 8, none⟩ (v8)).setCell ⟨b, 9, none⟩ (v9)).setCell ⟨b, 10, none⟩ (v10)).setCell ⟨b, 11, none⟩ (v11)) = W' ∧ XS b #[v0, v1, v2, v3, v4, v5, v6, v7, v8, v9, v10, v11] T W' ∧ w.grownBy W' (some b) := by
  have g0 := h
  have g1 : XS b #[v0, c1, c2, c3, c4, c5, c6, c7, c8, c9, c10, c11] T ((w.setCell ⟨b, 0, none⟩ (v0))) := g0.set 0 v0
  have g2 : XS b #[v0, v1, c2, c3, c4, c5, c6, c7, c8, c9, c10, c11] T (((w.setCell ⟨b, 0, none⟩ (v0)).setCell ⟨b, 1, none⟩ (v1))) := g1.set 1 v1
  have g3 : XS b #[v0, v1, v2, c3, c4, c5, c6, c7, c8, c9, c10, c11] T ((((w.setCell ⟨b, 0, none⟩ (v0)).setCell ⟨b, 1, none⟩ (v1)).setCell ⟨b, 2, none⟩ (v2))) := g2.set 2 v2
  have g4 : XS b #[v0, v1, v2, v3, c4, c5, c6, c7, c8, c9, c10, c11] T (((((w.setCell ⟨b, 0, none⟩ (v0)).setCell ⟨b, 1, none⟩ (v1)).setCell ⟨b, 2, none⟩ (v2)).setCell ⟨b, 3, none⟩ (v3))) := g3.set 3 v3
  have g5 : XS b #[v0, v1, v2, v3, v4, c5, c6, c7, c8, c9, c10, c11] T ((((((w.setCell ⟨b, 0, none⟩ (v0)).setCell ⟨b, 1, none⟩ (v1)).setCell ⟨b, 2, none⟩ (v2)).setCell ⟨b, 3, none⟩ (v3)).setCell ⟨b, 4, none⟩ (v4))) := g4.set 4 v4
  have g6 : XS b #[v0, v1, v2, v3, v4, v5, c6, c7, c8, c9, c10, c11] T (((((((w.setCell ⟨b, 0, none⟩ (v0)).setCell ⟨b, 1, none⟩ (v1)).setCell ⟨b, 2, none⟩ (v2)).setCell ⟨b, 3, none⟩ (v3)).setCell ⟨b, 4, none⟩ (v4)).setCell ⟨b, 5, none⟩ (v5))) := g5.set 5 v5
  have g7 : XS b #[v0, v1, v2, v3, v4, v5, v6, c7, c8, c9, c10, c11] T ((((((((w.setCell ⟨b, 0, none⟩ (v0)).setCell ⟨b, 1, none⟩ (v1)).setCell ⟨b, 2, none⟩ (v2)).setCell ⟨b, 3, none⟩ (v3)).setCell ⟨b, 4, none⟩ (v4)).setCell ⟨b, 5, none⟩ (v5)).setCell ⟨b, 6, none⟩ (v6))) := g6.set 6 v6
  have g8 : XS b #[v0, v1, v2, v3, v4, v5, v6, v7, c8, c9, c10, c11] T (((((((((w.setCell ⟨b, 0, none⟩ (v0)).setCell ⟨b, 1, none⟩ (v1)).setCell ⟨b, 2, none⟩ (v2)).setCell ⟨b, 3, none⟩ (v3)).setCell ⟨b, 4, none⟩ (v4)).setCell ⟨b, 5, none⟩ (v5)).setCell ⟨b, 6, none⟩ (v6)).setCell ⟨b, 7, none⟩ (v7))) := g7.set 7 v7
  have g9 : XS b #[v0, v1, v2, v3, v4, v5, v6, v7, v8, c9, c10, c11] T ((((((((((w.setCell ⟨b, 0, none⟩ (v0)).setCell ⟨b, 1, none⟩ (v1)).setCell ⟨b, 2, none⟩ (v2)).setCell ⟨b, 3, none⟩ (v3)).setCell ⟨b, 4, none⟩ (v4)).setCell ⟨b, 5, none⟩ (v5)).setCell ⟨b, 6, none⟩ (v6)).setCell ⟨b, 7, none⟩ (v7)).setCell ⟨b, 8, none⟩ (v8))) := g8.set 8 v8
  have g10 : XS b #[v0, v1, v2, v3, v4, v5, v6, v7, v8, v9, c10, c11] T (((((((((((w.setCell ⟨b, 0, none⟩ (v0)).setCell ⟨b, 1, none⟩ (v1)).setCell ⟨b, 2, none⟩ (v2)).setCell ⟨b, 3, none⟩ (v3)).setCell ⟨b, 4, none⟩ (v4)).setCell ⟨b, 5, none⟩ (v5)).setCell ⟨b, 6, none⟩ (v6)).setCell ⟨b, 7, none⟩ (v7)).setCell ⟨b, 8, none⟩ (v8)).setCell ⟨b, 9, none⟩ (v9))) := g9.set 9 v9
  have g11 : XS b #[v0, v1, v2, v3, v4, v5, v6, v7, v8, v9, v10, c11] T ((((((((((((w.setCell ⟨b, 0, none⟩ (v0)).setCell ⟨b, 1, none⟩ (v1)).setCell ⟨b, 2, none⟩ (v2)).setCell ⟨b, 3, none⟩ (v3)).setCell ⟨b, 4, none⟩ (v4)).setCell ⟨b, 5, none⟩ (v5)).setCell ⟨b, 6, none⟩ (v6)).setCell ⟨b, 7, none⟩ (v7)).setCell ⟨b, 8, none⟩ (v8)).setCell ⟨b, 9, none⟩ (v9)).setCell ⟨b, 10, none⟩ (v10))) := g10.set 10 v10
  have g12 : XS b #[v0, v1, v2, v3, v4, v5, v6, v7, v8, v9, v10, v11] T (((((((((((((w.setCell ⟨b, 0, none⟩ (v0)).setCell ⟨b, 1, none⟩ (v1)).setCell ⟨b, 2, none⟩ (v2)).setCell ⟨b, 3, none⟩ (v3)).setCell ⟨b, 4, none⟩ (v4)).setCell ⟨b, 5, none⟩ (v5)).setCell ⟨b, 6, none⟩ (v6)).setCell ⟨b, 7, none⟩ (v7)).setCell ⟨b, 8, none⟩ (v8)).setCell ⟨b, 9, none⟩ (v9)).setCell ⟨b, 10, none⟩ (v10)).setCell ⟨b, 11, none⟩ (v11))) := g11.set 11 v11
  exact ⟨_, rfl, g12, grown_trans (grown_trans (grown_trans (grown_trans (grown_trans (grown_trans (grown_trans (grown_trans (grown_trans (grown_trans (grown_trans (blk_grown _ _ _ _) (blk_grown _ _ _ _)) (blk_grown _ _ _ _)) (blk_grown _ _ _ _)) (blk_grown _ _ _ _)) (blk_grown _ _ _ _)) (blk_grown _ _ _ _)) (blk_grown _ _ _ _)) (blk_grown _ _ _ _)) (blk_grown _ _ _ _)) (blk_grown _ _ _ _)) (blk_grown _ _ _ _)⟩

structure MgOwn (w : World) (base : Nat) (vl vp : Value) (n m : Nat) (es : List EntV) (zs : List Int) : Prop where
  l : w.ownsRow base 56 3 vl n (es.flatMap ecells)
  p : w.ownsRow base 3 1 vp m (zs.map icell)

theorem MgOwn.ne {w : World} {base : Nat} {vl vp : Value} {n m : Nat} {es : List EntV} {zs : List Int} (h : MgOwn w base vl vp n m es zs) : ∀ k, vl.ownBlock = some k → vp.ownBlock ≠ some k := by
  intro k h1 h2
  rcases h.l.2 with ⟨e, _⟩ | ⟨g, cap, cur, e, _, hg, _⟩
  · rw [e] at h1; cases h1
  · rw [e] at h1
    cases h1
    rcases h.p.2 with ⟨e2, _⟩ | ⟨g2, cap2, cur2, e2, _, hg2, _⟩
    · rw [e2] at h2; cases h2
    · rw [e2] at h2
      cases h2
      rw [hg] at hg2
      injection hg2 with hg2
      injection hg2 with _ h5 _
      exact absurd h5 (by decide)

theorem MgOwn.on {w w' : World} {base : Nat} {vl vp : Value} {n m : Nat} {es : List EntV} {zs : List Int} (h : MgOwn w base vl vp n m es zs) (hb : Below w.heap.size w w') : MgOwn w' base vl vp n m es zs := ⟨own_below h.l hb, own_below h.p hb⟩

theorem MgOwn.down {w : World} {base base' : Nat} {vl vp : Value} {n m : Nat} {es : List EntV} {zs : List Int} (h : MgOwn w base vl vp n m es zs) (hb : base' ≤ base) : MgOwn w base' vl vp n m es zs := ⟨own_base h.l hb, own_base h.p hb⟩

theorem MgOwn.kept {w w' : World} {base : Nat} {vl vp : Value} {n m : Nat} {es : List EntV} {zs : List Int} {b : Nat} (h : MgOwn w base vl vp n m es zs) (hg : w.grownBy w' (some b)) (hlt : b < base) : MgOwn w' base vl vp n m es zs :=
  ⟨h.l.kept hg (Or.inr (fun q => by have := h.l.lt b q; omega)), h.p.kept hg (Or.inr (fun q => by have := h.p.lt b q; omega))⟩

end Go.Proofs.YtmllcomppjkhhaaGreatDoor
