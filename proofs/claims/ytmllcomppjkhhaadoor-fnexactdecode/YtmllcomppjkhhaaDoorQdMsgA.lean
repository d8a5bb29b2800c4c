/-
  Walks and mathematics of MsgA.
-/
import Derived.Test.YtmllcomppjkhhaaDoorQdLog3
import Derived.Test.YtmllcomppjkhhaaDoorQdLit15
import Derived.Test.YtmllcomppjkhhaaDoorQdInts
import Derived.ChangeSlices
import Derived.WideShapes
import Derived.Deep.Cut
namespace Go.Proofs.YtmllcomppjkhhaaDoor.P18
end Go.Proofs.YtmllcomppjkhhaaDoor.P18
namespace Go.Proofs.YtmllcomppjkhhaaDoor.P3
end Go.Proofs.YtmllcomppjkhhaaDoor.P3
namespace Go.Proofs.YtmllcomppjkhhaaDoor
open Go.RowKit P1 P3 P9 P11 P12 P18 K
set_option linter.unusedVariables false
set_option linter.unusedSimpArgs false

abbrev mgval (kd fr to tm ix lt cm : Int) (ok : Bool) (xe xc : Value) (da : List UInt8) (la : Bool) : Value := .agg #[.int .i64 kd, .int .i64 fr, .int .i64 to, .int .i64 tm, .int .i64 ix, .int .i64 lt, .int .i64 cm, .bool ok, xe, xc, .string ⟨da.toArray⟩, .bool la]

theorem xs12 {h : Nat} {c0 c1 c2 c3 c4 c5 c6 c7 c8 c9 c10 c11 : Value} {T : TypeId} {w : World} (k : XS h #[c0, c1, c2, c3, c4, c5, c6, c7, c8, c9, c10, c11] T w) : w.cell? ⟨h, 0, none⟩ = some c0 ∧ w.cell? ⟨h, 1, none⟩ = some c1 ∧ w.cell? ⟨h, 2, none⟩ = some c2 ∧ w.cell? ⟨h, 3, none⟩ = some c3 ∧ w.cell? ⟨h, 4, none⟩ = some c4 ∧ w.cell? ⟨h, 5, none⟩ = some c5 ∧ w.cell? ⟨h, 6, none⟩ = some c6 ∧ w.cell? ⟨h, 7, none⟩ = some c7 ∧ w.cell? ⟨h, 8, none⟩ = some c8 ∧ w.cell? ⟨h, 9, none⟩ = some c9 ∧ w.cell? ⟨h, 10, none⟩ = some c10 ∧ w.cell? ⟨h, 11, none⟩ = some c11 :=
  ⟨k.cell 0 rfl, k.cell 1 rfl, k.cell 2 rfl, k.cell 3 rfl, k.cell 4 rfl, k.cell 5 rfl, k.cell 6 rfl, k.cell 7 rfl, k.cell 8 rfl, k.cell 9 rfl, k.cell 10 rfl, k.cell 11 rfl⟩

theorem sets12 {w : World} {b : Nat} {T : TypeId} {c0 c1 c2 c3 c4 c5 c6 c7 c8 c9 c10 c11 : Value} (h : XS b #[c0, c1, c2, c3, c4, c5, c6, c7, c8, c9, c10, c11] T w) (v0 v1 v2 v3 v4 v5 v6 v7 v8 v9 v10 v11 : Value) : ∃ W', ((((((((((((w.setCell ⟨b, 0, none⟩ (v0)).setCell ⟨b, 1, none⟩ (v1)).setCell ⟨b, 2, none⟩ (v2)).setCell ⟨b, 3, none⟩ (v3)).setCell ⟨b, 4, none⟩ (v4)).setCell ⟨b, 5, none⟩ (v5)).setCell ⟨b, 6, none⟩ (v6)).setCell ⟨b, 7, none⟩ (v7)).setCell ⟨b, 8, none⟩ (v8)).setCell ⟨b, 9, none⟩ (v9)).setCell ⟨b, 10, none⟩ (v10)).setCell ⟨b, 11, none⟩ (v11)) = W' ∧ XS b #[v0, v1, v2, v3, v4, v5, v6, v7, v8, v9, v10, v11] T W' ∧ w.grownBy W' (some b) := by
  have g0 := h
  have g1 : XS b #[v0, c1, c2, c3, c4, c5, c6, c7, c8, c9, c10, c11] T ((w.setCell ⟨b, 0, none⟩ (v0))) := g0.set 0 v0
  have g2 : XS b #[v0, v1, c2, c3, c4, c5, c6, c7, c8, c9, c10, c11] T (((w.setCell ⟨b, 0, none⟩ (v0)).setCell ⟨b, 1, none⟩ (v1))) := g1.set 1 v1
  have g3 : XS b #[v0, v1, v2, c3, c4, c5, c6, c7, c8, c9, c10, c11] T ((((w.setCell ⟨b, 0, none⟩ (v0)).setCell ⟨b, 1, none⟩ (v1)).setCell ⟨b, 2, none⟩ (v2))) := g2.set 2 v2
  have g4 : XS b #[v0, v1, v2, v3, c4, c5, c6, c7, c8, c9, c10, c11] T (((((w.setCell ⟨b, 0, none⟩ (v0)).setCell ⟨b, 1, none⟩ (v1)).setCell ⟨b, 2, none⟩ (v2)).setCell ⟨b, 3, none⟩ (v3))) := g3.set 3 v3
  have g5 : XS b #[v0, v1, v2, v3, v4, c5, c6, c7, c8, c9, c10, c11] T ((((((w.setCell ⟨b, 0, none⟩ (v0)).setCell ⟨b, 1, none⟩ (v1)).setCell ⟨b, 2, none⟩ (v2)).setCell ⟨b, 3, none⟩ (v3)).setCell ⟨b, 4, none⟩ (v4))) := g4.set 4 v4
  have g6 : XS b #[v0, v1, v2, v3, v4, v5, c6, c7, c8, c9, c10, c11] T (((((((w.setCell ⟨b, 0, none⟩ (v0)).setCell ⟨b, 1, none⟩ (v1)).setCell ⟨b, 2, none⟩ (v2)).setCell ⟨b, 3, none⟩ (v3)).setCell ⟨b, 4, none⟩ (v4)).setCell ⟨b, 5, none⟩ (v5))) := g5.set 5 v5
  have g7 : XS b #[v0, v1, v2, v3, v4, v5, v6, c7, c8, c9, c10, c11] T ((((((((w.setCell ⟨b, 0, none⟩ (v0)).setCell ⟨b, 1, none⟩ (v1)).setCell ⟨b, 2, none⟩ (v2)).setCell ⟨b, 3, none⟩ (v3)).setCell ⟨b, 4, none⟩ (v4)).setCell ⟨b, 5, none⟩ (v5)).setCell ⟨b, 6, none⟩ (v6))) := g6.set 6 v6
  have g8 : XS b #[v0, v1, v2, v3, v4, v5, v6, v7, c8, c9, c10, c11] T (((((((((w.setCell ⟨b, 0, none⟩ (v0)).setCell ⟨b, 1, none⟩ (v1)).setCell ⟨b, 2, none⟩ (v2)).setCell ⟨b, 3, none⟩ (v3)).setCell ⟨b, 4, none⟩ (v4)).setCell ⟨b, 5, none⟩ (v5)).setCell ⟨b, 6, none⟩ (v6)).setCell ⟨b, 7, none⟩ (v7))) := g7.set 7 v7
  have g9 : XS b #[v0, v1, v2, v3, v4, v5, v6, v7, v8, c9, c10, c11] T ((((((((((w.setCell ⟨b, 0, none⟩ (v0)).setCell ⟨b, 1, none⟩ (v1)).setCell ⟨b, 2, none⟩ (v2)).setCell ⟨b, 3, none⟩ (v3)).setCell ⟨b, 4, none⟩ (v4)).setCell ⟨b, 5, none⟩ (v5)).setCell ⟨b, 6, none⟩ (v6)).setCell ⟨b, 7, none⟩ (v7)).setCell ⟨b, 8, none⟩ (v8))) := g8.set 8 v8
  have g10 : XS b #[v0, v1, v2, v3, v4, v5, v6, v7, v8, v9, c10, c11] T (((((((((((w.setCell ⟨b, 0, none⟩ (v0)).setCell ⟨b, 1, none⟩ (v1)).setCell ⟨b, 2, none⟩ (v2)).setCell ⟨b, 3, none⟩ (v3)).setCell ⟨b, 4, none⟩ (v4)).setCell ⟨b, 5, none⟩ (v5)).setCell ⟨b, 6, none⟩ (v6)).setCell ⟨b, 7, none⟩ (v7)).setCell ⟨b, 8, none⟩ (v8)).setCell ⟨b, 9, none⟩ (v9))) := g9.set 9 v9
  have g11 : XS b #[v0, v1, v2, v3, v4, v5, v6, v7, v8, v9, v10, c11] T ((((((((((((w.setCell ⟨b, 0, none⟩ (v0)).setCell ⟨b, 1, none⟩ (v1)).setCell ⟨b, 2, none⟩ (v2)).setCell ⟨b, 3, none⟩ (v3)).setCell ⟨b, 4, none⟩ (v4)).setCell ⟨b, 5, none⟩ (v5)).setCell ⟨b, 6, none⟩ (v6)).setCell ⟨b, 7, none⟩ (v7)).setCell ⟨b, 8, none⟩ (v8)).setCell ⟨b, 9, none⟩ (v9)).setCell ⟨b, 10, none⟩ (v10))) := g10.set 10 v10
  have g12 : XS b #[v0, v1, v2, v3, v4, v5, v6, v7, v8, v9, v10, v11] T (((((((((((((w.setCell ⟨b, 0, none⟩ (v0)).setCell ⟨b, 1, none⟩ (v1)).setCell ⟨b, 2, none⟩ (v2)).setCell ⟨b, 3, none⟩ (v3)).setCell ⟨b, 4, none⟩ (v4)).setCell ⟨b, 5, none⟩ (v5)).setCell ⟨b, 6, none⟩ (v6)).setCell ⟨b, 7, none⟩ (v7)).setCell ⟨b, 8, none⟩ (v8)).setCell ⟨b, 9, none⟩ (v9)).setCell ⟨b, 10, none⟩ (v10)).setCell ⟨b, 11, none⟩ (v11))) := g11.set 11 v11
  exact ⟨_, rfl, g12, grown_trans (grown_trans (grown_trans (grown_trans (grown_trans (grown_trans (grown_trans (grown_trans (grown_trans (grown_trans (grown_trans (blk_grown _ _ _ _) (blk_grown _ _ _ _)) (blk_grown _ _ _ _)) (blk_grown _ _ _ _)) (blk_grown _ _ _ _)) (blk_grown _ _ _ _)) (blk_grown _ _ _ _)) (blk_grown _ _ _ _)) (blk_grown _ _ _ _)) (blk_grown _ _ _ _)) (blk_grown _ _ _ _)) (blk_grown _ _ _ _)⟩

set_option maxHeartbeats 4000000 in
theorem eqMessage_same (kd fr to tm ix lt cm : Int) (ok : Bool) (oa : Option Addr) (n cl : Nat) (ob : Option Addr) (m cp : Nat) (da : List UInt8) (la : Bool) (es : List EntV) (zs : List Int) (oc od : Option Addr) (cl2 cp2 : Nat) (hn20 : n ≤ 1048576) (hm20 : m ≤ 1048576) (w : World) (h1 : EntsAt w oa n cl es) (h2 : EntsAt w oc n cl2 es) (h3 : IntsAt w ob m cp zs) (h4 : IntsAt w od m cp2 zs) :
    Calls Tryd.prog 10 #[mgval kd fr to tm ix lt cm ok (.slice oa n cl) (.slice ob m cp) da la, mgval kd fr to tm ix lt cm ok (.slice oc n cl2) (.slice od m cp2) da la] w fun e w' => e = .returned (.bool true) ∧ Below w.heap.size w w' := by
  have hb0 := ((Below.refl w.heap.size w).alloc (Nat.le_refl _) (.cells #[.int .i64 kd, .int .i64 fr, .int .i64 to, .int .i64 tm, .int .i64 ix, .int .i64 lt, .int .i64 cm, .bool ok, .slice oa n cl, .slice ob m cp, .string ⟨da.toArray⟩, .bool la] 30)).alloc (by simp) (.cells #[.int .i64 kd, .int .i64 fr, .int .i64 to, .int .i64 tm, .int .i64 ix, .int .i64 lt, .int .i64 cm, .bool ok, .slice oc n cl2, .slice od m cp2, .string ⟨da.toArray⟩, .bool la] 30)
  have HE := hide (eqEntryS_same oa n cl oc cl2 es hn20 _ (h1.below hb0) (h2.below hb0))
  have HI := hide (fun w h3 h4 => eqIntS_same ob m cp od cp2 zs hm20 w h3 h4)
  have L1 := hide ((XS.new w #[.int .i64 kd, .int .i64 fr, .int .i64 to, .int .i64 tm, .int .i64 ix, .int .i64 lt, .int .i64 cm, .bool ok, .slice oa n cl, .slice ob m cp, .string ⟨da.toArray⟩, .bool la] 30).alloc (.cells #[.int .i64 kd, .int .i64 fr, .int .i64 to, .int .i64 tm, .int .i64 ix, .int .i64 lt, .int .i64 cm, .bool ok, .slice oc n cl2, .slice od m cp2, .string ⟨da.toArray⟩, .bool la] 30))
  have hL2 := XS.new (w.alloc (.cells #[.int .i64 kd, .int .i64 fr, .int .i64 to, .int .i64 tm, .int .i64 ix, .int .i64 lt, .int .i64 cm, .bool ok, .slice oa n cl, .slice ob m cp, .string ⟨da.toArray⟩, .bool la] 30)) #[.int .i64 kd, .int .i64 fr, .int .i64 to, .int .i64 tm, .int .i64 ix, .int .i64 lt, .int .i64 cm, .bool ok, .slice oc n cl2, .slice od m cp2, .string ⟨da.toArray⟩, .bool la] 30
  rw [World.size_alloc] at hL2
  have L2 := hide hL2
  have HB0 := hide hb0
  have H3 := hide (h3.below hb0)
  have H4 := hide (h4.below hb0)
  have hs : (da.toArray.toList == da.toArray.toList) = true := by simp
  clear h1 h2 h3 h4 hb0 hL2
  go_enter Tryd.func10, Tryd.ntmps10
  go_wp2_with fail
  refine HE.out.mono ?_
  rintro e w1 ⟨rfl, hb1⟩
  have HB1 := hide (HB0.out.trans (hb1.mono HB0.out.size))
  have L1b := hide (L1.out.on hb1)
  have L2b := hide (L2.out.on hb1)
  have H3b := hide (H3.out.below hb1)
  have H4b := hide (H4.out.below hb1)
  clear hb1 L1 L2 H3 H4 HB0
  obtain ⟨k0, k1, k2, k3, k4, k5, k6, k7, k8, k9, k10, k11⟩ := xs12 L1b.out
  obtain ⟨l0, l1, l2, l3, l4, l5, l6, l7, l8, l9, l10, l11⟩ := xs12 L2b.out
  go_wp2_with fail
  clear k0 k1 k2 k3 k4 k5 k6 k7 k8 k9 k10 k11 l0 l1 l2 l3 l4 l5 l6 l7 l8 l9 l10 l11
  refine (HI.out _ H3b.out H4b.out).mono ?_
  rintro e w2 ⟨rfl, hb2⟩
  have HB2 := hide (HB1.out.trans (hb2.mono HB1.out.size))
  obtain ⟨k0, k1, k2, k3, k4, k5, k6, k7, k8, k9, k10, k11⟩ := xs12 (L1b.out.on hb2)
  obtain ⟨l0, l1, l2, l3, l4, l5, l6, l7, l8, l9, l10, l11⟩ := xs12 (L2b.out.on hb2)
  clear hb2 L1b L2b
  go_wp2_with fail
  go_ret
  exact ⟨rfl, HB2.out⟩

structure MgOwn (w : World) (base : Nat) (vl vp : Value) (n m : Nat) (es : List EntV) (zs : List Int) : Prop where
  l : w.ownsRow base 45 3 vl n (es.flatMap ecells)
  p : w.ownsRow base 3 1 vp m (zs.map icell)

theorem MgOwn.ne {w : World} {base : Nat} {vl vp : Value} {n m : Nat} {es : List EntV} {zs : List Int} (h : MgOwn w base vl vp n m es zs) : ∀ k, vl.ownBlock = some k → vp.ownBlock ≠ some k := by
  intro k h1 h2
  rcases h.l.2 with ⟨e, _⟩ | ⟨g, cap, cur, e, _, hg, _⟩
  · rw [e] at h1; cases h1
  · rw [e] at h1
    cases h1
    rcases h.p.2 with ⟨e2, _⟩ | ⟨g2, cap2, cur2, e2, _, hg2, _⟩
    · rw [e2] at h2; cases h2
    · rw [e2] at h2
      cases h2
      rw [hg] at hg2
      injection hg2 with hg2
      injection hg2 with _ h5 _
      exact absurd h5 (by decide)

theorem MgOwn.on {w w' : World} {base : Nat} {vl vp : Value} {n m : Nat} {es : List EntV} {zs : List Int} (h : MgOwn w base vl vp n m es zs) (hb : Below w.heap.size w w') : MgOwn w' base vl vp n m es zs := ⟨own_below h.l hb, own_below h.p hb⟩

theorem MgOwn.down {w : World} {base base' : Nat} {vl vp : Value} {n m : Nat} {es : List EntV} {zs : List Int} (h : MgOwn w base vl vp n m es zs) (hb : base' ≤ base) : MgOwn w base' vl vp n m es zs := ⟨own_base h.l hb, own_base h.p hb⟩

theorem MgOwn.kept {w w' : World} {base : Nat} {vl vp : Value} {n m : Nat} {es : List EntV} {zs : List Int} {b : Nat} (h : MgOwn w base vl vp n m es zs) (hg : w.grownBy w' (some b)) (hlt : b < base) : MgOwn w' base vl vp n m es zs :=
  ⟨h.l.kept hg (Or.inr (fun q => by have := h.l.lt b q; omega)), h.p.kept hg (Or.inr (fun q => by have := h.p.lt b q; omega))⟩

theorem apart15 {w : World} {B : Nat} {e : TypeId} {k : Nat} {v : Value} {n : Nat} {xs : List Value} (h : w.ownsRow B e k v n xs) {g : Nat} {cs : Array Value} {e' : TypeId} {fz : Nat × Nat} (hb : w.heap[g]? = some (.cells cs e' fz)) (hne : e' ≠ e) : v.ownBlock ≠ some g := by
  intro hg
  rcases h.2 with ⟨rfl, _⟩ | ⟨g', cap, cur, rfl, _, hg', _⟩
  · cases hg
  · simp only [Value.ownBlock, Option.some.injEq] at hg
    subst hg
    rw [hg'] at hb
    cases hb
    exact hne rfl

set_option maxHeartbeats 2000000 in
theorem markMessage_keep (kd fr to tm ix lt cm : Int) (ok la : Bool) (da : List UInt8) (vl vp : Value) (n m base k : Nat) (es : List EntV) (zs : List Int) (hn20 : n ≤ 100000) (hm20 : m ≤ 1048576) (hk : k ≤ 1000) (w : World) (hbase : base ≤ w.heap.size) (ho : MgOwn w base vl vp n m es zs) :
    Calls Tryd.prog 15 #[mgval kd fr to tm ix lt cm ok vl vp da la, .int .i64 (k : Int)] w fun e w' => e = .returned (.int .i64 ((k + 3 * n + m : Nat) : Int)) ∧ MgOwn w' base vl vp n m (marksE k n) (marksI (k + 3 * n) m) ∧ Below base w w' ∧ ∀ b, b < w.heap.size → vl.ownBlock ≠ some b → vp.ownBlock ≠ some b → w'.heap[b]? = w.heap[b]? := by
  obtain ⟨oa, cl, hvl⟩ := row_form ho.l
  obtain ⟨ob, cp, hvp⟩ := row_form ho.p
  subst hvl
  subst hvp
  have HNE := hide ho.ne
  have HB0 := hide ((Below.refl w.heap.size w).alloc (Nat.le_refl _) (.cells #[.int .i64 kd, .int .i64 fr, .int .i64 to, .int .i64 tm, .int .i64 ix, .int .i64 lt, .int .i64 cm, .bool ok, .slice oa n cl, .slice ob m cp, .string ⟨da.toArray⟩, .bool la] 30))
  have HO1 := hide (ho.on HB0.out)
  have HEV := hide (XS.new w #[.int .i64 kd, .int .i64 fr, .int .i64 to, .int .i64 tm, .int .i64 ix, .int .i64 lt, .int .i64 cm, .bool ok, .slice oa n cl, .slice ob m cp, .string ⟨da.toArray⟩, .bool la] 30)
  have HM := hide (markEntryS_any _ n base k (by omega) (by omega) _ _ HO1.out.l)
  have HLE := hide (show ∀ j, (Value.slice oa n cl).ownBlock = some j → base ≤ j ∧ j < w.heap.size from fun j q => ⟨(ho.l.lt j q).1, (ho.l.lt j q).2⟩)
  have HLP := hide (show ∀ j, (Value.slice ob m cp).ownBlock = some j → base ≤ j ∧ j < w.heap.size from fun j q => ⟨(ho.p.lt j q).1, (ho.p.lt j q).2⟩)
  clear ho
  go_enter Tryd.func15, Tryd.ntmps15
  go_wp2_with fail
  refine HM.out.mono ?_
  rintro e w2 ⟨rfl, ho2, hg2⟩
  have HE2 := hide (HEV.out.kept hg2 (fun q => by have := (HLE.out _ q).2; omega))
  have HO2 := hide ho2
  have HP2 := hide (HO1.out.p.kept hg2 (by
    cases hq : (Value.slice ob m cp).ownBlock with
    | none => exact Or.inl rfl
    | some j => exact Or.inr (fun q => HNE.out j q.symm hq)))
  have HB2 := hide (((Below.refl base w).alloc hbase (.cells #[.int .i64 kd, .int .i64 fr, .int .i64 to, .int .i64 tm, .int .i64 ix, .int .i64 lt, .int .i64 cm, .bool ok, .slice oa n cl, .slice ob m cp, .string ⟨da.toArray⟩, .bool la] 30)).grown hg2 (by simp; omega) (fun j q => (HLE.out j q).1))
  have HX2 := hide (show ∀ b, b < w.heap.size → (Value.slice oa n cl).ownBlock ≠ some b → w2.heap[b]? = w.heap[b]? from fun b hb hne => (hg2.block b (by simp; omega) (fun q => hne q.symm)).trans (HB0.out.block b hb))
  clear ho2 hg2 HM
  obtain ⟨k0, k1, k2, k3, k4, k5, k6, k7, k8, k9, k10, k11⟩ := xs12 HE2.out
  go_wp2_with fail
  clear k0 k1 k2 k3 k4 k5 k6 k7 k8 k9 k10 k11
  refine (markIntS_e _ m base (k + 3 * n) hm20 (by omega) _ _ HP2.out).mono ?_
  rintro e w3 ⟨rfl, ho3, hg3⟩
  have hlt := HB2.out.size
  have hlt2 := HE2.out.lt
  have HB3 := hide (HB2.out.grown hg3 (by omega) (fun j q => (HLP.out j q).1))
  have HO3 := hide (HO2.out.kept hg3 (by
    cases hq : (Value.slice oa n cl).ownBlock with
    | none => exact Or.inl rfl
    | some j => exact Or.inr (fun q => HNE.out j hq q.symm)))
  have HX3 := hide ho3
  have HY3 := hide (show ∀ b, b < w.heap.size → (Value.slice oa n cl).ownBlock ≠ some b → (Value.slice ob m cp).ownBlock ≠ some b → w3.heap[b]? = w.heap[b]? from fun b hb h1 h2 => (hg3.block b (by omega) (fun q => h2 q.symm)).trans (HX2.out b hb h1))
  clear ho3 hg3
  go_wp2_with fail
  go_ret
  exact ⟨by go_num, ⟨HO3.out, HX3.out⟩, HB3.out, HY3.out⟩

set_option maxHeartbeats 2000000 in
theorem heldMessage_any (kd fr to tm ix lt cm : Int) (ok la : Bool) (da : List UInt8) (vl vp : Value) (n m base k : Nat) (hn20 : n ≤ 100000) (hm20 : m ≤ 1048576) (hk : k ≤ 1000) (w : World) (ho : MgOwn w base vl vp n m (marksE k n) (marksI (k + 3 * n) m)) :
    Calls Tryd.prog 16 #[mgval kd fr to tm ix lt cm ok vl vp da la, .int .i64 (k : Int)] w fun e w' => e = .returned (.int .i64 ((k + 3 * n + m : Nat) : Int)) ∧ Below w.heap.size w w' := by
  obtain ⟨oa, cl, hvl, hat⟩ := entsAt_own ho.l
  subst hvl
  obtain ⟨ob, cp, hvp, hbt⟩ := intsAt_of_own ho.p (marksI_wf _ m (by omega) hm20)
  subst hvp
  have HB0 := hide ((Below.refl w.heap.size w).alloc (Nat.le_refl _) (.cells #[.int .i64 kd, .int .i64 fr, .int .i64 to, .int .i64 tm, .int .i64 ix, .int .i64 lt, .int .i64 cm, .bool ok, .slice oa n cl, .slice ob m cp, .string ⟨da.toArray⟩, .bool la] 30))
  have HEV := hide (XS.new w #[.int .i64 kd, .int .i64 fr, .int .i64 to, .int .i64 tm, .int .i64 ix, .int .i64 lt, .int .i64 cm, .bool ok, .slice oa n cl, .slice ob m cp, .string ⟨da.toArray⟩, .bool la] 30)
  have HH := hide (heldEntryS_any oa n cl k (by omega) (by omega) _ (hat.below HB0.out))
  have HBT := hide (hbt.below HB0.out)
  have HI := hide (fun w h => heldIntS_own ob m cp (k + 3 * n) hm20 (by omega) w h)
  have g1 : ¬ ((k + 3 * n : Nat) : Int) < 0 := by omega
  have g2 : ¬ ((k + 3 * n + m : Nat) : Int) < 0 := by omega
  clear hat hbt ho
  go_enter Tryd.func16, Tryd.ntmps16
  go_wp2_with fail
  refine HH.out.mono ?_
  rintro e w1 ⟨rfl, hb1⟩
  have HB1 := hide (HB0.out.trans (hb1.mono HB0.out.size))
  obtain ⟨k0, k1, k2, k3, k4, k5, k6, k7, k8, k9, k10, k11⟩ := xs12 (HEV.out.on hb1)
  have HBT1 := hide (HBT.out.below hb1)
  clear hb1 HEV HBT HB0
  go_wp2_with fail
  clear k0 k1 k2 k3 k4 k5 k6 k7 k8 k9 k10 k11
  refine (HI.out _ HBT1.out).mono ?_
  rintro e w2 ⟨rfl, hb2⟩
  have HB2 := hide (HB1.out.trans (hb2.mono HB1.out.size))
  clear hb2
  go_wp2_with fail
  go_ret
  exact ⟨by go_num, HB2.out⟩

end Go.Proofs.YtmllcomppjkhhaaDoor
