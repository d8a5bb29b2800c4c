/-
  Walks and mathematics of NodeA.
-/
import Derived.Test.YtoalbeiinlcgpaaMLog3
import Derived.Test.YtoalbeiinlcgpaaMLit15
import Derived.Test.YtoalbeiinlcgpaaMNode1
import Derived.Deep.Cut
import Derived.Test.YtoalbeiinlcgpaaMBox
namespace Go.Proofs.Ytoalbeiinlcgpaa.P11
end Go.Proofs.Ytoalbeiinlcgpaa.P11
namespace Go.Proofs.Ytoalbeiinlcgpaa.P18
end Go.Proofs.Ytoalbeiinlcgpaa.P18
namespace Go.Proofs.Ytoalbeiinlcgpaa.P3
end Go.Proofs.Ytoalbeiinlcgpaa.P3
namespace Go.Proofs.Ytoalbeiinlcgpaa
open Go.RowKit P1 P3 P9 P11 P12 P18 K
set_option linter.unusedVariables false
set_option linter.unusedSimpArgs false

structure NdS where
  oc : Option Addr
  cc : Nat
  oe : Option Addr
  ce : Nat
  ov : Option Addr
  cv : Nat
  op : Option Addr
  cp : Nat

abbrev ndC (x : NdV) (S : NdS) : Array Value := #[.int .i64 x.id, .int .i64 x.tm, .int .i64 x.vt, .int .i64 x.ro, .int .i64 x.ld, .slice S.oc x.cf.length S.cc, .int .i64 x.s, .int .i64 x.u, .slice S.oe x.es.length S.ce, .int .i64 x.cm, .int .i64 x.ck, .int .i64 x.lm, .slice S.ov x.vs.length S.cv, .slice S.op x.ps.length S.cp]

abbrev ndval (x : NdV) (S : NdS) : Value := .agg #[.int .i64 x.id, .int .i64 x.tm, .int .i64 x.vt, .int .i64 x.ro, .int .i64 x.ld, .slice S.oc x.cf.length S.cc, .int .i64 x.s, .int .i64 x.u, .slice S.oe x.es.length S.ce, .int .i64 x.cm, .int .i64 x.ck, .int .i64 x.lm, .slice S.ov x.vs.length S.cv, .slice S.op x.ps.length S.cp]

structure NdAt (w : World) (x : NdV) (S : NdS) : Prop where
  c : IntsAt w S.oc x.cf.length S.cc x.cf
  e : EntsAt w S.oe x.es.length S.ce x.es
  v : IntsAt w S.ov x.vs.length S.cv x.vs
  p : PeersAt w S.op x.ps.length S.cp x.ps

theorem NdAt.below {w w' : World} {x : NdV} {S : NdS} (h : NdAt w x S) (hb : Below w.heap.size w w') : NdAt w' x S := ⟨h.c.below hb, h.e.below hb, h.v.below hb, h.p.below hb⟩

theorem xs14 {h : Nat} {x : NdV} {S : NdS} {T : TypeId} {w : World} (k : XS h (ndC x S) T w) : w.cell? ⟨h, 0, none⟩ = some (.int .i64 x.id) ∧ w.cell? ⟨h, 1, none⟩ = some (.int .i64 x.tm) ∧ w.cell? ⟨h, 2, none⟩ = some (.int .i64 x.vt) ∧ w.cell? ⟨h, 3, none⟩ = some (.int .i64 x.ro) ∧ w.cell? ⟨h, 4, none⟩ = some (.int .i64 x.ld) ∧ w.cell? ⟨h, 5, none⟩ = some (.slice S.oc x.cf.length S.cc) ∧ w.cell? ⟨h, 6, none⟩ = some (.int .i64 x.s) ∧ w.cell? ⟨h, 7, none⟩ = some (.int .i64 x.u) ∧ w.cell? ⟨h, 8, none⟩ = some (.slice S.oe x.es.length S.ce) ∧ w.cell? ⟨h, 9, none⟩ = some (.int .i64 x.cm) ∧ w.cell? ⟨h, 10, none⟩ = some (.int .i64 x.ck) ∧ w.cell? ⟨h, 11, none⟩ = some (.int .i64 x.lm) ∧ w.cell? ⟨h, 12, none⟩ = some (.slice S.ov x.vs.length S.cv) ∧ w.cell? ⟨h, 13, none⟩ = some (.slice S.op x.ps.length S.cp) :=
  ⟨k.cell 0 rfl, k.cell 1 rfl, k.cell 2 rfl, k.cell 3 rfl, k.cell 4 rfl, k.cell 5 rfl, k.cell 6 rfl, k.cell 7 rfl, k.cell 8 rfl, k.cell 9 rfl, k.cell 10 rfl, k.cell 11 rfl, k.cell 12 rfl, k.cell 13 rfl⟩

theorem setA14 (c0 c1 c2 c3 c4 c5 c6 c7 c8 c9 c10 c11 c12 c13 v0 v1 v2 v3 v4 v5 v6 v7 v8 v9 v10 v11 v12 v13 : Value) : setArr #[c0, c1, c2, c3, c4, c5, c6, c7, c8, c9, c10, c11, c12, c13] 0 [v0, v1, v2, v3, v4, v5, v6, v7, v8, v9, v10, v11, v12, v13] = #[v0, v1, v2, v3, v4, v5, v6, v7, v8, v9, v10, v11, v12, v13] := by
  simp only [setArr, List.setIfInBounds_toArray, List.set_cons_zero, List.set_cons_succ]

theorem sets14 {h : Nat} {c0 c1 c2 c3 c4 c5 c6 c7 c8 c9 c10 c11 c12 c13 : Value} {T : TypeId} {w : World} (k : XS h #[c0, c1, c2, c3, c4, c5, c6, c7, c8, c9, c10, c11, c12, c13] T w) (v0 v1 v2 v3 v4 v5 v6 v7 v8 v9 v10 v11 v12 v13 : Value) : ∃ W', ((((((((((((((w.setCell ⟨h, 0, none⟩ v0).setCell ⟨h, 1, none⟩ v1).setCell ⟨h, 2, none⟩ v2).setCell ⟨h, 3, none⟩ v3).setCell ⟨h, 4, none⟩ v4).setCell ⟨h, 5, none⟩ v5).setCell ⟨h, 6, none⟩ v6).setCell ⟨h, 7, none⟩ v7).setCell ⟨h, 8, none⟩ v8).setCell ⟨h, 9, none⟩ v9).setCell ⟨h, 10, none⟩ v10).setCell ⟨h, 11, none⟩ v11).setCell ⟨h, 12, none⟩ v12).setCell ⟨h, 13, none⟩ v13) = W' ∧ XS h #[v0, v1, v2, v3, v4, v5, v6, v7, v8, v9, v10, v11, v12, v13] T W' ∧ w.grownBy W' (some h) := by
  obtain ⟨hx, hg⟩ := blk_setAll [v0, v1, v2, v3, v4, v5, v6, v7, v8, v9, v10, v11, v12, v13] w #[c0, c1, c2, c3, c4, c5, c6, c7, c8, c9, c10, c11, c12, c13] 0 k
  rw [setA14] at hx
  refine ⟨_, ?_, hx, hg⟩
  simp only [World.setCells, Nat.zero_add, Nat.reduceAdd]

structure NdOwn (w : World) (base : Nat) (x : NdV) (S : NdS) : Prop where
  c : w.ownsRow base 3 1 (.slice S.oc x.cf.length S.cc) x.cf.length (x.cf.map icell)
  e : w.ownsRow base 75 3 (.slice S.oe x.es.length S.ce) x.es.length (x.es.flatMap ecells)
  v : w.ownsRow base 3 1 (.slice S.ov x.vs.length S.cv) x.vs.length (x.vs.map icell)
  p : w.ownsRow base 60 4 (.slice S.op x.ps.length S.cp) x.ps.length (x.ps.flatMap pcells)
  cv : ∀ k, (Value.slice S.oc x.cf.length S.cc).ownBlock = some k → (Value.slice S.ov x.vs.length S.cv).ownBlock ≠ some k

theorem NdOwn.on {w w' : World} {base : Nat} {x : NdV} {S : NdS} (h : NdOwn w base x S) (hb : Below w.heap.size w w') : NdOwn w' base x S := ⟨own_below h.c hb, own_below h.e hb, own_below h.v hb, own_below h.p hb, h.cv⟩

theorem NdOwn.down {w : World} {base base' : Nat} {x : NdV} {S : NdS} (h : NdOwn w base x S) (hb : base' ≤ base) : NdOwn w base' x S := ⟨own_base h.c hb, own_base h.e hb, own_base h.v hb, own_base h.p hb, h.cv⟩

theorem NdOwn.at_ {w : World} {base : Nat} {x : NdV} {S : NdS} (h : NdOwn w base x S) (hc : ∀ z ∈ x.cf, (Lit.int .i64 z).wf = true) (hv : ∀ z ∈ x.vs, (Lit.int .i64 z).wf = true) : NdAt w x S := by
  obtain ⟨_, _, e1, h1⟩ := intsAt_of_own h.c hc
  cases e1
  obtain ⟨_, _, e2, h2⟩ := entsAt_own h.e
  cases e2
  obtain ⟨_, _, e3, h3⟩ := intsAt_of_own h.v hv
  cases e3
  obtain ⟨_, _, e4, h4⟩ := peersAt_own h.p
  cases e4
  exact ⟨h1, h2, h3, h4⟩

set_option maxHeartbeats 8000000 in
theorem eqNode_same (x : NdV) (S S2 : NdS) (hc20 : x.cf.length ≤ 1048576) (he20 : x.es.length ≤ 1048576) (hv20 : x.vs.length ≤ 1048576) (hp20 : x.ps.length ≤ 1048576) (w : World) (h1 : NdAt w x S) (h2 : NdAt w x S2) :
    Calls Try.prog 10 #[ndval x S, ndval x S2] w fun e w' => e = .returned (.bool true) ∧ Below w.heap.size w w' := by
  have hb0 := ((Below.refl w.heap.size w).alloc (Nat.le_refl _) (.cells (ndC x S) 36)).alloc (by simp) (.cells (ndC x S2) 36)
  have HE0 := hide (eqIntS_same S.oc x.cf.length S.cc S2.oc S2.cc x.cf hc20 _ (h1.c.below hb0) (h2.c.below hb0))
  have HE1 := hide (fun w a b => eqLog_same x.s x.u S.oe x.es.length S.ce S2.oe S2.ce x.es he20 w a b)
  have HE2 := hide (fun w a b => eqIntS_same S.ov x.vs.length S.cv S2.ov S2.cv x.vs hv20 w a b)
  have HE3 := hide (fun w a b => eqPeerS_same S.op x.ps.length S.cp S2.op S2.cp x.ps hp20 w a b)
  have L0 := hide ((XS.new w (ndC x S) 36).alloc (.cells (ndC x S2) 36))
  have hL2 := XS.new (w.alloc (.cells (ndC x S) 36)) (ndC x S2) 36
  rw [World.size_alloc] at hL2
  have M0 := hide hL2
  have HB0 := hide hb0
  have H1 := hide h1
  have H2 := hide h2
  clear h1 h2 hb0 hL2
  go_enter Try.func10, Try.ntmps10
  go_wp2_with fail
  refine HE0.out.mono ?_
  rintro e w1 ⟨rfl, hb1⟩
  have HB1 := hide (HB0.out.trans (hb1.mono HB0.out.size))
  have L1 := hide (L0.out.on hb1)
  have M1 := hide (M0.out.on hb1)
  clear hb1 L0 M0
  obtain ⟨k0, k1, k2, k3, k4, k5, k6, k7, k8, k9, k10, k11, k12, k13⟩ := xs14 L1.out
  obtain ⟨l0, l1, l2, l3, l4, l5, l6, l7, l8, l9, l10, l11, l12, l13⟩ := xs14 M1.out
  go_wp2_with fail
  refine (HE1.out _ (H1.out.e.below HB1.out) (H2.out.e.below HB1.out)).mono ?_
  rintro e w2 ⟨rfl, hb2⟩
  have HB2 := hide (HB1.out.trans (hb2.mono HB1.out.size))
  have L2 := hide (L1.out.on hb2)
  have M2 := hide (M1.out.on hb2)
  clear hb2 L1 M1 k0 k1 k2 k3 k4 k5 k6 k7 k8 k9 k10 k11 k12 k13 l0 l1 l2 l3 l4 l5 l6 l7 l8 l9 l10 l11 l12 l13
  obtain ⟨k0, k1, k2, k3, k4, k5, k6, k7, k8, k9, k10, k11, k12, k13⟩ := xs14 L2.out
  obtain ⟨l0, l1, l2, l3, l4, l5, l6, l7, l8, l9, l10, l11, l12, l13⟩ := xs14 M2.out
  go_wp2_with fail
  refine (HE2.out _ (H1.out.v.below HB2.out) (H2.out.v.below HB2.out)).mono ?_
  rintro e w3 ⟨rfl, hb3⟩
  have HB3 := hide (HB2.out.trans (hb3.mono HB2.out.size))
  have L3 := hide (L2.out.on hb3)
  have M3 := hide (M2.out.on hb3)
  clear hb3 L2 M2 k0 k1 k2 k3 k4 k5 k6 k7 k8 k9 k10 k11 k12 k13 l0 l1 l2 l3 l4 l5 l6 l7 l8 l9 l10 l11 l12 l13
  obtain ⟨k0, k1, k2, k3, k4, k5, k6, k7, k8, k9, k10, k11, k12, k13⟩ := xs14 L3.out
  obtain ⟨l0, l1, l2, l3, l4, l5, l6, l7, l8, l9, l10, l11, l12, l13⟩ := xs14 M3.out
  go_wp2_with fail
  refine (HE3.out _ (H1.out.p.below HB3.out) (H2.out.p.below HB3.out)).mono ?_
  rintro e w4 ⟨rfl, hb4⟩
  have HB4 := hide (HB3.out.trans (hb4.mono HB3.out.size))
  have L4 := hide (L3.out.on hb4)
  have M4 := hide (M3.out.on hb4)
  clear hb4 L3 M3 k0 k1 k2 k3 k4 k5 k6 k7 k8 k9 k10 k11 k12 k13 l0 l1 l2 l3 l4 l5 l6 l7 l8 l9 l10 l11 l12 l13
  go_wp2_with fail
  go_ret
  exact ⟨rfl, HB4.out⟩

theorem own_keptNe {w w' : World} {b2 : Nat} {e2 : TypeId} {k2 n2 : Nat} {v1 v2 : Value} {xs2 : List Value} (h2 : w.ownsRow b2 e2 k2 v2 n2 xs2) (hg : w.grownBy w' v1.ownBlock) (hne : ∀ k, v1.ownBlock = some k → v2.ownBlock ≠ some k) : w'.ownsRow b2 e2 k2 v2 n2 xs2 :=
  h2.kept hg (by
    cases hq : v2.ownBlock with
    | none => exact Or.inl rfl
    | some j => exact Or.inr (fun q => hne j q.symm hq))

theorem own_apart {w : World} {b1 b2 : Nat} {e1 e2 : TypeId} {k1 k2 n1 n2 : Nat} {v1 v2 : Value} {xs1 xs2 : List Value} (h1 : w.ownsRow b1 e1 k1 v1 n1 xs1) (h2 : w.ownsRow b2 e2 k2 v2 n2 xs2) (hne : e1 ≠ e2) : ∀ k, v1.ownBlock = some k → v2.ownBlock ≠ some k := by
  intro k q1 q2
  rcases h1.2 with ⟨e, _⟩ | ⟨g, cap, cur, e, _, hg, _⟩
  · rw [e] at q1; cases q1
  · rw [e] at q1
    cases q1
    rcases h2.2 with ⟨e2, _⟩ | ⟨g2, cap2, cur2, e2, _, hg2, _⟩
    · rw [e2] at q2; cases q2
    · rw [e2] at q2
      cases q2
      rw [hg] at hg2
      injection hg2 with hg2
      injection hg2 with _ h5 _
      exact hne h5

structure NdMk (w : World) (base k : Nat) (x : NdV) (S : NdS) : Prop where
  c : w.ownsRow base 3 1 (.slice S.oc x.cf.length S.cc) x.cf.length ((marksI k x.cf.length).map icell)
  e : w.ownsRow base 75 3 (.slice S.oe x.es.length S.ce) x.es.length ((marksE (k + x.cf.length) x.es.length).flatMap ecells)
  v : w.ownsRow base 3 1 (.slice S.ov x.vs.length S.cv) x.vs.length ((marksI (k + x.cf.length + 3 * x.es.length) x.vs.length).map icell)
  p : w.ownsRow base 60 4 (.slice S.op x.ps.length S.cp) x.ps.length ((marksPr (k + x.cf.length + 3 * x.es.length + x.vs.length) x.ps.length).flatMap pcells)

theorem NdMk.on {w w' : World} {base k : Nat} {x : NdV} {S : NdS} (h : NdMk w base k x S) (hb : Below w.heap.size w w') : NdMk w' base k x S := ⟨own_below h.c hb, own_below h.e hb, own_below h.v hb, own_below h.p hb⟩

set_option maxHeartbeats 8000000 in
theorem heldNode_any (x : NdV) (S : NdS) (base k : Nat) (hc : x.cf.length ≤ 100000) (he : x.es.length ≤ 100000) (hv : x.vs.length ≤ 100000) (hp : x.ps.length ≤ 100000) (hk : k ≤ 1000) (w : World) (ho : NdMk w base k x S) :
    Calls Try.prog 17 #[ndval x S, .int .i64 (k : Int)] w fun e w' => e = .returned (.int .i64 ((k + x.cf.length + 3 * x.es.length + x.vs.length + 4 * x.ps.length : Nat) : Int)) ∧ Below w.heap.size w w' := by
  have hb0 := (Below.refl w.heap.size w).alloc (Nat.le_refl _) (.cells (ndC x S) 36)
  have HX0 := hide (XS.new w (ndC x S) 36)
  obtain ⟨_, _, e1, hc1⟩ := intsAt_of_own ho.c (marksI_wf _ _ (by omega) (by omega))
  cases e1
  obtain ⟨_, _, e1, he1⟩ := entsAt_own ho.e
  cases e1
  obtain ⟨_, _, e1, hv1⟩ := intsAt_of_own ho.v (marksI_wf _ _ (by omega) (by omega))
  cases e1
  obtain ⟨_, _, e1, hp1⟩ := peersAt_own ho.p
  cases e1
  have H0 := hide (heldIntS_own S.oc x.cf.length S.cc k (by omega) (by omega) _ (hc1.below hb0))
  have H1 := hide (fun w h => heldLog_any x.s x.u S.oe x.es.length S.ce (k + x.cf.length) (by omega) (by omega) w h)
  have H2 := hide (fun w h => heldIntS_own S.ov x.vs.length S.cv (k + x.cf.length + 3 * x.es.length) (by omega) (by omega) w h)
  have H3 := hide (fun w h => heldPeerS_any S.op x.ps.length S.cp (k + x.cf.length + 3 * x.es.length + x.vs.length) (by omega) (by omega) w h)
  have HE := hide he1
  have HV := hide hv1
  have HP := hide hp1
  have HB0 := hide hb0
  have g1 : ¬ ((k + x.cf.length : Nat) : Int) < 0 := by omega
  have g2 : ¬ ((k + x.cf.length + 3 * x.es.length : Nat) : Int) < 0 := by omega
  have g3 : ¬ ((k + x.cf.length + 3 * x.es.length + x.vs.length : Nat) : Int) < 0 := by omega
  have g4 : ¬ ((k + x.cf.length + 3 * x.es.length + x.vs.length + 4 * x.ps.length : Nat) : Int) < 0 := by omega
  clear ho hc1 he1 hv1 hp1 hb0
  go_enter Try.func17, Try.ntmps17
  go_wp2_with fail
  refine H0.out.mono ?_
  rintro e w1 ⟨rfl, hb1⟩
  have HB1 := hide (HB0.out.trans (hb1.mono HB0.out.size))
  have HX1 := hide (HX0.out.on hb1)
  obtain ⟨k0, k1, k2, k3, k4, k5, k6, k7, k8, k9, k10, k11, k12, k13⟩ := xs14 HX1.out
  clear hb1 HX0
  go_wp2_with fail
  refine (H1.out _ (HE.out.below HB1.out)).mono ?_
  rintro e w2 ⟨rfl, hb2⟩
  have HB2 := hide (HB1.out.trans (hb2.mono HB1.out.size))
  have HX2 := hide (HX1.out.on hb2)
  clear k0 k1 k2 k3 k4 k5 k6 k7 k8 k9 k10 k11 k12 k13
  obtain ⟨k0, k1, k2, k3, k4, k5, k6, k7, k8, k9, k10, k11, k12, k13⟩ := xs14 HX2.out
  clear hb2 HX1
  go_wp2_with fail
  refine (H2.out _ (HV.out.below HB2.out)).mono ?_
  rintro e w3 ⟨rfl, hb3⟩
  have HB3 := hide (HB2.out.trans (hb3.mono HB2.out.size))
  have HX3 := hide (HX2.out.on hb3)
  clear k0 k1 k2 k3 k4 k5 k6 k7 k8 k9 k10 k11 k12 k13
  obtain ⟨k0, k1, k2, k3, k4, k5, k6, k7, k8, k9, k10, k11, k12, k13⟩ := xs14 HX3.out
  clear hb3 HX2
  go_wp2_with fail
  refine (H3.out _ (HP.out.below HB3.out)).mono ?_
  rintro e w4 ⟨rfl, hb4⟩
  have HB4 := hide (HB3.out.trans (hb4.mono HB3.out.size))
  clear hb4 k0 k1 k2 k3 k4 k5 k6 k7 k8 k9 k10 k11 k12 k13
  go_wp2_with fail
  go_ret
  exact ⟨by go_num, HB4.out⟩

end Go.Proofs.Ytoalbeiinlcgpaa
