/-
  Walks and mathematics of NodeA.
-/
import Derived.Test.YtoalbeiinlcgpaaKLog3
import Derived.Test.YtoalbeiinlcgpaaKLit15
import Derived.Test.YtoalbeiinlcgpaaKNode1
import Derived.Deep.Cut
import Derived.Test.YtoalbeiinlcgpaaKBox
namespace Go.Proofs.Ytoalbeiinlcgpaa.P11
end Go.Proofs.Ytoalbeiinlcgpaa.P11
namespace Go.Proofs.Ytoalbeiinlcgpaa.P18
end Go.Proofs.Ytoalbeiinlcgpaa.P18
namespace Go.Proofs.Ytoalbeiinlcgpaa.P3
end Go.Proofs.Ytoalbeiinlcgpaa.P3
namespace Go.Proofs.Ytoalbeiinlcgpaa
open Go.RowKit P1 P3 P9 P11 P12 P18 K
set_option linter.unusedVariables false
set_option linter.unusedSimpArgs false

structure NdS where
  oc : Option Addr
  cc : Nat
  oe : Option Addr
  ce : Nat
  ov : Option Addr
  cv : Nat
  op : Option Addr
  cp : Nat

abbrev ndC (x : NdV) (S : NdS) : Array Value := #[.int .i64 x.id, .int .i64 x.tm, .int .i64 x.vt, .int .i64 x.ro, .int .i64 x.ld, .slice S.oc x.cf.length S.cc, .int .i64 x.s, .int .i64 x.u, .slice S.oe x.es.length S.ce, .int .i64 x.cm, .int .i64 x.ck, .int .i64 x.lm, .slice S.ov x.vs.length S.cv, .slice S.op x.ps.length S.cp]

abbrev ndval (x : NdV) (S : NdS) : Value := .agg #[.int .i64 x.id, .int .i64 x.tm, .int .i64 x.vt, .int .i64 x.ro, .int .i64 x.ld, .slice S.oc x.cf.length S.cc, .int .i64 x.s, .int .i64 x.u, .slice S.oe x.es.length S.ce, .int .i64 x.cm, .int .i64 x.ck, .int .i64 x.lm, .slice S.ov x.vs.length S.cv, .slice S.op x.ps.length S.cp]

structure NdAt (w : World) (x : NdV) (S : NdS) : Prop where
  c : IntsAt w S.oc x.cf.length S.cc x.cf
  e : EntsAt w S.oe x.es.length S.ce x.es
  v : IntsAt w S.ov x.vs.length S.cv x.vs
  p : PeersAt w S.op x.ps.length S.cp x.ps

theorem NdAt.below {w w' : World} {x : NdV} {S : NdS} (h : NdAt w x S) (hb : Below w.heap.size w w') : NdAt w' x S := ⟨h.c.below hb, h.e.below hb, h.v.below hb, h.p.below hb⟩

theorem xs14 {h : Nat} {x : NdV} {S : NdS} {T : TypeId} {w : World} (k : XS h (ndC x S) T w) : w.cell? ⟨h, 0, none⟩ = some (.int .i64 x.id) ∧ w.cell? ⟨h, 1, none⟩ = some (.int .i64 x.tm) ∧ w.cell? ⟨h, 2, none⟩ = some (.int .i64 x.vt) ∧ w.cell? ⟨h, 3, none⟩ = some (.int .i64 x.ro) ∧ w.cell? ⟨h, 4, none⟩ = some (.int .i64 x.ld) ∧ w.cell? ⟨h, 5, none⟩ = some (.slice S.oc x.cf.length S.cc) ∧ w.cell? ⟨h, 6, none⟩ = some (.int .i64 x.s) ∧ w.cell? ⟨h, 7, none⟩ = some (.int .i64 x.u) ∧ w.cell? ⟨h, 8, none⟩ = some (.slice S.oe x.es.length S.ce) ∧ w.cell? ⟨h, 9, none⟩ = some (.int .i64 x.cm) ∧ w.cell? ⟨h, 10, none⟩ = some (.int .i64 x.ck) ∧ w.cell? ⟨h, 11, none⟩ = some (.int .i64 x.lm) ∧ w.cell? ⟨h, 12, none⟩ = some (.slice S.ov x.vs.length S.cv) ∧ w.cell? ⟨h, 13, none⟩ = some (.slice S.op x.ps.length S.cp) :=
  ⟨k.cell 0 rfl, k.cell 1 rfl, k.cell 2 rfl, k.cell 3 rfl, k.cell 4 rfl, k.cell 5 rfl, k.cell 6 rfl, k.cell 7 rfl, k.cell 8 rfl, k.cell 9 rfl, k.cell 10 rfl, k.cell 11 rfl, k.cell 12 rfl, k.cell 13 rfl⟩

def szNd (x : NdV) (l : Int) : Int :=
  if l - x.cf.length < 0 then -1 else if szEs x.es (l - x.cf.length) < 0 then -1 else
  if szEs x.es (l - x.cf.length) - x.vs.length < 0 then -1 else if szEs x.es (l - x.cf.length) - x.vs.length - x.ps.length < 0 then -1 else szEs x.es (l - x.cf.length) - x.vs.length - x.ps.length

theorem szNd_fine {x : NdV} (h : ¬ szNd x 1048576 < 0) : x.cf.length ≤ 1048576 ∧ x.es.length ≤ 1048576 ∧ (∀ f ∈ x.es, f.data.size ≤ 1048576) ∧ x.vs.length ≤ 1048576 ∧ x.ps.length ≤ 1048576 := by
  unfold szNd at h
  split at h
  · omega
  · rename_i c0
    split at h
    · omega
    · rename_i c
      obtain ⟨h1, h2, h3⟩ := szEs_fine (by omega) (by omega) (szEs_ge c)
      split at h
      · omega
      · split at h
        · omega
        · exact ⟨by omega, h2, h3, by omega, by omega⟩

set_option maxHeartbeats 4000000 in
theorem szNode_any (x : NdV) (S : NdS) (left : Int) (h0 : 0 ≤ left) (h1 : left ≤ 1048576) (w : World) (hat : NdAt w x S) (hw : ∀ f ∈ x.es, EntWide f) :
    Calls Try.prog 6 #[ndval x S, .int .i64 left] w fun e w' => e = .returned (.int .i64 (szNd x left)) ∧ Below w.heap.size w w' := by
  have hb0 := (Below.refl w.heap.size w).alloc (Nat.le_refl _) (.cells (ndC x S) 28)
  have HX0 := hide (XS.new w (ndC x S) 28)
  have HB0 := hide hb0
  have mC := Nat.le_trans hat.c.room hat.c.most
  have mV := Nat.le_trans hat.v.room hat.v.most
  have mP := Nat.le_trans hat.p.room hat.p.most
  have HIC := hide (szIntS_any S.oc x.cf.length S.cc mC left h0 h1)
  have HIV := hide (szIntS_any S.ov x.vs.length S.cv mV)
  have HIP := hide (szPeerS_any S.op x.ps.length S.cp mP)
  have HEA := hide (hat.e.below hb0)
  have HW := hide hw
  unfold maxLen at mC mV mP
  unfold szNd
  clear hat hw hb0
  have HI0 := HIC.out
  by_cases c0 : left - x.cf.length < 0
  · rw [if_pos c0]
    simp only [if_pos c0] at HI0
    replace HI0 := hide HI0
    go_enter Try.func6, Try.ntmps6
    go_wp2_with fail
    refine (HI0.out _).mono ?_
    rintro e w1 ⟨rfl, rfl⟩
    go_wp2_with fail
    go_ret
    exact ⟨rfl, HB0.out⟩
  · rw [if_neg c0]
    simp only [if_neg c0] at HI0
    replace HI0 := hide HI0
    have HE0 := szLog_any x.s x.u S.oe x.es.length S.ce x.es _ HEA.out HW.out (left - x.cf.length) (by omega) (by omega)
    have hf := fun h => szEs_fine (es := x.es) (left := left - x.cf.length) (by omega) (by omega) h
    generalize szEs x.es (left - x.cf.length) = z at HE0 hf ⊢
    by_cases c1 : z < 0
    · rw [if_pos c1]
      simp only [if_pos c1] at HE0
      have HE1 := hide HE0
      clear HE0 hf
      go_enter Try.func6, Try.ntmps6
      go_wp2_with fail
      refine (HI0.out _).mono ?_
      rintro e w1 ⟨rfl, rfl⟩
      go_wp2_with fail
      refine HE1.out.mono ?_
      rintro e w2 ⟨rfl, hb2⟩
      have HB2 := hide (HB0.out.trans (hb2.mono HB0.out.size))
      obtain ⟨k0, k1, k2, k3, k4, k5, k6, k7, k8, k9, k10, k11, k12, k13⟩ := xs14 (HX0.out.on hb2)
      clear hb2
      go_wp2_with fail
      go_ret
      exact ⟨rfl, HB2.out⟩
    · rw [if_neg c1]
      simp only [if_neg c1] at HE0
      have HE1 := hide HE0
      have hz := (hf (by omega)).1
      have HI1 := HIV.out z (by omega) (by omega)
      clear HE0 hf
      by_cases c2 : z - x.vs.length < 0
      · rw [if_pos c2]
        simp only [if_pos c2] at HI1
        have HI2 := hide HI1
        clear HI1
        go_enter Try.func6, Try.ntmps6
        go_wp2_with fail
        refine (HI0.out _).mono ?_
        rintro e w1 ⟨rfl, rfl⟩
        go_wp2_with fail
        refine HE1.out.mono ?_
        rintro e w2 ⟨rfl, hb2⟩
        have HB2 := hide (HB0.out.trans (hb2.mono HB0.out.size))
        obtain ⟨k0, k1, k2, k3, k4, k5, k6, k7, k8, k9, k10, k11, k12, k13⟩ := xs14 (HX0.out.on hb2)
        clear hb2
        go_wp2_with fail
        refine (HI2.out _).mono ?_
        rintro e w3 ⟨rfl, rfl⟩
        go_wp2_with fail
        go_ret
        exact ⟨rfl, HB2.out⟩
      · rw [if_neg c2]
        simp only [if_neg c2] at HI1
        have HI2 := hide HI1
        have HP1 := HIP.out (z - x.vs.length) (by omega) (by omega)
        clear HI1
        by_cases c3 : z - x.vs.length - x.ps.length < 0
        · rw [if_pos c3]
          simp only [if_pos c3] at HP1
          have HI3 := hide HP1
          clear HP1
          go_enter Try.func6, Try.ntmps6
          go_wp2_with fail
          refine (HI0.out _).mono ?_
          rintro e w1 ⟨rfl, rfl⟩
          go_wp2_with fail
          refine HE1.out.mono ?_
          rintro e w2 ⟨rfl, hb2⟩
          have HB2 := hide (HB0.out.trans (hb2.mono HB0.out.size))
          obtain ⟨k0, k1, k2, k3, k4, k5, k6, k7, k8, k9, k10, k11, k12, k13⟩ := xs14 (HX0.out.on hb2)
          clear hb2
          go_wp2_with fail
          refine (HI2.out _).mono ?_
          rintro e w3 ⟨rfl, rfl⟩
          go_wp2_with fail
          refine (HI3.out _).mono ?_
          rintro e w4 ⟨rfl, rfl⟩
          go_wp2_with fail
          go_ret
          exact ⟨rfl, HB2.out⟩
        · rw [if_neg c3]
          simp only [if_neg c3] at HP1
          have HI3 := hide HP1
          clear HP1
          go_enter Try.func6, Try.ntmps6
          go_wp2_with fail
          refine (HI0.out _).mono ?_
          rintro e w1 ⟨rfl, rfl⟩
          go_wp2_with fail
          refine HE1.out.mono ?_
          rintro e w2 ⟨rfl, hb2⟩
          have HB2 := hide (HB0.out.trans (hb2.mono HB0.out.size))
          obtain ⟨k0, k1, k2, k3, k4, k5, k6, k7, k8, k9, k10, k11, k12, k13⟩ := xs14 (HX0.out.on hb2)
          clear hb2
          go_wp2_with fail
          refine (HI2.out _).mono ?_
          rintro e w3 ⟨rfl, rfl⟩
          go_wp2_with fail
          refine (HI3.out _).mono ?_
          rintro e w4 ⟨rfl, rfl⟩
          go_wp2_with fail
          go_ret
          exact ⟨rfl, HB2.out⟩

theorem setA14 (c0 c1 c2 c3 c4 c5 c6 c7 c8 c9 c10 c11 c12 c13 v0 v1 v2 v3 v4 v5 v6 v7 v8 v9 v10 v11 v12 v13 : Value) : setArr #[c0, c1, c2, c3, c4, c5, c6, c7, c8, c9, c10, c11, c12, c13] 0 [v0, v1, v2, v3, v4, v5, v6, v7, v8, v9, v10, v11, v12, v13] = #[v0, v1, v2, v3, v4, v5, v6, v7, v8, v9, v10, v11, v12, v13] := by
  simp only [setArr, List.setIfInBounds_toArray, List.set_cons_zero, List.set_cons_succ]

theorem sets14 {h : Nat} {c0 c1 c2 c3 c4 c5 c6 c7 c8 c9 c10 c11 c12 c13 : Value} {T : TypeId} {w : World} (k : XS h #[c0, c1, c2, c3, c4, c5, c6, c7, c8, c9, c10, c11, c12, c13] T w) (v0 v1 v2 v3 v4 v5 v6 v7 v8 v9 v10 v11 v12 v13 : Value) : ∃ W', ((((((((((((((w.setCell ⟨h, 0, none⟩ v0).setCell ⟨h, 1, none⟩ v1).setCell ⟨h, 2, none⟩ v2).setCell ⟨h, 3, none⟩ v3).setCell ⟨h, 4, none⟩ v4).setCell ⟨h, 5, none⟩ v5).setCell ⟨h, 6, none⟩ v6).setCell ⟨h, 7, none⟩ v7).setCell ⟨h, 8, none⟩ v8).setCell ⟨h, 9, none⟩ v9).setCell ⟨h, 10, none⟩ v10).setCell ⟨h, 11, none⟩ v11).setCell ⟨h, 12, none⟩ v12).setCell ⟨h, 13, none⟩ v13) = W' ∧ XS h #[v0, v1, v2, v3, v4, v5, v6, v7, v8, v9, v10, v11, v12, v13] T W' ∧ w.grownBy W' (some h) := by
  obtain ⟨hx, hg⟩ := blk_setAll [v0, v1, v2, v3, v4, v5, v6, v7, v8, v9, v10, v11, v12, v13] w #[c0, c1, c2, c3, c4, c5, c6, c7, c8, c9, c10, c11, c12, c13] 0 k
  rw [setA14] at hx
  refine ⟨_, ?_, hx, hg⟩
  simp only [World.setCells, Nat.zero_add, Nat.reduceAdd]

abbrev ndG (x : NdV) (gc ge gv gp : Nat) : NdS := ⟨some ⟨gc, 0, none⟩, x.cf.length, some ⟨ge, 0, none⟩, x.es.length, some ⟨gv, 0, none⟩, x.vs.length, some ⟨gp, 0, none⟩, x.ps.length⟩

structure NdOwn (w : World) (base : Nat) (x : NdV) (S : NdS) : Prop where
  c : w.ownsRow base 3 1 (.slice S.oc x.cf.length S.cc) x.cf.length (x.cf.map icell)
  e : w.ownsRow base 75 3 (.slice S.oe x.es.length S.ce) x.es.length (x.es.flatMap ecells)
  v : w.ownsRow base 3 1 (.slice S.ov x.vs.length S.cv) x.vs.length (x.vs.map icell)
  p : w.ownsRow base 60 4 (.slice S.op x.ps.length S.cp) x.ps.length (x.ps.flatMap pcells)
  cv : ∀ k, (Value.slice S.oc x.cf.length S.cc).ownBlock = some k → (Value.slice S.ov x.vs.length S.cv).ownBlock ≠ some k

theorem NdOwn.on {w w' : World} {base : Nat} {x : NdV} {S : NdS} (h : NdOwn w base x S) (hb : Below w.heap.size w w') : NdOwn w' base x S := ⟨own_below h.c hb, own_below h.e hb, own_below h.v hb, own_below h.p hb, h.cv⟩

theorem NdOwn.down {w : World} {base base' : Nat} {x : NdV} {S : NdS} (h : NdOwn w base x S) (hb : base' ≤ base) : NdOwn w base' x S := ⟨own_base h.c hb, own_base h.e hb, own_base h.v hb, own_base h.p hb, h.cv⟩

theorem NdOwn.at_ {w : World} {base : Nat} {x : NdV} {S : NdS} (h : NdOwn w base x S) (hc : ∀ z ∈ x.cf, (Lit.int .i64 z).wf = true) (hv : ∀ z ∈ x.vs, (Lit.int .i64 z).wf = true) : NdAt w x S := by
  obtain ⟨_, _, e1, h1⟩ := intsAt_of_own h.c hc
  cases e1
  obtain ⟨_, _, e2, h2⟩ := entsAt_own h.e
  cases e2
  obtain ⟨_, _, e3, h3⟩ := intsAt_of_own h.v hv
  cases e3
  obtain ⟨_, _, e4, h4⟩ := peersAt_own h.p
  cases e4
  exact ⟨h1, h2, h3, h4⟩

def ToNd (w : World) (x : NdV) (e : Ending) (w' : World) : Prop := ∃ S, e = .returned (ndval x S) ∧ NdOwn w' w.heap.size x S ∧ Below w.heap.size w w'

set_option maxRecDepth 20000 in
set_option maxHeartbeats 8000000 in
theorem toNode_any (x : NdV) (S : NdS) (hc20 : x.cf.length ≤ 1048576) (he20 : x.es.length ≤ 1048576) (hv20 : x.vs.length ≤ 1048576) (hp20 : x.ps.length ≤ 1048576) (w : World) (hat : NdAt w x S) :
    Calls Try.prog 8 #[ndval x S] w fun e w' => ToNd w x e w' := by
  obtain ⟨W1, hW1⟩ : ∃ W1, ((w.alloc (.cells (ndC x S) 28)).alloc (.cells #[.int .i64 0, .int .i64 0, .int .i64 0, .int .i64 0, .int .i64 0, .slice none 0 0, .int .i64 0, .int .i64 0, .slice none 0 0, .int .i64 0, .int .i64 0, .int .i64 0, .slice none 0 0, .slice none 0 0] 36)).alloc (.cells #[.int .i64 x.id, .int .i64 x.tm, .int .i64 x.vt, .int .i64 x.ro, .int .i64 x.ld, .slice none 0 0, .int .i64 0, .int .i64 0, .slice none 0 0, .int .i64 0, .int .i64 0, .int .i64 0, .slice none 0 0, .slice none 0 0] 36) = W1 := ⟨_, rfl⟩
  have hb1 : Below w.heap.size w W1 := by
    rw [← hW1]
    exact (((Below.refl w.heap.size w).alloc (Nat.le_refl _) _).alloc (by simp) _).alloc (by simp; omega) _
  have hL : XS w.heap.size (ndC x S) 28 W1 := by
    rw [← hW1]
    exact ((XS.new w (ndC x S) 28).alloc _).alloc _
  have hZ : XS (w.heap.size + 1) #[.int .i64 0, .int .i64 0, .int .i64 0, .int .i64 0, .int .i64 0, .slice none 0 0, .int .i64 0, .int .i64 0, .slice none 0 0, .int .i64 0, .int .i64 0, .int .i64 0, .slice none 0 0, .slice none 0 0] 36 W1 := by
    rw [← hW1]
    have h := XS.new (w.alloc (.cells (ndC x S) 28)) #[.int .i64 0, .int .i64 0, .int .i64 0, .int .i64 0, .int .i64 0, .slice none 0 0, .int .i64 0, .int .i64 0, .slice none 0 0, .int .i64 0, .int .i64 0, .int .i64 0, .slice none 0 0, .slice none 0 0] 36
    rw [World.size_alloc] at h
    exact h.alloc _
  have hO : XS (w.heap.size + 1 + 1) #[.int .i64 x.id, .int .i64 x.tm, .int .i64 x.vt, .int .i64 x.ro, .int .i64 x.ld, .slice none 0 0, .int .i64 0, .int .i64 0, .slice none 0 0, .int .i64 0, .int .i64 0, .int .i64 0, .slice none 0 0, .slice none 0 0] 36 W1 := by
    rw [← hW1]
    have h := XS.new ((w.alloc (.cells (ndC x S) 28)).alloc (.cells #[.int .i64 0, .int .i64 0, .int .i64 0, .int .i64 0, .int .i64 0, .slice none 0 0, .int .i64 0, .int .i64 0, .slice none 0 0, .int .i64 0, .int .i64 0, .int .i64 0, .slice none 0 0, .slice none 0 0] 36)) #[.int .i64 x.id, .int .i64 x.tm, .int .i64 x.vt, .int .i64 x.ro, .int .i64 x.ld, .slice none 0 0, .int .i64 0, .int .i64 0, .slice none 0 0, .int .i64 0, .int .i64 0, .int .i64 0, .slice none 0 0, .slice none 0 0] 36
    rw [World.size_alloc, World.size_alloc] at h
    exact h
  have hs1 : W1.heap.size = w.heap.size + 1 + 1 + 1 := by rw [← hW1]; simp
  have HC := hide (toIntS_any S.oc x.cf.length S.cc x.cf hc20 W1 (hat.c.below hb1))
  have HAT := hide hat
  have HG := hide (fun w h => toLog_any x.s x.u S.oe x.es.length S.ce x.es he20 w h)
  have HV := hide (fun w h => toIntS_any S.ov x.vs.length S.cv x.vs hv20 w h)
  have HP := hide (fun w h => toPeerS_any S.op x.ps.length S.cp x.ps hp20 w h)

  have HB1 := hide hb1
  have HL1 := hide hL
  have HZ1 := hide hZ
  have HO1 := hide hO
  have HS1 := hide (Nat.le_of_eq hs1.symm)
  have HW1 := hide hW1
  clear hat hb1 hL hZ hO hs1 hW1
  go_enter Try.func8, Try.ntmps8
  go_upto_region 7 with fail
  rw [HW1.out]
  clear HW1
  obtain ⟨k0, k1, k2, k3, k4, k5, k6, k7, k8, k9, k10, k11, k12, k13⟩ := xs14 HL1.out
  go_wp2_with fail
  refine HC.out.mono ?_
  rintro e w2 ⟨gc, rfl, hg2, hb2⟩
  have HB2 := hide (HB1.out.trans (hb2.mono HB1.out.size))
  have HL2 := hide (HL1.out.on hb2)
  have HZ2 := hide (HZ1.out.on hb2)
  have HO2 := hide (HO1.out.on hb2)
  have HS2 := hide (Nat.le_trans HS1.out hb2.size)
  have HC2 := hide (own_base hg2 HS1.out)
  obtain ⟨w3, hw3⟩ : ∃ w3, (w2.setCell ⟨w.heap.size + 1 + 1, 5, none⟩ (.slice (some ⟨gc, 0, none⟩) x.cf.length x.cf.length)) = w3 := ⟨_, rfl⟩
  have hO3 : XS (w.heap.size + 1 + 1) #[.int .i64 x.id, .int .i64 x.tm, .int .i64 x.vt, .int .i64 x.ro, .int .i64 x.ld, .slice (some ⟨gc, 0, none⟩) x.cf.length x.cf.length, .int .i64 0, .int .i64 0, .slice none 0 0, .int .i64 0, .int .i64 0, .int .i64 0, .slice none 0 0, .slice none 0 0] 36 w3 := by rw [← hw3]; exact (HO2.out.set 5 (.slice (some ⟨gc, 0, none⟩) x.cf.length x.cf.length))
  have hG3 : w2.grownBy w3 (some (w.heap.size + 1 + 1)) := by rw [← hw3]; exact (blk_grown _ _ _ _)
  have HB3 := hide (HB2.out.grown hG3 HB2.out.size (fun k hk => by cases hk; omega))
  have HL3 := hide (HL2.out.kept hG3 (fun q => by have := Option.some.inj q; omega))
  have HZ3 := hide (HZ2.out.kept hG3 (fun q => by have := Option.some.inj q; omega))
  have HO3 := hide hO3
  have HS3 := hide (Nat.le_trans HS2.out hG3.size)
  have HC3 := hide (HC2.out.kept hG3 (Or.inr (fun q => by have := HC2.out.lt _ q; omega)))
  have HW3 := hide hw3
  clear hg2 hb2 hO3 hG3 hw3 k0 k1 k2 k3 k4 k5 k6 k7 k8 k9 k10 k11 k12 k13 HL1 HZ1 HO1 HB1
  obtain ⟨k0, k1, k2, k3, k4, k5, k6, k7, k8, k9, k10, k11, k12, k13⟩ := xs14 HL2.out
  have f5 := HO2.out.free 5
  have o5 := HO2.out.cell 5 rfl
  go_upto_region 8 with fail
  rw [HW3.out]
  clear HW3 f5 o5 k0 k1 k2 k3 k4 k5 k6 k7 k8 k9 k10 k11 k12 k13 HL2 HZ2 HO2 HB2
  obtain ⟨k0, k1, k2, k3, k4, k5, k6, k7, k8, k9, k10, k11, k12, k13⟩ := xs14 HL3.out
  go_wp2_with fail
  refine (HG.out _ (HAT.out.e.below HB3.out)).mono ?_
  rintro e w4 ⟨ge, rfl, hg4, hb4⟩
  have HB4 := hide (HB3.out.trans (hb4.mono HB3.out.size))
  have HL4 := hide (HL3.out.on hb4)
  have HZ4 := hide (HZ3.out.on hb4)
  have HO4 := hide (HO3.out.on hb4)
  have HS4 := hide (Nat.le_trans HS3.out hb4.size)
  have HC4 := hide (own_below HC3.out hb4)
  have HE4 := hide (own_base hg4 HS3.out)
  obtain ⟨w5, hw5⟩ : ∃ w5, ((((((w4.setCell ⟨w.heap.size + 1 + 1, 6, none⟩ (.int .i64 x.s)).setCell ⟨w.heap.size + 1 + 1, 7, none⟩ (.int .i64 x.u)).setCell ⟨w.heap.size + 1 + 1, 8, none⟩ (.slice (some ⟨ge, 0, none⟩) x.es.length x.es.length)).setCell ⟨w.heap.size + 1 + 1, 9, none⟩ (.int .i64 x.cm)).setCell ⟨w.heap.size + 1 + 1, 10, none⟩ (.int .i64 x.ck)).setCell ⟨w.heap.size + 1 + 1, 11, none⟩ (.int .i64 x.lm)) = w5 := ⟨_, rfl⟩
  have hO5 : XS (w.heap.size + 1 + 1) #[.int .i64 x.id, .int .i64 x.tm, .int .i64 x.vt, .int .i64 x.ro, .int .i64 x.ld, .slice (some ⟨gc, 0, none⟩) x.cf.length x.cf.length, .int .i64 x.s, .int .i64 x.u, .slice (some ⟨ge, 0, none⟩) x.es.length x.es.length, .int .i64 x.cm, .int .i64 x.ck, .int .i64 x.lm, .slice none 0 0, .slice none 0 0] 36 w5 := by rw [← hw5]; exact ((((((HO4.out.set 6 (.int .i64 x.s)).set 7 (.int .i64 x.u)).set 8 (.slice (some ⟨ge, 0, none⟩) x.es.length x.es.length)).set 9 (.int .i64 x.cm)).set 10 (.int .i64 x.ck)).set 11 (.int .i64 x.lm))
  have hG5 : w4.grownBy w5 (some (w.heap.size + 1 + 1)) := by rw [← hw5]; exact (grown_trans (grown_trans (grown_trans (grown_trans (grown_trans (blk_grown _ _ _ _) (blk_grown _ _ _ _)) (blk_grown _ _ _ _)) (blk_grown _ _ _ _)) (blk_grown _ _ _ _)) (blk_grown _ _ _ _))
  have HB5 := hide (HB4.out.grown hG5 HB4.out.size (fun k hk => by cases hk; omega))
  have HL5 := hide (HL4.out.kept hG5 (fun q => by have := Option.some.inj q; omega))
  have HZ5 := hide (HZ4.out.kept hG5 (fun q => by have := Option.some.inj q; omega))
  have HO5 := hide hO5
  have HS5 := hide (Nat.le_trans HS4.out hG5.size)
  have HC5 := hide (HC4.out.kept hG5 (Or.inr (fun q => by have := HC4.out.lt _ q; omega)))
  have HE5 := hide (HE4.out.kept hG5 (Or.inr (fun q => by have := HE4.out.lt _ q; omega)))
  have HW5 := hide hw5
  clear hg4 hb4 hO5 hG5 hw5 k0 k1 k2 k3 k4 k5 k6 k7 k8 k9 k10 k11 k12 k13 HL3 HZ3 HO3 HB3
  obtain ⟨k0, k1, k2, k3, k4, k5, k6, k7, k8, k9, k10, k11, k12, k13⟩ := xs14 HL4.out
  have f6 := HO4.out.free 6
  have o6 := HO4.out.cell 6 rfl
  have f7 := HO4.out.free 7
  have o7 := HO4.out.cell 7 rfl
  have f8 := HO4.out.free 8
  have o8 := HO4.out.cell 8 rfl
  have f9 := HO4.out.free 9
  have o9 := HO4.out.cell 9 rfl
  have f10 := HO4.out.free 10
  have o10 := HO4.out.cell 10 rfl
  have f11 := HO4.out.free 11
  have o11 := HO4.out.cell 11 rfl
  go_upto_region 12 with fail
  rw [HW5.out]
  clear HW5 f6 o6 f7 o7 f8 o8 f9 o9 f10 o10 f11 o11 k0 k1 k2 k3 k4 k5 k6 k7 k8 k9 k10 k11 k12 k13 HL4 HZ4 HO4 HB4
  obtain ⟨k0, k1, k2, k3, k4, k5, k6, k7, k8, k9, k10, k11, k12, k13⟩ := xs14 HL5.out
  go_wp2_with fail
  refine (HV.out _ (HAT.out.v.below HB5.out)).mono ?_
  rintro e w6 ⟨gv, rfl, hg6, hb6⟩
  have HB6 := hide (HB5.out.trans (hb6.mono HB5.out.size))
  have HL6 := hide (HL5.out.on hb6)
  have HZ6 := hide (HZ5.out.on hb6)
  have HO6 := hide (HO5.out.on hb6)
  have HS6 := hide (Nat.le_trans HS5.out hb6.size)
  have HC6 := hide (own_below HC5.out hb6)
  have HE6 := hide (own_below HE5.out hb6)
  have HV6 := hide (own_base hg6 HS5.out)
  have HNE := hide (show gc ≠ gv by have := (HC5.out.lt gc rfl).2; have := (hg6.lt gv rfl).1; omega)
  obtain ⟨w7, hw7⟩ : ∃ w7, (w6.setCell ⟨w.heap.size + 1 + 1, 12, none⟩ (.slice (some ⟨gv, 0, none⟩) x.vs.length x.vs.length)) = w7 := ⟨_, rfl⟩
  have hO7 : XS (w.heap.size + 1 + 1) #[.int .i64 x.id, .int .i64 x.tm, .int .i64 x.vt, .int .i64 x.ro, .int .i64 x.ld, .slice (some ⟨gc, 0, none⟩) x.cf.length x.cf.length, .int .i64 x.s, .int .i64 x.u, .slice (some ⟨ge, 0, none⟩) x.es.length x.es.length, .int .i64 x.cm, .int .i64 x.ck, .int .i64 x.lm, .slice (some ⟨gv, 0, none⟩) x.vs.length x.vs.length, .slice none 0 0] 36 w7 := by rw [← hw7]; exact (HO6.out.set 12 (.slice (some ⟨gv, 0, none⟩) x.vs.length x.vs.length))
  have hG7 : w6.grownBy w7 (some (w.heap.size + 1 + 1)) := by rw [← hw7]; exact (blk_grown _ _ _ _)
  have HB7 := hide (HB6.out.grown hG7 HB6.out.size (fun k hk => by cases hk; omega))
  have HL7 := hide (HL6.out.kept hG7 (fun q => by have := Option.some.inj q; omega))
  have HZ7 := hide (HZ6.out.kept hG7 (fun q => by have := Option.some.inj q; omega))
  have HO7 := hide hO7
  have HS7 := hide (Nat.le_trans HS6.out hG7.size)
  have HC7 := hide (HC6.out.kept hG7 (Or.inr (fun q => by have := HC6.out.lt _ q; omega)))
  have HE7 := hide (HE6.out.kept hG7 (Or.inr (fun q => by have := HE6.out.lt _ q; omega)))
  have HV7 := hide (HV6.out.kept hG7 (Or.inr (fun q => by have := HV6.out.lt _ q; omega)))
  have HW7 := hide hw7
  clear hg6 hb6 hO7 hG7 hw7 k0 k1 k2 k3 k4 k5 k6 k7 k8 k9 k10 k11 k12 k13 HL5 HZ5 HO5 HB5
  obtain ⟨k0, k1, k2, k3, k4, k5, k6, k7, k8, k9, k10, k11, k12, k13⟩ := xs14 HL6.out
  have f12 := HO6.out.free 12
  have o12 := HO6.out.cell 12 rfl
  go_upto_region 13 with fail
  rw [HW7.out]
  clear HW7 f12 o12 k0 k1 k2 k3 k4 k5 k6 k7 k8 k9 k10 k11 k12 k13 HL6 HZ6 HO6 HB6
  obtain ⟨k0, k1, k2, k3, k4, k5, k6, k7, k8, k9, k10, k11, k12, k13⟩ := xs14 HL7.out
  go_wp2_with fail
  refine (HP.out _ (HAT.out.p.below HB7.out)).mono ?_
  rintro e w8 ⟨gp, rfl, hg8, hb8⟩
  have HB8 := hide (HB7.out.trans (hb8.mono HB7.out.size))
  have HL8 := hide (HL7.out.on hb8)
  have HZ8 := hide (HZ7.out.on hb8)
  have HO8 := hide (HO7.out.on hb8)
  have HS8 := hide (Nat.le_trans HS7.out hb8.size)
  have HC8 := hide (own_below HC7.out hb8)
  have HE8 := hide (own_below HE7.out hb8)
  have HV8 := hide (own_below HV7.out hb8)
  have HP8 := hide (own_base hg8 HS7.out)
  obtain ⟨w9, hw9⟩ : ∃ w9, (w8.setCell ⟨w.heap.size + 1 + 1, 13, none⟩ (.slice (some ⟨gp, 0, none⟩) x.ps.length x.ps.length)) = w9 := ⟨_, rfl⟩
  have hO9 : XS (w.heap.size + 1 + 1) #[.int .i64 x.id, .int .i64 x.tm, .int .i64 x.vt, .int .i64 x.ro, .int .i64 x.ld, .slice (some ⟨gc, 0, none⟩) x.cf.length x.cf.length, .int .i64 x.s, .int .i64 x.u, .slice (some ⟨ge, 0, none⟩) x.es.length x.es.length, .int .i64 x.cm, .int .i64 x.ck, .int .i64 x.lm, .slice (some ⟨gv, 0, none⟩) x.vs.length x.vs.length, .slice (some ⟨gp, 0, none⟩) x.ps.length x.ps.length] 36 w9 := by rw [← hw9]; exact (HO8.out.set 13 (.slice (some ⟨gp, 0, none⟩) x.ps.length x.ps.length))
  have hG9 : w8.grownBy w9 (some (w.heap.size + 1 + 1)) := by rw [← hw9]; exact (blk_grown _ _ _ _)
  have HB9 := hide (HB8.out.grown hG9 HB8.out.size (fun k hk => by cases hk; omega))
  have HL9 := hide (HL8.out.kept hG9 (fun q => by have := Option.some.inj q; omega))
  have HZ9 := hide (HZ8.out.kept hG9 (fun q => by have := Option.some.inj q; omega))
  have HO9 := hide hO9
  have HS9 := hide (Nat.le_trans HS8.out hG9.size)
  have HC9 := hide (HC8.out.kept hG9 (Or.inr (fun q => by have := HC8.out.lt _ q; omega)))
  have HE9 := hide (HE8.out.kept hG9 (Or.inr (fun q => by have := HE8.out.lt _ q; omega)))
  have HV9 := hide (HV8.out.kept hG9 (Or.inr (fun q => by have := HV8.out.lt _ q; omega)))
  have HP9 := hide (HP8.out.kept hG9 (Or.inr (fun q => by have := HP8.out.lt _ q; omega)))
  have HW9 := hide hw9
  clear hg8 hb8 hO9 hG9 hw9 k0 k1 k2 k3 k4 k5 k6 k7 k8 k9 k10 k11 k12 k13 HL7 HZ7 HO7 HB7
  obtain ⟨k0, k1, k2, k3, k4, k5, k6, k7, k8, k9, k10, k11, k12, k13⟩ := xs14 HL8.out
  have f13 := HO8.out.free 13
  have o13 := HO8.out.cell 13 rfl
  go_upto_region 14 with fail
  rw [HW9.out]
  clear HW9 f13 o13 k0 k1 k2 k3 k4 k5 k6 k7 k8 k9 k10 k11 k12 k13 HL8 HZ8 HO8 HB8
  have z0 := HZ9.out.free 0
  have y0 := HZ9.out.cell 0 rfl
  have o0 := HO9.out.cell 0 rfl
  have z1 := HZ9.out.free 1
  have y1 := HZ9.out.cell 1 rfl
  have o1 := HO9.out.cell 1 rfl
  have z2 := HZ9.out.free 2
  have y2 := HZ9.out.cell 2 rfl
  have o2 := HO9.out.cell 2 rfl
  have z3 := HZ9.out.free 3
  have y3 := HZ9.out.cell 3 rfl
  have o3 := HO9.out.cell 3 rfl
  have z4 := HZ9.out.free 4
  have y4 := HZ9.out.cell 4 rfl
  have o4 := HO9.out.cell 4 rfl
  have z5 := HZ9.out.free 5
  have y5 := HZ9.out.cell 5 rfl
  have o5 := HO9.out.cell 5 rfl
  have z6 := HZ9.out.free 6
  have y6 := HZ9.out.cell 6 rfl
  have o6 := HO9.out.cell 6 rfl
  have z7 := HZ9.out.free 7
  have y7 := HZ9.out.cell 7 rfl
  have o7 := HO9.out.cell 7 rfl
  have z8 := HZ9.out.free 8
  have y8 := HZ9.out.cell 8 rfl
  have o8 := HO9.out.cell 8 rfl
  have z9 := HZ9.out.free 9
  have y9 := HZ9.out.cell 9 rfl
  have o9 := HO9.out.cell 9 rfl
  have z10 := HZ9.out.free 10
  have y10 := HZ9.out.cell 10 rfl
  have o10 := HO9.out.cell 10 rfl
  have z11 := HZ9.out.free 11
  have y11 := HZ9.out.cell 11 rfl
  have o11 := HO9.out.cell 11 rfl
  have z12 := HZ9.out.free 12
  have y12 := HZ9.out.cell 12 rfl
  have o12 := HO9.out.cell 12 rfl
  have z13 := HZ9.out.free 13
  have y13 := HZ9.out.cell 13 rfl
  have o13 := HO9.out.cell 13 rfl
  go_wp2_with fail
  obtain ⟨w10, hw10, hR, hgR⟩ := sets14 HZ9.out (.int .i64 x.id) (.int .i64 x.tm) (.int .i64 x.vt) (.int .i64 x.ro) (.int .i64 x.ld) (.slice (some ⟨gc, 0, none⟩) x.cf.length x.cf.length) (.int .i64 x.s) (.int .i64 x.u) (.slice (some ⟨ge, 0, none⟩) x.es.length x.es.length) (.int .i64 x.cm) (.int .i64 x.ck) (.int .i64 x.lm) (.slice (some ⟨gv, 0, none⟩) x.vs.length x.vs.length) (.slice (some ⟨gp, 0, none⟩) x.ps.length x.ps.length)
  rw [hw10]
  clear hw10
  obtain ⟨r0, r1, r2, r3, r4, r5, r6, r7, r8, r9, r10, r11, r12, r13⟩ := xs14 (S := ndG x gc ge gv gp) hR
  refine bodyPost_ret (v := ndval x (ndG x gc ge gv gp)) (by simp [results, Try.results8, go_sem, r0, r1, r2, r3, r4, r5, r6, r7, r8, r9, r10, r11, r12, r13]) rfl ⟨ndG x gc ge gv gp, rfl, ⟨?_, ?_, ?_, ?_, ?_⟩, ?_⟩
  · exact own_base (HC9.out.kept hgR (Or.inr (fun q => by have := HC9.out.lt _ q; omega))) (by omega)
  · exact own_base (HE9.out.kept hgR (Or.inr (fun q => by have := HE9.out.lt _ q; omega))) (by omega)
  · exact own_base (HV9.out.kept hgR (Or.inr (fun q => by have := HV9.out.lt _ q; omega))) (by omega)
  · exact own_base (HP9.out.kept hgR (Or.inr (fun q => by have := HP9.out.lt _ q; omega))) (by omega)
  · intro k h1 h2; exact HNE.out (by cases h1; cases h2; rfl)
  · exact HB9.out.grown hgR HB9.out.size (fun k hk => by cases hk; omega)

set_option maxHeartbeats 8000000 in
theorem eqNode_same (x : NdV) (S S2 : NdS) (hc20 : x.cf.length ≤ 1048576) (he20 : x.es.length ≤ 1048576) (hv20 : x.vs.length ≤ 1048576) (hp20 : x.ps.length ≤ 1048576) (w : World) (h1 : NdAt w x S) (h2 : NdAt w x S2) :
    Calls Try.prog 10 #[ndval x S, ndval x S2] w fun e w' => e = .returned (.bool true) ∧ Below w.heap.size w w' := by
  have hb0 := ((Below.refl w.heap.size w).alloc (Nat.le_refl _) (.cells (ndC x S) 36)).alloc (by simp) (.cells (ndC x S2) 36)
  have HE0 := hide (eqIntS_same S.oc x.cf.length S.cc S2.oc S2.cc x.cf hc20 _ (h1.c.below hb0) (h2.c.below hb0))
  have HE1 := hide (fun w a b => eqLog_same x.s x.u S.oe x.es.length S.ce S2.oe S2.ce x.es he20 w a b)
  have HE2 := hide (fun w a b => eqIntS_same S.ov x.vs.length S.cv S2.ov S2.cv x.vs hv20 w a b)
  have HE3 := hide (fun w a b => eqPeerS_same S.op x.ps.length S.cp S2.op S2.cp x.ps hp20 w a b)
  have L0 := hide ((XS.new w (ndC x S) 36).alloc (.cells (ndC x S2) 36))
  have hL2 := XS.new (w.alloc (.cells (ndC x S) 36)) (ndC x S2) 36
  rw [World.size_alloc] at hL2
  have M0 := hide hL2
  have HB0 := hide hb0
  have H1 := hide h1
  have H2 := hide h2
  clear h1 h2 hb0 hL2
  go_enter Try.func10, Try.ntmps10
  go_wp2_with fail
  refine HE0.out.mono ?_
  rintro e w1 ⟨rfl, hb1⟩
  have HB1 := hide (HB0.out.trans (hb1.mono HB0.out.size))
  have L1 := hide (L0.out.on hb1)
  have M1 := hide (M0.out.on hb1)
  clear hb1 L0 M0
  obtain ⟨k0, k1, k2, k3, k4, k5, k6, k7, k8, k9, k10, k11, k12, k13⟩ := xs14 L1.out
  obtain ⟨l0, l1, l2, l3, l4, l5, l6, l7, l8, l9, l10, l11, l12, l13⟩ := xs14 M1.out
  go_wp2_with fail
  refine (HE1.out _ (H1.out.e.below HB1.out) (H2.out.e.below HB1.out)).mono ?_
  rintro e w2 ⟨rfl, hb2⟩
  have HB2 := hide (HB1.out.trans (hb2.mono HB1.out.size))
  have L2 := hide (L1.out.on hb2)
  have M2 := hide (M1.out.on hb2)
  clear hb2 L1 M1 k0 k1 k2 k3 k4 k5 k6 k7 k8 k9 k10 k11 k12 k13 l0 l1 l2 l3 l4 l5 l6 l7 l8 l9 l10 l11 l12 l13
  obtain ⟨k0, k1, k2, k3, k4, k5, k6, k7, k8, k9, k10, k11, k12, k13⟩ := xs14 L2.out
  obtain ⟨l0, l1, l2, l3, l4, l5, l6, l7, l8, l9, l10, l11, l12, l13⟩ := xs14 M2.out
  go_wp2_with fail
  refine (HE2.out _ (H1.out.v.below HB2.out) (H2.out.v.below HB2.out)).mono ?_
  rintro e w3 ⟨rfl, hb3⟩
  have HB3 := hide (HB2.out.trans (hb3.mono HB2.out.size))
  have L3 := hide (L2.out.on hb3)
  have M3 := hide (M2.out.on hb3)
  clear hb3 L2 M2 k0 k1 k2 k3 k4 k5 k6 k7 k8 k9 k10 k11 k12 k13 l0 l1 l2 l3 l4 l5 l6 l7 l8 l9 l10 l11 l12 l13
  obtain ⟨k0, k1, k2, k3, k4, k5, k6, k7, k8, k9, k10, k11, k12, k13⟩ := xs14 L3.out
  obtain ⟨l0, l1, l2, l3, l4, l5, l6, l7, l8, l9, l10, l11, l12, l13⟩ := xs14 M3.out
  go_wp2_with fail
  refine (HE3.out _ (H1.out.p.below HB3.out) (H2.out.p.below HB3.out)).mono ?_
  rintro e w4 ⟨rfl, hb4⟩
  have HB4 := hide (HB3.out.trans (hb4.mono HB3.out.size))
  have L4 := hide (L3.out.on hb4)
  have M4 := hide (M3.out.on hb4)
  clear hb4 L3 M3 k0 k1 k2 k3 k4 k5 k6 k7 k8 k9 k10 k11 k12 k13 l0 l1 l2 l3 l4 l5 l6 l7 l8 l9 l10 l11 l12 l13
  go_wp2_with fail
  go_ret
  exact ⟨rfl, HB4.out⟩

theorem own_keptNe {w w' : World} {b2 : Nat} {e2 : TypeId} {k2 n2 : Nat} {v1 v2 : Value} {xs2 : List Value} (h2 : w.ownsRow b2 e2 k2 v2 n2 xs2) (hg : w.grownBy w' v1.ownBlock) (hne : ∀ k, v1.ownBlock = some k → v2.ownBlock ≠ some k) : w'.ownsRow b2 e2 k2 v2 n2 xs2 :=
  h2.kept hg (by
    cases hq : v2.ownBlock with
    | none => exact Or.inl rfl
    | some j => exact Or.inr (fun q => hne j q.symm hq))

theorem own_apart {w : World} {b1 b2 : Nat} {e1 e2 : TypeId} {k1 k2 n1 n2 : Nat} {v1 v2 : Value} {xs1 xs2 : List Value} (h1 : w.ownsRow b1 e1 k1 v1 n1 xs1) (h2 : w.ownsRow b2 e2 k2 v2 n2 xs2) (hne : e1 ≠ e2) : ∀ k, v1.ownBlock = some k → v2.ownBlock ≠ some k := by
  intro k q1 q2
  rcases h1.2 with ⟨e, _⟩ | ⟨g, cap, cur, e, _, hg, _⟩
  · rw [e] at q1; cases q1
  · rw [e] at q1
    cases q1
    rcases h2.2 with ⟨e2, _⟩ | ⟨g2, cap2, cur2, e2, _, hg2, _⟩
    · rw [e2] at q2; cases q2
    · rw [e2] at q2
      cases q2
      rw [hg] at hg2
      injection hg2 with hg2
      injection hg2 with _ h5 _
      exact hne h5

structure NdMk (w : World) (base k : Nat) (x : NdV) (S : NdS) : Prop where
  c : w.ownsRow base 3 1 (.slice S.oc x.cf.length S.cc) x.cf.length ((marksI k x.cf.length).map icell)
  e : w.ownsRow base 75 3 (.slice S.oe x.es.length S.ce) x.es.length ((marksE (k + x.cf.length) x.es.length).flatMap ecells)
  v : w.ownsRow base 3 1 (.slice S.ov x.vs.length S.cv) x.vs.length ((marksI (k + x.cf.length + 3 * x.es.length) x.vs.length).map icell)
  p : w.ownsRow base 60 4 (.slice S.op x.ps.length S.cp) x.ps.length ((marksPr (k + x.cf.length + 3 * x.es.length + x.vs.length) x.ps.length).flatMap pcells)

theorem NdMk.on {w w' : World} {base k : Nat} {x : NdV} {S : NdS} (h : NdMk w base k x S) (hb : Below w.heap.size w w') : NdMk w' base k x S := ⟨own_below h.c hb, own_below h.e hb, own_below h.v hb, own_below h.p hb⟩

end Go.Proofs.Ytoalbeiinlcgpaa
