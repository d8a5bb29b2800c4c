/-
  Walks and mathematics of NdK.
-/
import Derived.Test.YtoalbeiinlcgpaaMNodeA
namespace Go.Proofs.Ytoalbeiinlcgpaa.P11
end Go.Proofs.Ytoalbeiinlcgpaa.P11
namespace Go.Proofs.Ytoalbeiinlcgpaa.P18
end Go.Proofs.Ytoalbeiinlcgpaa.P18
namespace Go.Proofs.Ytoalbeiinlcgpaa.P3
end Go.Proofs.Ytoalbeiinlcgpaa.P3
namespace Go.Proofs.Ytoalbeiinlcgpaa
open Go.RowKit P1 P3 P9 P11 P12 P18 K
set_option linter.unusedVariables false
set_option linter.unusedSimpArgs false

def NdNot (x : NdV) (S : NdS) (b : Nat) : Prop := (Value.slice S.oc x.cf.length S.cc).ownBlock ≠ some b ∧ (Value.slice S.oe x.es.length S.ce).ownBlock ≠ some b ∧ (Value.slice S.ov x.vs.length S.cv).ownBlock ≠ some b ∧ (Value.slice S.op x.ps.length S.cp).ownBlock ≠ some b

set_option maxHeartbeats 8000000 in
theorem markNode_more (x : NdV) (S : NdS) (base k : Nat) (hc : x.cf.length ≤ 100000) (he : x.es.length ≤ 100000) (hv : x.vs.length ≤ 100000) (hp : x.ps.length ≤ 100000) (hk : k ≤ 1000) (w : World) (hbase : base ≤ w.heap.size) (ho : NdOwn w base x S) :
    Calls Try.prog 16 #[ndval x S, .int .i64 (k : Int)] w fun e w' => e = .returned (.int .i64 ((k + x.cf.length + 3 * x.es.length + x.vs.length + 4 * x.ps.length : Nat) : Int)) ∧ NdMk w' base k x S ∧ Below base w w' ∧ ∀ b, b < w.heap.size → NdNot x S b → w'.heap[b]? = w.heap[b]? := by
  have hb0 := (Below.refl w.heap.size w).alloc (Nat.le_refl _) (.cells (ndC x S) 36)
  have hbB := (Below.refl base w).alloc hbase (.cells (ndC x S) 36)
  have ho1 := ho.on hb0
  have HX0 := hide (XS.new w (ndC x S) 36)
  have nCE := own_apart ho1.c ho1.e (by decide)
  have nCP := own_apart ho1.c ho1.p (by decide)
  have nEC := own_apart ho1.e ho1.c (by decide)
  have nEV := own_apart ho1.e ho1.v (by decide)
  have nEP := own_apart ho1.e ho1.p (by decide)
  have nVE := own_apart ho1.v ho1.e (by decide)
  have nVP := own_apart ho1.v ho1.p (by decide)
  have nPC := own_apart ho1.p ho1.c (by decide)
  have nPE := own_apart ho1.p ho1.e (by decide)
  have nPV := own_apart ho1.p ho1.v (by decide)
  have nVC : ∀ k, (Value.slice S.ov x.vs.length S.cv).ownBlock = some k → (Value.slice S.oc x.cf.length S.cc).ownBlock ≠ some k := fun k a b => ho.cv k b a
  have lC := fun q e => ho.c.lt q e
  have lE := fun q e => ho.e.lt q e
  have lV := fun q e => ho.v.lt q e
  have lP := fun q e => ho.p.lt q e
  have HM0 := hide (markIntS_e _ x.cf.length base k (by omega) (by omega) _ _ ho1.c)
  have HO := hide ho1
  have HB0 := hide hbB
  have HSZ := hide (show (w.alloc (.cells (ndC x S) 36)).heap.size = w.heap.size + 1 by simp)
  have HN := hide (And.intro nCE (And.intro nCP (And.intro ho1.cv (And.intro nEC (And.intro nEV (And.intro nEP (And.intro nVE (And.intro nVP (And.intro nVC (And.intro nPC (And.intro nPE nPV)))))))))))
  have HLT := hide (And.intro lC (And.intro lE (And.intro lV lP)))
  have HBB := hide hbase
  have Q0 := hide (show ∀ b, b < w.heap.size → (w.alloc (.cells (ndC x S) 36)).heap[b]? = w.heap[b]? from fun b hb => hb0.block b hb)
  clear ho ho1 hb0 hbB nCE nCP nEC nEV nEP nVE nVP nPC nPE nPV nVC lC lE lV lP hbase
  go_enter Try.func16, Try.ntmps16
  go_wp2_with fail
  refine HM0.out.mono ?_
  rintro e w1 ⟨rfl, ho1, hg1⟩
  have C1 := hide ho1
  have E1 := hide (own_keptNe HO.out.e hg1 HN.out.1)
  have V1 := hide (own_keptNe HO.out.v hg1 HN.out.2.2.1)
  have P1' := hide (own_keptNe HO.out.p hg1 HN.out.2.1)
  have X1 := hide (HX0.out.kept hg1 (fun q => by have := (HLT.out.1 _ q).2; omega))
  have Q1 := hide (show ∀ b, b < w.heap.size → NdNot x S b → w1.heap[b]? = w.heap[b]? from fun b hb hn => (hg1.block b (Nat.lt_of_lt_of_le hb HB0.out.size) (fun q => hn.1 q.symm)).trans (Q0.out b hb))
  have B1 := hide (HB0.out.grown hg1 (by have := HBB.out; have := HSZ.out; omega) (fun j q => (HLT.out.1 j q).1))
  clear ho1 hg1 HM0 HO HX0
  obtain ⟨k0, k1, k2, k3, k4, k5, k6, k7, k8, k9, k10, k11, k12, k13⟩ := xs14 X1.out
  go_wp2_with fail
  refine (markLog_any x.s x.u _ x.es.length base (k + x.cf.length) (by omega) (by omega) _ x.es E1.out).mono ?_
  rintro e w2 ⟨rfl, ho2, hg2⟩
  have C2 := hide (own_keptNe C1.out hg2 HN.out.2.2.2.1)
  have E2 := hide ho2
  have V2 := hide (own_keptNe V1.out hg2 HN.out.2.2.2.2.1)
  have P2' := hide (own_keptNe P1'.out hg2 HN.out.2.2.2.2.2.1)
  have X2 := hide (X1.out.kept hg2 (fun q => by have := (HLT.out.2.1 _ q).2; omega))
  have Q2 := hide (show ∀ b, b < w.heap.size → NdNot x S b → w2.heap[b]? = w.heap[b]? from fun b hb hn => (hg2.block b (Nat.lt_of_lt_of_le hb B1.out.size) (fun q => hn.2.1 q.symm)).trans (Q1.out b hb hn))
  have B2 := hide (B1.out.grown hg2 (Nat.le_trans HBB.out B1.out.size) (fun j q => (HLT.out.2.1 j q).1))
  clear ho2 hg2 C1 E1 V1 P1' X1 k0 k1 k2 k3 k4 k5 k6 k7 k8 k9 k10 k11 k12 k13
  obtain ⟨k0, k1, k2, k3, k4, k5, k6, k7, k8, k9, k10, k11, k12, k13⟩ := xs14 X2.out
  go_wp2_with fail
  refine (markIntS_e _ x.vs.length base (k + x.cf.length + 3 * x.es.length) (by omega) (by omega) _ _ V2.out).mono ?_
  rintro e w3 ⟨rfl, ho3, hg3⟩
  have C3 := hide (own_keptNe C2.out hg3 HN.out.2.2.2.2.2.2.2.2.1)
  have E3 := hide (own_keptNe E2.out hg3 HN.out.2.2.2.2.2.2.1)
  have V3 := hide ho3
  have P3' := hide (own_keptNe P2'.out hg3 HN.out.2.2.2.2.2.2.2.1)
  have X3 := hide (X2.out.kept hg3 (fun q => by have := (HLT.out.2.2.1 _ q).2; omega))
  have Q3 := hide (show ∀ b, b < w.heap.size → NdNot x S b → w3.heap[b]? = w.heap[b]? from fun b hb hn => (hg3.block b (Nat.lt_of_lt_of_le hb B2.out.size) (fun q => hn.2.2.1 q.symm)).trans (Q2.out b hb hn))
  have B3 := hide (B2.out.grown hg3 (Nat.le_trans HBB.out B2.out.size) (fun j q => (HLT.out.2.2.1 j q).1))
  clear ho3 hg3 C2 E2 V2 P2' X2 k0 k1 k2 k3 k4 k5 k6 k7 k8 k9 k10 k11 k12 k13
  obtain ⟨k0, k1, k2, k3, k4, k5, k6, k7, k8, k9, k10, k11, k12, k13⟩ := xs14 X3.out
  go_wp2_with fail
  refine (markPeerS_any _ x.ps.length base (k + x.cf.length + 3 * x.es.length + x.vs.length) (by omega) (by omega) _ _ P3'.out).mono ?_
  rintro e w4 ⟨rfl, ho4, hg4⟩
  have C4 := hide (own_keptNe C3.out hg4 HN.out.2.2.2.2.2.2.2.2.2.1)
  have E4 := hide (own_keptNe E3.out hg4 HN.out.2.2.2.2.2.2.2.2.2.2.1)
  have V4 := hide (own_keptNe V3.out hg4 HN.out.2.2.2.2.2.2.2.2.2.2.2)
  have P4' := hide ho4
  have Q4 := hide (show ∀ b, b < w.heap.size → NdNot x S b → w4.heap[b]? = w.heap[b]? from fun b hb hn => (hg4.block b (Nat.lt_of_lt_of_le hb B3.out.size) (fun q => hn.2.2.2 q.symm)).trans (Q3.out b hb hn))
  have B4 := hide (B3.out.grown hg4 (Nat.le_trans HBB.out B3.out.size) (fun j q => (HLT.out.2.2.2 j q).1))
  clear ho4 hg4 C3 E3 V3 P3' X3 k0 k1 k2 k3 k4 k5 k6 k7 k8 k9 k10 k11 k12 k13
  go_wp2_with fail
  go_ret
  exact ⟨by go_num, ⟨C4.out, E4.out, V4.out, P4'.out⟩, B4.out, Q4.out⟩

structure NdIn (w : World) (lo hi : Nat) (x : NdV) (S : NdS) : Prop where
  own : NdOwn w lo x S
  top : ∀ b, hi ≤ b → NdNot x S b

theorem NdOwn.not {w : World} {lo b : Nat} {x : NdV} {S : NdS} (h : NdOwn w lo x S) (hb : w.heap.size ≤ b ∨ b < lo) : NdNot x S b :=
  ⟨fun q => by have := h.c.lt b q; omega, fun q => by have := h.e.lt b q; omega, fun q => by have := h.v.lt b q; omega, fun q => by have := h.p.lt b q; omega⟩

theorem NdIn.of {w : World} {lo : Nat} {x : NdV} {S : NdS} (h : NdOwn w lo x S) : NdIn w lo w.heap.size x S := ⟨h, fun b hb => h.not (Or.inl hb)⟩

theorem NdIn.on {w w' : World} {lo hi : Nat} {x : NdV} {S : NdS} (h : NdIn w lo hi x S) (hb : Below w.heap.size w w') : NdIn w' lo hi x S := ⟨h.own.on hb, h.top⟩

theorem own_out {w w' : World} {b2 : Nat} {e2 : TypeId} {k2 n2 : Nat} {v2 : Value} {xs2 : List Value} {row : Option Nat} (h2 : w.ownsRow b2 e2 k2 v2 n2 xs2) (hg : w.grownBy w' row) (hne : ∀ b, row = some b → v2.ownBlock ≠ some b) : w'.ownsRow b2 e2 k2 v2 n2 xs2 :=
  h2.kept hg (by
    cases hq : v2.ownBlock with
    | none => exact Or.inl rfl
    | some j => exact Or.inr (fun q => hne j q.symm hq))

theorem NdIn.out {w w' : World} {lo hi : Nat} {x : NdV} {S : NdS} {row : Option Nat} (h : NdIn w lo hi x S) (hg : w.grownBy w' row) (hne : ∀ b, row = some b → b < lo ∨ hi ≤ b) : NdIn w' lo hi x S := by
  have hn : ∀ b, row = some b → NdNot x S b := fun b q => by
    rcases hne b q with h1 | h1
    · exact h.own.not (Or.inr h1)
    · exact h.top b h1
  exact ⟨⟨own_out h.own.c hg (fun b q => (hn b q).1), own_out h.own.e hg (fun b q => (hn b q).2.1), own_out h.own.v hg (fun b q => (hn b q).2.2.1), own_out h.own.p hg (fun b q => (hn b q).2.2.2), h.own.cv⟩, h.top⟩

theorem own_lowN {w w' : World} {base B : Nat} {v : Value} {e : TypeId} {k n : Nat} {xs : List Value} (h : w.ownsRow base e k v n xs) (hb : Below B w w') (hl : ∀ g, v.ownBlock = some g → g < B) : w'.ownsRow base e k v n xs := by
  obtain ⟨h1, h2⟩ := h
  refine ⟨h1, ?_⟩
  rcases h2 with h2 | ⟨g, cap, cur, hv, hg, hh, r⟩
  · exact Or.inl h2
  · exact Or.inr ⟨g, cap, cur, hv, hg, (hb.block g (hl g (by rw [hv]; rfl))).trans hh, r⟩

theorem NdIn.low {w w' : World} {lo hi B : Nat} {x : NdV} {S : NdS} (h : NdIn w lo hi x S) (hb : Below B w w') (hB : hi ≤ B) : NdIn w' lo hi x S := by
  have hl : ∀ {v : Value}, (∀ b, hi ≤ b → v.ownBlock ≠ some b) → ∀ g, v.ownBlock = some g → g < B := fun hv g q => by
    rcases Nat.lt_or_ge g hi with h1 | h1
    · omega
    · exact absurd q (hv g h1)
  exact ⟨⟨own_lowN h.own.c hb (hl fun b q => (h.top b q).1), own_lowN h.own.e hb (hl fun b q => (h.top b q).2.1), own_lowN h.own.v hb (hl fun b q => (h.top b q).2.2.1), own_lowN h.own.p hb (hl fun b q => (h.top b q).2.2.2), h.own.cv⟩, h.top⟩

end Go.Proofs.Ytoalbeiinlcgpaa
