/-
  Walks and mathematics of NdW.
-/
import Derived.Test.YtoalbeiinlcgpaaKNdK
namespace Go.Proofs.Ytoalbeiinlcgpaa.P11
end Go.Proofs.Ytoalbeiinlcgpaa.P11
namespace Go.Proofs.Ytoalbeiinlcgpaa.P18
end Go.Proofs.Ytoalbeiinlcgpaa.P18
namespace Go.Proofs.Ytoalbeiinlcgpaa.P3
end Go.Proofs.Ytoalbeiinlcgpaa.P3
namespace Go.Proofs.Ytoalbeiinlcgpaa
open Go.RowKit P1 P3 P9 P11 P12 P18 K
set_option linter.unusedVariables false
set_option linter.unusedSimpArgs false

set_option maxHeartbeats 1000000 in
theorem markEntryS_wsome (g n cap base k : Nat) (hn : n ≤ 1048576) (hk : k ≤ 100000000) (w : World) (es : List EntV) (hown : w.ownsRow base 75 3 (.slice (some ⟨g, 0, none⟩) n cap) n (es.flatMap ecells)) :
    Calls Try.prog 65 #[.slice (some ⟨g, 0, none⟩) n cap, .int .i64 (k : Int)] w fun e w' => e = .returned (.int .i64 ((k + 3 * n : Nat) : Int)) ∧ w'.ownsRow base 75 3 (.slice (some ⟨g, 0, none⟩) n cap) n ((marksE k n).flatMap ecells) ∧ w.grownBy w' (some g) := by
  have HO0 := hide hown
  clear hown
  go_enter Try.func65, Try.ntmps65
  go_wp2_with fail
  go_loopw [1, 5] (fun x i wr => ∃ (j : Nat) (ys : List EntV), i = .int .i64 (j : Int) ∧ x = .int .i64 ((k + 3 * j : Nat) : Int) ∧ j ≤ n ∧ (∀ m, m < j → ys[m]? = (marksE k n)[m]?) ∧ wr.ownsRow base 75 3 (.slice (some ⟨g, 0, none⟩) n cap) n (ys.flatMap ecells) ∧ w.grownBy wr (some g)) (fun _ i _ => n - (intOf i).toNat)
  case atStart => exact ⟨0, es, rfl, rfl, Nat.zero_le _, fun k hk => absurd hk (Nat.not_lt_zero _), HO0.out, grown_below (Below.refl _ _)⟩
  case round =>
    obtain ⟨j, ys, rfl, rfl, hj, hfill, hown, hgr⟩ := hrel
    by_cases hlt : j < n
    · have j0 : (j : Int) < (n : Int) := by omega
      have hidx2 : ∀ wx, (Instr.indexAt 31 (.slice (some ⟨g, 0, none⟩) n cap) (.int .i64 (j : Int))).run Try.prog wx = .ok (.pointer (some ⟨g, j * 3, none⟩)) wx := fun wx => by
        have := run_indexAt_slice wx 31 75 3 Try.underlying31 infoIE g 0 n cap j hlt
        rwa [Nat.zero_add] at this
      have HYL := hide (own_lenE hown)
      have HFI := hide hfill
      obtain ⟨⟨y0, z0⟩, ⟨y1, z1⟩, -⟩ := own_three hown j hlt
      have f0 := hown.frozenAt (j * 3)
      have f1 := hown.frozenAt (j * 3 + 1)
      have st0 := hown.stored (j * 3) (.int .i64 ((k + 3 * j : Nat) : Int))
      have st1 := st0.1.stored (j * 3 + 1) (.int .i64 ((k + 3 * j + 1 : Nat) : Int))
      have HO1 := hide st1.1
      have HG1 := hide (grown_trans hgr (grown_trans st0.2 st1.2))
      clear hfill hown hgr st0 st1
      go_wp2_with fail
      refine (markText_any (k + 3 * j + 2) (by omega) _).mono ?_
      rintro e w3 ⟨rfl, hb3⟩
      have ho3 := own_below HO1.out hb3
      obtain ⟨-, -, ⟨y2, z2⟩⟩ := own_three ho3 j hlt
      have f2 := ho3.frozenAt (j * 3 + 2)
      have st4 := ho3.stored (j * 3 + 2) (.string ⟨(markB (k + 3 * j + 2)).toArray⟩)
      have HG4 := hide (grown_trans HG1.out (grown_trans (grown_below hb3) st4.2))
      have ho4 := st4.1
      have e4 := setAll_flat (cf := ecells) (k := 3) ecells_length ys j (markE k j) (by rw [HYL.out]; exact hlt)
      have e5 : ((((ys.flatMap ecells).set (j * 3) (.int .i64 ((k + 3 * j : Nat) : Int))).set (j * 3 + 1) (.int .i64 ((k + 3 * j + 1 : Nat) : Int))).set (j * 3 + 2) (.string ⟨(markB (k + 3 * j + 2)).toArray⟩)) = (ys.set j (markE k j)).flatMap ecells := e4
      rw [e5] at ho4
      have HO4 := hide ho4
      clear hb3 ho3 st4 ho4 e4 e5 z0 f0 z1 f1
      go_wp2_with fail
      go_roundw
      case rel =>
        refine ⟨j + 1, _, by go_num, by go_num, by omega, ?_, HO4.out, HG4.out⟩
        intro m hm
        by_cases e : m = j
        · subst e
          rw [List.getElem?_set_self (by rw [HYL.out]; exact hlt), marksE_at k n m hlt]
        · rw [List.getElem?_set_ne (by omega)]
          exact HFI.out m (by omega)
      case measure => simp [intOf]; omega
    · have ej : j = n := by omega
      subst ej
      have HE := hide (show ys = marksE k j by
        apply List.ext_getElem?
        intro m
        by_cases hm : m < j
        · exact hfill m hm
        · rw [List.getElem?_eq_none (by rw [own_lenE hown]; omega), List.getElem?_eq_none (by rw [marksE_length]; omega)])
      have HO := hide hown
      clear hown hfill
      go_wp2_with fail
      go_ret
      exact ⟨by go_num, by rw [← HE.out]; exact HO.out, hgr⟩

theorem markEntryS_wany (v : Value) (n base k : Nat) (hn : n ≤ 1048576) (hk : k ≤ 100000000) (w : World) (es : List EntV) (hown : w.ownsRow base 75 3 v n (es.flatMap ecells)) :
    Calls Try.prog 65 #[v, .int .i64 (k : Int)] w fun e w' => e = .returned (.int .i64 ((k + 3 * n : Nat) : Int)) ∧ w'.ownsRow base 75 3 v n ((marksE k n).flatMap ecells) ∧ w.grownBy w' v.ownBlock := by
  rcases hown.2 with ⟨rfl, rfl⟩ | ⟨g, cap, cur, rfl, _⟩
  · clear hown
    go_enter Try.func65, Try.ntmps65
    go_wp2_with fail
    go_loopw [1, 5] (fun x i wr => x = .int .i64 (k : Int) ∧ i = .int .i64 0 ∧ wr = w) (fun _ _ _ => 0)
    case atStart => exact ⟨rfl, rfl, rfl⟩
    case round =>
      obtain ⟨rfl, rfl, rfl⟩ := hrel
      go_wp2_with fail
      go_ret
      exact ⟨rfl, World.ownsRow_nil _ _ _ _, grown_below (Below.refl _ _)⟩
  · exact markEntryS_wsome g n cap base k hn hk w es hown

set_option maxHeartbeats 1000000 in
theorem markLog_wany (s u : Int) (v : Value) (n base k : Nat) (hn : n ≤ 1048576) (hk : k ≤ 100000000) (w : World) (es : List EntV) (hown : w.ownsRow base 75 3 v n (es.flatMap ecells)) :
    Calls Try.prog 41 #[lval s u v, .int .i64 (k : Int)] w fun e w' => e = .returned (.int .i64 ((k + 3 * n : Nat) : Int)) ∧ w'.ownsRow base 75 3 v n ((marksE k n).flatMap ecells) ∧ w.grownBy w' v.ownBlock := by
  have hv := own_oneCell6 hown
  have HM := hide (markEntryS_wany v n base k hn hk _ es (hown.alloc (.cells #[.int .i64 s, .int .i64 u, v] 33)))
  clear hown
  go_enter Try.func41, Try.ntmps41
  go_wp2_with fail
  refine HM.out.mono ?_
  rintro e w2 ⟨rfl, ho2, hg2⟩
  have HO2 := hide ho2
  have HG2 := hide hg2
  clear ho2 hg2
  go_wp2_with fail
  go_ret
  exact ⟨by go_num, HO2.out, grown_trans (World.grownBy_alloc _ _ _) HG2.out⟩

set_option maxHeartbeats 8000000 in
theorem markNode_wide (x : NdV) (S : NdS) (base k : Nat) (hc : x.cf.length ≤ 1048576) (he : x.es.length ≤ 1048576) (hv : x.vs.length ≤ 1048576) (hp : x.ps.length ≤ 1048576) (hk : k ≤ 1000) (w : World) (hbase : base ≤ w.heap.size) (ho : NdOwn w base x S) :
    Calls Try.prog 16 #[ndval x S, .int .i64 (k : Int)] w fun e w' => e = .returned (.int .i64 ((k + x.cf.length + 3 * x.es.length + x.vs.length + 4 * x.ps.length : Nat) : Int)) ∧ NdMk w' base k x S ∧ Below base w w' ∧ ∀ b, b < w.heap.size → NdNot x S b → w'.heap[b]? = w.heap[b]? := by
  have hb0 := (Below.refl w.heap.size w).alloc (Nat.le_refl _) (.cells (ndC x S) 36)
  have hbB := (Below.refl base w).alloc hbase (.cells (ndC x S) 36)
  have ho1 := ho.on hb0
  have HX0 := hide (XS.new w (ndC x S) 36)
  have nCE := own_apart ho1.c ho1.e (by decide)
  have nCP := own_apart ho1.c ho1.p (by decide)
  have nEC := own_apart ho1.e ho1.c (by decide)
  have nEV := own_apart ho1.e ho1.v (by decide)
  have nEP := own_apart ho1.e ho1.p (by decide)
  have nVE := own_apart ho1.v ho1.e (by decide)
  have nVP := own_apart ho1.v ho1.p (by decide)
  have nPC := own_apart ho1.p ho1.c (by decide)
  have nPE := own_apart ho1.p ho1.e (by decide)
  have nPV := own_apart ho1.p ho1.v (by decide)
  have nVC : ∀ k, (Value.slice S.ov x.vs.length S.cv).ownBlock = some k → (Value.slice S.oc x.cf.length S.cc).ownBlock ≠ some k := fun k a b => ho.cv k b a
  have lC := fun q e => ho.c.lt q e
  have lE := fun q e => ho.e.lt q e
  have lV := fun q e => ho.v.lt q e
  have lP := fun q e => ho.p.lt q e
  have HM0 := hide (markIntS_e _ x.cf.length base k (by omega) (by omega) _ _ ho1.c)
  have HO := hide ho1
  have HB0 := hide hbB
  have HSZ := hide (show (w.alloc (.cells (ndC x S) 36)).heap.size = w.heap.size + 1 by simp)
  have HN := hide (And.intro nCE (And.intro nCP (And.intro ho1.cv (And.intro nEC (And.intro nEV (And.intro nEP (And.intro nVE (And.intro nVP (And.intro nVC (And.intro nPC (And.intro nPE nPV)))))))))))
  have HLT := hide (And.intro lC (And.intro lE (And.intro lV lP)))
  have HBB := hide hbase
  have Q0 := hide (show ∀ b, b < w.heap.size → (w.alloc (.cells (ndC x S) 36)).heap[b]? = w.heap[b]? from fun b hb => hb0.block b hb)
  clear ho ho1 hb0 hbB nCE nCP nEC nEV nEP nVE nVP nPC nPE nPV nVC lC lE lV lP hbase
  go_enter Try.func16, Try.ntmps16
  go_wp2_with fail
  refine HM0.out.mono ?_
  rintro e w1 ⟨rfl, ho1, hg1⟩
  have C1 := hide ho1
  have E1 := hide (own_keptNe HO.out.e hg1 HN.out.1)
  have V1 := hide (own_keptNe HO.out.v hg1 HN.out.2.2.1)
  have P1' := hide (own_keptNe HO.out.p hg1 HN.out.2.1)
  have X1 := hide (HX0.out.kept hg1 (fun q => by have := (HLT.out.1 _ q).2; omega))
  have Q1 := hide (show ∀ b, b < w.heap.size → NdNot x S b → w1.heap[b]? = w.heap[b]? from fun b hb hn => (hg1.block b (Nat.lt_of_lt_of_le hb HB0.out.size) (fun q => hn.1 q.symm)).trans (Q0.out b hb))
  have B1 := hide (HB0.out.grown hg1 (by have := HBB.out; have := HSZ.out; omega) (fun j q => (HLT.out.1 j q).1))
  clear ho1 hg1 HM0 HO HX0
  obtain ⟨k0, k1, k2, k3, k4, k5, k6, k7, k8, k9, k10, k11, k12, k13⟩ := xs14 X1.out
  go_wp2_with fail
  refine (markLog_wany x.s x.u _ x.es.length base (k + x.cf.length) (by omega) (by omega) _ x.es E1.out).mono ?_
  rintro e w2 ⟨rfl, ho2, hg2⟩
  have C2 := hide (own_keptNe C1.out hg2 HN.out.2.2.2.1)
  have E2 := hide ho2
  have V2 := hide (own_keptNe V1.out hg2 HN.out.2.2.2.2.1)
  have P2' := hide (own_keptNe P1'.out hg2 HN.out.2.2.2.2.2.1)
  have X2 := hide (X1.out.kept hg2 (fun q => by have := (HLT.out.2.1 _ q).2; omega))
  have Q2 := hide (show ∀ b, b < w.heap.size → NdNot x S b → w2.heap[b]? = w.heap[b]? from fun b hb hn => (hg2.block b (Nat.lt_of_lt_of_le hb B1.out.size) (fun q => hn.2.1 q.symm)).trans (Q1.out b hb hn))
  have B2 := hide (B1.out.grown hg2 (Nat.le_trans HBB.out B1.out.size) (fun j q => (HLT.out.2.1 j q).1))
  clear ho2 hg2 C1 E1 V1 P1' X1 k0 k1 k2 k3 k4 k5 k6 k7 k8 k9 k10 k11 k12 k13
  obtain ⟨k0, k1, k2, k3, k4, k5, k6, k7, k8, k9, k10, k11, k12, k13⟩ := xs14 X2.out
  go_wp2_with fail
  refine (markIntS_e _ x.vs.length base (k + x.cf.length + 3 * x.es.length) (by omega) (by omega) _ _ V2.out).mono ?_
  rintro e w3 ⟨rfl, ho3, hg3⟩
  have C3 := hide (own_keptNe C2.out hg3 HN.out.2.2.2.2.2.2.2.2.1)
  have E3 := hide (own_keptNe E2.out hg3 HN.out.2.2.2.2.2.2.1)
  have V3 := hide ho3
  have P3' := hide (own_keptNe P2'.out hg3 HN.out.2.2.2.2.2.2.2.1)
  have X3 := hide (X2.out.kept hg3 (fun q => by have := (HLT.out.2.2.1 _ q).2; omega))
  have Q3 := hide (show ∀ b, b < w.heap.size → NdNot x S b → w3.heap[b]? = w.heap[b]? from fun b hb hn => (hg3.block b (Nat.lt_of_lt_of_le hb B2.out.size) (fun q => hn.2.2.1 q.symm)).trans (Q2.out b hb hn))
  have B3 := hide (B2.out.grown hg3 (Nat.le_trans HBB.out B2.out.size) (fun j q => (HLT.out.2.2.1 j q).1))
  clear ho3 hg3 C2 E2 V2 P2' X2 k0 k1 k2 k3 k4 k5 k6 k7 k8 k9 k10 k11 k12 k13
  obtain ⟨k0, k1, k2, k3, k4, k5, k6, k7, k8, k9, k10, k11, k12, k13⟩ := xs14 X3.out
  go_wp2_with fail
  refine (markPeerS_any _ x.ps.length base (k + x.cf.length + 3 * x.es.length + x.vs.length) (by omega) (by omega) _ _ P3'.out).mono ?_
  rintro e w4 ⟨rfl, ho4, hg4⟩
  have C4 := hide (own_keptNe C3.out hg4 HN.out.2.2.2.2.2.2.2.2.2.1)
  have E4 := hide (own_keptNe E3.out hg4 HN.out.2.2.2.2.2.2.2.2.2.2.1)
  have V4 := hide (own_keptNe V3.out hg4 HN.out.2.2.2.2.2.2.2.2.2.2.2)
  have P4' := hide ho4
  have Q4 := hide (show ∀ b, b < w.heap.size → NdNot x S b → w4.heap[b]? = w.heap[b]? from fun b hb hn => (hg4.block b (Nat.lt_of_lt_of_le hb B3.out.size) (fun q => hn.2.2.2 q.symm)).trans (Q3.out b hb hn))
  have B4 := hide (B3.out.grown hg4 (Nat.le_trans HBB.out B3.out.size) (fun j q => (HLT.out.2.2.2 j q).1))
  clear ho4 hg4 C3 E3 V3 P3' X3 k0 k1 k2 k3 k4 k5 k6 k7 k8 k9 k10 k11 k12 k13
  go_wp2_with fail
  go_ret
  exact ⟨by go_num, ⟨C4.out, E4.out, V4.out, P4'.out⟩, B4.out, Q4.out⟩

set_option maxHeartbeats 8000000 in
theorem heldNode_wide (x : NdV) (S : NdS) (base k : Nat) (hc : x.cf.length ≤ 100000) (he : x.es.length ≤ 100000) (hv : x.vs.length ≤ 1048576) (hp : x.ps.length ≤ 1048576) (hk : k ≤ 1000) (w : World) (ho : NdMk w base k x S) :
    Calls Try.prog 17 #[ndval x S, .int .i64 (k : Int)] w fun e w' => e = .returned (.int .i64 ((k + x.cf.length + 3 * x.es.length + x.vs.length + 4 * x.ps.length : Nat) : Int)) ∧ Below w.heap.size w w' := by
  have hb0 := (Below.refl w.heap.size w).alloc (Nat.le_refl _) (.cells (ndC x S) 36)
  have HX0 := hide (XS.new w (ndC x S) 36)
  obtain ⟨_, _, e1, hc1⟩ := intsAt_of_own ho.c (marksI_wf _ _ (by omega) (by omega))
  cases e1
  obtain ⟨_, _, e1, he1⟩ := entsAt_own ho.e
  cases e1
  obtain ⟨_, _, e1, hv1⟩ := intsAt_of_own ho.v (marksI_wf _ _ (by omega) (by omega))
  cases e1
  obtain ⟨_, _, e1, hp1⟩ := peersAt_own ho.p
  cases e1
  have H0 := hide (heldIntS_own S.oc x.cf.length S.cc k (by omega) (by omega) _ (hc1.below hb0))
  have H1 := hide (fun w h => heldLog_any x.s x.u S.oe x.es.length S.ce (k + x.cf.length) (by omega) (by omega) w h)
  have H2 := hide (fun w h => heldIntS_own S.ov x.vs.length S.cv (k + x.cf.length + 3 * x.es.length) (by omega) (by omega) w h)
  have H3 := hide (fun w h => heldPeerS_any S.op x.ps.length S.cp (k + x.cf.length + 3 * x.es.length + x.vs.length) (by omega) (by omega) w h)
  have HE := hide he1
  have HV := hide hv1
  have HP := hide hp1
  have HB0 := hide hb0
  have g1 : ¬ ((k + x.cf.length : Nat) : Int) < 0 := by omega
  have g2 : ¬ ((k + x.cf.length + 3 * x.es.length : Nat) : Int) < 0 := by omega
  have g3 : ¬ ((k + x.cf.length + 3 * x.es.length + x.vs.length : Nat) : Int) < 0 := by omega
  have g4 : ¬ ((k + x.cf.length + 3 * x.es.length + x.vs.length + 4 * x.ps.length : Nat) : Int) < 0 := by omega
  clear ho hc1 he1 hv1 hp1 hb0
  go_enter Try.func17, Try.ntmps17
  go_wp2_with fail
  refine H0.out.mono ?_
  rintro e w1 ⟨rfl, hb1⟩
  have HB1 := hide (HB0.out.trans (hb1.mono HB0.out.size))
  have HX1 := hide (HX0.out.on hb1)
  obtain ⟨k0, k1, k2, k3, k4, k5, k6, k7, k8, k9, k10, k11, k12, k13⟩ := xs14 HX1.out
  clear hb1 HX0
  go_wp2_with fail
  refine (H1.out _ (HE.out.below HB1.out)).mono ?_
  rintro e w2 ⟨rfl, hb2⟩
  have HB2 := hide (HB1.out.trans (hb2.mono HB1.out.size))
  have HX2 := hide (HX1.out.on hb2)
  clear k0 k1 k2 k3 k4 k5 k6 k7 k8 k9 k10 k11 k12 k13
  obtain ⟨k0, k1, k2, k3, k4, k5, k6, k7, k8, k9, k10, k11, k12, k13⟩ := xs14 HX2.out
  clear hb2 HX1
  go_wp2_with fail
  refine (H2.out _ (HV.out.below HB2.out)).mono ?_
  rintro e w3 ⟨rfl, hb3⟩
  have HB3 := hide (HB2.out.trans (hb3.mono HB2.out.size))
  have HX3 := hide (HX2.out.on hb3)
  clear k0 k1 k2 k3 k4 k5 k6 k7 k8 k9 k10 k11 k12 k13
  obtain ⟨k0, k1, k2, k3, k4, k5, k6, k7, k8, k9, k10, k11, k12, k13⟩ := xs14 HX3.out
  clear hb3 HX2
  go_wp2_with fail
  refine (H3.out _ (HP.out.below HB3.out)).mono ?_
  rintro e w4 ⟨rfl, hb4⟩
  have HB4 := hide (HB3.out.trans (hb4.mono HB3.out.size))
  clear hb4 k0 k1 k2 k3 k4 k5 k6 k7 k8 k9 k10 k11 k12 k13
  go_wp2_with fail
  go_ret
  exact ⟨by go_num, HB4.out⟩

theorem own_keepN {w w' : World} {base : Nat} {v : Value} {e : TypeId} {k n : Nat} {xs : List Value} (h : w.ownsRow base e k v n xs) (hl : ∀ g, base ≤ g → g < w.heap.size → w'.heap[g]? = w.heap[g]?) : w'.ownsRow base e k v n xs := by
  have hlt := h.lt
  obtain ⟨h1, h2⟩ := h
  refine ⟨h1, ?_⟩
  rcases h2 with h2 | ⟨g, cap, cur, hv, hg, hh, r⟩
  · exact Or.inl h2
  · exact Or.inr ⟨g, cap, cur, hv, hg, (hl g (hlt g (by rw [hv]; rfl)).1 (hlt g (by rw [hv]; rfl)).2).trans hh, r⟩

theorem NdIn.keep {w w' : World} {lo hi : Nat} {x : NdV} {S : NdS} (h : NdIn w lo hi x S) (hl : ∀ g, lo ≤ g → g < w.heap.size → w'.heap[g]? = w.heap[g]?) : NdIn w' lo hi x S :=
  ⟨⟨own_keepN h.own.c hl, own_keepN h.own.e hl, own_keepN h.own.v hl, own_keepN h.own.p hl, h.own.cv⟩, h.top⟩

end Go.Proofs.Ytoalbeiinlcgpaa
