/-
  Walks and mathematics of NdB.
-/
import Derived.Test.YtoalbeiinlcgpaaKNodeA
import Derived.Test.YtoalbeiinlcgpaaKAppG
import Derived.Test.YtoalbeiinlcgpaaKCloneI
import Derived.Test.YtoalbeiinlcgpaaKWalk6b
import Derived.Lib.SliceRun
import Derived.Deep.Cut
namespace Go.Proofs.Ytoalbeiinlcgpaa.P11
end Go.Proofs.Ytoalbeiinlcgpaa.P11
namespace Go.Proofs.Ytoalbeiinlcgpaa.P18
end Go.Proofs.Ytoalbeiinlcgpaa.P18
namespace Go.Proofs.Ytoalbeiinlcgpaa.P3
end Go.Proofs.Ytoalbeiinlcgpaa.P3
namespace Go.Proofs.Ytoalbeiinlcgpaa.P5
end Go.Proofs.Ytoalbeiinlcgpaa.P5
namespace Go.Proofs.Ytoalbeiinlcgpaa
open Go.RowKit P1 P3 P5 P9 P11 P12 P18 K
set_option linter.unusedVariables false
set_option linter.unusedSimpArgs false

set_option maxHeartbeats 1000000 in
theorem clonePeers_any (oa : Option Addr) (n cap : Nat) (ps : List PeerV) (hn20 : n ≤ 1048576) (w : World) (hat : PeersAt w oa n cap ps) :
    Calls Try.prog 64 #[.slice oa n cap] w fun e w' => ∃ v, e = .returned v ∧ w'.ownsRow w.heap.size 60 4 v n (ps.flatMap pcells) ∧ Below w.heap.size w w' := by
  have hcmp := fun (a : Option Addr) (w : World) => Go.Lib.run_eql_slice_nil (P := Try.prog) w 34 60 a n cap 0 0 Try.underlying34
  cases oa with
  | none =>
    have hps : ps = [] := by
      cases ps with
      | nil => rfl
      | cons x r => obtain ⟨b, o, he, _⟩ := hat.at_ 0 x rfl; cases he
    have hl := hat.len
    subst hps
    obtain rfl : n = 0 := by simpa using hl.symm
    have hc0 := hcmp none
    clear hat hl hcmp
    go_enter Try.func64, Try.ntmps64
    go_wp2_with fail
    go_ret
    exact ⟨_, rfl, World.ownsRow_nil _ _ _ _, Below.refl _ _⟩
  | some ad =>
    have hc0 := hcmp (some ad)
    have hb0 := (Below.refl w.heap.size w).alloc (Nat.le_refl _) (.cells #[] 60)
    have HCR := hide (hat.below hb0)
    have HG0 := hide (heap_alloc_new w (.cells #[] 60))
    have HB0 := hide hb0
    clear hat hb0 hcmp
    go_enter Try.func64, Try.ntmps64
    go_wp2_with (at_builtin; refine wpList_append_rowsG pcells_length pcells_one (by decide) rfl _ _ 34 rfl Try.underlying34 infoIPz rfl w.heap.size HG0.out rfl _ _ _ _ rfl HCR.out hn20 (by omega) w.heap.size (Nat.le_refl _) ?_; intro v1 w1 hown1 hg1; have HO1 := hide hown1; have HB1 := hide (HB0.out.grown hg1 (by simp) (fun k hk => by cases hk; exact Nat.le_refl _)))
    go_ret
    exact ⟨_, rfl, HO1.out, HB1.out⟩

def NdRes (w : World) (x : NdV) (e : Ending) (w' : World) : Prop := ∃ S, e = .returned (ndval x S) ∧ NdOwn w' w.heap.size x S ∧ Below w.heap.size w w'

set_option maxRecDepth 20000 in
set_option maxHeartbeats 8000000 in
theorem nodeCopied_any (x : NdV) (S : NdS) (hc20 : x.cf.length ≤ 1048576) (he20 : x.es.length ≤ 1048576) (hez : ∀ f ∈ x.es, f.data.size ≤ 1048576) (hv20 : x.vs.length ≤ 1048576) (hp20 : x.ps.length ≤ 1048576) (w : World) (hat : NdAt w x S) :
    Calls Try.prog 40 #[ndval x S] w fun e w' => NdRes w x e w' := by
  obtain ⟨W1, hW1⟩ : ∃ W1, (w.alloc (.cells (ndC x S) 36)).alloc (.cells #[.int .i64 0, .int .i64 0, .int .i64 0, .int .i64 0, .int .i64 0, .slice none 0 0, .int .i64 0, .int .i64 0, .slice none 0 0, .int .i64 0, .int .i64 0, .int .i64 0, .slice none 0 0, .slice none 0 0] 36) = W1 := ⟨_, rfl⟩
  have hb1 : Below w.heap.size w W1 := by
    rw [← hW1]
    exact ((Below.refl w.heap.size w).alloc (Nat.le_refl _) _).alloc (by simp) _
  have hL : XS w.heap.size (ndC x S) 36 W1 := by
    rw [← hW1]
    exact (XS.new w (ndC x S) 36).alloc _
  have hZ : XS (w.heap.size + 1) #[.int .i64 0, .int .i64 0, .int .i64 0, .int .i64 0, .int .i64 0, .slice none 0 0, .int .i64 0, .int .i64 0, .slice none 0 0, .int .i64 0, .int .i64 0, .int .i64 0, .slice none 0 0, .slice none 0 0] 36 W1 := by
    rw [← hW1]
    have h := XS.new (w.alloc (.cells (ndC x S) 36)) #[.int .i64 0, .int .i64 0, .int .i64 0, .int .i64 0, .int .i64 0, .slice none 0 0, .int .i64 0, .int .i64 0, .slice none 0 0, .int .i64 0, .int .i64 0, .int .i64 0, .slice none 0 0, .slice none 0 0] 36
    rw [World.size_alloc] at h
    exact h
  have hs1 : W1.heap.size = w.heap.size + 1 + 1 := by rw [← hW1]; simp
  have HC := hide (cloneInts_v S.oc x.cf.length S.cc x.cf hc20 W1 (hat.c.below hb1))
  have HAT := hide hat
  have HG := hide (fun w h => copied6_any x.s x.u S.oe x.es.length S.ce x.es he20 w h hez)
  have HV := hide (fun w h => cloneInts_v S.ov x.vs.length S.cv x.vs hv20 w h)
  have HP := hide (fun w h => clonePeers_any S.op x.ps.length S.cp x.ps hp20 w h)
  have HB1 := hide hb1
  have HL1 := hide hL
  have HZ1 := hide hZ
  have HS1 := hide (Nat.le_of_eq hs1.symm)
  have HW1 := hide hW1
  clear hat hb1 hL hZ hs1 hW1 hez
  go_enter Try.func40, Try.ntmps40
  go_upto_region 1 with fail
  rw [HW1.out]
  clear HW1
  obtain ⟨k0, k1, k2, k3, k4, k5, k6, k7, k8, k9, k10, k11, k12, k13⟩ := xs14 HL1.out
  go_wp2_with fail
  refine HC.out.mono ?_
  rintro e w2 ⟨v2, rfl, hg2, hb2⟩
  obtain ⟨oc, cc, hv2⟩ := own_form3 hg2
  subst hv2
  have HB2 := hide (HB1.out.trans (hb2.mono HB1.out.size))
  have HL2 := hide (HL1.out.on hb2)
  have HZ2 := hide (HZ1.out.on hb2)
  have HS2 := hide (Nat.le_trans HS1.out hb2.size)
  have HC2 := hide (own_base hg2 HS1.out)
  obtain ⟨w3, hw3⟩ : ∃ w3, (w2.setCell ⟨w.heap.size, 5, none⟩ (.slice oc x.cf.length cc)) = w3 := ⟨_, rfl⟩
  have hL3 : XS (w.heap.size) #[.int .i64 x.id, .int .i64 x.tm, .int .i64 x.vt, .int .i64 x.ro, .int .i64 x.ld, .slice oc x.cf.length cc, .int .i64 x.s, .int .i64 x.u, .slice S.oe x.es.length S.ce, .int .i64 x.cm, .int .i64 x.ck, .int .i64 x.lm, .slice S.ov x.vs.length S.cv, .slice S.op x.ps.length S.cp] 36 w3 := by rw [← hw3]; exact (HL2.out.set 5 (.slice oc x.cf.length cc))
  have hG3 : w2.grownBy w3 (some (w.heap.size)) := by rw [← hw3]; exact (blk_grown _ _ _ _)
  have HB3 := hide (HB2.out.grown hG3 HB2.out.size (fun k hk => by cases hk; omega))
  have HZ3 := hide (HZ2.out.kept hG3 (fun q => by have := Option.some.inj q; omega))
  have HL3 := hide hL3
  have HS3 := hide (Nat.le_trans HS2.out hG3.size)
  have HC3 := hide (HC2.out.kept hG3 (Or.inr (fun q => by have := HC2.out.lt _ q; omega)))
  have HW3 := hide hw3
  clear hg2 hb2 hL3 hG3 hw3 k0 k1 k2 k3 k4 k5 k6 k7 k8 k9 k10 k11 k12 k13 HL1 HZ1 HB1
  have k0 := HL2.out.cell 0 rfl
  have k1 := HL2.out.cell 1 rfl
  have k2 := HL2.out.cell 2 rfl
  have k3 := HL2.out.cell 3 rfl
  have k4 := HL2.out.cell 4 rfl
  have k5 := HL2.out.cell 5 rfl
  have k6 := HL2.out.cell 6 rfl
  have k7 := HL2.out.cell 7 rfl
  have k8 := HL2.out.cell 8 rfl
  have k9 := HL2.out.cell 9 rfl
  have k10 := HL2.out.cell 10 rfl
  have k11 := HL2.out.cell 11 rfl
  have k12 := HL2.out.cell 12 rfl
  have k13 := HL2.out.cell 13 rfl
  have f5 := HL2.out.free 5
  go_upto_region 2 with fail
  rw [HW3.out]
  clear HW3 f5 k0 k1 k2 k3 k4 k5 k6 k7 k8 k9 k10 k11 k12 k13 HL2 HZ2 HB2
  have k0 := HL3.out.cell 0 rfl
  have k1 := HL3.out.cell 1 rfl
  have k2 := HL3.out.cell 2 rfl
  have k3 := HL3.out.cell 3 rfl
  have k4 := HL3.out.cell 4 rfl
  have k5 := HL3.out.cell 5 rfl
  have k6 := HL3.out.cell 6 rfl
  have k7 := HL3.out.cell 7 rfl
  have k8 := HL3.out.cell 8 rfl
  have k9 := HL3.out.cell 9 rfl
  have k10 := HL3.out.cell 10 rfl
  have k11 := HL3.out.cell 11 rfl
  have k12 := HL3.out.cell 12 rfl
  have k13 := HL3.out.cell 13 rfl
  go_wp2_with fail
  refine (HG.out _ (HAT.out.e.below HB3.out)).mono ?_
  rintro e w4 ⟨v4, rfl, hg4, hb4⟩
  obtain ⟨oe, ce, hv4⟩ := own_form3 hg4
  subst hv4
  have HB4 := hide (HB3.out.trans (hb4.mono HB3.out.size))
  have HL4 := hide (HL3.out.on hb4)
  have HZ4 := hide (HZ3.out.on hb4)
  have HS4 := hide (Nat.le_trans HS3.out hb4.size)
  have HC4 := hide (own_below HC3.out hb4)
  have HE4 := hide (own_base hg4 HS3.out)
  obtain ⟨w5, hw5⟩ : ∃ w5, (((w4.setCell ⟨w.heap.size, 6, none⟩ (.int .i64 x.s)).setCell ⟨w.heap.size, 7, none⟩ (.int .i64 x.u)).setCell ⟨w.heap.size, 8, none⟩ (.slice oe x.es.length ce)) = w5 := ⟨_, rfl⟩
  have hL5 : XS (w.heap.size) #[.int .i64 x.id, .int .i64 x.tm, .int .i64 x.vt, .int .i64 x.ro, .int .i64 x.ld, .slice oc x.cf.length cc, .int .i64 x.s, .int .i64 x.u, .slice oe x.es.length ce, .int .i64 x.cm, .int .i64 x.ck, .int .i64 x.lm, .slice S.ov x.vs.length S.cv, .slice S.op x.ps.length S.cp] 36 w5 := by rw [← hw5]; exact (((HL4.out.set 6 (.int .i64 x.s)).set 7 (.int .i64 x.u)).set 8 (.slice oe x.es.length ce))
  have hG5 : w4.grownBy w5 (some (w.heap.size)) := by rw [← hw5]; exact (grown_trans (grown_trans (blk_grown _ _ _ _) (blk_grown _ _ _ _)) (blk_grown _ _ _ _))
  have HB5 := hide (HB4.out.grown hG5 HB4.out.size (fun k hk => by cases hk; omega))
  have HZ5 := hide (HZ4.out.kept hG5 (fun q => by have := Option.some.inj q; omega))
  have HL5 := hide hL5
  have HS5 := hide (Nat.le_trans HS4.out hG5.size)
  have HC5 := hide (HC4.out.kept hG5 (Or.inr (fun q => by have := HC4.out.lt _ q; omega)))
  have HE5 := hide (HE4.out.kept hG5 (Or.inr (fun q => by have := HE4.out.lt _ q; omega)))
  have HW5 := hide hw5
  clear hg4 hb4 hL5 hG5 hw5 k0 k1 k2 k3 k4 k5 k6 k7 k8 k9 k10 k11 k12 k13 HL3 HZ3 HB3
  have k0 := HL4.out.cell 0 rfl
  have k1 := HL4.out.cell 1 rfl
  have k2 := HL4.out.cell 2 rfl
  have k3 := HL4.out.cell 3 rfl
  have k4 := HL4.out.cell 4 rfl
  have k5 := HL4.out.cell 5 rfl
  have k6 := HL4.out.cell 6 rfl
  have k7 := HL4.out.cell 7 rfl
  have k8 := HL4.out.cell 8 rfl
  have k9 := HL4.out.cell 9 rfl
  have k10 := HL4.out.cell 10 rfl
  have k11 := HL4.out.cell 11 rfl
  have k12 := HL4.out.cell 12 rfl
  have k13 := HL4.out.cell 13 rfl
  have f6 := HL4.out.free 6
  have f7 := HL4.out.free 7
  have f8 := HL4.out.free 8
  go_upto_region 3 with fail
  rw [HW5.out]
  clear HW5 f6 f7 f8 k0 k1 k2 k3 k4 k5 k6 k7 k8 k9 k10 k11 k12 k13 HL4 HZ4 HB4
  have k0 := HL5.out.cell 0 rfl
  have k1 := HL5.out.cell 1 rfl
  have k2 := HL5.out.cell 2 rfl
  have k3 := HL5.out.cell 3 rfl
  have k4 := HL5.out.cell 4 rfl
  have k5 := HL5.out.cell 5 rfl
  have k6 := HL5.out.cell 6 rfl
  have k7 := HL5.out.cell 7 rfl
  have k8 := HL5.out.cell 8 rfl
  have k9 := HL5.out.cell 9 rfl
  have k10 := HL5.out.cell 10 rfl
  have k11 := HL5.out.cell 11 rfl
  have k12 := HL5.out.cell 12 rfl
  have k13 := HL5.out.cell 13 rfl
  go_wp2_with fail
  refine (HV.out _ (HAT.out.v.below HB5.out)).mono ?_
  rintro e w6 ⟨v6, rfl, hg6, hb6⟩
  obtain ⟨ov, cv, hv6⟩ := own_form3 hg6
  subst hv6
  have HB6 := hide (HB5.out.trans (hb6.mono HB5.out.size))
  have HL6 := hide (HL5.out.on hb6)
  have HZ6 := hide (HZ5.out.on hb6)
  have HS6 := hide (Nat.le_trans HS5.out hb6.size)
  have HC6 := hide (own_below HC5.out hb6)
  have HE6 := hide (own_below HE5.out hb6)
  have HV6 := hide (own_base hg6 HS5.out)
  have HNE := hide (show ∀ k, (Value.slice oc x.cf.length cc).ownBlock = some k → (Value.slice ov x.vs.length cv).ownBlock ≠ some k from fun k h1 h2 => by have := (HC5.out.lt k h1).2; have := (hg6.lt k h2).1; omega)
  obtain ⟨w7, hw7⟩ : ∃ w7, (w6.setCell ⟨w.heap.size, 12, none⟩ (.slice ov x.vs.length cv)) = w7 := ⟨_, rfl⟩
  have hL7 : XS (w.heap.size) #[.int .i64 x.id, .int .i64 x.tm, .int .i64 x.vt, .int .i64 x.ro, .int .i64 x.ld, .slice oc x.cf.length cc, .int .i64 x.s, .int .i64 x.u, .slice oe x.es.length ce, .int .i64 x.cm, .int .i64 x.ck, .int .i64 x.lm, .slice ov x.vs.length cv, .slice S.op x.ps.length S.cp] 36 w7 := by rw [← hw7]; exact (HL6.out.set 12 (.slice ov x.vs.length cv))
  have hG7 : w6.grownBy w7 (some (w.heap.size)) := by rw [← hw7]; exact (blk_grown _ _ _ _)
  have HB7 := hide (HB6.out.grown hG7 HB6.out.size (fun k hk => by cases hk; omega))
  have HZ7 := hide (HZ6.out.kept hG7 (fun q => by have := Option.some.inj q; omega))
  have HL7 := hide hL7
  have HS7 := hide (Nat.le_trans HS6.out hG7.size)
  have HC7 := hide (HC6.out.kept hG7 (Or.inr (fun q => by have := HC6.out.lt _ q; omega)))
  have HE7 := hide (HE6.out.kept hG7 (Or.inr (fun q => by have := HE6.out.lt _ q; omega)))
  have HV7 := hide (HV6.out.kept hG7 (Or.inr (fun q => by have := HV6.out.lt _ q; omega)))
  have HW7 := hide hw7
  clear hg6 hb6 hL7 hG7 hw7 k0 k1 k2 k3 k4 k5 k6 k7 k8 k9 k10 k11 k12 k13 HL5 HZ5 HB5
  have k0 := HL6.out.cell 0 rfl
  have k1 := HL6.out.cell 1 rfl
  have k2 := HL6.out.cell 2 rfl
  have k3 := HL6.out.cell 3 rfl
  have k4 := HL6.out.cell 4 rfl
  have k5 := HL6.out.cell 5 rfl
  have k6 := HL6.out.cell 6 rfl
  have k7 := HL6.out.cell 7 rfl
  have k8 := HL6.out.cell 8 rfl
  have k9 := HL6.out.cell 9 rfl
  have k10 := HL6.out.cell 10 rfl
  have k11 := HL6.out.cell 11 rfl
  have k12 := HL6.out.cell 12 rfl
  have k13 := HL6.out.cell 13 rfl
  have f12 := HL6.out.free 12
  go_upto_region 4 with fail
  rw [HW7.out]
  clear HW7 f12 k0 k1 k2 k3 k4 k5 k6 k7 k8 k9 k10 k11 k12 k13 HL6 HZ6 HB6
  have k0 := HL7.out.cell 0 rfl
  have k1 := HL7.out.cell 1 rfl
  have k2 := HL7.out.cell 2 rfl
  have k3 := HL7.out.cell 3 rfl
  have k4 := HL7.out.cell 4 rfl
  have k5 := HL7.out.cell 5 rfl
  have k6 := HL7.out.cell 6 rfl
  have k7 := HL7.out.cell 7 rfl
  have k8 := HL7.out.cell 8 rfl
  have k9 := HL7.out.cell 9 rfl
  have k10 := HL7.out.cell 10 rfl
  have k11 := HL7.out.cell 11 rfl
  have k12 := HL7.out.cell 12 rfl
  have k13 := HL7.out.cell 13 rfl
  go_wp2_with fail
  refine (HP.out _ (HAT.out.p.below HB7.out)).mono ?_
  rintro e w8 ⟨v8, rfl, hg8, hb8⟩
  obtain ⟨op, cp, hv8⟩ := own_form3 hg8
  subst hv8
  have HB8 := hide (HB7.out.trans (hb8.mono HB7.out.size))
  have HL8 := hide (HL7.out.on hb8)
  have HZ8 := hide (HZ7.out.on hb8)
  have HS8 := hide (Nat.le_trans HS7.out hb8.size)
  have HC8 := hide (own_below HC7.out hb8)
  have HE8 := hide (own_below HE7.out hb8)
  have HV8 := hide (own_below HV7.out hb8)
  have HP8 := hide (own_base hg8 HS7.out)
  obtain ⟨w9, hw9⟩ : ∃ w9, (w8.setCell ⟨w.heap.size, 13, none⟩ (.slice op x.ps.length cp)) = w9 := ⟨_, rfl⟩
  have hL9 : XS (w.heap.size) #[.int .i64 x.id, .int .i64 x.tm, .int .i64 x.vt, .int .i64 x.ro, .int .i64 x.ld, .slice oc x.cf.length cc, .int .i64 x.s, .int .i64 x.u, .slice oe x.es.length ce, .int .i64 x.cm, .int .i64 x.ck, .int .i64 x.lm, .slice ov x.vs.length cv, .slice op x.ps.length cp] 36 w9 := by rw [← hw9]; exact (HL8.out.set 13 (.slice op x.ps.length cp))
  have hG9 : w8.grownBy w9 (some (w.heap.size)) := by rw [← hw9]; exact (blk_grown _ _ _ _)
  have HB9 := hide (HB8.out.grown hG9 HB8.out.size (fun k hk => by cases hk; omega))
  have HZ9 := hide (HZ8.out.kept hG9 (fun q => by have := Option.some.inj q; omega))
  have HL9 := hide hL9
  have HS9 := hide (Nat.le_trans HS8.out hG9.size)
  have HC9 := hide (HC8.out.kept hG9 (Or.inr (fun q => by have := HC8.out.lt _ q; omega)))
  have HE9 := hide (HE8.out.kept hG9 (Or.inr (fun q => by have := HE8.out.lt _ q; omega)))
  have HV9 := hide (HV8.out.kept hG9 (Or.inr (fun q => by have := HV8.out.lt _ q; omega)))
  have HP9 := hide (HP8.out.kept hG9 (Or.inr (fun q => by have := HP8.out.lt _ q; omega)))
  have HW9 := hide hw9
  clear hg8 hb8 hL9 hG9 hw9 k0 k1 k2 k3 k4 k5 k6 k7 k8 k9 k10 k11 k12 k13 HL7 HZ7 HB7
  have k0 := HL8.out.cell 0 rfl
  have k1 := HL8.out.cell 1 rfl
  have k2 := HL8.out.cell 2 rfl
  have k3 := HL8.out.cell 3 rfl
  have k4 := HL8.out.cell 4 rfl
  have k5 := HL8.out.cell 5 rfl
  have k6 := HL8.out.cell 6 rfl
  have k7 := HL8.out.cell 7 rfl
  have k8 := HL8.out.cell 8 rfl
  have k9 := HL8.out.cell 9 rfl
  have k10 := HL8.out.cell 10 rfl
  have k11 := HL8.out.cell 11 rfl
  have k12 := HL8.out.cell 12 rfl
  have k13 := HL8.out.cell 13 rfl
  have f13 := HL8.out.free 13
  go_upto_region 5 with fail
  rw [HW9.out]
  clear HW9 f13 k0 k1 k2 k3 k4 k5 k6 k7 k8 k9 k10 k11 k12 k13 HL8 HZ8 HB8
  have z0 := HZ9.out.free 0
  have y0 := HZ9.out.cell 0 rfl
  have o0 := HL9.out.cell 0 rfl
  have z1 := HZ9.out.free 1
  have y1 := HZ9.out.cell 1 rfl
  have o1 := HL9.out.cell 1 rfl
  have z2 := HZ9.out.free 2
  have y2 := HZ9.out.cell 2 rfl
  have o2 := HL9.out.cell 2 rfl
  have z3 := HZ9.out.free 3
  have y3 := HZ9.out.cell 3 rfl
  have o3 := HL9.out.cell 3 rfl
  have z4 := HZ9.out.free 4
  have y4 := HZ9.out.cell 4 rfl
  have o4 := HL9.out.cell 4 rfl
  have z5 := HZ9.out.free 5
  have y5 := HZ9.out.cell 5 rfl
  have o5 := HL9.out.cell 5 rfl
  have z6 := HZ9.out.free 6
  have y6 := HZ9.out.cell 6 rfl
  have o6 := HL9.out.cell 6 rfl
  have z7 := HZ9.out.free 7
  have y7 := HZ9.out.cell 7 rfl
  have o7 := HL9.out.cell 7 rfl
  have z8 := HZ9.out.free 8
  have y8 := HZ9.out.cell 8 rfl
  have o8 := HL9.out.cell 8 rfl
  have z9 := HZ9.out.free 9
  have y9 := HZ9.out.cell 9 rfl
  have o9 := HL9.out.cell 9 rfl
  have z10 := HZ9.out.free 10
  have y10 := HZ9.out.cell 10 rfl
  have o10 := HL9.out.cell 10 rfl
  have z11 := HZ9.out.free 11
  have y11 := HZ9.out.cell 11 rfl
  have o11 := HL9.out.cell 11 rfl
  have z12 := HZ9.out.free 12
  have y12 := HZ9.out.cell 12 rfl
  have o12 := HL9.out.cell 12 rfl
  have z13 := HZ9.out.free 13
  have y13 := HZ9.out.cell 13 rfl
  have o13 := HL9.out.cell 13 rfl
  go_wp2_with fail
  obtain ⟨w10, hw10, hR, hgR⟩ := sets14 HZ9.out (.int .i64 x.id) (.int .i64 x.tm) (.int .i64 x.vt) (.int .i64 x.ro) (.int .i64 x.ld) (.slice oc x.cf.length cc) (.int .i64 x.s) (.int .i64 x.u) (.slice oe x.es.length ce) (.int .i64 x.cm) (.int .i64 x.ck) (.int .i64 x.lm) (.slice ov x.vs.length cv) (.slice op x.ps.length cp)
  rw [hw10]
  clear hw10
  obtain ⟨r0, r1, r2, r3, r4, r5, r6, r7, r8, r9, r10, r11, r12, r13⟩ := xs14 (S := ⟨oc, cc, oe, ce, ov, cv, op, cp⟩) hR
  refine bodyPost_ret (v := ndval x ⟨oc, cc, oe, ce, ov, cv, op, cp⟩) (by simp [results, Try.results40, go_sem, r0, r1, r2, r3, r4, r5, r6, r7, r8, r9, r10, r11, r12, r13]) rfl ⟨⟨oc, cc, oe, ce, ov, cv, op, cp⟩, rfl, ⟨?_, ?_, ?_, ?_, ?_⟩, ?_⟩
  · exact own_base (HC9.out.kept hgR (Or.inr (fun q => by have := HC9.out.lt _ q; omega))) (by omega)
  · exact own_base (HE9.out.kept hgR (Or.inr (fun q => by have := HE9.out.lt _ q; omega))) (by omega)
  · exact own_base (HV9.out.kept hgR (Or.inr (fun q => by have := HV9.out.lt _ q; omega))) (by omega)
  · exact own_base (HP9.out.kept hgR (Or.inr (fun q => by have := HP9.out.lt _ q; omega))) (by omega)
  · exact HNE.out
  · exact HB9.out.grown hgR HB9.out.size (fun k hk => by cases hk; omega)

end Go.Proofs.Ytoalbeiinlcgpaa
