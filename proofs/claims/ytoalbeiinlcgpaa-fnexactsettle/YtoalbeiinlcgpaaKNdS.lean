/-
  Walks and mathematics of NdS.
-/
import Derived.Test.YtoalbeiinlcgpaaKNdB
import Derived.Test.YtoalbeiinlcgpaaKBk2
import Derived.Test.YtoalbeiinlcgpaaKNd2
import Derived.Test.YtoalbeiinlcgpaaKPiece
import Derived.Deep.RegionHeld3
namespace Go.Proofs.Ytoalbeiinlcgpaa.P11
end Go.Proofs.Ytoalbeiinlcgpaa.P11
namespace Go.Proofs.Ytoalbeiinlcgpaa.P18
end Go.Proofs.Ytoalbeiinlcgpaa.P18
namespace Go.Proofs.Ytoalbeiinlcgpaa.P3
end Go.Proofs.Ytoalbeiinlcgpaa.P3
namespace Go.Proofs.Ytoalbeiinlcgpaa.P5
end Go.Proofs.Ytoalbeiinlcgpaa.P5
namespace Go.Proofs.Ytoalbeiinlcgpaa
open Go.RowKit P1 P3 P5 P9 P11 P12 P18 K
set_option linter.unusedVariables false
set_option linter.unusedSimpArgs false

theorem countUpTo_in (s u : Int) (oa : Option Addr) (n cap : Nat) (h0 : 0 ≤ s) (h1 : s ≤ 1000000) (hn : n ≤ 60) (ix : Int) (k : Nat) (hix : ix = s + k) (hk : k ≤ n) (w : World) :
    Calls Try.prog 70 #[lgv s u (.slice oa n cap), .int .i64 ix] w fun e w' => e = .returned (.int .i64 (k : Int)) ∧ Below w.heap.size w w' := by
  subst hix
  have hb0 := (Below.refl w.heap.size w).alloc (Nat.le_refl _) (.cells #[.int .i64 s, .int .i64 u, .slice oa n cap] 33)
  have HB0 := hide hb0
  clear hb0
  match k, hk with
  | 0, hk =>
    have e0 : s + ((0 : Nat) : Int) = s := by omega
    rw [e0]
    go_enter Try.func70, Try.ntmps70
    go_wp2_with fail
    go_ret
    exact ⟨rfl, HB0.out⟩
  | m + 1, hk =>
    have e1 : s + ((m + 1 : Nat) : Int) = s + (m : Int) + 1 := by omega
    rw [e1]
    have g2 : s < s + (m : Int) + 1 := by omega
    have g2' : ¬ s + (m : Int) + 1 ≤ s := by omega
    have g3 : s + (m : Int) + 1 - s = (m : Int) + 1 := by omega
    have g5 : (m : Int) + 1 ≤ (n : Int) := by omega
    have g6 : ¬ (n : Int) < (m : Int) + 1 := by omega
    have g7 : min ((m : Int) + 1) (n : Int) = (m : Int) + 1 := by omega
    have g8 : ((m + 1 : Nat) : Int) = (m : Int) + 1 := by omega
    go_enter Try.func70, Try.ntmps70
    go_wp2_with fail
    go_ret
    exact ⟨rfl, HB0.out⟩

theorem ents_take {w : World} {oa : Option Addr} {n cap : Nat} {es : List EntV} (h : EntsAt w oa n cap es) {k : Nat} (hk : k ≤ n) : EntsAt w oa k cap (es.take k) :=
  ⟨by rw [List.length_take, h.len]; omega, by have := h.room; omega, h.most, fun i f hf => by
    have hi : i < k := by have := (List.getElem?_eq_some_iff.1 hf).1; simp at this; omega
    rw [List.getElem?_take_of_lt hi] at hf
    exact h.at_ i f hf⟩

set_option maxRecDepth 100000 in
set_option maxHeartbeats 4000000 in
theorem implConfAt_in (x : NdV) (S : NdS) (h0 : 0 ≤ x.s) (h1 : x.s ≤ 1000000) (hn : x.es.length ≤ 60) (hnc : x.cf.length ≤ 1048576) (hok : ∀ e ∈ x.es, e.ok = true) (hsz : ∀ e ∈ x.es, e.data.size ≤ 1048576) (ix : Int) (k : Nat) (hix : ix = x.s + k) (hk : k ≤ x.es.length) (w : World) (hat : NdAt w x S) :
    Calls Try.prog 50 #[ndval x S, .int .i64 ix] w fun e w' => ∃ v, e = .returned v ∧ w'.ownsRow w.heap.size 3 1 v (cfGo x.cf (x.es.take k)).length ((cfGo x.cf (x.es.take k)).map icell) ∧ Below w.heap.size w w' := by
  have hb0 := (Below.refl w.heap.size w).alloc (Nat.le_refl _) (.cells (ndC x S) 36)
  have HX0 := hide (XS.new w (ndC x S) 36)
  have HCU := hide (fun w => countUpTo_in x.s x.u S.oe x.es.length S.ce h0 h1 hn ix k hix hk w)
  have hsl := run_piece_h S.oe x.es.length S.ce (k : Int) k rfl (Nat.le_trans hk hat.e.room)
  have hpa : partA S.oe 0 S.ce = S.oe := by
    unfold partA
    split
    · rfl
    · cases hq : S.oe with
      | none => rfl
      | some a => obtain ⟨b, p, q⟩ := a; simp [Addr.add]
  rw [hpa] at hsl
  simp only [Nat.sub_zero] at hsl
  have HCB := hide (fun w hc he => confBehind_any S.oc x.cf.length S.cc x.cf S.oe k S.ce (x.es.take k) (by omega) hnc (fun e he => hok e (List.mem_of_mem_take he)) (fun e he => hsz e (List.mem_of_mem_take he)) w hc he)
  have HAT := hide hat
  have HB0 := hide hb0
  have hk0 : (0 : Int) ≤ (k : Int) := by omega
  have hk1 : (k : Int) ≤ (S.ce : Int) := by have := hat.e.room; omega
  generalize cfGo x.cf (x.es.take k) = C at HCB ⊢
  clear hat hb0 hok hsz hix hpa
  go_enter Try.func50, Try.ntmps50
  go_upto_region 1 with fail
  have y5 : ∀ w', XS w.heap.size (ndC x S) 36 w' → w'.cell? ⟨w.heap.size, 5, none⟩ = some (.slice S.oc x.cf.length S.cc) := fun w' h => h.cell 5 rfl
  have y6 : ∀ w', XS w.heap.size (ndC x S) 36 w' → w'.cell? ⟨w.heap.size, 6, none⟩ = some (.int .i64 x.s) := fun w' h => h.cell 6 rfl
  have y7 : ∀ w', XS w.heap.size (ndC x S) 36 w' → w'.cell? ⟨w.heap.size, 7, none⟩ = some (.int .i64 x.u) := fun w' h => h.cell 7 rfl
  have y8 : ∀ w', XS w.heap.size (ndC x S) 36 w' → w'.cell? ⟨w.heap.size, 8, none⟩ = some (.slice S.oe x.es.length S.ce) := fun w' h => h.cell 8 rfl
  go_region_held3 (fun w' => XS w.heap.size (ndC x S) 36 w') (first | exact HX0.out | exact HX0.out.drew | exact HX0.out.drew.on hbA | exact (HX0.out.drew.on hbA).on hbB)
    (first
      | (go_at_call 70; refine (HCU.out _).mono ?_; rintro e wA ⟨rfl, hbA⟩)
      | (go_at_call 69; refine (HCB.out _ (HAT.out.c.below (HB0.out.drew.trans (hbA.mono HB0.out.drew.size))) (ents_take (HAT.out.e.below (HB0.out.drew.trans (hbA.mono HB0.out.drew.size))) hk)).mono ?_; rintro e wB ⟨vB, rfl, hoB, hbB⟩; have HOB := hide hoB; clear hoB))
  have HBB := hide ((HB0.out.drew.trans (hbA.mono HB0.out.drew.size)).trans (hbB.mono (Nat.le_trans HB0.out.drew.size hbA.size)))
  have HL := hide (Nat.le_trans HB0.out.drew.size hbA.size)
  clear hbA hbB y5 y6 y7 y8
  go_wp2_with fail
  go_ret
  exact ⟨_, rfl, own_base HOB.out HL.out, HBB.out⟩

set_option maxRecDepth 20000 in
set_option maxHeartbeats 8000000 in
theorem l16Copy_any (x : NdV) (S : NdS) (hc20 : x.cf.length ≤ 1048576) (he20 : x.es.length ≤ 1048576) (hv20 : x.vs.length ≤ 1048576) (hp20 : x.ps.length ≤ 1048576) (w : World) (hat : NdAt w x S) :
    Calls Try.prog 46 #[ndval x S] w fun e w' => NdRes w x e w' := by
  obtain ⟨W1, hW1⟩ : ∃ W1, (w.alloc (.cells (ndC x S) 36)).alloc (.cells #[.int .i64 0, .int .i64 0, .int .i64 0, .int .i64 0, .int .i64 0, .slice none 0 0, .int .i64 0, .int .i64 0, .slice none 0 0, .int .i64 0, .int .i64 0, .int .i64 0, .slice none 0 0, .slice none 0 0] 36) = W1 := ⟨_, rfl⟩
  have hb1 : Below w.heap.size w W1 := by
    rw [← hW1]
    exact ((Below.refl w.heap.size w).alloc (Nat.le_refl _) _).alloc (by simp) _
  have hL : XS w.heap.size (ndC x S) 36 W1 := by
    rw [← hW1]
    exact (XS.new w (ndC x S) 36).alloc _
  have hZ : XS (w.heap.size + 1) #[.int .i64 0, .int .i64 0, .int .i64 0, .int .i64 0, .int .i64 0, .slice none 0 0, .int .i64 0, .int .i64 0, .slice none 0 0, .int .i64 0, .int .i64 0, .int .i64 0, .slice none 0 0, .slice none 0 0] 36 W1 := by
    rw [← hW1]
    have h := XS.new (w.alloc (.cells (ndC x S) 36)) #[.int .i64 0, .int .i64 0, .int .i64 0, .int .i64 0, .int .i64 0, .slice none 0 0, .int .i64 0, .int .i64 0, .slice none 0 0, .int .i64 0, .int .i64 0, .int .i64 0, .slice none 0 0, .slice none 0 0] 36
    rw [World.size_alloc] at h
    exact h
  have hs1 : W1.heap.size = w.heap.size + 1 + 1 := by rw [← hW1]; simp
  have HAT := hide hat
  have HB1 := hide hb1
  have HL1 := hide hL
  have HZ1 := hide hZ
  have HS1 := hide (Nat.le_of_eq hs1.symm)
  have HW1 := hide hW1
  clear hat hb1 hL hZ hs1 hW1
  go_enter Try.func46, Try.ntmps46
  go_upto_region 1 with fail
  rw [HW1.out]
  clear HW1
  have hbx2 := (Below.refl W1.heap.size W1).alloc (Nat.le_refl _) (.cells #[] 3)
  have hbw2 := HB1.out.trans (hbx2.mono HB1.out.size)
  have HR2 := hide ((HAT.out.c.below hbw2).rows)
  have HG2 := hide (heap_alloc_new W1 (.cells #[] 3))
  have HBA2 := hide hbw2
  have HLA2 := hide (HL1.out.on hbx2)
  have HZA2 := hide (HZ1.out.on hbx2)
  have HSA2 := hide (show w.heap.size + 1 + 1 ≤ (W1.alloc (.cells #[] 3)).heap.size from Nat.le_trans HS1.out hbx2.size)
  clear hbx2 hbw2
  have k0 := HL1.out.cell 0 rfl
  have k1 := HL1.out.cell 1 rfl
  have k2 := HL1.out.cell 2 rfl
  have k3 := HL1.out.cell 3 rfl
  have k4 := HL1.out.cell 4 rfl
  have k5 := HL1.out.cell 5 rfl
  have k6 := HL1.out.cell 6 rfl
  have k7 := HL1.out.cell 7 rfl
  have k8 := HL1.out.cell 8 rfl
  have k9 := HL1.out.cell 9 rfl
  have k10 := HL1.out.cell 10 rfl
  have k11 := HL1.out.cell 11 rfl
  have k12 := HL1.out.cell 12 rfl
  have k13 := HL1.out.cell 13 rfl
  have hlt2 := HL1.out.lt
  go_upto_region 2 with (at_builtin; refine wpList_append_rowsG icells1_length icells1_one (by decide) rfl _ _ 22 rfl Try.underlying22 infoIz rfl W1.heap.size HG2.out rfl _ _ _ _ rfl HR2.out (by omega) (by omega) W1.heap.size (Nat.le_refl _) ?_; intro v2 w2 hg2 hgr2; obtain ⟨oc, cc, hv2⟩ := own_form3 hg2; subst hv2; have HL2 := hide (HLA2.out.kept hgr2 (fun q => by have := Option.some.inj q; have := HL1.out.lt; omega)); have HOW2 := hide hg2; have HGR2 := hide hgr2; clear k0 k1 k2 k3 k4 k5 k6 k7 k8 k9 k10 k11 k12 k13 hg2 hgr2; have k0 := HL2.out.cell 0 rfl; have k1 := HL2.out.cell 1 rfl; have k2 := HL2.out.cell 2 rfl; have k3 := HL2.out.cell 3 rfl; have k4 := HL2.out.cell 4 rfl; have k5 := HL2.out.cell 5 rfl; have k6 := HL2.out.cell 6 rfl; have k7 := HL2.out.cell 7 rfl; have k8 := HL2.out.cell 8 rfl; have k9 := HL2.out.cell 9 rfl; have k10 := HL2.out.cell 10 rfl; have k11 := HL2.out.cell 11 rfl; have k12 := HL2.out.cell 12 rfl; have k13 := HL2.out.cell 13 rfl; have f5 := HL2.out.free 5)
  have hS2 := HGR2.out.size
  have HB2 := hide (HBA2.out.grown HGR2.out HBA2.out.size (fun k hk => by cases hk; have := HS1.out; omega))
  have HZ2 := hide (HZA2.out.kept HGR2.out (fun q => by have := Option.some.inj q; have := HZ1.out.lt; omega))
  have HS2 := hide (Nat.le_trans HSA2.out HGR2.out.size)
  have hg2 := HOW2.out
  rw [icells1_flat] at hg2
  have HC2 := hide (own_base hg2 HS1.out)
  obtain ⟨w3, hw3⟩ : ∃ w3, (w2.setCell ⟨w.heap.size, 5, none⟩ (.slice oc x.cf.length cc)) = w3 := ⟨_, rfl⟩
  have hL3 : XS (w.heap.size) #[.int .i64 x.id, .int .i64 x.tm, .int .i64 x.vt, .int .i64 x.ro, .int .i64 x.ld, .slice oc x.cf.length cc, .int .i64 x.s, .int .i64 x.u, .slice S.oe x.es.length S.ce, .int .i64 x.cm, .int .i64 x.ck, .int .i64 x.lm, .slice S.ov x.vs.length S.cv, .slice S.op x.ps.length S.cp] 36 w3 := by rw [← hw3]; exact (HL2.out.set 5 (.slice oc x.cf.length cc))
  have hG3 : w2.grownBy w3 (some (w.heap.size)) := by rw [← hw3]; exact (blk_grown _ _ _ _)
  have HB3 := hide (HB2.out.grown hG3 HB2.out.size (fun k hk => by cases hk; omega))
  have HZ3 := hide (HZ2.out.kept hG3 (fun q => by have := Option.some.inj q; omega))
  have HL3 := hide hL3
  have HS3 := hide (Nat.le_trans HS2.out hG3.size)
  have HC3 := hide (HC2.out.kept hG3 (Or.inr (fun q => by have := HC2.out.lt _ q; omega)))
  rw [hw3]
  clear hlt2 hS2 hg2 hL3 hG3 hw3 k0 k1 k2 k3 k4 k5 k6 k7 k8 k9 k10 k11 k12 k13 f5 HL1 HZ1 HB1 HL2 HZ2 HB2 HLA2 HZA2 HBA2 HOW2 HGR2 HR2 HG2
  have hbx4 := (Below.refl w3.heap.size w3).alloc (Nat.le_refl _) (.cells #[] 75)
  have hbw4 := HB3.out.trans (hbx4.mono HB3.out.size)
  have HR4 := hide ((HAT.out.e.below hbw4))
  have HG4 := hide (heap_alloc_new w3 (.cells #[] 75))
  have HBA4 := hide hbw4
  have HLA4 := hide (HL3.out.on hbx4)
  have HZA4 := hide (HZ3.out.on hbx4)
  have HSA4 := hide (show w.heap.size + 1 + 1 ≤ (w3.alloc (.cells #[] 75)).heap.size from Nat.le_trans HS3.out hbx4.size)
  have HCA4 := hide (own_below HC3.out hbx4)
  clear hbx4 hbw4
  have k0 := HL3.out.cell 0 rfl
  have k1 := HL3.out.cell 1 rfl
  have k2 := HL3.out.cell 2 rfl
  have k3 := HL3.out.cell 3 rfl
  have k4 := HL3.out.cell 4 rfl
  have k5 := HL3.out.cell 5 rfl
  have k6 := HL3.out.cell 6 rfl
  have k7 := HL3.out.cell 7 rfl
  have k8 := HL3.out.cell 8 rfl
  have k9 := HL3.out.cell 9 rfl
  have k10 := HL3.out.cell 10 rfl
  have k11 := HL3.out.cell 11 rfl
  have k12 := HL3.out.cell 12 rfl
  have k13 := HL3.out.cell 13 rfl
  have hlt4 := HL3.out.lt
  go_upto_region 3 with (at_builtin; refine wpList_append_rowsG ecells_length ecells_one (by decide) rfl _ _ 31 rfl Try.underlying31 infoIEz rfl w3.heap.size HG4.out rfl _ _ _ _ rfl HR4.out (by omega) (by omega) w3.heap.size (Nat.le_refl _) ?_; intro v4 w4 hg4 hgr4; obtain ⟨oe, ce, hv4⟩ := own_form3 hg4; subst hv4; have HL4 := hide (HLA4.out.kept hgr4 (fun q => by have := Option.some.inj q; have := HL3.out.lt; omega)); have HOW4 := hide hg4; have HGR4 := hide hgr4; clear k0 k1 k2 k3 k4 k5 k6 k7 k8 k9 k10 k11 k12 k13 hg4 hgr4; have k0 := HL4.out.cell 0 rfl; have k1 := HL4.out.cell 1 rfl; have k2 := HL4.out.cell 2 rfl; have k3 := HL4.out.cell 3 rfl; have k4 := HL4.out.cell 4 rfl; have k5 := HL4.out.cell 5 rfl; have k6 := HL4.out.cell 6 rfl; have k7 := HL4.out.cell 7 rfl; have k8 := HL4.out.cell 8 rfl; have k9 := HL4.out.cell 9 rfl; have k10 := HL4.out.cell 10 rfl; have k11 := HL4.out.cell 11 rfl; have k12 := HL4.out.cell 12 rfl; have k13 := HL4.out.cell 13 rfl; have f8 := HL4.out.free 8)
  have hS4 := HGR4.out.size
  have HB4 := hide (HBA4.out.grown HGR4.out HBA4.out.size (fun k hk => by cases hk; have := HS3.out; omega))
  have HZ4 := hide (HZA4.out.kept HGR4.out (fun q => by have := Option.some.inj q; have := HZ3.out.lt; omega))
  have HS4 := hide (Nat.le_trans HSA4.out HGR4.out.size)
  have HC4 := hide (HCA4.out.kept HGR4.out (Or.inr (fun q => by have := HC3.out.lt _ q; omega)))
  have hg4 := HOW4.out
  have HE4 := hide (own_base hg4 HS3.out)
  obtain ⟨w5, hw5⟩ : ∃ w5, (w4.setCell ⟨w.heap.size, 8, none⟩ (.slice oe x.es.length ce)) = w5 := ⟨_, rfl⟩
  have hL5 : XS (w.heap.size) #[.int .i64 x.id, .int .i64 x.tm, .int .i64 x.vt, .int .i64 x.ro, .int .i64 x.ld, .slice oc x.cf.length cc, .int .i64 x.s, .int .i64 x.u, .slice oe x.es.length ce, .int .i64 x.cm, .int .i64 x.ck, .int .i64 x.lm, .slice S.ov x.vs.length S.cv, .slice S.op x.ps.length S.cp] 36 w5 := by rw [← hw5]; exact (HL4.out.set 8 (.slice oe x.es.length ce))
  have hG5 : w4.grownBy w5 (some (w.heap.size)) := by rw [← hw5]; exact (blk_grown _ _ _ _)
  have HB5 := hide (HB4.out.grown hG5 HB4.out.size (fun k hk => by cases hk; omega))
  have HZ5 := hide (HZ4.out.kept hG5 (fun q => by have := Option.some.inj q; omega))
  have HL5 := hide hL5
  have HS5 := hide (Nat.le_trans HS4.out hG5.size)
  have HC5 := hide (HC4.out.kept hG5 (Or.inr (fun q => by have := HC4.out.lt _ q; omega)))
  have HE5 := hide (HE4.out.kept hG5 (Or.inr (fun q => by have := HE4.out.lt _ q; omega)))
  rw [hw5]
  clear hlt4 hS4 hg4 hL5 hG5 hw5 k0 k1 k2 k3 k4 k5 k6 k7 k8 k9 k10 k11 k12 k13 f8 HL3 HZ3 HB3 HL4 HZ4 HB4 HLA4 HZA4 HBA4 HOW4 HGR4 HR4 HG4
  have hbx6 := (Below.refl w5.heap.size w5).alloc (Nat.le_refl _) (.cells #[] 3)
  have hbw6 := HB5.out.trans (hbx6.mono HB5.out.size)
  have HR6 := hide ((HAT.out.v.below hbw6).rows)
  have HG6 := hide (heap_alloc_new w5 (.cells #[] 3))
  have HBA6 := hide hbw6
  have HLA6 := hide (HL5.out.on hbx6)
  have HZA6 := hide (HZ5.out.on hbx6)
  have HSA6 := hide (show w.heap.size + 1 + 1 ≤ (w5.alloc (.cells #[] 3)).heap.size from Nat.le_trans HS5.out hbx6.size)
  have HCA6 := hide (own_below HC5.out hbx6)
  have HEA6 := hide (own_below HE5.out hbx6)
  clear hbx6 hbw6
  have k0 := HL5.out.cell 0 rfl
  have k1 := HL5.out.cell 1 rfl
  have k2 := HL5.out.cell 2 rfl
  have k3 := HL5.out.cell 3 rfl
  have k4 := HL5.out.cell 4 rfl
  have k5 := HL5.out.cell 5 rfl
  have k6 := HL5.out.cell 6 rfl
  have k7 := HL5.out.cell 7 rfl
  have k8 := HL5.out.cell 8 rfl
  have k9 := HL5.out.cell 9 rfl
  have k10 := HL5.out.cell 10 rfl
  have k11 := HL5.out.cell 11 rfl
  have k12 := HL5.out.cell 12 rfl
  have k13 := HL5.out.cell 13 rfl
  have hlt6 := HL5.out.lt
  go_upto_region 4 with (at_builtin; refine wpList_append_rowsG icells1_length icells1_one (by decide) rfl _ _ 22 rfl Try.underlying22 infoIz rfl w5.heap.size HG6.out rfl _ _ _ _ rfl HR6.out (by omega) (by omega) w5.heap.size (Nat.le_refl _) ?_; intro v6 w6 hg6 hgr6; obtain ⟨ov, cv, hv6⟩ := own_form3 hg6; subst hv6; have HL6 := hide (HLA6.out.kept hgr6 (fun q => by have := Option.some.inj q; have := HL5.out.lt; omega)); have HOW6 := hide hg6; have HGR6 := hide hgr6; clear k0 k1 k2 k3 k4 k5 k6 k7 k8 k9 k10 k11 k12 k13 hg6 hgr6; have k0 := HL6.out.cell 0 rfl; have k1 := HL6.out.cell 1 rfl; have k2 := HL6.out.cell 2 rfl; have k3 := HL6.out.cell 3 rfl; have k4 := HL6.out.cell 4 rfl; have k5 := HL6.out.cell 5 rfl; have k6 := HL6.out.cell 6 rfl; have k7 := HL6.out.cell 7 rfl; have k8 := HL6.out.cell 8 rfl; have k9 := HL6.out.cell 9 rfl; have k10 := HL6.out.cell 10 rfl; have k11 := HL6.out.cell 11 rfl; have k12 := HL6.out.cell 12 rfl; have k13 := HL6.out.cell 13 rfl; have f12 := HL6.out.free 12)
  have hS6 := HGR6.out.size
  have HB6 := hide (HBA6.out.grown HGR6.out HBA6.out.size (fun k hk => by cases hk; have := HS5.out; omega))
  have HZ6 := hide (HZA6.out.kept HGR6.out (fun q => by have := Option.some.inj q; have := HZ5.out.lt; omega))
  have HS6 := hide (Nat.le_trans HSA6.out HGR6.out.size)
  have HC6 := hide (HCA6.out.kept HGR6.out (Or.inr (fun q => by have := HC5.out.lt _ q; omega)))
  have HE6 := hide (HEA6.out.kept HGR6.out (Or.inr (fun q => by have := HE5.out.lt _ q; omega)))
  have hg6 := HOW6.out
  rw [icells1_flat] at hg6
  have HV6 := hide (own_base hg6 HS5.out)
  have HNE := hide (show ∀ k, (Value.slice oc x.cf.length cc).ownBlock = some k → (Value.slice ov x.vs.length cv).ownBlock ≠ some k from fun k h1 h2 => by have := (HC5.out.lt k h1).2; have := (hg6.lt k h2).1; omega)
  obtain ⟨w7, hw7⟩ : ∃ w7, (w6.setCell ⟨w.heap.size, 12, none⟩ (.slice ov x.vs.length cv)) = w7 := ⟨_, rfl⟩
  have hL7 : XS (w.heap.size) #[.int .i64 x.id, .int .i64 x.tm, .int .i64 x.vt, .int .i64 x.ro, .int .i64 x.ld, .slice oc x.cf.length cc, .int .i64 x.s, .int .i64 x.u, .slice oe x.es.length ce, .int .i64 x.cm, .int .i64 x.ck, .int .i64 x.lm, .slice ov x.vs.length cv, .slice S.op x.ps.length S.cp] 36 w7 := by rw [← hw7]; exact (HL6.out.set 12 (.slice ov x.vs.length cv))
  have hG7 : w6.grownBy w7 (some (w.heap.size)) := by rw [← hw7]; exact (blk_grown _ _ _ _)
  have HB7 := hide (HB6.out.grown hG7 HB6.out.size (fun k hk => by cases hk; omega))
  have HZ7 := hide (HZ6.out.kept hG7 (fun q => by have := Option.some.inj q; omega))
  have HL7 := hide hL7
  have HS7 := hide (Nat.le_trans HS6.out hG7.size)
  have HC7 := hide (HC6.out.kept hG7 (Or.inr (fun q => by have := HC6.out.lt _ q; omega)))
  have HE7 := hide (HE6.out.kept hG7 (Or.inr (fun q => by have := HE6.out.lt _ q; omega)))
  have HV7 := hide (HV6.out.kept hG7 (Or.inr (fun q => by have := HV6.out.lt _ q; omega)))
  rw [hw7]
  clear hlt6 hS6 hg6 hL7 hG7 hw7 k0 k1 k2 k3 k4 k5 k6 k7 k8 k9 k10 k11 k12 k13 f12 HL5 HZ5 HB5 HL6 HZ6 HB6 HLA6 HZA6 HBA6 HOW6 HGR6 HR6 HG6
  have hbx8 := (Below.refl w7.heap.size w7).alloc (Nat.le_refl _) (.cells #[] 60)
  have hbw8 := HB7.out.trans (hbx8.mono HB7.out.size)
  have HR8 := hide ((HAT.out.p.below hbw8))
  have HG8 := hide (heap_alloc_new w7 (.cells #[] 60))
  have HBA8 := hide hbw8
  have HLA8 := hide (HL7.out.on hbx8)
  have HZA8 := hide (HZ7.out.on hbx8)
  have HSA8 := hide (show w.heap.size + 1 + 1 ≤ (w7.alloc (.cells #[] 60)).heap.size from Nat.le_trans HS7.out hbx8.size)
  have HCA8 := hide (own_below HC7.out hbx8)
  have HEA8 := hide (own_below HE7.out hbx8)
  have HVA8 := hide (own_below HV7.out hbx8)
  clear hbx8 hbw8
  have k0 := HL7.out.cell 0 rfl
  have k1 := HL7.out.cell 1 rfl
  have k2 := HL7.out.cell 2 rfl
  have k3 := HL7.out.cell 3 rfl
  have k4 := HL7.out.cell 4 rfl
  have k5 := HL7.out.cell 5 rfl
  have k6 := HL7.out.cell 6 rfl
  have k7 := HL7.out.cell 7 rfl
  have k8 := HL7.out.cell 8 rfl
  have k9 := HL7.out.cell 9 rfl
  have k10 := HL7.out.cell 10 rfl
  have k11 := HL7.out.cell 11 rfl
  have k12 := HL7.out.cell 12 rfl
  have k13 := HL7.out.cell 13 rfl
  have hlt8 := HL7.out.lt
  go_upto_region 5 with (at_builtin; refine wpList_append_rowsG pcells_length pcells_one (by decide) rfl _ _ 34 rfl Try.underlying34 infoIPz rfl w7.heap.size HG8.out rfl _ _ _ _ rfl HR8.out (by omega) (by omega) w7.heap.size (Nat.le_refl _) ?_; intro v8 w8 hg8 hgr8; obtain ⟨op, cp, hv8⟩ := own_form3 hg8; subst hv8; have HL8 := hide (HLA8.out.kept hgr8 (fun q => by have := Option.some.inj q; have := HL7.out.lt; omega)); have HOW8 := hide hg8; have HGR8 := hide hgr8; clear k0 k1 k2 k3 k4 k5 k6 k7 k8 k9 k10 k11 k12 k13 hg8 hgr8; have k0 := HL8.out.cell 0 rfl; have k1 := HL8.out.cell 1 rfl; have k2 := HL8.out.cell 2 rfl; have k3 := HL8.out.cell 3 rfl; have k4 := HL8.out.cell 4 rfl; have k5 := HL8.out.cell 5 rfl; have k6 := HL8.out.cell 6 rfl; have k7 := HL8.out.cell 7 rfl; have k8 := HL8.out.cell 8 rfl; have k9 := HL8.out.cell 9 rfl; have k10 := HL8.out.cell 10 rfl; have k11 := HL8.out.cell 11 rfl; have k12 := HL8.out.cell 12 rfl; have k13 := HL8.out.cell 13 rfl; have f13 := HL8.out.free 13)
  have hS8 := HGR8.out.size
  have HB8 := hide (HBA8.out.grown HGR8.out HBA8.out.size (fun k hk => by cases hk; have := HS7.out; omega))
  have HZ8 := hide (HZA8.out.kept HGR8.out (fun q => by have := Option.some.inj q; have := HZ7.out.lt; omega))
  have HS8 := hide (Nat.le_trans HSA8.out HGR8.out.size)
  have HC8 := hide (HCA8.out.kept HGR8.out (Or.inr (fun q => by have := HC7.out.lt _ q; omega)))
  have HE8 := hide (HEA8.out.kept HGR8.out (Or.inr (fun q => by have := HE7.out.lt _ q; omega)))
  have HV8 := hide (HVA8.out.kept HGR8.out (Or.inr (fun q => by have := HV7.out.lt _ q; omega)))
  have hg8 := HOW8.out
  have HP8 := hide (own_base hg8 HS7.out)
  obtain ⟨w9, hw9⟩ : ∃ w9, (w8.setCell ⟨w.heap.size, 13, none⟩ (.slice op x.ps.length cp)) = w9 := ⟨_, rfl⟩
  have hL9 : XS (w.heap.size) #[.int .i64 x.id, .int .i64 x.tm, .int .i64 x.vt, .int .i64 x.ro, .int .i64 x.ld, .slice oc x.cf.length cc, .int .i64 x.s, .int .i64 x.u, .slice oe x.es.length ce, .int .i64 x.cm, .int .i64 x.ck, .int .i64 x.lm, .slice ov x.vs.length cv, .slice op x.ps.length cp] 36 w9 := by rw [← hw9]; exact (HL8.out.set 13 (.slice op x.ps.length cp))
  have hG9 : w8.grownBy w9 (some (w.heap.size)) := by rw [← hw9]; exact (blk_grown _ _ _ _)
  have HB9 := hide (HB8.out.grown hG9 HB8.out.size (fun k hk => by cases hk; omega))
  have HZ9 := hide (HZ8.out.kept hG9 (fun q => by have := Option.some.inj q; omega))
  have HL9 := hide hL9
  have HS9 := hide (Nat.le_trans HS8.out hG9.size)
  have HC9 := hide (HC8.out.kept hG9 (Or.inr (fun q => by have := HC8.out.lt _ q; omega)))
  have HE9 := hide (HE8.out.kept hG9 (Or.inr (fun q => by have := HE8.out.lt _ q; omega)))
  have HV9 := hide (HV8.out.kept hG9 (Or.inr (fun q => by have := HV8.out.lt _ q; omega)))
  have HP9 := hide (HP8.out.kept hG9 (Or.inr (fun q => by have := HP8.out.lt _ q; omega)))
  rw [hw9]
  clear hlt8 hS8 hg8 hL9 hG9 hw9 k0 k1 k2 k3 k4 k5 k6 k7 k8 k9 k10 k11 k12 k13 f13 HL7 HZ7 HB7 HL8 HZ8 HB8 HLA8 HZA8 HBA8 HOW8 HGR8 HR8 HG8
  have z0 := HZ9.out.free 0
  have y0 := HZ9.out.cell 0 rfl
  have o0 := HL9.out.cell 0 rfl
  have z1 := HZ9.out.free 1
  have y1 := HZ9.out.cell 1 rfl
  have o1 := HL9.out.cell 1 rfl
  have z2 := HZ9.out.free 2
  have y2 := HZ9.out.cell 2 rfl
  have o2 := HL9.out.cell 2 rfl
  have z3 := HZ9.out.free 3
  have y3 := HZ9.out.cell 3 rfl
  have o3 := HL9.out.cell 3 rfl
  have z4 := HZ9.out.free 4
  have y4 := HZ9.out.cell 4 rfl
  have o4 := HL9.out.cell 4 rfl
  have z5 := HZ9.out.free 5
  have y5 := HZ9.out.cell 5 rfl
  have o5 := HL9.out.cell 5 rfl
  have z6 := HZ9.out.free 6
  have y6 := HZ9.out.cell 6 rfl
  have o6 := HL9.out.cell 6 rfl
  have z7 := HZ9.out.free 7
  have y7 := HZ9.out.cell 7 rfl
  have o7 := HL9.out.cell 7 rfl
  have z8 := HZ9.out.free 8
  have y8 := HZ9.out.cell 8 rfl
  have o8 := HL9.out.cell 8 rfl
  have z9 := HZ9.out.free 9
  have y9 := HZ9.out.cell 9 rfl
  have o9 := HL9.out.cell 9 rfl
  have z10 := HZ9.out.free 10
  have y10 := HZ9.out.cell 10 rfl
  have o10 := HL9.out.cell 10 rfl
  have z11 := HZ9.out.free 11
  have y11 := HZ9.out.cell 11 rfl
  have o11 := HL9.out.cell 11 rfl
  have z12 := HZ9.out.free 12
  have y12 := HZ9.out.cell 12 rfl
  have o12 := HL9.out.cell 12 rfl
  have z13 := HZ9.out.free 13
  have y13 := HZ9.out.cell 13 rfl
  have o13 := HL9.out.cell 13 rfl
  go_wp2_with fail
  obtain ⟨w10, hw10, hR, hgR⟩ := sets14 HZ9.out (.int .i64 x.id) (.int .i64 x.tm) (.int .i64 x.vt) (.int .i64 x.ro) (.int .i64 x.ld) (.slice oc x.cf.length cc) (.int .i64 x.s) (.int .i64 x.u) (.slice oe x.es.length ce) (.int .i64 x.cm) (.int .i64 x.ck) (.int .i64 x.lm) (.slice ov x.vs.length cv) (.slice op x.ps.length cp)
  rw [hw10]
  clear hw10
  obtain ⟨r0, r1, r2, r3, r4, r5, r6, r7, r8, r9, r10, r11, r12, r13⟩ := xs14 (S := ⟨oc, cc, oe, ce, ov, cv, op, cp⟩) hR
  refine bodyPost_ret (v := ndval x ⟨oc, cc, oe, ce, ov, cv, op, cp⟩) (by simp [results, Try.results46, go_sem, r0, r1, r2, r3, r4, r5, r6, r7, r8, r9, r10, r11, r12, r13]) rfl ⟨⟨oc, cc, oe, ce, ov, cv, op, cp⟩, rfl, ⟨?_, ?_, ?_, ?_, ?_⟩, ?_⟩
  · exact own_base (HC9.out.kept hgR (Or.inr (fun q => by have := HC9.out.lt _ q; omega))) (by omega)
  · exact own_base (HE9.out.kept hgR (Or.inr (fun q => by have := HE9.out.lt _ q; omega))) (by omega)
  · exact own_base (HV9.out.kept hgR (Or.inr (fun q => by have := HV9.out.lt _ q; omega))) (by omega)
  · exact own_base (HP9.out.kept hgR (Or.inr (fun q => by have := HP9.out.lt _ q; omega))) (by omega)
  · exact HNE.out
  · exact HB9.out.grown hgR HB9.out.size (fun k hk => by cases hk; omega)

end Go.Proofs.Ytoalbeiinlcgpaa
