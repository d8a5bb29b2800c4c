/-
  Walks and mathematics of NdN.
-/
import Derived.Test.YtoalbeiinlcgpaaMNd6
import Derived.Test.YtoalbeiinlcgpaaMNdB
namespace Go.Proofs.Ytoalbeiinlcgpaa.P11
end Go.Proofs.Ytoalbeiinlcgpaa.P11
namespace Go.Proofs.Ytoalbeiinlcgpaa.P18
end Go.Proofs.Ytoalbeiinlcgpaa.P18
namespace Go.Proofs.Ytoalbeiinlcgpaa.P3
end Go.Proofs.Ytoalbeiinlcgpaa.P3
namespace Go.Proofs.Ytoalbeiinlcgpaa.P5
end Go.Proofs.Ytoalbeiinlcgpaa.P5
namespace Go.Proofs.Ytoalbeiinlcgpaa
open Go.RowKit P1 P3 P5 P9 P11 P12 P18 K
set_option linter.unusedVariables false
set_option linter.unusedSimpArgs false

def ndZ : NdV := ⟨0, 0, 0, 0, 0, [], 0, 0, [], 0, 0, 0, [], []⟩

def nwV (id : Int) (cf : List Int) : NdV := ⟨id, 0, 0, 0, 0, cf, 0, 0, [], 0, 0, 20, [], []⟩

abbrev nilS : NdS := ⟨none, 0, none, 0, none, 0, none, 0⟩

def nwR (id : Int) (cf : List Int) : NdV × Bool := if ndOk (nwV id cf) = true then (nwV id cf, true) else (ndZ, false)

theorem nwR_yes {id : Int} {cf : List Int} (h : ndOk (nwV id cf) = true) : nwR id cf = (nwV id cf, true) := by simp [nwR, h]

theorem nwR_no {id : Int} {cf : List Int} (h : ndOk (nwV id cf) = false) : nwR id cf = (ndZ, false) := by simp [nwR, h]

def NfRes (w : World) (r : NdV × Bool) (e : Ending) (w' : World) : Prop := ∃ S, e = .returned (.tuple #[ndval r.1 S, .bool r.2]) ∧ NdOwn w' w.heap.size r.1 S ∧ Below w.heap.size w w'

theorem ndZ_own (w : World) (base : Nat) : NdOwn w base ndZ nilS :=
  ⟨World.ownsRow_nil _ _ _ _, World.ownsRow_nil _ _ _ _, World.ownsRow_nil _ _ _ _, World.ownsRow_nil _ _ _ _, fun k h => by cases h⟩

theorem nw_own {w : World} {base : Nat} {id : Int} {cf : List Int} {oc : Option Addr} {cc : Nat} (h : w.ownsRow base 3 1 (.slice oc cf.length cc) cf.length (cf.map icell)) : NdOwn w base (nwV id cf) ⟨oc, cc, none, 0, none, 0, none, 0⟩ :=
  ⟨h, World.ownsRow_nil _ _ _ _, World.ownsRow_nil _ _ _ _, World.ownsRow_nil _ _ _ _, fun k _ h => by cases h⟩

theorem nw_at {w : World} {id : Int} {cf : List Int} {oc : Option Addr} {cc : Nat} (h : IntsAt w oc cf.length cc cf) : NdAt w (nwV id cf) ⟨oc, cc, none, 0, none, 0, none, 0⟩ :=
  ⟨h, RowsAt.nil _ _ _ (Nat.zero_le _), ⟨rfl, Nat.le_refl _, Nat.zero_le _, fun z hz => (List.not_mem_nil hz).elim, fun i z hz => by simp [nwV] at hz⟩, RowsAt.nil _ _ _ (Nat.zero_le _)⟩

set_option maxRecDepth 20000 in
set_option maxHeartbeats 8000000 in
theorem specNodeNew_any (id : Int) (oa : Option Addr) (n cap : Nat) (cf : List Int) (hn20 : n ≤ 1048576) (w : World) (hat : IntsAt w oa n cap cf) :
    Calls Try.prog 11 #[.int .i64 id, .slice oa n cap] w fun e w' => NfRes w (nwR id cf) e w' := by
  have hln := hat.len
  subst hln
  have hb0 := ((Below.refl w.heap.size w).alloc (Nat.le_refl _) (.cells #[.int .i64 0, .int .i64 0, .int .i64 0, .int .i64 0, .int .i64 0, .slice none 0 0, .int .i64 0, .int .i64 0, .slice none 0 0, .int .i64 0, .int .i64 0, .int .i64 0, .slice none 0 0, .slice none 0 0] 36)).alloc (by simp) (.cells #[] 3)
  have HZ0 := hide ((XS.new w #[.int .i64 0, .int .i64 0, .int .i64 0, .int .i64 0, .int .i64 0, .slice none 0 0, .int .i64 0, .int .i64 0, .slice none 0 0, .int .i64 0, .int .i64 0, .int .i64 0, .slice none 0 0, .slice none 0 0] 36).alloc (.cells #[] 3))
  have HG0 := hide (show ((w.alloc (.cells #[.int .i64 0, .int .i64 0, .int .i64 0, .int .i64 0, .int .i64 0, .slice none 0 0, .int .i64 0, .int .i64 0, .slice none 0 0, .int .i64 0, .int .i64 0, .int .i64 0, .slice none 0 0, .slice none 0 0] 36)).alloc (.cells #[] 3)).heap[w.heap.size + 1]? = some (.cells #[] 3 (0, 0)) by have := heap_alloc_new (w.alloc (.cells #[.int .i64 0, .int .i64 0, .int .i64 0, .int .i64 0, .int .i64 0, .slice none 0 0, .int .i64 0, .int .i64 0, .slice none 0 0, .int .i64 0, .int .i64 0, .int .i64 0, .slice none 0 0, .slice none 0 0] 36)) (.cells #[] 3); rwa [World.size_alloc] at this)
  have HCR := hide ((hat.below hb0).rows)
  have HB0 := hide hb0
  have HFI := hide hat.fits
  clear hat hb0
  go_enter Try.func11, Try.ntmps11
  go_upto_region 2 with (at_builtin; refine wpList_append_rowsG icells1_length icells1_one (by decide) rfl _ _ 22 rfl Try.underlying22 infoIz rfl (w.heap.size + 1) HG0.out rfl _ _ _ _ rfl HCR.out hn20 (by omega) (w.heap.size + 1) (Nat.le_refl _) ?_; intro v1 w1 hown1 hg1; rw [icells1_flat] at hown1; obtain ⟨oc, cc, hv1⟩ := own_form3 hown1; subst hv1; have HZ1 := hide (HZ0.out.kept hg1 (fun q => by have := Option.some.inj q; omega)); have HO1 := hide hown1; have HB1 := hide (HB0.out.grown hg1 HB0.out.size (fun k hk => by cases hk; omega)); clear hown1 hg1)
  obtain ⟨w2, hw2⟩ : ∃ w2, w1.alloc (.cells #[.int .i64 id, .int .i64 0, .int .i64 0, .int .i64 0, .int .i64 0, .slice oc cf.length cc, .int .i64 0, .int .i64 0, .slice none 0 0, .int .i64 0, .int .i64 0, .int .i64 20, .slice none 0 0, .slice none 0 0] 36) = w2 := ⟨_, rfl⟩
  have hbA : Below w1.heap.size w1 w2 := by rw [← hw2]; exact (Below.refl _ _).alloc (Nat.le_refl _) _
  have HN2 := hide (show XS w1.heap.size #[.int .i64 id, .int .i64 0, .int .i64 0, .int .i64 0, .int .i64 0, .slice oc cf.length cc, .int .i64 0, .int .i64 0, .slice none 0 0, .int .i64 0, .int .i64 0, .int .i64 20, .slice none 0 0, .slice none 0 0] 36 w2 by rw [← hw2]; exact XS.new _ _ _)
  have HZ2 := hide (HZ1.out.on hbA)
  have HO2 := hide (own_below HO1.out hbA)
  have HB2 := hide (HB1.out.trans (hbA.mono HB1.out.size))
  rw [hw2]
  clear hw2 hbA HZ1 HO1
  obtain ⟨_, _, he, hat2⟩ := intsAt_of_own HO2.out HFI.out
  cases he
  have HSP := hide (specNodeOk_any (nwV id cf) ⟨oc, cc, none, 0, none, 0, none, 0⟩ (fun e he => (List.not_mem_nil he).elim) (by simp [nwV]) (by simp [nwV]) w2 (nw_at hat2))
  clear hat2
  have k0 := HN2.out.cell 0 rfl
  have k1 := HN2.out.cell 1 rfl
  have k2 := HN2.out.cell 2 rfl
  have k3 := HN2.out.cell 3 rfl
  have k4 := HN2.out.cell 4 rfl
  have k5 := HN2.out.cell 5 rfl
  have k6 := HN2.out.cell 6 rfl
  have k7 := HN2.out.cell 7 rfl
  have k8 := HN2.out.cell 8 rfl
  have k9 := HN2.out.cell 9 rfl
  have k10 := HN2.out.cell 10 rfl
  have k11 := HN2.out.cell 11 rfl
  have k12 := HN2.out.cell 12 rfl
  have k13 := HN2.out.cell 13 rfl
  go_wp2_with fail
  refine HSP.out.mono ?_
  rintro e w3 ⟨rfl, hb3⟩
  have HN3 := hide (HN2.out.on hb3)
  have HZQ := hide (HZ2.out.on hb3)
  have HO3 := hide (own_below HO2.out hb3)
  have HB3 := hide (HB2.out.trans (hb3.mono HB2.out.size))
  clear hb3 k0 k1 k2 k3 k4 k5 k6 k7 k8 k9 k10 k11 k12 k13 HN2 HZ2 HO2 HSP
  have k0 := HN3.out.cell 0 rfl
  have k1 := HN3.out.cell 1 rfl
  have k2 := HN3.out.cell 2 rfl
  have k3 := HN3.out.cell 3 rfl
  have k4 := HN3.out.cell 4 rfl
  have k5 := HN3.out.cell 5 rfl
  have k6 := HN3.out.cell 6 rfl
  have k7 := HN3.out.cell 7 rfl
  have k8 := HN3.out.cell 8 rfl
  have k9 := HN3.out.cell 9 rfl
  have k10 := HN3.out.cell 10 rfl
  have k11 := HN3.out.cell 11 rfl
  have k12 := HN3.out.cell 12 rfl
  have k13 := HN3.out.cell 13 rfl
  have z0 := HZQ.out.free 0
  have y0 := HZQ.out.cell 0 rfl
  have z1 := HZQ.out.free 1
  have y1 := HZQ.out.cell 1 rfl
  have z2 := HZQ.out.free 2
  have y2 := HZQ.out.cell 2 rfl
  have z3 := HZQ.out.free 3
  have y3 := HZQ.out.cell 3 rfl
  have z4 := HZQ.out.free 4
  have y4 := HZQ.out.cell 4 rfl
  have z5 := HZQ.out.free 5
  have y5 := HZQ.out.cell 5 rfl
  have z6 := HZQ.out.free 6
  have y6 := HZQ.out.cell 6 rfl
  have z7 := HZQ.out.free 7
  have y7 := HZQ.out.cell 7 rfl
  have z8 := HZQ.out.free 8
  have y8 := HZQ.out.cell 8 rfl
  have z9 := HZQ.out.free 9
  have y9 := HZQ.out.cell 9 rfl
  have z10 := HZQ.out.free 10
  have y10 := HZQ.out.cell 10 rfl
  have z11 := HZQ.out.free 11
  have y11 := HZQ.out.cell 11 rfl
  have z12 := HZQ.out.free 12
  have y12 := HZQ.out.cell 12 rfl
  have z13 := HZQ.out.free 13
  have y13 := HZQ.out.cell 13 rfl
  cases hr : ndOk (nwV id cf) with
  | false =>
    have HR := hide (nwR_no hr)
    clear hr
    go_wp2_with fail
    obtain ⟨w9, hw9, hR, hgR⟩ := sets14 HZQ.out (.int .i64 0) (.int .i64 0) (.int .i64 0) (.int .i64 0) (.int .i64 0) (.slice none 0 0) (.int .i64 0) (.int .i64 0) (.slice none 0 0) (.int .i64 0) (.int .i64 0) (.int .i64 0) (.slice none 0 0) (.slice none 0 0)
    rw [hw9]
    clear hw9
    obtain ⟨r0, r1, r2, r3, r4, r5, r6, r7, r8, r9, r10, r11, r12, r13⟩ := xs14 (x := ndZ) (S := nilS) hR
    refine bodyPost_ret (v := .tuple #[ndval (ndZ) nilS, .bool false]) (by simp [results, Try.results11, go_sem, r0, r1, r2, r3, r4, r5, r6, r7, r8, r9, r10, r11, r12, r13, nwV, ndZ]) rfl ?_
    rw [HR.out]
    refine ⟨nilS, rfl, ?_, ?_⟩
    · exact ndZ_own _ _
    · exact HB3.out.grown hgR HB3.out.size (fun k hk => by cases hk; omega)
  | true =>
    have HR := hide (nwR_yes hr)
    clear hr
    go_wp2_with fail
    obtain ⟨w9, hw9, hR, hgR⟩ := sets14 HZQ.out (.int .i64 id) (.int .i64 0) (.int .i64 0) (.int .i64 0) (.int .i64 0) (.slice oc cf.length cc) (.int .i64 0) (.int .i64 0) (.slice none 0 0) (.int .i64 0) (.int .i64 0) (.int .i64 20) (.slice none 0 0) (.slice none 0 0)
    rw [hw9]
    clear hw9
    obtain ⟨r0, r1, r2, r3, r4, r5, r6, r7, r8, r9, r10, r11, r12, r13⟩ := xs14 (x := nwV id cf) (S := ⟨oc, cc, none, 0, none, 0, none, 0⟩) hR
    refine bodyPost_ret (v := .tuple #[ndval (nwV id cf) ⟨oc, cc, none, 0, none, 0, none, 0⟩, .bool true]) (by simp [results, Try.results11, go_sem, r0, r1, r2, r3, r4, r5, r6, r7, r8, r9, r10, r11, r12, r13, nwV, ndZ]) rfl ?_
    rw [HR.out]
    refine ⟨⟨oc, cc, none, 0, none, 0, none, 0⟩, rfl, ?_, ?_⟩
    · exact nw_own (own_base (HO3.out.kept hgR (Or.inr (fun q => by have := HO3.out.lt _ q; omega))) (by omega))
    · exact HB3.out.grown hgR HB3.out.size (fun k hk => by cases hk; omega)

set_option maxRecDepth 20000 in
set_option maxHeartbeats 8000000 in
theorem implNodeNew_any (id : Int) (oa : Option Addr) (n cap : Nat) (cf : List Int) (hn20 : n ≤ 1048576) (w : World) (hat : IntsAt w oa n cap cf) :
    Calls Try.prog 13 #[.int .i64 id, .slice oa n cap] w fun e w' => NfRes w (nwR id cf) e w' := by
  have hln := hat.len
  subst hln
  obtain ⟨w2, hw2⟩ : ∃ w2, (w.alloc (.cells #[.int .i64 0, .int .i64 0, .int .i64 0, .int .i64 0, .int .i64 0, .slice none 0 0, .int .i64 0, .int .i64 0, .slice none 0 0, .int .i64 0, .int .i64 0, .int .i64 0, .slice none 0 0, .slice none 0 0] 36)).alloc (.cells #[.int .i64 id, .int .i64 0, .int .i64 0, .int .i64 0, .int .i64 0, .slice oa cf.length cap, .int .i64 0, .int .i64 0, .slice none 0 0, .int .i64 0, .int .i64 0, .int .i64 20, .slice none 0 0, .slice none 0 0] 36) = w2 := ⟨_, rfl⟩
  have hb2 : Below w.heap.size w w2 := by
    rw [← hw2]
    exact ((Below.refl w.heap.size w).alloc (Nat.le_refl _) _).alloc (by simp) _
  have HZ2 := hide (show XS w.heap.size #[.int .i64 0, .int .i64 0, .int .i64 0, .int .i64 0, .int .i64 0, .slice none 0 0, .int .i64 0, .int .i64 0, .slice none 0 0, .int .i64 0, .int .i64 0, .int .i64 0, .slice none 0 0, .slice none 0 0] 36 w2 by rw [← hw2]; exact (XS.new w #[.int .i64 0, .int .i64 0, .int .i64 0, .int .i64 0, .int .i64 0, .slice none 0 0, .int .i64 0, .int .i64 0, .slice none 0 0, .int .i64 0, .int .i64 0, .int .i64 0, .slice none 0 0, .slice none 0 0] 36).alloc _)
  have HN2 := hide (show XS (w.heap.size + 1) #[.int .i64 id, .int .i64 0, .int .i64 0, .int .i64 0, .int .i64 0, .slice oa cf.length cap, .int .i64 0, .int .i64 0, .slice none 0 0, .int .i64 0, .int .i64 0, .int .i64 20, .slice none 0 0, .slice none 0 0] 36 w2 by
    rw [← hw2]
    have h := XS.new (w.alloc (.cells #[.int .i64 0, .int .i64 0, .int .i64 0, .int .i64 0, .int .i64 0, .slice none 0 0, .int .i64 0, .int .i64 0, .slice none 0 0, .int .i64 0, .int .i64 0, .int .i64 0, .slice none 0 0, .slice none 0 0] 36)) #[.int .i64 id, .int .i64 0, .int .i64 0, .int .i64 0, .int .i64 0, .slice oa cf.length cap, .int .i64 0, .int .i64 0, .slice none 0 0, .int .i64 0, .int .i64 0, .int .i64 20, .slice none 0 0, .slice none 0 0] 36
    rw [World.size_alloc] at h
    exact h)
  have HIM := hide (implNodeOk_any (nwV id cf) ⟨oa, cap, none, 0, none, 0, none, 0⟩ (fun e he => (List.not_mem_nil he).elim) (by simp [nwV]) (by simp [nwV]) w2 (nw_at (hat.below hb2)))
  have HCP := hide (fun w h => nodeCopied_any (nwV id cf) ⟨oa, cap, none, 0, none, 0, none, 0⟩ hn20 (by simp [nwV]) (fun e he => (List.not_mem_nil he).elim) (by simp [nwV]) (by simp [nwV]) w h)
  have HAT := hide hat
  have HB2 := hide hb2
  have HS2 := hide (show w2.heap.size = w.heap.size + 1 + 1 by rw [← hw2]; simp)
  have HW2 := hide hw2
  clear hat hb2 hw2
  go_enter Try.func13, Try.ntmps13
  go_upto_region 2 with fail
  rw [HW2.out]
  clear HW2
  have k0 := HN2.out.cell 0 rfl
  have k1 := HN2.out.cell 1 rfl
  have k2 := HN2.out.cell 2 rfl
  have k3 := HN2.out.cell 3 rfl
  have k4 := HN2.out.cell 4 rfl
  have k5 := HN2.out.cell 5 rfl
  have k6 := HN2.out.cell 6 rfl
  have k7 := HN2.out.cell 7 rfl
  have k8 := HN2.out.cell 8 rfl
  have k9 := HN2.out.cell 9 rfl
  have k10 := HN2.out.cell 10 rfl
  have k11 := HN2.out.cell 11 rfl
  have k12 := HN2.out.cell 12 rfl
  have k13 := HN2.out.cell 13 rfl
  go_wp2_with fail
  refine HIM.out.mono ?_
  rintro e w3 ⟨rfl, hb3⟩
  have HN3 := hide (HN2.out.on hb3)
  have HZ3 := hide (HZ2.out.on hb3)
  have HB3 := hide (HB2.out.trans (hb3.mono HB2.out.size))
  have HS3 := hide (show w.heap.size + 1 + 1 ≤ w3.heap.size by rw [← HS2.out]; exact hb3.size)
  clear hb3 k0 k1 k2 k3 k4 k5 k6 k7 k8 k9 k10 k11 k12 k13 HN2 HZ2 HIM
  have k0 := HN3.out.cell 0 rfl
  have k1 := HN3.out.cell 1 rfl
  have k2 := HN3.out.cell 2 rfl
  have k3 := HN3.out.cell 3 rfl
  have k4 := HN3.out.cell 4 rfl
  have k5 := HN3.out.cell 5 rfl
  have k6 := HN3.out.cell 6 rfl
  have k7 := HN3.out.cell 7 rfl
  have k8 := HN3.out.cell 8 rfl
  have k9 := HN3.out.cell 9 rfl
  have k10 := HN3.out.cell 10 rfl
  have k11 := HN3.out.cell 11 rfl
  have k12 := HN3.out.cell 12 rfl
  have k13 := HN3.out.cell 13 rfl
  cases hr : ndOk (nwV id cf) with
  | false =>
    have HR := hide (nwR_no hr)
    clear hr
    have HZQ := hide HZ3.out
    have z0 := HZQ.out.free 0
    have y0 := HZQ.out.cell 0 rfl
    have z1 := HZQ.out.free 1
    have y1 := HZQ.out.cell 1 rfl
    have z2 := HZQ.out.free 2
    have y2 := HZQ.out.cell 2 rfl
    have z3 := HZQ.out.free 3
    have y3 := HZQ.out.cell 3 rfl
    have z4 := HZQ.out.free 4
    have y4 := HZQ.out.cell 4 rfl
    have z5 := HZQ.out.free 5
    have y5 := HZQ.out.cell 5 rfl
    have z6 := HZQ.out.free 6
    have y6 := HZQ.out.cell 6 rfl
    have z7 := HZQ.out.free 7
    have y7 := HZQ.out.cell 7 rfl
    have z8 := HZQ.out.free 8
    have y8 := HZQ.out.cell 8 rfl
    have z9 := HZQ.out.free 9
    have y9 := HZQ.out.cell 9 rfl
    have z10 := HZQ.out.free 10
    have y10 := HZQ.out.cell 10 rfl
    have z11 := HZQ.out.free 11
    have y11 := HZQ.out.cell 11 rfl
    have z12 := HZQ.out.free 12
    have y12 := HZQ.out.cell 12 rfl
    have z13 := HZQ.out.free 13
    have y13 := HZQ.out.cell 13 rfl
    go_wp2_with fail
    obtain ⟨w9, hw9, hR, hgR⟩ := sets14 HZQ.out (.int .i64 0) (.int .i64 0) (.int .i64 0) (.int .i64 0) (.int .i64 0) (.slice none 0 0) (.int .i64 0) (.int .i64 0) (.slice none 0 0) (.int .i64 0) (.int .i64 0) (.int .i64 0) (.slice none 0 0) (.slice none 0 0)
    rw [hw9]
    clear hw9
    obtain ⟨r0, r1, r2, r3, r4, r5, r6, r7, r8, r9, r10, r11, r12, r13⟩ := xs14 (x := ndZ) (S := nilS) hR
    refine bodyPost_ret (v := .tuple #[ndval (ndZ) nilS, .bool false]) (by simp [results, Try.results13, go_sem, r0, r1, r2, r3, r4, r5, r6, r7, r8, r9, r10, r11, r12, r13, nwV, ndZ]) rfl ?_
    rw [HR.out]
    refine ⟨nilS, rfl, ?_, ?_⟩
    · exact ndZ_own _ _
    · exact HB3.out.grown hgR HB3.out.size (fun k hk => by cases hk; omega)
  | true =>
    have HR := hide (nwR_yes hr)
    clear hr
    go_wp2_with fail
    refine (HCP.out _ (nw_at (HAT.out.below HB3.out))).mono ?_
    rintro e w4 ⟨SQ, rfl, ho4, hb4⟩
    obtain ⟨oc, cc, oe, ce, ov, cv, op, cp⟩ := SQ
    have HZQ := hide (HZ3.out.on hb4)
    have HO4 := hide (ho4.down HS3.out)
    have HB4 := hide (HB3.out.trans (hb4.mono HB3.out.size))
    clear hb4 ho4 HZ3 k0 k1 k2 k3 k4 k5 k6 k7 k8 k9 k10 k11 k12 k13
    have z0 := HZQ.out.free 0
    have y0 := HZQ.out.cell 0 rfl
    have z1 := HZQ.out.free 1
    have y1 := HZQ.out.cell 1 rfl
    have z2 := HZQ.out.free 2
    have y2 := HZQ.out.cell 2 rfl
    have z3 := HZQ.out.free 3
    have y3 := HZQ.out.cell 3 rfl
    have z4 := HZQ.out.free 4
    have y4 := HZQ.out.cell 4 rfl
    have z5 := HZQ.out.free 5
    have y5 := HZQ.out.cell 5 rfl
    have z6 := HZQ.out.free 6
    have y6 := HZQ.out.cell 6 rfl
    have z7 := HZQ.out.free 7
    have y7 := HZQ.out.cell 7 rfl
    have z8 := HZQ.out.free 8
    have y8 := HZQ.out.cell 8 rfl
    have z9 := HZQ.out.free 9
    have y9 := HZQ.out.cell 9 rfl
    have z10 := HZQ.out.free 10
    have y10 := HZQ.out.cell 10 rfl
    have z11 := HZQ.out.free 11
    have y11 := HZQ.out.cell 11 rfl
    have z12 := HZQ.out.free 12
    have y12 := HZQ.out.cell 12 rfl
    have z13 := HZQ.out.free 13
    have y13 := HZQ.out.cell 13 rfl
    go_wp2_with fail
    obtain ⟨w9, hw9, hR, hgR⟩ := sets14 HZQ.out (.int .i64 (nwV id cf).id) (.int .i64 (nwV id cf).tm) (.int .i64 (nwV id cf).vt) (.int .i64 (nwV id cf).ro) (.int .i64 (nwV id cf).ld) (.slice oc (nwV id cf).cf.length cc) (.int .i64 (nwV id cf).s) (.int .i64 (nwV id cf).u) (.slice oe (nwV id cf).es.length ce) (.int .i64 (nwV id cf).cm) (.int .i64 (nwV id cf).ck) (.int .i64 (nwV id cf).lm) (.slice ov (nwV id cf).vs.length cv) (.slice op (nwV id cf).ps.length cp)
    rw [hw9]
    clear hw9
    obtain ⟨r0, r1, r2, r3, r4, r5, r6, r7, r8, r9, r10, r11, r12, r13⟩ := xs14 (x := nwV id cf) (S := ⟨oc, cc, oe, ce, ov, cv, op, cp⟩) hR
    refine bodyPost_ret (v := .tuple #[ndval (nwV id cf) ⟨oc, cc, oe, ce, ov, cv, op, cp⟩, .bool true]) (by simp [results, Try.results13, go_sem, r0, r1, r2, r3, r4, r5, r6, r7, r8, r9, r10, r11, r12, r13, nwV]) rfl ?_
    rw [HR.out]
    refine ⟨⟨oc, cc, oe, ce, ov, cv, op, cp⟩, rfl, ⟨?_, ?_, ?_, ?_, ?_⟩, ?_⟩
    · exact own_base (HO4.out.c.kept hgR (Or.inr (fun q => by have := HO4.out.c.lt _ q; omega))) (by omega)
    · exact own_base (HO4.out.e.kept hgR (Or.inr (fun q => by have := HO4.out.e.lt _ q; omega))) (by omega)
    · exact own_base (HO4.out.v.kept hgR (Or.inr (fun q => by have := HO4.out.v.lt _ q; omega))) (by omega)
    · exact own_base (HO4.out.p.kept hgR (Or.inr (fun q => by have := HO4.out.p.lt _ q; omega))) (by omega)
    · exact HO4.out.cv
    · exact HB4.out.grown hgR HB4.out.size (fun k hk => by cases hk; omega)

end Go.Proofs.Ytoalbeiinlcgpaa
