/-
  Walks and mathematics of Nd4.
-/
import Derived.Test.YtoalbeiinlcgpaaKNd3
import Derived.Deep.RegionHeld3
import Derived.Deep.QuietTactic
import Derived.Deep.Cut
namespace Go.Proofs.Ytoalbeiinlcgpaa.P11
end Go.Proofs.Ytoalbeiinlcgpaa.P11
namespace Go.Proofs.Ytoalbeiinlcgpaa.P18
end Go.Proofs.Ytoalbeiinlcgpaa.P18
namespace Go.Proofs.Ytoalbeiinlcgpaa.P3
end Go.Proofs.Ytoalbeiinlcgpaa.P3
namespace Go.Proofs.Ytoalbeiinlcgpaa.P5
end Go.Proofs.Ytoalbeiinlcgpaa.P5
namespace Go.Proofs.Ytoalbeiinlcgpaa
open Go.RowKit P1 P3 P5 P9 P11 P12 P18 K
set_option linter.unusedVariables false
set_option linter.unusedSimpArgs false

theorem within_is2 {x a b : Int} {r : Bool} (h : bt a x b = r) (w : World) : Calls Try.prog 32 #[.int .i64 x, .int .i64 a, .int .i64 b] w fun e w' => e = .returned (.bool r) ∧ w' = w :=
  (within_is h w).mono fun e w' h => ⟨h.1, h.2.symm⟩

theorem prsGo_at {last : Int} {ps : List PeerV} {ids : List Int} {j : Nat} {f : PeerV} {z : Int} (h1 : ps[j]? = some f) (h2 : ids[j]? = some z) : prsGo last (ps.drop j) (ids.drop j) = (prOk last f z && prsGo last (ps.drop (j + 1)) (ids.drop (j + 1))) := by
  obtain ⟨a1, b1⟩ := List.getElem?_eq_some_iff.1 h1
  obtain ⟨a2, b2⟩ := List.getElem?_eq_some_iff.1 h2
  rw [List.drop_eq_getElem_cons a1, List.drop_eq_getElem_cons a2, b1, b2]
  rfl

theorem prsGo_end {last : Int} {ps : List PeerV} {ids : List Int} {j : Nat} (h : j = ps.length) : prsGo last (ps.drop j) (ids.drop j) = true := by
  rw [h, List.drop_length]
  cases ids.drop ps.length <;> rfl

set_option maxRecDepth 100000 in
set_option maxHeartbeats 8000000 in
theorem peersOk_any (x : NdV) (S : NdS) (hlg : lgOk x.s x.u x.es = true) (hcf : confOk x.cf = true) (hsz : ∀ e ∈ x.es, e.data.size ≤ 1048576) (hp20 : x.ps.length ≤ 1048576) (w : World) (hat : NdAt w x S) :
    Calls Try.prog 37 #[ndval x S] w fun e w' => e = .returned (.bool (ndPrs x)) ∧ Below w.heap.size w w' := by
  have hb0 := (Below.refl w.heap.size w).alloc (Nat.le_refl _) (.cells (ndC x S) 36)
  obtain ⟨s0, s1, u0, u1, hn, hsn, hok⟩ := lgOk_facts hlg
  have HLL := hide (fun w (h : EntsAt w S.oe x.es.length S.ce x.es) => by have hll := implLogLast_any x.s x.u S.oe x.es.length S.ce x.es w h; rw [lastI_eq s0 s1 hn] at hll; exact hll)
  have HOT := hide (implOthers_any x S hn hcf hok hsz _ (hat.below hb0))
  have HX0 := hide (XS.new w (ndC x S) 36)
  have HB0 := hide hb0
  have HAT := hide hat
  have hco : confOk (ndCf x) = true := cfGo_ok _ _ hcf hok
  have hwf : ∀ z ∈ othI (ndCf x) x.id, (Lit.int .i64 z).wf = true := fun z hz => confOk_wf16 hco z ((List.mem_filter.1 hz).1)
  have hol : (othI (ndCf x) x.id).length ≤ 4 := Nat.le_trans (othI_len _ _) (confOk_len hco).2
  have HWF := hide hwf
  have HOL := hide hol
  have hnp : x.ps.length ≤ maxLen := Nat.le_trans hat.p.room hat.p.most
  clear hat hb0 hlg hok hco hwf hol hcf hsz
  by_cases hro : x.ro = 2
  · have r1 : (x.ro == 2) = true := by simp [hro]
    have HV0 := hide (show ndPrs x = prsOk (x.s + x.es.length) x.ps (othI (ndCf x) x.id) by simp only [ndPrs, ndIds, if_pos hro, ndLast])
    rw [HV0.out]
    have HRO := hide hro
    clear hro HV0
    generalize othI (ndCf x) x.id = ids at HOT HWF HOL ⊢
    by_cases hlen : x.ps.length = ids.length
    · have HV := hide (show prsOk (x.s + x.es.length) x.ps ids = prsGo (x.s + x.es.length) x.ps ids by unfold prsOk; rw [decide_eq_true hlen, Bool.true_and])
      have l1 : (((x.ps.length : Nat) : Int) == ((ids.length : Nat) : Int)) = true := beq_iff_eq.2 (by omega)
      have l2 : decide (((x.ps.length : Nat) : Int) = ((ids.length : Nat) : Int)) = true := decide_eq_true (by omega)
      have l3 : (((x.ps.length : Nat) : Int) != ((ids.length : Nat) : Int)) = false := by rw [bne, l1]; rfl
      have HLEN := hide hlen
      rw [HV.out]
      clear hlen HV
      go_enter Try.func37, Try.ntmps37
      go_wp2_with (first | (go_at_call 59; refine HOT.out.mono ?_; rintro e w1 ⟨v, rfl, hown, hb1⟩; obtain ⟨oa, cI, hv⟩ := own_form3 hown; subst hv; have HOW := hide hown; have HB1 := hide (HB0.out.trans (hb1.mono HB0.out.size)); have X1 := hide (HX0.out.on hb1); obtain ⟨k0, k1, k2, k3, k4, k5, k6, k7, k8, k9, k10, k11, k12, k13⟩ := xs14 X1.out; clear hown hb1) | (go_at_call 58; refine (HLL.out _ (HAT.out.e.below HB1.out)).mono ?_; rintro e w2 ⟨rfl, hb2⟩; have HOW2 := hide (own_below HOW.out hb2); have HB2 := hide (HB1.out.trans (hb2.mono HB1.out.size)); have X2 := hide (X1.out.on hb2); clear k0 k1 k2 k3 k4 k5 k6 k7 k8 k9 k10 k11 k12 k13; obtain ⟨k0, k1, k2, k3, k4, k5, k6, k7, k8, k9, k10, k11, k12, k13⟩ := xs14 X2.out; clear hb2))
      obtain ⟨_, _, he, hat2⟩ := intsAt_of_own HOW2.out HWF.out
      cases he
      have HI2 := hide hat2
      clear hat2 k0 k1 k2 k3 k4 k5 k6 k7 k8 k9 k10 k11 k12 k13 l1 l2 l3
      go_loopw [28] (fun i wr => ∃ (j : Nat), i = .int .i64 (j : Int) ∧ j ≤ x.ps.length ∧ prsGo (x.s + x.es.length) (x.ps.drop j) (ids.drop j) = prsGo (x.s + x.es.length) x.ps ids ∧ IntsAt wr oa ids.length cI ids ∧ Below w.heap.size w wr) (fun i _ => x.ps.length - (intOf i).toNat)
      case atStart => exact ⟨0, rfl, Nat.zero_le _, rfl, HI2.out, HB2.out⟩
      case round =>
        obtain ⟨j, rfl, hj, hgo, hin, hbel⟩ := hrel
        have hbs := hbel.size
        by_cases hlt : j < x.ps.length
        · have j0 : (j : Int) < (x.ps.length : Int) := by omega
          obtain ⟨f, b, q, hf, hidx, hb, c0, c1', c2, c3⟩ := (HAT.out.p.below hbel).get4 Try.underlying34 infoIP j hlt
          obtain ⟨z, b2, q2, hz, hidx2, hb2, d0, hwz⟩ := hin.get Try.underlying22 infoI j (by rw [← HLEN.out]; exact hlt)
          rw [prsGo_at hf hz] at hgo
          clear hf hz hwz
          by_cases h1 : z = f.id
          · subst h1
            have w1x : IntKind.i64.wrap (x.s + x.es.length + 1) = x.s + x.es.length + 1 := by rw [IntKind.wrap_i64]; omega
            cases h2 : bt 1 f.nx (x.s + x.es.length + 1) with
            | false =>
              have HPR := hide (show prOk (x.s + x.es.length) f f.id = false by unfold prOk; rw [decide_eq_true rfl, show (decide (1 ≤ f.nx) && decide (f.nx ≤ x.s + x.es.length + 1)) = bt 1 f.nx (x.s + x.es.length + 1) from rfl, show (decide (0 ≤ f.mt) && decide (f.mt ≤ f.nx - 1)) = bt 0 f.mt (f.nx - 1) from rfl, show (decide (0 ≤ f.sn) && decide (f.sn ≤ 20000)) = bt 0 f.sn 20000 from rfl]; simp only [h2, Bool.and_true, Bool.and_false, Bool.false_and, Bool.true_and])
              have W2 := hide (within_is2 h2)
              have HGO := hide hgo
              clear hgo h2
              go_upto_region 10 with fail
              obtain ⟨W, hW⟩ : ∃ W, wr.alloc (.cells #[.int .i64 f.id, .int .i64 f.nx, .int .i64 f.mt, .int .i64 f.sn] 60) = W := ⟨_, rfl⟩
              have hXP : XS wr.heap.size #[.int .i64 f.id, .int .i64 f.nx, .int .i64 f.mt, .int .i64 f.sn] 60 W := by rw [← hW]; exact XS.new _ _ _
              have hBW : Below wr.heap.size wr W := by rw [← hW]; exact (Below.refl _ _).alloc (Nat.le_refl _) _
              have hcz := (hBW.cell (p := ⟨b2, q2, none⟩) hb2).trans d0
              rw [hW]
              have XP := hide hXP
              have BW := hide hBW
              have HCZ := hide hcz
              clear hW hXP hBW hcz hb hb2 c0 c1' c2 c3 d0
              have y0 := XP.out.cell 0 rfl
              have y1 := XP.out.cell 1 rfl
              have y2 := XP.out.cell 2 rfl
              have y3 := XP.out.cell 3 rfl
              have y4 := HCZ.out
              go_quiet (first | (go_at_call 32; first | (with_reducible exact Calls.quiet_of_same (W2.out _))))
              clear y0 y1 y2 y3 y4
              go_wp2_with fail
              go_ret
              exact ⟨by rw [← HGO.out, HPR.out]; rfl, hbel.trans ((below_drewN BW.out _).mono hbs)⟩
            | true =>
              have w2x : 1 ≤ f.nx ∧ f.nx ≤ 2000000 → IntKind.i64.wrap (f.nx - 1) = f.nx - 1 := by intro h; rw [IntKind.wrap_i64]; omega
              have n1 : 1 ≤ f.nx := by simp only [bt, Bool.and_eq_true, decide_eq_true_eq] at h2; exact h2.1
              have n2 : f.nx ≤ 2000000 := by simp only [bt, Bool.and_eq_true, decide_eq_true_eq] at h2; omega
              have w2y := w2x ⟨n1, n2⟩
              clear w2x
              cases h3 : bt 0 f.mt (f.nx - 1) with
              | false =>
                have HPR := hide (show prOk (x.s + x.es.length) f f.id = false by unfold prOk; rw [decide_eq_true rfl, show (decide (1 ≤ f.nx) && decide (f.nx ≤ x.s + x.es.length + 1)) = bt 1 f.nx (x.s + x.es.length + 1) from rfl, show (decide (0 ≤ f.mt) && decide (f.mt ≤ f.nx - 1)) = bt 0 f.mt (f.nx - 1) from rfl, show (decide (0 ≤ f.sn) && decide (f.sn ≤ 20000)) = bt 0 f.sn 20000 from rfl]; simp only [h2, h3, Bool.and_true, Bool.and_false, Bool.false_and, Bool.true_and])
                have W2 := hide (within_is2 h2)
                have W3 := hide (within_is2 h3)
                have HGO := hide hgo
                clear hgo h2 h3
                go_upto_region 10 with fail
                obtain ⟨W, hW⟩ : ∃ W, wr.alloc (.cells #[.int .i64 f.id, .int .i64 f.nx, .int .i64 f.mt, .int .i64 f.sn] 60) = W := ⟨_, rfl⟩
                have hXP : XS wr.heap.size #[.int .i64 f.id, .int .i64 f.nx, .int .i64 f.mt, .int .i64 f.sn] 60 W := by rw [← hW]; exact XS.new _ _ _
                have hBW : Below wr.heap.size wr W := by rw [← hW]; exact (Below.refl _ _).alloc (Nat.le_refl _) _
                have hcz := (hBW.cell (p := ⟨b2, q2, none⟩) hb2).trans d0
                rw [hW]
                have XP := hide hXP
                have BW := hide hBW
                have HCZ := hide hcz
                clear hW hXP hBW hcz hb hb2 c0 c1' c2 c3 d0
                have y0 := XP.out.cell 0 rfl
                have y1 := XP.out.cell 1 rfl
                have y2 := XP.out.cell 2 rfl
                have y3 := XP.out.cell 3 rfl
                have y4 := HCZ.out
                go_quiet (first | (go_at_call 32; first | (with_reducible exact Calls.quiet_of_same (W2.out _)) | (with_reducible exact Calls.quiet_of_same (W3.out _))))
                clear y0 y1 y2 y3 y4
                go_wp2_with fail
                go_ret
                exact ⟨by rw [← HGO.out, HPR.out]; rfl, hbel.trans ((below_drewN BW.out _).mono hbs)⟩
              | true =>
                cases h4 : bt 0 f.sn (20000) with
                | false =>
                  have HPR := hide (show prOk (x.s + x.es.length) f f.id = false by unfold prOk; rw [decide_eq_true rfl, show (decide (1 ≤ f.nx) && decide (f.nx ≤ x.s + x.es.length + 1)) = bt 1 f.nx (x.s + x.es.length + 1) from rfl, show (decide (0 ≤ f.mt) && decide (f.mt ≤ f.nx - 1)) = bt 0 f.mt (f.nx - 1) from rfl, show (decide (0 ≤ f.sn) && decide (f.sn ≤ 20000)) = bt 0 f.sn 20000 from rfl]; simp only [h2, h3, h4, Bool.and_true, Bool.and_false, Bool.false_and, Bool.true_and])
                  have W2 := hide (within_is2 h2)
                  have W3 := hide (within_is2 h3)
                  have W4 := hide (within_is2 h4)
                  have HGO := hide hgo
                  clear hgo h2 h3 h4
                  go_upto_region 10 with fail
                  obtain ⟨W, hW⟩ : ∃ W, wr.alloc (.cells #[.int .i64 f.id, .int .i64 f.nx, .int .i64 f.mt, .int .i64 f.sn] 60) = W := ⟨_, rfl⟩
                  have hXP : XS wr.heap.size #[.int .i64 f.id, .int .i64 f.nx, .int .i64 f.mt, .int .i64 f.sn] 60 W := by rw [← hW]; exact XS.new _ _ _
                  have hBW : Below wr.heap.size wr W := by rw [← hW]; exact (Below.refl _ _).alloc (Nat.le_refl _) _
                  have hcz := (hBW.cell (p := ⟨b2, q2, none⟩) hb2).trans d0
                  rw [hW]
                  have XP := hide hXP
                  have BW := hide hBW
                  have HCZ := hide hcz
                  clear hW hXP hBW hcz hb hb2 c0 c1' c2 c3 d0
                  have y0 := XP.out.cell 0 rfl
                  have y1 := XP.out.cell 1 rfl
                  have y2 := XP.out.cell 2 rfl
                  have y3 := XP.out.cell 3 rfl
                  have y4 := HCZ.out
                  go_quiet (first | (go_at_call 32; first | (with_reducible exact Calls.quiet_of_same (W2.out _)) | (with_reducible exact Calls.quiet_of_same (W3.out _)) | (with_reducible exact Calls.quiet_of_same (W4.out _))))
                  clear y0 y1 y2 y3 y4
                  go_wp2_with fail
                  go_ret
                  exact ⟨by rw [← HGO.out, HPR.out]; rfl, hbel.trans ((below_drewN BW.out _).mono hbs)⟩
                | true =>
                  have HPR := hide (show prOk (x.s + x.es.length) f f.id = true by unfold prOk; rw [decide_eq_true rfl, show (decide (1 ≤ f.nx) && decide (f.nx ≤ x.s + x.es.length + 1)) = bt 1 f.nx (x.s + x.es.length + 1) from rfl, show (decide (0 ≤ f.mt) && decide (f.mt ≤ f.nx - 1)) = bt 0 f.mt (f.nx - 1) from rfl, show (decide (0 ≤ f.sn) && decide (f.sn ≤ 20000)) = bt 0 f.sn 20000 from rfl]; simp only [h2, h3, h4, Bool.and_true, Bool.and_false, Bool.false_and, Bool.true_and])
                  have W2 := hide (within_is2 h2)
                  have W3 := hide (within_is2 h3)
                  have W4 := hide (within_is2 h4)
                  have HGO := hide hgo
                  clear hgo h2 h3 h4
                  go_upto_region 10 with fail
                  obtain ⟨W, hW⟩ : ∃ W, wr.alloc (.cells #[.int .i64 f.id, .int .i64 f.nx, .int .i64 f.mt, .int .i64 f.sn] 60) = W := ⟨_, rfl⟩
                  have hXP : XS wr.heap.size #[.int .i64 f.id, .int .i64 f.nx, .int .i64 f.mt, .int .i64 f.sn] 60 W := by rw [← hW]; exact XS.new _ _ _
                  have hBW : Below wr.heap.size wr W := by rw [← hW]; exact (Below.refl _ _).alloc (Nat.le_refl _) _
                  have hcz := (hBW.cell (p := ⟨b2, q2, none⟩) hb2).trans d0
                  rw [hW]
                  have XP := hide hXP
                  have BW := hide hBW
                  have HCZ := hide hcz
                  clear hW hXP hBW hcz hb hb2 c0 c1' c2 c3 d0
                  have y0 := XP.out.cell 0 rfl
                  have y1 := XP.out.cell 1 rfl
                  have y2 := XP.out.cell 2 rfl
                  have y3 := XP.out.cell 3 rfl
                  have y4 := HCZ.out
                  go_quiet (first | (go_at_call 32; first | (with_reducible exact Calls.quiet_of_same (W2.out _)) | (with_reducible exact Calls.quiet_of_same (W3.out _)) | (with_reducible exact Calls.quiet_of_same (W4.out _))))
                  clear y0 y1 y2 y3 y4
                  go_wp2_with fail
                  go_roundw
                  case rel => exact ⟨j + 1, by go_num, by omega, by rw [← HGO.out, HPR.out]; rfl, hin.below (below_drewN BW.out _), hbel.trans ((below_drewN BW.out _).mono hbs)⟩
                  case measure => (simp [intOf] <;> omega)
          · skip
            have e1 : (f.id == z) = false := by simp; exact fun h => h1 h.symm
            have e2 : decide (f.id = z) = false := by simp; exact fun h => h1 h.symm
            have e3 : (f.id != z) = true := by rw [bne, e1]; rfl
            have HPR := hide (show prOk (x.s + x.es.length) f z = false by unfold prOk; rw [decide_eq_false (fun h => h1 h.symm)]; simp)
            have HGO := hide hgo
            clear hgo 
            go_upto_region 10 with fail
            obtain ⟨W, hW⟩ : ∃ W, wr.alloc (.cells #[.int .i64 f.id, .int .i64 f.nx, .int .i64 f.mt, .int .i64 f.sn] 60) = W := ⟨_, rfl⟩
            have hXP : XS wr.heap.size #[.int .i64 f.id, .int .i64 f.nx, .int .i64 f.mt, .int .i64 f.sn] 60 W := by rw [← hW]; exact XS.new _ _ _
            have hBW : Below wr.heap.size wr W := by rw [← hW]; exact (Below.refl _ _).alloc (Nat.le_refl _) _
            have hcz := (hBW.cell (p := ⟨b2, q2, none⟩) hb2).trans d0
            rw [hW]
            have XP := hide hXP
            have BW := hide hBW
            have HCZ := hide hcz
            clear hW hXP hBW hcz hb hb2 c0 c1' c2 c3 d0
            have y0 := XP.out.cell 0 rfl
            have y1 := XP.out.cell 1 rfl
            have y2 := XP.out.cell 2 rfl
            have y3 := XP.out.cell 3 rfl
            have y4 := HCZ.out
            go_quiet (first | (go_at_call 32; first | fail))
            clear y0 y1 y2 y3 y4
            go_wp2_with fail
            go_ret
            exact ⟨by rw [← HGO.out, HPR.out]; rfl, hbel.trans ((below_drewN BW.out _).mono hbs)⟩
        · have hjn : j = x.ps.length := by omega
          rw [prsGo_end hjn] at hgo
          have HGO := hide hgo
          clear hgo hjn
          go_wp2_with fail
          go_ret
          exact ⟨by rw [← HGO.out]; rfl, hbel⟩
    · have HV := hide (show prsOk (x.s + x.es.length) x.ps ids = false by unfold prsOk; rw [decide_eq_false hlen, Bool.false_and])
      have l1 : (((x.ps.length : Nat) : Int) == ((ids.length : Nat) : Int)) = false := beq_eq_false_iff_ne.2 (by omega)
      have l2 : decide (((x.ps.length : Nat) : Int) = ((ids.length : Nat) : Int)) = false := decide_eq_false (by omega)
      have l3 : (((x.ps.length : Nat) : Int) != ((ids.length : Nat) : Int)) = true := by rw [bne, l1]; rfl
      rw [HV.out]
      clear hlen HV
      go_enter Try.func37, Try.ntmps37
      go_wp2_with (go_at_call 59; refine HOT.out.mono ?_; rintro e w1 ⟨v, rfl, hown, hb1⟩; obtain ⟨oa, cI, hv⟩ := own_form3 hown; subst hv; have HB1 := hide (HB0.out.trans (hb1.mono HB0.out.size)); have X1 := hide (HX0.out.on hb1); obtain ⟨k0, k1, k2, k3, k4, k5, k6, k7, k8, k9, k10, k11, k12, k13⟩ := xs14 X1.out; clear hown hb1)
      go_ret
      exact ⟨rfl, HB1.out⟩
  · have r1 : (x.ro == 2) = false := by simp [hro]
    have HV0 := hide (show ndPrs x = prsOk (x.s + x.es.length) x.ps [] by simp only [ndPrs, ndIds, if_neg hro, ndLast])
    rw [HV0.out]
    have HRO := hide hro
    clear hro HV0 HOT HWF HOL
    by_cases hlen : x.ps.length = 0
    · have HV := hide (show prsOk (x.s + x.es.length) x.ps [] = true by unfold prsOk; rw [List.length_eq_zero_iff.1 hlen]; rfl)
      rw [HV.out]
      have HLEN := hide hlen
      have l1 : (((x.ps.length : Nat) : Int) == 0) = true := beq_iff_eq.2 (by omega)
      have l2 : decide (((x.ps.length : Nat) : Int) = 0) = true := decide_eq_true (by omega)
      have l3 : (((x.ps.length : Nat) : Int) != 0) = false := by rw [bne, l1]; rfl
      have l4 : ((x.ps.length : Nat) : Int) ≤ 0 := by omega
      clear hlen HV
      go_enter Try.func37, Try.ntmps37
      go_wp2_with (go_at_call 58; refine (HLL.out _ (HAT.out.e.below HB0.out)).mono ?_; rintro e w2 ⟨rfl, hb2⟩; have HB2 := hide (HB0.out.trans (hb2.mono HB0.out.size)); have X2 := hide (HX0.out.on hb2); obtain ⟨k0, k1, k2, k3, k4, k5, k6, k7, k8, k9, k10, k11, k12, k13⟩ := xs14 X2.out; clear hb2)
      go_loopw [28] (fun i wr => i = .int .i64 0 ∧ Below w.heap.size w wr) (fun i _ => 0)
      case atStart => exact ⟨rfl, HB2.out⟩
      case round =>
        obtain ⟨rfl, hbel⟩ := hrel
        go_wp2_with fail
        go_ret
        exact ⟨rfl, hbel⟩
    · have HV := hide (show prsOk (x.s + x.es.length) x.ps [] = false by unfold prsOk; rw [decide_eq_false (by simpa using hlen), Bool.false_and])
      rw [HV.out]
      have l1 : (((x.ps.length : Nat) : Int) == 0) = false := beq_eq_false_iff_ne.2 (by omega)
      have l2 : decide (((x.ps.length : Nat) : Int) = 0) = false := decide_eq_false (by omega)
      have l3 : (((x.ps.length : Nat) : Int) != 0) = true := by rw [bne, l1]; rfl
      have HLEN := hide hlen
      clear hlen HV
      go_enter Try.func37, Try.ntmps37
      go_wp2_with fail
      go_ret
      exact ⟨rfl, HB0.out⟩

end Go.Proofs.Ytoalbeiinlcgpaa
