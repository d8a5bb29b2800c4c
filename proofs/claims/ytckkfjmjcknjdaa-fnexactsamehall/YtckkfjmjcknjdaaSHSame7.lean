/-
  Walks and mathematics of Same7.
-/
import Derived.Test.YtckkfjmjcknjdaaSHSame6
import Derived.Test.YtckkfjmjcknjdaaSHHallA3
namespace Go.Proofs.Ytckkfjmjcknjdaa.P1
end Go.Proofs.Ytckkfjmjcknjdaa.P1
namespace Go.Proofs.Ytckkfjmjcknjdaa.P11
end Go.Proofs.Ytckkfjmjcknjdaa.P11
namespace Go.Proofs.Ytckkfjmjcknjdaa.P14
end Go.Proofs.Ytckkfjmjcknjdaa.P14
namespace Go.Proofs.Ytckkfjmjcknjdaa.P3
end Go.Proofs.Ytckkfjmjcknjdaa.P3
namespace Go.Proofs.Ytckkfjmjcknjdaa.P5
end Go.Proofs.Ytckkfjmjcknjdaa.P5
namespace Go.Proofs.Ytckkfjmjcknjdaa
open Go.RowKit P1 P3 P5 P9 P11 P12 P14 K
set_option linter.unusedVariables false
set_option linter.unusedSimpArgs false

theorem out_eq {x y : OutX} (h1 : x.d = y.d) (h2 : x.a = y.a) (h3 : x.ids = y.ids) : x = y := by
  obtain ⟨a, b, c⟩ := x
  obtain ⟨a', b', c'⟩ := y
  simp only at h1 h2 h3
  rw [h1, h2, h3]

set_option maxRecDepth 100000 in
set_option maxHeartbeats 16000000 in
theorem specSameHall_any (ps ps2 : List SesV) (es es2 : List EvV) (ss ss2 : List (List (Int × Int))) (gs gs2 : List Bool) (os os2 : List OutX) (hf : FineH ps es ss gs os) (pa : Option Addr) (pn pc : Nat) (oa : Option Addr) (n cap : Nat) (so : Option Addr) (sn sc : Nat) (go : Option Addr) (gn gc : Nat) (qa : Option Addr) (qn qc : Nat) (pb : Option Addr) (pn' pd : Nat) (ob : Option Addr) (n' cap' : Nat) (sp : Option Addr) (sn' sc' : Nat) (gp : Option Addr) (gn' gc' : Nat) (qb : Option Addr) (qn' qd : Nat) (w : World) (h : HallAt w pa pn pc oa n cap so sn sc go gn gc qa qn qc ps es ss gs os) (k : HallAt w pb pn' pd ob n' cap' sp sn' sc' gp gn' gc' qb qn' qd ps2 es2 ss2 gs2 os2) :
    Calls Try.prog 11 #[hallv pa pn pc oa n cap so sn sc go gn gc qa qn qc, hallv pb pn' pd ob n' cap' sp sn' sc' gp gn' gc' qb qn' qd] w fun e w' => e = .returned (.bool (eqB ps ps2 && ((eqB es es2 && (eqB ss ss2 && eqB gs gs2)) && eqB os os2))) ∧ Below w.heap.size w w' := by
  have hn1 := h.p.len
  have hn2 := k.p.len
  have hn3 := h.o.len
  have hn4 := k.o.len
  have hx1 := Nat.le_trans h.p.room h.p.most
  have hx2 := Nat.le_trans k.p.room k.p.most
  have hx3 := Nat.le_trans h.o.room.1 h.o.room.2
  have hx4 := Nat.le_trans k.o.room.1 k.o.room.2
  unfold maxLen at hx1 hx2 hx3 hx4
  obtain ⟨W0, hW0⟩ : ∃ W0, (w.alloc (.cells #[.slice pa pn pc, .slice oa n cap, .slice so sn sc, .slice go gn gc, .slice qa qn qc] 30)).alloc (.cells #[.slice pb pn' pd, .slice ob n' cap', .slice sp sn' sc', .slice gp gn' gc', .slice qb qn' qd] 30) = W0 := ⟨_, rfl⟩
  obtain ⟨hA0, hB0, hb0⟩ := two_new w #[.slice pa pn pc, .slice oa n cap, .slice so sn sc, .slice go gn gc, .slice qa qn qc] #[.slice pb pn' pd, .slice ob n' cap', .slice sp sn' sc', .slice gp gn' gc', .slice qb qn' qd] 30 30
  rw [hW0] at hA0 hB0 hb0
  have hlA := blk_lt hA0
  have hlB := blk_lt hB0
  have HA0 := hide (show ∀ W, Below W0.heap.size W0 W → W.cell? ⟨w.heap.size, 0, none⟩ = some (.slice pa pn pc) from fun W hb => (hb.cell hlA).trans (blk_cell hA0 0 rfl))
  have HA1 := hide (show ∀ W, Below W0.heap.size W0 W → W.cell? ⟨w.heap.size, 1, none⟩ = some (.slice oa n cap) from fun W hb => (hb.cell hlA).trans (blk_cell hA0 1 rfl))
  have HA2 := hide (show ∀ W, Below W0.heap.size W0 W → W.cell? ⟨w.heap.size, 2, none⟩ = some (.slice so sn sc) from fun W hb => (hb.cell hlA).trans (blk_cell hA0 2 rfl))
  have HA3 := hide (show ∀ W, Below W0.heap.size W0 W → W.cell? ⟨w.heap.size, 3, none⟩ = some (.slice go gn gc) from fun W hb => (hb.cell hlA).trans (blk_cell hA0 3 rfl))
  have HA4 := hide (show ∀ W, Below W0.heap.size W0 W → W.cell? ⟨w.heap.size, 4, none⟩ = some (.slice qa qn qc) from fun W hb => (hb.cell hlA).trans (blk_cell hA0 4 rfl))
  have HC0 := hide (show ∀ W, Below W0.heap.size W0 W → W.cell? ⟨w.heap.size + 1, 0, none⟩ = some (.slice pb pn' pd) from fun W hb => (hb.cell hlB).trans (blk_cell hB0 0 rfl))
  have HC1 := hide (show ∀ W, Below W0.heap.size W0 W → W.cell? ⟨w.heap.size + 1, 1, none⟩ = some (.slice ob n' cap') from fun W hb => (hb.cell hlB).trans (blk_cell hB0 1 rfl))
  have HC2 := hide (show ∀ W, Below W0.heap.size W0 W → W.cell? ⟨w.heap.size + 1, 2, none⟩ = some (.slice sp sn' sc') from fun W hb => (hb.cell hlB).trans (blk_cell hB0 2 rfl))
  have HC3 := hide (show ∀ W, Below W0.heap.size W0 W → W.cell? ⟨w.heap.size + 1, 3, none⟩ = some (.slice gp gn' gc') from fun W hb => (hb.cell hlB).trans (blk_cell hB0 3 rfl))
  have HC4 := hide (show ∀ W, Below W0.heap.size W0 W → W.cell? ⟨w.heap.size + 1, 4, none⟩ = some (.slice qb qn' qd) from fun W hb => (hb.cell hlB).trans (blk_cell hB0 4 rfl))
  have HRM := hide (fun W (hb : Below W0.heap.size W0 W) => l12Same_any es es2 ss ss2 gs gs2 hf.r oa n cap so sn sc go gn gc ob n' cap' sp sn' sc' gp gn' gc' W ((h.e.below hb0).below hb) ((h.s.below hb0).below hb) ((h.g.below hb0).below hb) ((k.e.below hb0).below hb) ((k.s.below hb0).below hb) ((k.g.below hb0).below hb))
  generalize (eqB es es2 && (eqB ss ss2 && eqB gs gs2)) = rb at HRM ⊢
  have HB0 := hide hb0
  have HW0 := hide hW0
  have HP := hide (h.p.below hb0)
  have HP2 := hide (k.p.below hb0)
  have HO := hide (h.o.below hb0)
  have HO2 := hide (k.o.below hb0)
  clear hW0 hb0 hA0 hB0 hlA hlB h k hf
  by_cases c1 : pn = pn'
  · subst c1
    by_cases c2 : qn = qn'
    · subst c2
      have HLps := hide hn1
      have HLps2 := hide hn2
      have HLos := hide hn3
      have HLos2 := hide hn4
      clear hn1 hn2 hn3 hn4 hx2 hx4
      cases rb with
      | false =>
        go_enter Try.func11, Try.ntmps11
        go_upto_region 1 with fail
        rw [HW0.out]
        clear HW0
        have s0 := HA0.out W0 (Below.refl _ _)
        have s1 := HA1.out W0 (Below.refl _ _)
        have s2 := HA2.out W0 (Below.refl _ _)
        have s3 := HA3.out W0 (Below.refl _ _)
        have s4 := HA4.out W0 (Below.refl _ _)
        have t0 := HC0.out W0 (Below.refl _ _)
        have t1 := HC1.out W0 (Below.refl _ _)
        have t2 := HC2.out W0 (Below.refl _ _)
        have t3 := HC3.out W0 (Below.refl _ _)
        have t4 := HC4.out W0 (Below.refl _ _)
        go_wp2_with (go_at_call 26; (with_reducible refine (HRM.out _ (Below.refl _ _)).mono ?_); rintro r w1 ⟨rfl, hb1⟩)
        go_ret
        exact ⟨by rw [show (eqB ps ps2 && (false && eqB os os2)) = false by simp]; rfl, HB0.out.trans (hb1.mono HB0.out.size)⟩
      | true =>
        go_enter Try.func11, Try.ntmps11
        go_upto_region 1 with fail
        rw [HW0.out]
        clear HW0
        have s0 := HA0.out W0 (Below.refl _ _)
        have s1 := HA1.out W0 (Below.refl _ _)
        have s2 := HA2.out W0 (Below.refl _ _)
        have s3 := HA3.out W0 (Below.refl _ _)
        have s4 := HA4.out W0 (Below.refl _ _)
        have t0 := HC0.out W0 (Below.refl _ _)
        have t1 := HC1.out W0 (Below.refl _ _)
        have t2 := HC2.out W0 (Below.refl _ _)
        have t3 := HC3.out W0 (Below.refl _ _)
        have t4 := HC4.out W0 (Below.refl _ _)
        go_wp2_with (go_at_call 26; (with_reducible refine (HRM.out _ (Below.refl _ _)).mono ?_); rintro r w1 ⟨rfl, hb1⟩)
        clear s0 t0 s1 t1 s2 t2 s3 t3 s4 t4
        go_loopw [5] (fun x wr => ∃ (j : Nat), x = .int .i64 (j : Int) ∧ j ≤ pn ∧ ps.take j = ps2.take j ∧ Below W0.heap.size W0 wr) (fun x _ => pn - (intOf x).toNat)
        case atStart => exact ⟨0, rfl, Nat.zero_le _, by simp, hb1⟩
        case round =>
          obtain ⟨j, rfl, hj, htk, hbel⟩ := hrel
          have HTK := hide htk
          have hsz := hbel.size
          clear htk
          have s0 := HA0.out wr hbel
          have t0 := HC0.out wr hbel
          by_cases hlt : j < pn
          · have j0 : (j : Int) < (pn : Int) := by omega
            obtain ⟨x, bx, qx, hx, hidx, hbx, c0, c1, c2⟩ := (HP.out.below hbel).getS3 Try.underlying22 infoISe j hlt
            obtain ⟨y, bY, qy, hy, hidy, hby, d0, d1, d2⟩ := (HP2.out.below hbel).getS3 Try.underlying22 infoISe j hlt
            have hne := fun W => neqSes x.term x.kind y.term y.kind x.data y.data W
            rw [ses_same x y] at hne
            have HX := hide hx
            have HY := hide hy
            clear hx hy 
            by_cases e : x = y
            · have HE := hide e
              rw [eqB_yes e] at hne
              clear e
              go_wp2_with fail
              go_quiet (fail)
              have hb3 := below_drewN hbel nq
              go_wp2_with fail
              go_roundw
              case rel => exact ⟨j + 1, by go_num, by omega, take_same14 HTK.out HX.out (by first | exact HY.out | (rw [HE.out]; exact HY.out)), hb3⟩
              case measure => simp [intOf]; omega
            · have HE := hide e
              rw [eqB_no e] at hne
              clear e
              go_wp2_with fail
              go_quiet (fail)
              have hb3 := below_drewN hbel nq
              go_wp2_with fail
              go_ret
              refine ⟨?_, HB0.out.trans (hb3.mono HB0.out.size)⟩
              rw [show (eqB ps ps2 && (true && eqB os os2)) = false by rw [eqB_no (show ps ≠ ps2 from fun h => HE.out (by have h1 := HX.out; rw [h, HY.out] at h1; exact (Option.some.inj h1).symm))]; simp]
              rfl
          · have HST : Hid (ps = ps2) := hide (by
              have h1 := HTK.out
              rwa [List.take_of_length_le (by rw [HLps.out]; omega), List.take_of_length_le (by rw [HLps2.out]; omega)] at h1)
            clear HTK
            have HV1 := HST
            clear HST
            go_wp2_with fail
            clear s0 t0
            go_loopw [6] (fun x wr => ∃ (j : Nat), x = .int .i64 (j : Int) ∧ j ≤ qn ∧ os.take j = os2.take j ∧ Below W0.heap.size W0 wr) (fun x _ => qn - (intOf x).toNat)
            case atStart => exact ⟨0, rfl, Nat.zero_le _, by simp, hbel⟩
            case round =>
              obtain ⟨j, rfl, hj, htk, hbel⟩ := hrel
              have HTK := hide htk
              have hsz := hbel.size
              clear htk
              have s4 := HA4.out wr hbel
              have t4 := HC4.out wr hbel
              by_cases hlt : j < qn
              · have j0 : (j : Int) < (qn : Int) := by omega
                obtain ⟨x, xa, xc, bx, qx, hx, hidx, hbx, c0, c1, c2, hit⟩ := (HO.out.below hbel).get Try.underlying28 infoOI j hlt
                obtain ⟨y, ya, yc, bY, qy, hy, hidy, hby, d0, d1, d2, hit'⟩ := (HO2.out.below hbel).get Try.underlying28 infoOI j hlt
                have HQ := hide (fun (w2 : World) (hb2 : Below wr.heap.size wr w2) => l05SameInts_any xa x.ids.length xc ya y.ids.length yc x.ids y.ids w2 (hit.below hb2) (hit'.below hb2))
                have HX := hide hx
                have HY := hide hy
                clear hx hy hit hit'
                by_cases e1 : x.d = y.d
                · have q1 : (x.d != y.d) = false := by simpa using e1
                  by_cases e2 : x.a = y.a
                  · have q2 : (x.a != y.a) = false := by simpa using e2
                    by_cases e3 : x.ids = y.ids
                    · have HE := hide (show x = y from out_eq e1 e2 e3)
                      have he : decide (x.ids = y.ids) = true := decide_eq_true e3
                      rw [he] at HQ
                      clear e1 e2 e3 he
                      go_wp2_with fail
                      refine wp_region_in (F := fun w' => Below wr.heap.size wr w') (by kernel_rfl) (by kernel_rfl) (Below.refl _ _).drew ?_
                      have hne : Nonempty (InW (fun w' => Below wr.heap.size wr w')) := ⟨⟨_, Below.refl _ _⟩⟩
                      have k0 := fun mw : InW (fun w' => Below wr.heap.size wr w') => HA4.out mw.w (hbel.trans (mw.h.mono hsz))
                      have k1 := fun mw : InW (fun w' => Below wr.heap.size wr w') => HC4.out mw.w (hbel.trans (mw.h.mono hsz))
                      have k2 := fun mw : InW (fun w' => Below wr.heap.size wr w') => (mw.h.cell hbx).trans c0
                      have k3 := fun mw : InW (fun w' => Below wr.heap.size wr w') => (mw.h.cell hbx).trans c1
                      have k4 := fun mw : InW (fun w' => Below wr.heap.size wr w') => (mw.h.cell hbx).trans c2
                      have k5 := fun mw : InW (fun w' => Below wr.heap.size wr w') => (mw.h.cell hby).trans d0
                      have k6 := fun mw : InW (fun w' => Below wr.heap.size wr w') => (mw.h.cell hby).trans d1
                      have k7 := fun mw : InW (fun w' => Below wr.heap.size wr w') => (mw.h.cell hby).trans d2
                      repeat (go_big_quiet_step (first
                        | fail
                        | (go_at_call 27; (with_reducible refine (HQ.out _ (InW.h _)).mono ?_); rintro e w3 ⟨rfl, hb3⟩; exact ⟨rfl, ⟨w3, inw_more15 _ hb3⟩, rfl⟩)
                        ))
                      refine wpQuiet_nil ?_
                      intro _ hw'
                      obtain ⟨nq, hw''⟩ := hw'
                      subst hw''
                      have hb3 := hbel.trans (nq.h.mono hsz)
                      clear hne k0 k1 k2 k3 k4 k5 k6 k7
                      generalize nq.w = w1 at hb3 ⊢
                      go_wp2_with fail
                      go_roundw
                      case rel => exact ⟨j + 1, by go_num, by omega, take_same14 HTK.out HX.out (by first | exact HY.out | (rw [HE.out]; exact HY.out)), hb3⟩
                      case measure => simp [intOf]; omega
                    · have HE := hide (show x ≠ y from fun h => e3 (by rw [h]))
                      have he : decide (x.ids = y.ids) = false := decide_eq_false e3
                      rw [he] at HQ
                      clear e1 e2 e3 he
                      go_wp2_with fail
                      refine wp_region_in (F := fun w' => Below wr.heap.size wr w') (by kernel_rfl) (by kernel_rfl) (Below.refl _ _).drew ?_
                      have hne : Nonempty (InW (fun w' => Below wr.heap.size wr w')) := ⟨⟨_, Below.refl _ _⟩⟩
                      have k0 := fun mw : InW (fun w' => Below wr.heap.size wr w') => HA4.out mw.w (hbel.trans (mw.h.mono hsz))
                      have k1 := fun mw : InW (fun w' => Below wr.heap.size wr w') => HC4.out mw.w (hbel.trans (mw.h.mono hsz))
                      have k2 := fun mw : InW (fun w' => Below wr.heap.size wr w') => (mw.h.cell hbx).trans c0
                      have k3 := fun mw : InW (fun w' => Below wr.heap.size wr w') => (mw.h.cell hbx).trans c1
                      have k4 := fun mw : InW (fun w' => Below wr.heap.size wr w') => (mw.h.cell hbx).trans c2
                      have k5 := fun mw : InW (fun w' => Below wr.heap.size wr w') => (mw.h.cell hby).trans d0
                      have k6 := fun mw : InW (fun w' => Below wr.heap.size wr w') => (mw.h.cell hby).trans d1
                      have k7 := fun mw : InW (fun w' => Below wr.heap.size wr w') => (mw.h.cell hby).trans d2
                      repeat (go_big_quiet_step (first
                        | fail
                        | (go_at_call 27; (with_reducible refine (HQ.out _ (InW.h _)).mono ?_); rintro e w3 ⟨rfl, hb3⟩; exact ⟨rfl, ⟨w3, inw_more15 _ hb3⟩, rfl⟩)
                        ))
                      refine wpQuiet_nil ?_
                      intro _ hw'
                      obtain ⟨nq, hw''⟩ := hw'
                      subst hw''
                      have hb3 := hbel.trans (nq.h.mono hsz)
                      clear hne k0 k1 k2 k3 k4 k5 k6 k7
                      generalize nq.w = w1 at hb3 ⊢
                      go_wp2_with fail
                      go_ret
                      refine ⟨?_, HB0.out.trans (hb3.mono HB0.out.size)⟩
                      rw [show (eqB ps ps2 && (true && eqB os os2)) = false by rw [eqB_no (show os ≠ os2 from fun h => HE.out (by have h1 := HX.out; rw [h, HY.out] at h1; exact (Option.some.inj h1).symm))]; simp]
                      rfl
                  · have q2 : (x.a != y.a) = true := by simpa using e2
                    have HE := hide (show x ≠ y from fun h => e2 (by rw [h]))
                    clear e1 e2
                    go_wp2_with fail
                    refine wp_region_in (F := fun w' => Below wr.heap.size wr w') (by kernel_rfl) (by kernel_rfl) (Below.refl _ _).drew ?_
                    have hne : Nonempty (InW (fun w' => Below wr.heap.size wr w')) := ⟨⟨_, Below.refl _ _⟩⟩
                    have k0 := fun mw : InW (fun w' => Below wr.heap.size wr w') => HA4.out mw.w (hbel.trans (mw.h.mono hsz))
                    have k1 := fun mw : InW (fun w' => Below wr.heap.size wr w') => HC4.out mw.w (hbel.trans (mw.h.mono hsz))
                    have k2 := fun mw : InW (fun w' => Below wr.heap.size wr w') => (mw.h.cell hbx).trans c0
                    have k3 := fun mw : InW (fun w' => Below wr.heap.size wr w') => (mw.h.cell hbx).trans c1
                    have k4 := fun mw : InW (fun w' => Below wr.heap.size wr w') => (mw.h.cell hbx).trans c2
                    have k5 := fun mw : InW (fun w' => Below wr.heap.size wr w') => (mw.h.cell hby).trans d0
                    have k6 := fun mw : InW (fun w' => Below wr.heap.size wr w') => (mw.h.cell hby).trans d1
                    have k7 := fun mw : InW (fun w' => Below wr.heap.size wr w') => (mw.h.cell hby).trans d2
                    repeat (go_big_quiet_step (first
                      | fail
                      | (go_at_call 27; (with_reducible refine (HQ.out _ (InW.h _)).mono ?_); rintro e w3 ⟨rfl, hb3⟩; exact ⟨rfl, ⟨w3, inw_more15 _ hb3⟩, rfl⟩)
                      ))
                    refine wpQuiet_nil ?_
                    intro _ hw'
                    obtain ⟨nq, hw''⟩ := hw'
                    subst hw''
                    have hb3 := hbel.trans (nq.h.mono hsz)
                    clear hne k0 k1 k2 k3 k4 k5 k6 k7
                    generalize nq.w = w1 at hb3 ⊢
                    go_wp2_with fail
                    go_ret
                    refine ⟨?_, HB0.out.trans (hb3.mono HB0.out.size)⟩
                    rw [show (eqB ps ps2 && (true && eqB os os2)) = false by rw [eqB_no (show os ≠ os2 from fun h => HE.out (by have h1 := HX.out; rw [h, HY.out] at h1; exact (Option.some.inj h1).symm))]; simp]
                    rfl
                · have q1 : (x.d != y.d) = true := by simpa using e1
                  have HE := hide (show x ≠ y from fun h => e1 (by rw [h]))
                  clear e1
                  go_wp2_with fail
                  refine wp_region_in (F := fun w' => Below wr.heap.size wr w') (by kernel_rfl) (by kernel_rfl) (Below.refl _ _).drew ?_
                  have hne : Nonempty (InW (fun w' => Below wr.heap.size wr w')) := ⟨⟨_, Below.refl _ _⟩⟩
                  have k0 := fun mw : InW (fun w' => Below wr.heap.size wr w') => HA4.out mw.w (hbel.trans (mw.h.mono hsz))
                  have k1 := fun mw : InW (fun w' => Below wr.heap.size wr w') => HC4.out mw.w (hbel.trans (mw.h.mono hsz))
                  have k2 := fun mw : InW (fun w' => Below wr.heap.size wr w') => (mw.h.cell hbx).trans c0
                  have k3 := fun mw : InW (fun w' => Below wr.heap.size wr w') => (mw.h.cell hbx).trans c1
                  have k4 := fun mw : InW (fun w' => Below wr.heap.size wr w') => (mw.h.cell hbx).trans c2
                  have k5 := fun mw : InW (fun w' => Below wr.heap.size wr w') => (mw.h.cell hby).trans d0
                  have k6 := fun mw : InW (fun w' => Below wr.heap.size wr w') => (mw.h.cell hby).trans d1
                  have k7 := fun mw : InW (fun w' => Below wr.heap.size wr w') => (mw.h.cell hby).trans d2
                  repeat (go_big_quiet_step (first
                    | fail
                    | (go_at_call 27; (with_reducible refine (HQ.out _ (InW.h _)).mono ?_); rintro e w3 ⟨rfl, hb3⟩; exact ⟨rfl, ⟨w3, inw_more15 _ hb3⟩, rfl⟩)
                    ))
                  refine wpQuiet_nil ?_
                  intro _ hw'
                  obtain ⟨nq, hw''⟩ := hw'
                  subst hw''
                  have hb3 := hbel.trans (nq.h.mono hsz)
                  clear hne k0 k1 k2 k3 k4 k5 k6 k7
                  generalize nq.w = w1 at hb3 ⊢
                  go_wp2_with fail
                  go_ret
                  refine ⟨?_, HB0.out.trans (hb3.mono HB0.out.size)⟩
                  rw [show (eqB ps ps2 && (true && eqB os os2)) = false by rw [eqB_no (show os ≠ os2 from fun h => HE.out (by have h1 := HX.out; rw [h, HY.out] at h1; exact (Option.some.inj h1).symm))]; simp]
                  rfl
              · have HST : Hid (os = os2) := hide (by
                  have h1 := HTK.out
                  rwa [List.take_of_length_le (by rw [HLos.out]; omega), List.take_of_length_le (by rw [HLos2.out]; omega)] at h1)
                clear HTK
                go_wp2_with fail
                go_ret
                exact ⟨by rw [show (eqB ps ps2 && (true && eqB os os2)) = true by rw [eqB_yes HV1.out, eqB_yes HST.out]; rfl]; rfl, HB0.out.trans (hbel.mono HB0.out.size)⟩
    · have HNE := hide (show os ≠ os2 from fun h => by subst h; omega)
      have q2 : ((qn : Int) != (qn' : Int)) = true := by rw [bne_iff_ne]; omega
      go_enter Try.func11, Try.ntmps11
      go_upto_region 1 with fail
      rw [HW0.out]
      clear HW0
      have s0 := HA0.out W0 (Below.refl _ _)
      have s1 := HA1.out W0 (Below.refl _ _)
      have s2 := HA2.out W0 (Below.refl _ _)
      have s3 := HA3.out W0 (Below.refl _ _)
      have s4 := HA4.out W0 (Below.refl _ _)
      have t0 := HC0.out W0 (Below.refl _ _)
      have t1 := HC1.out W0 (Below.refl _ _)
      have t2 := HC2.out W0 (Below.refl _ _)
      have t3 := HC3.out W0 (Below.refl _ _)
      have t4 := HC4.out W0 (Below.refl _ _)
      go_wp2_with fail
      go_ret
      exact ⟨by rw [show (eqB ps ps2 && (rb && eqB os os2)) = false by rw [eqB_no HNE.out]; simp]; rfl, HB0.out⟩
  · have HNE := hide (show ps ≠ ps2 from fun h => by subst h; omega)
    have q2 : ((pn : Int) != (pn' : Int)) = true := by rw [bne_iff_ne]; omega
    go_enter Try.func11, Try.ntmps11
    go_upto_region 1 with fail
    rw [HW0.out]
    clear HW0
    have s0 := HA0.out W0 (Below.refl _ _)
    have s1 := HA1.out W0 (Below.refl _ _)
    have s2 := HA2.out W0 (Below.refl _ _)
    have s3 := HA3.out W0 (Below.refl _ _)
    have s4 := HA4.out W0 (Below.refl _ _)
    have t0 := HC0.out W0 (Below.refl _ _)
    have t1 := HC1.out W0 (Below.refl _ _)
    have t2 := HC2.out W0 (Below.refl _ _)
    have t3 := HC3.out W0 (Below.refl _ _)
    have t4 := HC4.out W0 (Below.refl _ _)
    go_wp2_with fail
    go_ret
    exact ⟨by rw [show (eqB ps ps2 && (rb && eqB os os2)) = false by rw [eqB_no HNE.out]; simp]; rfl, HB0.out⟩

end Go.Proofs.Ytckkfjmjcknjdaa
