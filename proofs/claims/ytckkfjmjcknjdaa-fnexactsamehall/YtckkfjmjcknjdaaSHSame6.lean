/-
  Walks and mathematics of Same6.
-/
import Derived.Test.YtckkfjmjcknjdaaSHSame3
import Derived.Test.YtckkfjmjcknjdaaSHSame1
namespace Go.Proofs.Ytckkfjmjcknjdaa.P1
end Go.Proofs.Ytckkfjmjcknjdaa.P1
namespace Go.Proofs.Ytckkfjmjcknjdaa.P11
end Go.Proofs.Ytckkfjmjcknjdaa.P11
namespace Go.Proofs.Ytckkfjmjcknjdaa.P14
end Go.Proofs.Ytckkfjmjcknjdaa.P14
namespace Go.Proofs.Ytckkfjmjcknjdaa.P3
end Go.Proofs.Ytckkfjmjcknjdaa.P3
namespace Go.Proofs.Ytckkfjmjcknjdaa.P5
end Go.Proofs.Ytckkfjmjcknjdaa.P5
namespace Go.Proofs.Ytckkfjmjcknjdaa
open Go.RowKit P1 P3 P5 P9 P11 P12 P14 K
set_option linter.unusedVariables false
set_option linter.unusedSimpArgs false

set_option maxRecDepth 100000 in
set_option maxHeartbeats 4000000 in
theorem l12SameState_any (oa : Option Addr) (n cap : Nat) (s : List (Int × Int)) (ob : Option Addr) (m cb : Nat) (t : List (Int × Int)) (hn20 : n ≤ 1048576) (w : World) (hs : ItemsAt w oa n cap s) (ht : ItemsAt w ob m cb t) :
    Calls Try.prog 55 #[.slice oa n cap, .slice ob m cb] w fun e w' => e = .returned (.bool (eqB s t)) ∧ Below w.heap.size w w' := by
  have hsl := hs.len
  have htl := ht.len
  by_cases hnm : n = m
  · subst hnm
    have HS := hide hs
    have HT := hide ht
    have HSL := hide hsl
    have HTL := hide htl
    clear hs ht hsl htl
    go_enter Try.func55, Try.ntmps55
    go_wp2_with fail
    go_loopw [5] (fun x wr => ∃ (j q : Nat), x = .int .i64 (j : Int) ∧ j ≤ n ∧ s.take j = t.take j ∧ wr = w.drewN q) (fun x _ => n - (intOf x).toNat)
    case atStart => exact ⟨0, 0, rfl, Nat.zero_le _, by simp, rfl⟩
    case round =>
      obtain ⟨j, q, rfl, hj, htk, rfl⟩ := hrel
      have HTK := hide htk
      clear htk
      by_cases hlt : j < n
      · have j0 : (j : Int) < (n : Int) := by omega
        obtain ⟨x, bx, qx, hx, hidx, hbx, c0, c1⟩ := HS.out.get Try.underlying85 infoII j hlt
        obtain ⟨y, bY, qy, hy, hidy, hby, d0, d1⟩ := HT.out.get Try.underlying85 infoII j hlt
        have hne := fun W => neqItem14 x.1 x.2 y.1 y.2 W
        rw [item_same x y] at hne
        have HX := hide hx
        have HY := hide hy
        clear hx hy
        by_cases e : x = y
        · have HE := hide e
          rw [eqB_yes e] at hne
          clear e
          go_wp2_with fail
          go_quiet (fail)
          go_wp2_with fail
          go_roundw
          case rel => exact ⟨j + 1, q + nq, by go_num, by omega, take_same14 HTK.out HX.out (by rw [HE.out]; exact HY.out), by simp⟩
          case measure => simp [intOf]; omega
        · have HE := hide e
          rw [eqB_no e] at hne
          clear e
          go_wp2_with fail
          go_quiet (fail)
          go_wp2_with fail
          go_ret
          refine ⟨?_, below_drewN (below_drewN (Below.refl _ _) _) _⟩
          rw [eqB_no (fun h => HE.out (by
            have h1 := HX.out
            rw [h, HY.out] at h1
            exact (Option.some.inj h1).symm))]
          rfl
      · have hst : s = t := by
          have h1 := HTK.out
          rwa [List.take_of_length_le (by rw [HSL.out]; omega), List.take_of_length_le (by rw [HTL.out]; omega)] at h1
        have HST := hide hst
        clear hst
        go_wp2_with fail
        go_ret
        exact ⟨by rw [eqB_yes HST.out]; rfl, below_drewN (Below.refl _ _) _⟩
  · have HNE := hide (show s ≠ t from fun h => hnm (by rw [← hsl, ← htl, h]))
    have h1 := Nat.le_trans ht.room ht.most
    unfold maxLen at h1
    have q2 : ((n : Int) != (m : Int)) = true := by rw [bne_iff_ne]; omega
    clear hs ht hsl htl hnm
    go_enter Try.func55, Try.ntmps55
    go_wp2_with fail
    go_ret
    exact ⟨by rw [eqB_no HNE.out]; rfl, Below.refl _ _⟩

theorem sameE_eqB (x y : EvV) : sameE (⟨x.id, x.kind, x.sender, x.user, x.member, x.levels, x.text, x.prev, x.depth⟩ : EvV) (⟨y.id, y.kind, y.sender, y.user, y.member, y.levels, y.text, y.prev, y.depth⟩ : EvV) = eqB x y := by
  rw [Bool.eq_iff_iff, sameE_iff, eqB_iff]

set_option maxRecDepth 100000 in
set_option maxHeartbeats 16000000 in
theorem l12Same_any (es es2 : List EvV) (ss ss2 : List (List (Int × Int))) (gs gs2 : List Bool) (hf : FineR es ss gs) (oa : Option Addr) (n cap : Nat) (so : Option Addr) (sn sc : Nat) (go : Option Addr) (gn gc : Nat) (ob : Option Addr) (n' cap' : Nat) (sp : Option Addr) (sn' sc' : Nat) (gp : Option Addr) (gn' gc' : Nat) (w : World) (r1 : EvsAt w oa n cap es) (r2 : StsAt w so sn sc ss) (r3 : BoolsAt w go gn gc gs) (s1 : EvsAt w ob n' cap' es2) (s2 : StsAt w sp sn' sc' ss2) (s3 : BoolsAt w gp gn' gc' gs2) :
    Calls Try.prog 26 #[roomv oa n cap so sn sc go gn gc, roomv ob n' cap' sp sn' sc' gp gn' gc'] w fun e w' => e = .returned (.bool (eqB es es2 && (eqB ss ss2 && eqB gs gs2))) ∧ Below w.heap.size w w' := by
  have HF := hide hf.sw
  clear hf
  have hn1 := r1.len
  have hn2 := s1.len
  have hn3 := r2.len
  have hn4 := s2.len
  have hn5 := r3.len
  have hn6 := s3.len
  have hx1 := Nat.le_trans r1.room r1.most
  have hx2 := Nat.le_trans s1.room s1.most
  have hx3 := Nat.le_trans r2.room r2.most
  have hx4 := Nat.le_trans s2.room s2.most
  have hx5 := Nat.le_trans r3.room r3.most
  have hx6 := Nat.le_trans s3.room s3.most
  unfold maxLen at hx1 hx2 hx3 hx4 hx5 hx6
  obtain ⟨W0, hW0⟩ : ∃ W0, (w.alloc (.cells #[.slice oa n cap, .slice so sn sc, .slice go gn gc] 27)).alloc (.cells #[.slice ob n' cap', .slice sp sn' sc', .slice gp gn' gc'] 27) = W0 := ⟨_, rfl⟩
  obtain ⟨hA0, hB0, hb0⟩ := two_new w #[.slice oa n cap, .slice so sn sc, .slice go gn gc] #[.slice ob n' cap', .slice sp sn' sc', .slice gp gn' gc'] 27 27
  rw [hW0] at hA0 hB0 hb0
  have hlA := blk_lt hA0
  have hlB := blk_lt hB0
  have HA0 := hide (show ∀ W, Below W0.heap.size W0 W → W.cell? ⟨w.heap.size, 0, none⟩ = some (.slice oa n cap) from fun W hb => (hb.cell hlA).trans (blk_cell hA0 0 rfl))
  have HA1 := hide (show ∀ W, Below W0.heap.size W0 W → W.cell? ⟨w.heap.size, 1, none⟩ = some (.slice so sn sc) from fun W hb => (hb.cell hlA).trans (blk_cell hA0 1 rfl))
  have HA2 := hide (show ∀ W, Below W0.heap.size W0 W → W.cell? ⟨w.heap.size, 2, none⟩ = some (.slice go gn gc) from fun W hb => (hb.cell hlA).trans (blk_cell hA0 2 rfl))
  have HC0 := hide (show ∀ W, Below W0.heap.size W0 W → W.cell? ⟨w.heap.size + 1, 0, none⟩ = some (.slice ob n' cap') from fun W hb => (hb.cell hlB).trans (blk_cell hB0 0 rfl))
  have HC1 := hide (show ∀ W, Below W0.heap.size W0 W → W.cell? ⟨w.heap.size + 1, 1, none⟩ = some (.slice sp sn' sc') from fun W hb => (hb.cell hlB).trans (blk_cell hB0 1 rfl))
  have HC2 := hide (show ∀ W, Below W0.heap.size W0 W → W.cell? ⟨w.heap.size + 1, 2, none⟩ = some (.slice gp gn' gc') from fun W hb => (hb.cell hlB).trans (blk_cell hB0 2 rfl))
  have HB0 := hide hb0
  have HW0 := hide hW0
  have HR1 := hide (r1.below hb0)
  have HR2 := hide (r2.below hb0)
  have HR3 := hide (r3.below hb0)
  have HS1 := hide (s1.below hb0)
  have HS2 := hide (s2.below hb0)
  have HS3 := hide (s3.below hb0)
  clear hW0 hb0 hA0 hB0 hlA hlB r1 r2 r3 s1 s2 s3
  by_cases c1 : n = n'
  · subst c1
    by_cases c2 : sn = sn'
    · subst c2
      by_cases c3 : gn = gn'
      · subst c3
        have HLes := hide hn1
        have HLes2 := hide hn2
        have HLss := hide hn3
        have HLss2 := hide hn4
        have HLgs := hide hn5
        have HLgs2 := hide hn6
        clear hn1 hn2 hn3 hn4 hn5 hn6 hx2 hx4 hx6
        go_enter Try.func26, Try.ntmps26
        go_upto_region 1 with fail
        rw [HW0.out]
        clear HW0
        have s0 := HA0.out W0 (Below.refl _ _)
        have s1 := HA1.out W0 (Below.refl _ _)
        have s2 := HA2.out W0 (Below.refl _ _)
        have t0 := HC0.out W0 (Below.refl _ _)
        have t1 := HC1.out W0 (Below.refl _ _)
        have t2 := HC2.out W0 (Below.refl _ _)
        go_wp2_with fail
        clear s0 s1 s2 t0 t1 t2
        go_loopw [5] (fun x wr => ∃ (j : Nat), x = .int .i64 (j : Int) ∧ j ≤ n ∧ es.take j = es2.take j ∧ Below W0.heap.size W0 wr) (fun x _ => n - (intOf x).toNat)
        case atStart => exact ⟨0, rfl, Nat.zero_le _, by simp, (Below.refl _ _)⟩
        case round =>
          obtain ⟨j, rfl, hj, htk, hbel⟩ := hrel
          have HTK := hide htk
          have hsz := hbel.size
          clear htk
          have s0 := HA0.out wr hbel
          have t0 := HC0.out wr hbel
          by_cases hlt : j < n
          · have j0 : (j : Int) < (n : Int) := by omega
            obtain ⟨x, bx, qx, xa, xc, ya, yc, hx, hidx, hev⟩ := (HR1.out.below hbel).get Try.underlying23 infoIV j hlt
            obtain ⟨y, bY, qy, xa', xc', ya', yc', hy, hidy, hev'⟩ := (HS1.out.below hbel).get Try.underlying23 infoIV j hlt
            have hbx := hev.lt
            have hby := hev'.lt
            obtain ⟨c0, c1, c2, c3, c4, c5, c6, c7, c8⟩ := hev.cs
            obtain ⟨d0, d1, d2, d3, d4, d5, d6, d7, d8⟩ := hev'.cs
            have HQ := hide (fun (w2 : World) (hb2 : Below wr.heap.size wr w2) => l09Same_any x.id x.kind x.sender x.user x.member x.depth xa x.levels.length xc x.text ya x.prev.length yc x.levels x.prev y.id y.kind y.sender y.user y.member y.depth xa' y.levels.length xc' y.text ya' y.prev.length yc' y.levels y.prev w2 (hev.lev.below hb2) (hev'.lev.below hb2) (hev.prv.below hb2) (hev'.prv.below hb2))
            simp only [sameE_eqB] at HQ
            have HX := hide hx
            have HY := hide hy
            clear hx hy hev hev'
            by_cases e : x = y
            · have HE := hide e
              have he := eqB_yes e
              skip
              rw [he] at HQ
              clear e he
              go_wp2_with fail
              refine wp_region_in (F := fun w' => Below wr.heap.size wr w') (by kernel_rfl) (by kernel_rfl) (Below.refl _ _).drew ?_
              have hne : Nonempty (InW (fun w' => Below wr.heap.size wr w')) := ⟨⟨_, Below.refl _ _⟩⟩
              have k0 := fun mw : InW (fun w' => Below wr.heap.size wr w') => HA0.out mw.w (hbel.trans (mw.h.mono hsz))
              have k1 := fun mw : InW (fun w' => Below wr.heap.size wr w') => HC0.out mw.w (hbel.trans (mw.h.mono hsz))
              have k2 := fun mw : InW (fun w' => Below wr.heap.size wr w') => (mw.h.cell hbx).trans c0
              have k3 := fun mw : InW (fun w' => Below wr.heap.size wr w') => (mw.h.cell hbx).trans c1
              have k4 := fun mw : InW (fun w' => Below wr.heap.size wr w') => (mw.h.cell hbx).trans c2
              have k5 := fun mw : InW (fun w' => Below wr.heap.size wr w') => (mw.h.cell hbx).trans c3
              have k6 := fun mw : InW (fun w' => Below wr.heap.size wr w') => (mw.h.cell hbx).trans c4
              have k7 := fun mw : InW (fun w' => Below wr.heap.size wr w') => (mw.h.cell hbx).trans c5
              have k8 := fun mw : InW (fun w' => Below wr.heap.size wr w') => (mw.h.cell hbx).trans c6
              have k9 := fun mw : InW (fun w' => Below wr.heap.size wr w') => (mw.h.cell hbx).trans c7
              have k10 := fun mw : InW (fun w' => Below wr.heap.size wr w') => (mw.h.cell hbx).trans c8
              have k11 := fun mw : InW (fun w' => Below wr.heap.size wr w') => (mw.h.cell hby).trans d0
              have k12 := fun mw : InW (fun w' => Below wr.heap.size wr w') => (mw.h.cell hby).trans d1
              have k13 := fun mw : InW (fun w' => Below wr.heap.size wr w') => (mw.h.cell hby).trans d2
              have k14 := fun mw : InW (fun w' => Below wr.heap.size wr w') => (mw.h.cell hby).trans d3
              have k15 := fun mw : InW (fun w' => Below wr.heap.size wr w') => (mw.h.cell hby).trans d4
              have k16 := fun mw : InW (fun w' => Below wr.heap.size wr w') => (mw.h.cell hby).trans d5
              have k17 := fun mw : InW (fun w' => Below wr.heap.size wr w') => (mw.h.cell hby).trans d6
              have k18 := fun mw : InW (fun w' => Below wr.heap.size wr w') => (mw.h.cell hby).trans d7
              have k19 := fun mw : InW (fun w' => Below wr.heap.size wr w') => (mw.h.cell hby).trans d8
              repeat (go_big_quiet_step (first
                | fail
                | (go_at_call 54; (with_reducible refine (HQ.out _ (InW.h _)).mono ?_); rintro e w3 ⟨rfl, hb3⟩; exact ⟨rfl, ⟨w3, inw_more15 _ hb3⟩, rfl⟩)
                ))
              refine wpQuiet_nil ?_
              intro _ hw'
              obtain ⟨nq, hw''⟩ := hw'
              subst hw''
              have hb3 := hbel.trans (nq.h.mono hsz)
              clear hne k0 k1 k2 k3 k4 k5 k6 k7 k8 k9 k10 k11 k12 k13 k14 k15 k16 k17 k18 k19
              generalize nq.w = w1 at hb3 ⊢
              go_wp2_with fail
              go_roundw
              case rel => exact ⟨j + 1, by go_num, by omega, take_same14 HTK.out HX.out (by first | exact HY.out | (rw [HE.out]; exact HY.out)), hb3⟩
              case measure => simp [intOf]; omega
            · have HE := hide e
              have he := eqB_no e
              skip
              rw [he] at HQ
              clear e he
              go_wp2_with fail
              refine wp_region_in (F := fun w' => Below wr.heap.size wr w') (by kernel_rfl) (by kernel_rfl) (Below.refl _ _).drew ?_
              have hne : Nonempty (InW (fun w' => Below wr.heap.size wr w')) := ⟨⟨_, Below.refl _ _⟩⟩
              have k0 := fun mw : InW (fun w' => Below wr.heap.size wr w') => HA0.out mw.w (hbel.trans (mw.h.mono hsz))
              have k1 := fun mw : InW (fun w' => Below wr.heap.size wr w') => HC0.out mw.w (hbel.trans (mw.h.mono hsz))
              have k2 := fun mw : InW (fun w' => Below wr.heap.size wr w') => (mw.h.cell hbx).trans c0
              have k3 := fun mw : InW (fun w' => Below wr.heap.size wr w') => (mw.h.cell hbx).trans c1
              have k4 := fun mw : InW (fun w' => Below wr.heap.size wr w') => (mw.h.cell hbx).trans c2
              have k5 := fun mw : InW (fun w' => Below wr.heap.size wr w') => (mw.h.cell hbx).trans c3
              have k6 := fun mw : InW (fun w' => Below wr.heap.size wr w') => (mw.h.cell hbx).trans c4
              have k7 := fun mw : InW (fun w' => Below wr.heap.size wr w') => (mw.h.cell hbx).trans c5
              have k8 := fun mw : InW (fun w' => Below wr.heap.size wr w') => (mw.h.cell hbx).trans c6
              have k9 := fun mw : InW (fun w' => Below wr.heap.size wr w') => (mw.h.cell hbx).trans c7
              have k10 := fun mw : InW (fun w' => Below wr.heap.size wr w') => (mw.h.cell hbx).trans c8
              have k11 := fun mw : InW (fun w' => Below wr.heap.size wr w') => (mw.h.cell hby).trans d0
              have k12 := fun mw : InW (fun w' => Below wr.heap.size wr w') => (mw.h.cell hby).trans d1
              have k13 := fun mw : InW (fun w' => Below wr.heap.size wr w') => (mw.h.cell hby).trans d2
              have k14 := fun mw : InW (fun w' => Below wr.heap.size wr w') => (mw.h.cell hby).trans d3
              have k15 := fun mw : InW (fun w' => Below wr.heap.size wr w') => (mw.h.cell hby).trans d4
              have k16 := fun mw : InW (fun w' => Below wr.heap.size wr w') => (mw.h.cell hby).trans d5
              have k17 := fun mw : InW (fun w' => Below wr.heap.size wr w') => (mw.h.cell hby).trans d6
              have k18 := fun mw : InW (fun w' => Below wr.heap.size wr w') => (mw.h.cell hby).trans d7
              have k19 := fun mw : InW (fun w' => Below wr.heap.size wr w') => (mw.h.cell hby).trans d8
              repeat (go_big_quiet_step (first
                | fail
                | (go_at_call 54; (with_reducible refine (HQ.out _ (InW.h _)).mono ?_); rintro e w3 ⟨rfl, hb3⟩; exact ⟨rfl, ⟨w3, inw_more15 _ hb3⟩, rfl⟩)
                ))
              refine wpQuiet_nil ?_
              intro _ hw'
              obtain ⟨nq, hw''⟩ := hw'
              subst hw''
              have hb3 := hbel.trans (nq.h.mono hsz)
              clear hne k0 k1 k2 k3 k4 k5 k6 k7 k8 k9 k10 k11 k12 k13 k14 k15 k16 k17 k18 k19
              generalize nq.w = w1 at hb3 ⊢
              go_wp2_with fail
              go_ret
              refine ⟨?_, HB0.out.trans (hb3.mono HB0.out.size)⟩
              rw [eqB_no (show es ≠ es2 from fun h => HE.out (by have h1 := HX.out; rw [h, HY.out] at h1; exact (Option.some.inj h1).symm))]
              rfl
          · have HST : Hid (es = es2) := hide (by
              have h1 := HTK.out
              rwa [List.take_of_length_le (by rw [HLes.out]; omega), List.take_of_length_le (by rw [HLes2.out]; omega)] at h1)
            clear HTK
            have HV1 := HST
            clear HST
            go_wp2_with fail
            clear s0 t0
            go_loopw [6] (fun x wr => ∃ (j : Nat), x = .int .i64 (j : Int) ∧ j ≤ sn ∧ ss.take j = ss2.take j ∧ Below W0.heap.size W0 wr) (fun x _ => sn - (intOf x).toNat)
            case atStart => exact ⟨0, rfl, Nat.zero_le _, by simp, hbel⟩
            case round =>
              obtain ⟨j, rfl, hj, htk, hbel⟩ := hrel
              have HTK := hide htk
              have hsz := hbel.size
              clear htk
              have s1 := HA1.out wr hbel
              have t1 := HC1.out wr hbel
              by_cases hlt : j < sn
              · have j0 : (j : Int) < (sn : Int) := by omega
                obtain ⟨x, bx, qx, xa, xc, hx, hidx, c0, hit⟩ := (HR2.out.below hbel).get Try.underlying24 infoSS1 j hlt
                obtain ⟨y, bY, qy, ya, yc, hy, hidy, d0, hit'⟩ := (HS2.out.below hbel).get Try.underlying24 infoSS1 j hlt
                have hbx := cell_lt c0
                have hby := cell_lt d0
                have hxl : x.length ≤ 1048576 := Nat.le_trans (stW_mem (List.mem_of_getElem? hx)) HF.out
                have HQ := hide (fun (w2 : World) (hb2 : Below wr.heap.size wr w2) => l12SameState_any xa x.length xc x ya y.length yc y hxl w2 (hit.below hb2) (hit'.below hb2))
                have HX := hide hx
                have HY := hide hy
                clear hx hy hit hit'
                by_cases e : x = y
                · have HE := hide e
                  have he := eqB_yes e
                  skip
                  rw [he] at HQ
                  clear e he
                  go_wp2_with fail
                  refine wp_region_in (F := fun w' => Below wr.heap.size wr w') (by kernel_rfl) (by kernel_rfl) (Below.refl _ _).drew ?_
                  have hne : Nonempty (InW (fun w' => Below wr.heap.size wr w')) := ⟨⟨_, Below.refl _ _⟩⟩
                  have k0 := fun mw : InW (fun w' => Below wr.heap.size wr w') => HA1.out mw.w (hbel.trans (mw.h.mono hsz))
                  have k1 := fun mw : InW (fun w' => Below wr.heap.size wr w') => HC1.out mw.w (hbel.trans (mw.h.mono hsz))
                  have k2 := fun mw : InW (fun w' => Below wr.heap.size wr w') => (mw.h.cell hbx).trans c0
                  have k3 := fun mw : InW (fun w' => Below wr.heap.size wr w') => (mw.h.cell hby).trans d0
                  repeat (go_big_quiet_step (first
                    | fail
                    | (go_at_call 55; (with_reducible refine (HQ.out _ (InW.h _)).mono ?_); rintro e w3 ⟨rfl, hb3⟩; exact ⟨rfl, ⟨w3, inw_more15 _ hb3⟩, rfl⟩)
                    ))
                  refine wpQuiet_nil ?_
                  intro _ hw'
                  obtain ⟨nq, hw''⟩ := hw'
                  subst hw''
                  have hb3 := hbel.trans (nq.h.mono hsz)
                  clear hne k0 k1 k2 k3
                  generalize nq.w = w1 at hb3 ⊢
                  go_wp2_with fail
                  go_roundw
                  case rel => exact ⟨j + 1, by go_num, by omega, take_same14 HTK.out HX.out (by first | exact HY.out | (rw [HE.out]; exact HY.out)), hb3⟩
                  case measure => simp [intOf]; omega
                · have HE := hide e
                  have he := eqB_no e
                  skip
                  rw [he] at HQ
                  clear e he
                  go_wp2_with fail
                  refine wp_region_in (F := fun w' => Below wr.heap.size wr w') (by kernel_rfl) (by kernel_rfl) (Below.refl _ _).drew ?_
                  have hne : Nonempty (InW (fun w' => Below wr.heap.size wr w')) := ⟨⟨_, Below.refl _ _⟩⟩
                  have k0 := fun mw : InW (fun w' => Below wr.heap.size wr w') => HA1.out mw.w (hbel.trans (mw.h.mono hsz))
                  have k1 := fun mw : InW (fun w' => Below wr.heap.size wr w') => HC1.out mw.w (hbel.trans (mw.h.mono hsz))
                  have k2 := fun mw : InW (fun w' => Below wr.heap.size wr w') => (mw.h.cell hbx).trans c0
                  have k3 := fun mw : InW (fun w' => Below wr.heap.size wr w') => (mw.h.cell hby).trans d0
                  repeat (go_big_quiet_step (first
                    | fail
                    | (go_at_call 55; (with_reducible refine (HQ.out _ (InW.h _)).mono ?_); rintro e w3 ⟨rfl, hb3⟩; exact ⟨rfl, ⟨w3, inw_more15 _ hb3⟩, rfl⟩)
                    ))
                  refine wpQuiet_nil ?_
                  intro _ hw'
                  obtain ⟨nq, hw''⟩ := hw'
                  subst hw''
                  have hb3 := hbel.trans (nq.h.mono hsz)
                  clear hne k0 k1 k2 k3
                  generalize nq.w = w1 at hb3 ⊢
                  go_wp2_with fail
                  go_ret
                  refine ⟨?_, HB0.out.trans (hb3.mono HB0.out.size)⟩
                  rw [show (eqB es es2 && (eqB ss ss2 && eqB gs gs2)) = false by rw [eqB_no (show ss ≠ ss2 from fun h => HE.out (by have h1 := HX.out; rw [h, HY.out] at h1; exact (Option.some.inj h1).symm))]; simp]
                  rfl
              · have HST : Hid (ss = ss2) := hide (by
                  have h1 := HTK.out
                  rwa [List.take_of_length_le (by rw [HLss.out]; omega), List.take_of_length_le (by rw [HLss2.out]; omega)] at h1)
                clear HTK
                have HV2 := HST
                clear HST
                go_wp2_with fail
                clear s1 t1
                go_loopw [7] (fun x wr => ∃ (j : Nat), x = .int .i64 (j : Int) ∧ j ≤ gn ∧ gs.take j = gs2.take j ∧ Below W0.heap.size W0 wr) (fun x _ => gn - (intOf x).toNat)
                case atStart => exact ⟨0, rfl, Nat.zero_le _, by simp, hbel⟩
                case round =>
                  obtain ⟨j, rfl, hj, htk, hbel⟩ := hrel
                  have HTK := hide htk
                  have hsz := hbel.size
                  clear htk
                  have s2 := HA2.out wr hbel
                  have t2 := HC2.out wr hbel
                  by_cases hlt : j < gn
                  · have j0 : (j : Int) < (gn : Int) := by omega
                    obtain ⟨x, bx, qx, hx, hidx, c0⟩ := (HR3.out.below hbel).get Try.underlying25 infoB1 j hlt
                    obtain ⟨y, bY, qy, hy, hidy, d0⟩ := (HS3.out.below hbel).get Try.underlying25 infoB1 j hlt
                    have HX := hide hx
                    have HY := hide hy
                    clear hx hy 
                    cases x with
                    | false =>
                      cases y with
                      | false =>
                        have HE := hide (show (false : Bool) = false by decide)
                        go_wp2_with fail
                        go_quiet (fail)
                        have hb3 := below_drewN hbel nq
                        go_wp2_with fail
                        go_roundw
                        case rel => exact ⟨j + 1, by go_num, by omega, take_same14 HTK.out HX.out (by first | exact HY.out | (rw [HE.out]; exact HY.out)), hb3⟩
                        case measure => simp [intOf]; omega
                      | true =>
                        have HE := hide (show (false : Bool) ≠ true by decide)
                        go_wp2_with fail
                        go_quiet (fail)
                        have hb3 := below_drewN hbel nq
                        go_wp2_with fail
                        go_ret
                        refine ⟨?_, HB0.out.trans (hb3.mono HB0.out.size)⟩
                        rw [show (eqB es es2 && (eqB ss ss2 && eqB gs gs2)) = false by rw [eqB_no (show gs ≠ gs2 from fun h => HE.out (by have h1 := HX.out; rw [h, HY.out] at h1; exact (Option.some.inj h1).symm))]; simp]
                        rfl
                    | true =>
                      cases y with
                      | false =>
                        have HE := hide (show (true : Bool) ≠ false by decide)
                        go_wp2_with fail
                        go_quiet (fail)
                        have hb3 := below_drewN hbel nq
                        go_wp2_with fail
                        go_ret
                        refine ⟨?_, HB0.out.trans (hb3.mono HB0.out.size)⟩
                        rw [show (eqB es es2 && (eqB ss ss2 && eqB gs gs2)) = false by rw [eqB_no (show gs ≠ gs2 from fun h => HE.out (by have h1 := HX.out; rw [h, HY.out] at h1; exact (Option.some.inj h1).symm))]; simp]
                        rfl
                      | true =>
                        have HE := hide (show (true : Bool) = true by decide)
                        go_wp2_with fail
                        go_quiet (fail)
                        have hb3 := below_drewN hbel nq
                        go_wp2_with fail
                        go_roundw
                        case rel => exact ⟨j + 1, by go_num, by omega, take_same14 HTK.out HX.out (by first | exact HY.out | (rw [HE.out]; exact HY.out)), hb3⟩
                        case measure => simp [intOf]; omega
                  · have HST : Hid (gs = gs2) := hide (by
                      have h1 := HTK.out
                      rwa [List.take_of_length_le (by rw [HLgs.out]; omega), List.take_of_length_le (by rw [HLgs2.out]; omega)] at h1)
                    clear HTK
                    go_wp2_with fail
                    go_ret
                    exact ⟨by rw [show (eqB es es2 && (eqB ss ss2 && eqB gs gs2)) = true by rw [eqB_yes HV1.out, eqB_yes HV2.out, eqB_yes HST.out]; rfl]; rfl, HB0.out.trans (hbel.mono HB0.out.size)⟩
      · have HNE := hide (show gs ≠ gs2 from fun h => by subst h; omega)
        have q2 : ((gn : Int) != (gn' : Int)) = true := by rw [bne_iff_ne]; omega
        go_enter Try.func26, Try.ntmps26
        go_upto_region 1 with fail
        rw [HW0.out]
        clear HW0
        have s0 := HA0.out W0 (Below.refl _ _)
        have s1 := HA1.out W0 (Below.refl _ _)
        have s2 := HA2.out W0 (Below.refl _ _)
        have t0 := HC0.out W0 (Below.refl _ _)
        have t1 := HC1.out W0 (Below.refl _ _)
        have t2 := HC2.out W0 (Below.refl _ _)
        go_wp2_with fail
        go_ret
        exact ⟨by rw [show (eqB es es2 && (eqB ss ss2 && eqB gs gs2)) = false by rw [eqB_no HNE.out]; simp]; rfl, HB0.out⟩
    · have HNE := hide (show ss ≠ ss2 from fun h => by subst h; omega)
      have q2 : ((sn : Int) != (sn' : Int)) = true := by rw [bne_iff_ne]; omega
      go_enter Try.func26, Try.ntmps26
      go_upto_region 1 with fail
      rw [HW0.out]
      clear HW0
      have s0 := HA0.out W0 (Below.refl _ _)
      have s1 := HA1.out W0 (Below.refl _ _)
      have s2 := HA2.out W0 (Below.refl _ _)
      have t0 := HC0.out W0 (Below.refl _ _)
      have t1 := HC1.out W0 (Below.refl _ _)
      have t2 := HC2.out W0 (Below.refl _ _)
      go_wp2_with fail
      go_ret
      exact ⟨by rw [show (eqB es es2 && (eqB ss ss2 && eqB gs gs2)) = false by rw [eqB_no HNE.out]; simp]; rfl, HB0.out⟩
  · have HNE := hide (show es ≠ es2 from fun h => by subst h; omega)
    have q2 : ((n : Int) != (n' : Int)) = true := by rw [bne_iff_ne]; omega
    go_enter Try.func26, Try.ntmps26
    go_upto_region 1 with fail
    rw [HW0.out]
    clear HW0
    have s0 := HA0.out W0 (Below.refl _ _)
    have s1 := HA1.out W0 (Below.refl _ _)
    have s2 := HA2.out W0 (Below.refl _ _)
    have t0 := HC0.out W0 (Below.refl _ _)
    have t1 := HC1.out W0 (Below.refl _ _)
    have t2 := HC2.out W0 (Below.refl _ _)
    go_wp2_with fail
    go_ret
    exact ⟨by rw [show (eqB es es2 && (eqB ss ss2 && eqB gs gs2)) = false by rw [eqB_no HNE.out]; simp]; rfl, HB0.out⟩

end Go.Proofs.Ytckkfjmjcknjdaa
