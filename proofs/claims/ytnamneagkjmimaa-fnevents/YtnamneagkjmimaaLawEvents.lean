/-
  The law FnEvents: its walk (made by wip/tools/gen9u.py).
-/
import Derived.Test.YtnamneagkjmimaaDraw23
import Derived.Test.YtnamneagkjmimaaWalk9s
import Derived.Test.YtnamneagkjmimaaWalk9q
import Derived.Test.YtnamneagkjmimaaWalk9j
import Derived.Test.YtnamneagkjmimaaEv7
namespace Go.Proofs.Ytnamneagkjmimaa
open Go.RowKit P1 P3 P9 P11 P12 K
set_option linter.unusedVariables false
set_option linter.unusedSimpArgs false
attribute [local go_sem ↓] Go.wp_at_zero Go.wp_at_succ

theorem evB_small {e : EvV} (h : evOk e = true) : (evB e).length ≤ 1000 := by
  have hin := evOk_in h
  have h1 := evBody_len hin
  have h2 := varZ_len e.id
  have h3 := varB_length e.prev.length
  have h4 := vars_len e.prev
  have h5 := varZ_len e.depth
  have h6 := hin.prevs
  unfold evB
  simp only [List.length_append]
  omega
theorem reR_text {e : EvV} (h : evOk e = true) : reR (evB e) = (e, true) := by
  have : rdEvent (evB e) = some e := rdEvent_iff.2 (by unfold evText; rw [if_pos h])
  unfold reR
  rw [this]
theorem reR_back {l : List UInt8} {e : EvV} (h : reR l = (e, true)) : etV (evText e) = .tuple #[.string ⟨l.toArray⟩, .bool true] := by
  unfold reR at h
  split at h
  · rename_i e' hr
    cases h
    rw [rdEvent_iff.1 hr]
    rfl
  · cases h
theorem reR_text_len {l : List UInt8} : (reR l).1.text.length ≤ 24 := by
  unfold reR
  cases h : rdEvent l with
  | none => simp [zeroEv]
  | some e =>
    have ht := rdEvent_iff.1 h
    unfold evText at ht
    split at ht
    · rename_i hok; exact (evOk_in hok).text
    · cases ht

set_option maxHeartbeats 16000000 in
theorem FnEvents_walk (a0 : Option Addr) (len0 cap0 : Nat) (z0 : List Int) (w : World) (w0 : IsRow .u8 w a0 len0 cap0 z0) :
    Calls Try.prog 3 #[.slice a0 len0 cap0] w fun e w' => e = .returned (.bool true) ∧ Below w.heap.size w w' := by
  have HC := hide (codeAt_of_row w0)
  clear w0
  by_cases hbig : 1048576 < len0
  · go_enter Try.func3, Try.ntmps3
    go_wp2_with (go_at_call 7; refine (big_yes a0 len0 cap0 hbig _).mono ?_; rintro e w1 ⟨rfl, rfl⟩)
    go_ret
    exact ⟨rfl, Below.refl _ _⟩
  · have hlen : len0 ≤ 1048576 := by omega
    go_enter Try.func3, Try.ntmps3
    go_wp2_with fail
    refine (big_no a0 len0 cap0 hlen _).mono ?_
    rintro e w1 ⟨rfl, rfl⟩
    go_wp2_with fail
    refine (drawEventText_any w.heap.size a0 len0 cap0 w hlen (Nat.le_refl _) HC.out).mono ?_
    rintro e x1 ⟨id, kd, sn, us, mb, dp, vl, vp, tx, n, m, zl, zp, rfl, hn, hm, ht, hown, hfl, hfp, hb1⟩
    have hnl : zl.length = n := by have := hown.l.1; simpa using this
    have hml : zp.length = m := by have := hown.p.1; simpa using this
    subst hnl
    subst hml
    obtain ⟨oa, cl, hvl⟩ := row_form hown.l
    obtain ⟨ob, cp, hvp⟩ := row_form hown.p
    subst hvl
    subst hvp
    have HK0 := hide (KE.new (id := id) (kd := kd) (sn := sn) (us := us) (mb := mb) (dp := dp) (tx := tx) hown)
    have BB0 := hide (hb1.trans (((Below.refl x1.heap.size x1).alloc (Nat.le_refl _) (.cells #[.int .i64 id, .int .i64 kd, .int .i64 sn, .int .i64 us, .int .i64 mb, .slice oa zl.length cl, .string ⟨tx.toArray⟩, .slice ob zp.length cp, .int .i64 dp] 26)).mono hb1.size))
    have HFL := hide hfl
    have HFP := hide hfp
    clear hown hb1 hfl hfp
    go_wp2_with fail
    generalize x1.alloc (.cells #[.int .i64 id, .int .i64 kd, .int .i64 sn, .int .i64 us, .int .i64 mb, .slice oa zl.length cl, .string ⟨tx.toArray⟩, .slice ob zp.length cp, .int .i64 dp] 26) = v1 at HK0 BB0 ⊢
    obtain ⟨_, _, heZ, hat⟩ := intsAt_of_own HK0.out.own.l HFL.out
    cases heZ
    obtain ⟨_, _, heZ, hbt⟩ := intsAt_of_own HK0.out.own.p HFP.out
    cases heZ
    have HET := hide (implEventText_any id kd sn us mb dp oa zl.length cl tx ob zp.length cp zl zp (by omega) v1 hat hbt)
    clear hat hbt
    cases cok : evOk (⟨id, kd, sn, us, mb, zl, tx, zp, dp⟩ : EvV) with
    | true =>
      rw [etV_yes cok] at HET
      have hsm := evB_small cok
      have hin := evOk_in cok
      have hkdb := hin.kind
      have husb := hin.user
      simp only at hkdb husb
      have HSY := hide (keyI_say (kd := kd) (us := us) hkdb (fun q => by have hk := cok; unfold evOk bodyOk memOk at hk; simp [q, inR] at hk; omega))
      have HKY := hide (fun w => keyOf_any id kd sn us mb dp oa zl.length cl tx ob zp.length cp husb hkdb w)
      have HRD := hide (fun w => implReadEvent_any ⟨(evB (⟨id, kd, sn, us, mb, zl, tx, zp, dp⟩ : EvV)).toArray⟩ (by rw [size_mk8]; omega) w)
      rw [bl_mk8, reR_text cok] at HRD
      unfold RePost at HRD
      simp only at HRD
      generalize (⟨(evB (⟨id, kd, sn, us, mb, zl, tx, zp, dp⟩ : EvV)).toArray⟩ : ByteArray) = SS at HET HRD
      clear hin hsm
      refine HET.out.mono ?_
      rintro e v2 ⟨rfl, hbq⟩
      clear HET
      have HK1q := hide (HK0.out.on hbq)
      have BB1q := hide (BB0.out.trans (hbq.mono BB0.out.size))
      clear hbq HK0 BB0 
      go_wp2_with fail
      refine (HRD.out _).mono ?_
      rintro e v3 ⟨vl1, vp1, rfl, ho1, hb1⟩
      obtain ⟨oa1, cl1, hvl1⟩ := row_form ho1.l
      obtain ⟨ob1, cp1, hvp1⟩ := row_form ho1.p
      subst hvl1
      subst hvp1
      have HV1 := hide (KE.new (id := id) (kd := kd) (sn := sn) (us := us) (mb := mb) (dp := dp) (tx := tx) ho1)
      have hbb1 := hb1.trans (((Below.refl v3.heap.size v3).alloc (Nat.le_refl _) (.cells #[.int .i64 id, .int .i64 kd, .int .i64 sn, .int .i64 us, .int .i64 mb, .slice oa1 zl.length cl1, .string ⟨tx.toArray⟩, .slice ob1 zp.length cp1, .int .i64 dp] 26)).mono hb1.size)
      clear ho1 hb1
      have HK2q := hide (HK1q.out.on hbb1)
      have BB2q := hide (BB1q.out.trans (hbb1.mono BB1q.out.size))
      clear hbb1 HK1q BB1q 
      clear HRD
      obtain ⟨e0, e1, e2, e3, e4, e5, e6, e7, e8⟩ := HK2q.out.blk.ev
      go_wp2_with fail
      generalize v3.alloc (.cells #[.int .i64 id, .int .i64 kd, .int .i64 sn, .int .i64 us, .int .i64 mb, .slice oa1 zl.length cl1, .string ⟨tx.toArray⟩, .slice ob1 zp.length cp1, .int .i64 dp] 26) = v4 at HV1 HK2q BB2q e0 e1 e2 e3 e4 e5 e6 e7 e8 ⊢
      clear e0 e1 e2 e3 e4 e5 e6 e7 e8
      obtain ⟨_, _, heZ, hat⟩ := intsAt_of_own HK2q.out.own.l HFL.out
      cases heZ
      obtain ⟨_, _, heZ, hbt⟩ := intsAt_of_own HK2q.out.own.p HFP.out
      cases heZ
      have HSO := hide (specEventOk_any id kd sn us mb dp oa zl.length cl tx ob zp.length cp zl zp (by omega) _ hat hbt)
      rw [cok] at HSO
      refine HSO.out.mono ?_
      rintro e y1 ⟨rfl, hbq⟩
      clear hat hbt HSO
      have HK3q := hide (HK2q.out.on hbq)
      have BB3q := hide (BB2q.out.trans (hbq.mono BB2q.out.size))
      have HX4q := hide (HV1.out.on hbq)
      clear hbq HK2q BB2q HV1
      obtain ⟨e0, e1, e2, e3, e4, e5, e6, e7, e8⟩ := HK3q.out.blk.ev
      obtain ⟨x0, x1, x2, x3, x4, x5, x6, x7, x8⟩ := HX4q.out.blk.ev
      go_wp2_with fail
      clear e0 e1 e2 e3 e4 e5 e6 e7 e8 x0 x1 x2 x3 x4 x5 x6 x7 x8
      obtain ⟨_, _, heZ, hat⟩ := intsAt_of_own HK3q.out.own.l HFL.out
      cases heZ
      obtain ⟨_, _, heZ, hbt⟩ := intsAt_of_own HK3q.out.own.p HFP.out
      cases heZ
      have HIO := hide (implEventOk_any id kd sn us mb dp oa zl.length cl tx ob zp.length cp zl zp (by omega) _ hat hbt)
      rw [cok] at HIO
      refine HIO.out.mono ?_
      rintro e y2 ⟨rfl, hbq⟩
      clear hat hbt HIO
      have HK5q := hide (HK3q.out.on hbq)
      have BB5q := hide (BB3q.out.trans (hbq.mono BB3q.out.size))
      have HX6q := hide (HX4q.out.on hbq)
      clear hbq HK3q BB3q HX4q
      obtain ⟨e0, e1, e2, e3, e4, e5, e6, e7, e8⟩ := HK5q.out.blk.ev
      obtain ⟨x0, x1, x2, x3, x4, x5, x6, x7, x8⟩ := HX6q.out.blk.ev
      go_wp2_with fail
      clear e0 e1 e2 e3 e4 e5 e6 e7 e8 x0 x1 x2 x3 x4 x5 x6 x7 x8
      obtain ⟨_, _, heZ, hat⟩ := intsAt_of_own HK5q.out.own.l HFL.out
      cases heZ
      obtain ⟨_, _, heZ, hbt⟩ := intsAt_of_own HK5q.out.own.p HFP.out
      cases heZ
      obtain ⟨_, _, heZ, hat2⟩ := intsAt_of_own HX6q.out.own.l HFL.out
      cases heZ
      obtain ⟨_, _, heZ, hbt2⟩ := intsAt_of_own HX6q.out.own.p HFP.out
      cases heZ
      refine (sameEvent_yes id kd sn us mb dp _ zl.length _ tx _ zp.length _ zl zp _ _ _ _ (by omega) (by omega) _ hat2 hat hbt2 hbt).mono ?_
      rintro e y3 ⟨rfl, hbq⟩
      clear hat hbt hat2 hbt2
      have HK7q := hide (HK5q.out.on hbq)
      have BB7q := hide (BB5q.out.trans (hbq.mono BB5q.out.size))
      have HX8q := hide (HX6q.out.on hbq)
      clear hbq HK5q BB5q HX6q
      clear HX8q
      go_wp2_with fail
      refine (drawReadEvent_any w.heap.size a0 len0 cap0 _ hlen BB7q.out.size (HC.out.below BB7q.out)).mono ?_
      rintro e y4 ⟨t, htl, rfl, hbq⟩
      have HK9q := hide (HK7q.out.on hbq)
      have BB9q := hide (BB7q.out.trans (hbq.mono BB7q.out.size))
      clear hbq HK7q BB7q 
      have hts : (⟨t.toArray⟩ : ByteArray).size ≤ 1048576 := by rw [size_mk8]; omega
      have HIM := hide (fun w => implReadEvent_any ⟨t.toArray⟩ hts w)
      have HSP := hide (fun w => specReadEvent_any ⟨t.toArray⟩ hts w)
      rw [bl_mk8] at HIM HSP
      obtain ⟨hl5, hl3, hwl, hwp⟩ := re_small t
      have htx5 := reR_text_len (l := t)
      unfold RePost at HIM HSP
      obtain ⟨ev, may, hjr⟩ : ∃ ev may, reR t = (ev, may) := ⟨_, _, rfl⟩
      obtain ⟨yid, ykd, ysn, yus, ymb, yzl, ytx, yzp, ydp⟩ := ev
      rw [hjr] at hl5 hl3 HIM HSP hwl hwp htx5
      simp only at hl5 hl3 HIM HSP hwl hwp htx5
      have HWL := hide hwl
      have HWP := hide hwp
      have HJR := hide hjr
      clear hjr hwl hwp hts
      go_wp2_with fail
      refine (HIM.out _).mono ?_
      rintro e y5 ⟨vl7, vp7, rfl, ho7, hb7⟩
      obtain ⟨oa7, cl7, hvl7⟩ := row_form ho7.l
      obtain ⟨ob7, cp7, hvp7⟩ := row_form ho7.p
      subst hvl7
      subst hvp7
      have HV7 := hide (KE.new (id := yid) (kd := ykd) (sn := ysn) (us := yus) (mb := ymb) (dp := ydp) (tx := ytx) ho7)
      have hbb7 := hb7.trans (((Below.refl y5.heap.size y5).alloc (Nat.le_refl _) (.cells #[.int .i64 yid, .int .i64 ykd, .int .i64 ysn, .int .i64 yus, .int .i64 ymb, .slice oa7 yzl.length cl7, .string ⟨ytx.toArray⟩, .slice ob7 yzp.length cp7, .int .i64 ydp] 26)).mono hb7.size)
      clear ho7 hb7
      have HK10q := hide (HK9q.out.on hbb7)
      have BB10q := hide (BB9q.out.trans (hbb7.mono BB9q.out.size))
      clear hbb7 HK9q BB9q 
      go_wp2_with fail
      generalize y5.alloc (.cells #[.int .i64 yid, .int .i64 ykd, .int .i64 ysn, .int .i64 yus, .int .i64 ymb, .slice oa7 yzl.length cl7, .string ⟨ytx.toArray⟩, .slice ob7 yzp.length cp7, .int .i64 ydp] 26) = v5 at HV7 HK10q BB10q ⊢
      refine (HSP.out _).mono ?_
      rintro e y6 ⟨vl8, vp8, rfl, ho8, hb8⟩
      obtain ⟨oa8, cl8, hvl8⟩ := row_form ho8.l
      obtain ⟨ob8, cp8, hvp8⟩ := row_form ho8.p
      subst hvl8
      subst hvp8
      have HV8 := hide (KE.new (id := yid) (kd := ykd) (sn := ysn) (us := yus) (mb := ymb) (dp := ydp) (tx := ytx) ho8)
      have hbb8 := hb8.trans (((Below.refl y6.heap.size y6).alloc (Nat.le_refl _) (.cells #[.int .i64 yid, .int .i64 ykd, .int .i64 ysn, .int .i64 yus, .int .i64 ymb, .slice oa8 yzl.length cl8, .string ⟨ytx.toArray⟩, .slice ob8 yzp.length cp8, .int .i64 ydp] 26)).mono hb8.size)
      clear ho8 hb8
      have HK11q := hide (HK10q.out.on hbb8)
      have BB11q := hide (BB10q.out.trans (hbb8.mono BB10q.out.size))
      have HX12q := hide (HV7.out.on hbb8)
      clear hbb8 HK10q BB10q HV7
      obtain ⟨x0, x1, x2, x3, x4, x5, x6, x7, x8⟩ := HX12q.out.blk.ev
      go_wp2_with fail
      generalize y6.alloc (.cells #[.int .i64 yid, .int .i64 ykd, .int .i64 ysn, .int .i64 yus, .int .i64 ymb, .slice oa8 yzl.length cl8, .string ⟨ytx.toArray⟩, .slice ob8 yzp.length cp8, .int .i64 ydp] 26) = v6 at HV8 HX12q HK11q BB11q x0 x1 x2 x3 x4 x5 x6 x7 x8 ⊢
      clear HV8 x0 x1 x2 x3 x4 x5 x6 x7 x8
      obtain ⟨_, _, heZ, hat⟩ := intsAt_of_own HX12q.out.own.l HWL.out
      cases heZ
      obtain ⟨_, _, heZ, hbt⟩ := intsAt_of_own HX12q.out.own.p HWP.out
      cases heZ
      have HEA := hide (implEventText_any yid ykd ysn yus ymb ydp oa7 yzl.length cl7 ytx ob7 yzp.length cp7 yzl yzp (by omega) v6 hat hbt)
      clear hat hbt
      cases may with
      | true =>
        have hback := reR_back HJR.out
        rw [hback] at HEA
        clear hback
        refine HEA.out.mono ?_
        rintro e y7 ⟨rfl, hbq⟩
        clear HEA HIM HSP HJR
        have HK13q := hide (HK11q.out.on hbq)
        have BB13q := hide (BB11q.out.trans (hbq.mono BB11q.out.size))
        have HX14q := hide (HX12q.out.on hbq)
        clear hbq HK11q BB11q HX12q
        generalize (⟨t.toArray⟩ : ByteArray) = TT
        have qt : (TT.toList == TT.toList) = true := by simp
        go_wp2_with fail
        by_cases c5 : kd = 5
        · subst c5
          rw [show keyI 5 us = 0 from rfl] at HKY
          refine wp_region_in (F := fun w' => Below y7.heap.size y7 w') (by kernel_rfl) (by kernel_rfl) (Below.refl _ _).drew ?_
          have hne : Nonempty (InW (fun w' => Below y7.heap.size y7 w')) := ⟨⟨_, Below.refl _ _⟩⟩
          have hev := fun m : InW (fun w' => Below y7.heap.size y7 w') => (HK13q.out.blk.on m.h HK13q.out.blk.lt).ev
          have k0 := fun m => (hev m).c0
          have k1 := fun m => (hev m).c1
          have k2 := fun m => (hev m).c2
          have k3 := fun m => (hev m).c3
          have k4 := fun m => (hev m).c4
          have k5 := fun m => (hev m).c5
          have k6 := fun m => (hev m).c6
          have k7 := fun m => (hev m).c7
          have k8 := fun m => (hev m).c8
          clear hev
          repeat (go_big_quiet_step (first
            | (go_at_call 16; refine (HKY.out _).mono ?_; rintro e w3 ⟨rfl, hb3⟩; exact ⟨rfl, ⟨w3, inw_more8 _ hb3⟩, rfl⟩)))
          refine wpQuiet_nil ?_
          intro _ hw'
          obtain ⟨nq, hw''⟩ := hw'
          subst hw''
          have hb4 := inw_from8 BB13q.out nq
          clear hne k0 k1 k2 k3 k4 k5 k6 k7 k8
          generalize nq.w = w9 at hb4 ⊢
          go_wp2_with fail
          go_ret
          exact ⟨rfl, hb4⟩
        · have c6 : (kd == 5) = false := by simpa using c5
          have hk0 : ¬ keyI kd us = 0 := fun q => c5 ((HSY.out).1 q)
          generalize keyI kd us = KI at HKY hk0
          have hk1 : (KI == 0) = false := by simpa using hk0
          refine wp_region_in (F := fun w' => Below y7.heap.size y7 w') (by kernel_rfl) (by kernel_rfl) (Below.refl _ _).drew ?_
          have hne : Nonempty (InW (fun w' => Below y7.heap.size y7 w')) := ⟨⟨_, Below.refl _ _⟩⟩
          have hev := fun m : InW (fun w' => Below y7.heap.size y7 w') => (HK13q.out.blk.on m.h HK13q.out.blk.lt).ev
          have k0 := fun m => (hev m).c0
          have k1 := fun m => (hev m).c1
          have k2 := fun m => (hev m).c2
          have k3 := fun m => (hev m).c3
          have k4 := fun m => (hev m).c4
          have k5 := fun m => (hev m).c5
          have k6 := fun m => (hev m).c6
          have k7 := fun m => (hev m).c7
          have k8 := fun m => (hev m).c8
          clear hev
          repeat (go_big_quiet_step (first
            | (go_at_call 16; refine (HKY.out _).mono ?_; rintro e w3 ⟨rfl, hb3⟩; exact ⟨rfl, ⟨w3, inw_more8 _ hb3⟩, rfl⟩)))
          refine wpQuiet_nil ?_
          intro _ hw'
          obtain ⟨nq, hw''⟩ := hw'
          subst hw''
          have hb4 := inw_from8 BB13q.out nq
          clear hne k0 k1 k2 k3 k4 k5 k6 k7 k8
          generalize nq.w = w9 at hb4 ⊢
          go_wp2_with fail
          go_ret
          exact ⟨rfl, hb4⟩
      | false =>
        obtain ⟨at_, ab, hal, haq⟩ := etV_small (e := ⟨yid, ykd, ysn, yus, ymb, yzl, ytx, yzp, ydp⟩)
        rw [haq] at HEA
        clear haq hal
        refine HEA.out.mono ?_
        rintro e y7 ⟨rfl, hbq⟩
        clear HEA HIM HSP HJR
        have HK13q := hide (HK11q.out.on hbq)
        have BB13q := hide (BB11q.out.trans (hbq.mono BB11q.out.size))
        have HX14q := hide (HX12q.out.on hbq)
        clear hbq HK11q BB11q HX12q
        go_wp2_with fail
        by_cases c5 : kd = 5
        · subst c5
          rw [show keyI 5 us = 0 from rfl] at HKY
          refine wp_region_in (F := fun w' => Below y7.heap.size y7 w') (by kernel_rfl) (by kernel_rfl) (Below.refl _ _).drew ?_
          have hne : Nonempty (InW (fun w' => Below y7.heap.size y7 w')) := ⟨⟨_, Below.refl _ _⟩⟩
          have hev := fun m : InW (fun w' => Below y7.heap.size y7 w') => (HK13q.out.blk.on m.h HK13q.out.blk.lt).ev
          have k0 := fun m => (hev m).c0
          have k1 := fun m => (hev m).c1
          have k2 := fun m => (hev m).c2
          have k3 := fun m => (hev m).c3
          have k4 := fun m => (hev m).c4
          have k5 := fun m => (hev m).c5
          have k6 := fun m => (hev m).c6
          have k7 := fun m => (hev m).c7
          have k8 := fun m => (hev m).c8
          clear hev
          repeat (go_big_quiet_step (first
            | (go_at_call 16; refine (HKY.out _).mono ?_; rintro e w3 ⟨rfl, hb3⟩; exact ⟨rfl, ⟨w3, inw_more8 _ hb3⟩, rfl⟩)))
          refine wpQuiet_nil ?_
          intro _ hw'
          obtain ⟨nq, hw''⟩ := hw'
          subst hw''
          have hb4 := inw_from8 BB13q.out nq
          clear hne k0 k1 k2 k3 k4 k5 k6 k7 k8
          generalize nq.w = w9 at hb4 ⊢
          go_wp2_with fail
          go_ret
          exact ⟨rfl, hb4⟩
        · have c6 : (kd == 5) = false := by simpa using c5
          have hk0 : ¬ keyI kd us = 0 := fun q => c5 ((HSY.out).1 q)
          generalize keyI kd us = KI at HKY hk0
          have hk1 : (KI == 0) = false := by simpa using hk0
          refine wp_region_in (F := fun w' => Below y7.heap.size y7 w') (by kernel_rfl) (by kernel_rfl) (Below.refl _ _).drew ?_
          have hne : Nonempty (InW (fun w' => Below y7.heap.size y7 w')) := ⟨⟨_, Below.refl _ _⟩⟩
          have hev := fun m : InW (fun w' => Below y7.heap.size y7 w') => (HK13q.out.blk.on m.h HK13q.out.blk.lt).ev
          have k0 := fun m => (hev m).c0
          have k1 := fun m => (hev m).c1
          have k2 := fun m => (hev m).c2
          have k3 := fun m => (hev m).c3
          have k4 := fun m => (hev m).c4
          have k5 := fun m => (hev m).c5
          have k6 := fun m => (hev m).c6
          have k7 := fun m => (hev m).c7
          have k8 := fun m => (hev m).c8
          clear hev
          repeat (go_big_quiet_step (first
            | (go_at_call 16; refine (HKY.out _).mono ?_; rintro e w3 ⟨rfl, hb3⟩; exact ⟨rfl, ⟨w3, inw_more8 _ hb3⟩, rfl⟩)))
          refine wpQuiet_nil ?_
          intro _ hw'
          obtain ⟨nq, hw''⟩ := hw'
          subst hw''
          have hb4 := inw_from8 BB13q.out nq
          clear hne k0 k1 k2 k3 k4 k5 k6 k7 k8
          generalize nq.w = w9 at hb4 ⊢
          go_wp2_with fail
          go_ret
          exact ⟨rfl, hb4⟩
    | false =>
      rw [etV_no cok] at HET
      have HRD := hide (fun w => implReadEvent_any ⟨#[]⟩ (by decide) w)
      unfold RePost at HRD
      obtain ⟨evx, okx, hjx⟩ : ∃ ev may, reR (bl ⟨#[]⟩) = (ev, may) := ⟨_, _, rfl⟩
      obtain ⟨xid, xkd, xsn, xus, xmb, xzl, xtx, xzp, xdp⟩ := evx
      rw [hjx] at HRD
      simp only at HRD
      clear hjx
      refine HET.out.mono ?_
      rintro e v2 ⟨rfl, hbq⟩
      clear HET
      have HK41q := hide (HK0.out.on hbq)
      have BB41q := hide (BB0.out.trans (hbq.mono BB0.out.size))
      clear hbq HK0 BB0 
      go_wp2_with fail
      refine (HRD.out _).mono ?_
      rintro e v3 ⟨vl1, vp1, rfl, ho1, hb1⟩
      obtain ⟨oa1, cl1, hvl1⟩ := row_form ho1.l
      obtain ⟨ob1, cp1, hvp1⟩ := row_form ho1.p
      subst hvl1
      subst hvp1
      have HV1 := hide (KE.new (id := xid) (kd := xkd) (sn := xsn) (us := xus) (mb := xmb) (dp := xdp) (tx := xtx) ho1)
      have hbb1 := hb1.trans (((Below.refl v3.heap.size v3).alloc (Nat.le_refl _) (.cells #[.int .i64 xid, .int .i64 xkd, .int .i64 xsn, .int .i64 xus, .int .i64 xmb, .slice oa1 xzl.length cl1, .string ⟨xtx.toArray⟩, .slice ob1 xzp.length cp1, .int .i64 xdp] 26)).mono hb1.size)
      clear ho1 hb1
      have HK42q := hide (HK41q.out.on hbb1)
      have BB42q := hide (BB41q.out.trans (hbb1.mono BB41q.out.size))
      clear hbb1 HK41q BB41q 
      clear HRD
      obtain ⟨e0, e1, e2, e3, e4, e5, e6, e7, e8⟩ := HK42q.out.blk.ev
      go_wp2_with fail
      generalize v3.alloc (.cells #[.int .i64 xid, .int .i64 xkd, .int .i64 xsn, .int .i64 xus, .int .i64 xmb, .slice oa1 xzl.length cl1, .string ⟨xtx.toArray⟩, .slice ob1 xzp.length cp1, .int .i64 xdp] 26) = v4 at HV1 HK42q BB42q e0 e1 e2 e3 e4 e5 e6 e7 e8 ⊢
      clear HV1 e0 e1 e2 e3 e4 e5 e6 e7 e8
      obtain ⟨_, _, heZ, hat⟩ := intsAt_of_own HK42q.out.own.l HFL.out
      cases heZ
      obtain ⟨_, _, heZ, hbt⟩ := intsAt_of_own HK42q.out.own.p HFP.out
      cases heZ
      have HSO := hide (specEventOk_any id kd sn us mb dp oa zl.length cl tx ob zp.length cp zl zp (by omega) _ hat hbt)
      rw [cok] at HSO
      refine HSO.out.mono ?_
      rintro e y1 ⟨rfl, hbq⟩
      clear hat hbt HSO
      have HK43q := hide (HK42q.out.on hbq)
      have BB43q := hide (BB42q.out.trans (hbq.mono BB42q.out.size))
      clear hbq HK42q BB42q 
      obtain ⟨e0, e1, e2, e3, e4, e5, e6, e7, e8⟩ := HK43q.out.blk.ev
      go_wp2_with fail
      clear e0 e1 e2 e3 e4 e5 e6 e7 e8
      obtain ⟨_, _, heZ, hat⟩ := intsAt_of_own HK43q.out.own.l HFL.out
      cases heZ
      obtain ⟨_, _, heZ, hbt⟩ := intsAt_of_own HK43q.out.own.p HFP.out
      cases heZ
      have HIO := hide (implEventOk_any id kd sn us mb dp oa zl.length cl tx ob zp.length cp zl zp (by omega) _ hat hbt)
      rw [cok] at HIO
      refine HIO.out.mono ?_
      rintro e y2 ⟨rfl, hbq⟩
      clear hat hbt HIO
      have HK44q := hide (HK43q.out.on hbq)
      have BB44q := hide (BB43q.out.trans (hbq.mono BB43q.out.size))
      clear hbq HK43q BB43q 
      go_wp2_with fail
      refine (drawReadEvent_any w.heap.size a0 len0 cap0 _ hlen BB44q.out.size (HC.out.below BB44q.out)).mono ?_
      rintro e y4 ⟨t, htl, rfl, hbq⟩
      have HK45q := hide (HK44q.out.on hbq)
      have BB45q := hide (BB44q.out.trans (hbq.mono BB44q.out.size))
      clear hbq HK44q BB44q 
      have hts : (⟨t.toArray⟩ : ByteArray).size ≤ 1048576 := by rw [size_mk8]; omega
      have HIM := hide (fun w => implReadEvent_any ⟨t.toArray⟩ hts w)
      have HSP := hide (fun w => specReadEvent_any ⟨t.toArray⟩ hts w)
      rw [bl_mk8] at HIM HSP
      obtain ⟨hl5, hl3, hwl, hwp⟩ := re_small t
      have htx5 := reR_text_len (l := t)
      unfold RePost at HIM HSP
      obtain ⟨ev, may, hjr⟩ : ∃ ev may, reR t = (ev, may) := ⟨_, _, rfl⟩
      obtain ⟨yid, ykd, ysn, yus, ymb, yzl, ytx, yzp, ydp⟩ := ev
      rw [hjr] at hl5 hl3 HIM HSP hwl hwp htx5
      simp only at hl5 hl3 HIM HSP hwl hwp htx5
      have HWL := hide hwl
      have HWP := hide hwp
      have HJR := hide hjr
      clear hjr hwl hwp hts
      go_wp2_with fail
      refine (HIM.out _).mono ?_
      rintro e y5 ⟨vl7, vp7, rfl, ho7, hb7⟩
      obtain ⟨oa7, cl7, hvl7⟩ := row_form ho7.l
      obtain ⟨ob7, cp7, hvp7⟩ := row_form ho7.p
      subst hvl7
      subst hvp7
      have HV7 := hide (KE.new (id := yid) (kd := ykd) (sn := ysn) (us := yus) (mb := ymb) (dp := ydp) (tx := ytx) ho7)
      have hbb7 := hb7.trans (((Below.refl y5.heap.size y5).alloc (Nat.le_refl _) (.cells #[.int .i64 yid, .int .i64 ykd, .int .i64 ysn, .int .i64 yus, .int .i64 ymb, .slice oa7 yzl.length cl7, .string ⟨ytx.toArray⟩, .slice ob7 yzp.length cp7, .int .i64 ydp] 26)).mono hb7.size)
      clear ho7 hb7
      have HK46q := hide (HK45q.out.on hbb7)
      have BB46q := hide (BB45q.out.trans (hbb7.mono BB45q.out.size))
      clear hbb7 HK45q BB45q 
      go_wp2_with fail
      generalize y5.alloc (.cells #[.int .i64 yid, .int .i64 ykd, .int .i64 ysn, .int .i64 yus, .int .i64 ymb, .slice oa7 yzl.length cl7, .string ⟨ytx.toArray⟩, .slice ob7 yzp.length cp7, .int .i64 ydp] 26) = v5 at HV7 HK46q BB46q ⊢
      refine (HSP.out _).mono ?_
      rintro e y6 ⟨vl8, vp8, rfl, ho8, hb8⟩
      obtain ⟨oa8, cl8, hvl8⟩ := row_form ho8.l
      obtain ⟨ob8, cp8, hvp8⟩ := row_form ho8.p
      subst hvl8
      subst hvp8
      have HV8 := hide (KE.new (id := yid) (kd := ykd) (sn := ysn) (us := yus) (mb := ymb) (dp := ydp) (tx := ytx) ho8)
      have hbb8 := hb8.trans (((Below.refl y6.heap.size y6).alloc (Nat.le_refl _) (.cells #[.int .i64 yid, .int .i64 ykd, .int .i64 ysn, .int .i64 yus, .int .i64 ymb, .slice oa8 yzl.length cl8, .string ⟨ytx.toArray⟩, .slice ob8 yzp.length cp8, .int .i64 ydp] 26)).mono hb8.size)
      clear ho8 hb8
      have HK47q := hide (HK46q.out.on hbb8)
      have BB47q := hide (BB46q.out.trans (hbb8.mono BB46q.out.size))
      have HX48q := hide (HV7.out.on hbb8)
      clear hbb8 HK46q BB46q HV7
      obtain ⟨x0, x1, x2, x3, x4, x5, x6, x7, x8⟩ := HX48q.out.blk.ev
      go_wp2_with fail
      generalize y6.alloc (.cells #[.int .i64 yid, .int .i64 ykd, .int .i64 ysn, .int .i64 yus, .int .i64 ymb, .slice oa8 yzl.length cl8, .string ⟨ytx.toArray⟩, .slice ob8 yzp.length cp8, .int .i64 ydp] 26) = v6 at HV8 HX48q HK47q BB47q x0 x1 x2 x3 x4 x5 x6 x7 x8 ⊢
      clear HV8 x0 x1 x2 x3 x4 x5 x6 x7 x8
      obtain ⟨_, _, heZ, hat⟩ := intsAt_of_own HX48q.out.own.l HWL.out
      cases heZ
      obtain ⟨_, _, heZ, hbt⟩ := intsAt_of_own HX48q.out.own.p HWP.out
      cases heZ
      have HEA := hide (implEventText_any yid ykd ysn yus ymb ydp oa7 yzl.length cl7 ytx ob7 yzp.length cp7 yzl yzp (by omega) v6 hat hbt)
      clear hat hbt
      cases may with
      | true =>
        have hback := reR_back HJR.out
        rw [hback] at HEA
        clear hback
        refine HEA.out.mono ?_
        rintro e y7 ⟨rfl, hbq⟩
        clear HEA HIM HSP HJR
        have HK49q := hide (HK47q.out.on hbq)
        have BB49q := hide (BB47q.out.trans (hbq.mono BB47q.out.size))
        have HX50q := hide (HX48q.out.on hbq)
        clear hbq HK47q BB47q HX48q
        generalize (⟨t.toArray⟩ : ByteArray) = TT
        have qt : (TT.toList == TT.toList) = true := by simp
        go_wp2_with fail
        refine wp_region_in (F := fun w' => Below y7.heap.size y7 w') (by kernel_rfl) (by kernel_rfl) (Below.refl _ _).drew ?_
        have hne : Nonempty (InW (fun w' => Below y7.heap.size y7 w')) := ⟨⟨_, Below.refl _ _⟩⟩
        have hev := fun m : InW (fun w' => Below y7.heap.size y7 w') => (HK49q.out.blk.on m.h HK49q.out.blk.lt).ev
        have k0 := fun m => (hev m).c0
        have k1 := fun m => (hev m).c1
        have k2 := fun m => (hev m).c2
        have k3 := fun m => (hev m).c3
        have k4 := fun m => (hev m).c4
        have k5 := fun m => (hev m).c5
        have k6 := fun m => (hev m).c6
        have k7 := fun m => (hev m).c7
        have k8 := fun m => (hev m).c8
        clear hev
        repeat (go_big_quiet_step (first
          | fail))
        refine wpQuiet_nil ?_
        intro _ hw'
        obtain ⟨nq, hw''⟩ := hw'
        subst hw''
        have hb4 := inw_from8 BB49q.out nq
        clear hne k0 k1 k2 k3 k4 k5 k6 k7 k8
        generalize nq.w = w9 at hb4 ⊢
        go_wp2_with fail
        go_ret
        exact ⟨rfl, hb4⟩
      | false =>
        obtain ⟨at_, ab, hal, haq⟩ := etV_small (e := ⟨yid, ykd, ysn, yus, ymb, yzl, ytx, yzp, ydp⟩)
        rw [haq] at HEA
        clear haq hal
        refine HEA.out.mono ?_
        rintro e y7 ⟨rfl, hbq⟩
        clear HEA HIM HSP HJR
        have HK49q := hide (HK47q.out.on hbq)
        have BB49q := hide (BB47q.out.trans (hbq.mono BB47q.out.size))
        have HX50q := hide (HX48q.out.on hbq)
        clear hbq HK47q BB47q HX48q
        go_wp2_with fail
        refine wp_region_in (F := fun w' => Below y7.heap.size y7 w') (by kernel_rfl) (by kernel_rfl) (Below.refl _ _).drew ?_
        have hne : Nonempty (InW (fun w' => Below y7.heap.size y7 w')) := ⟨⟨_, Below.refl _ _⟩⟩
        have hev := fun m : InW (fun w' => Below y7.heap.size y7 w') => (HK49q.out.blk.on m.h HK49q.out.blk.lt).ev
        have k0 := fun m => (hev m).c0
        have k1 := fun m => (hev m).c1
        have k2 := fun m => (hev m).c2
        have k3 := fun m => (hev m).c3
        have k4 := fun m => (hev m).c4
        have k5 := fun m => (hev m).c5
        have k6 := fun m => (hev m).c6
        have k7 := fun m => (hev m).c7
        have k8 := fun m => (hev m).c8
        clear hev
        repeat (go_big_quiet_step (first
          | fail))
        refine wpQuiet_nil ?_
        intro _ hw'
        obtain ⟨nq, hw''⟩ := hw'
        subst hw''
        have hb4 := inw_from8 BB49q.out nq
        clear hne k0 k1 k2 k3 k4 k5 k6 k7 k8
        generalize nq.w = w9 at hb4 ⊢
        go_wp2_with fail
        go_ret
        exact ⟨rfl, hb4⟩

end Go.Proofs.Ytnamneagkjmimaa
