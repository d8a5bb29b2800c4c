/-
  Walks and mathematics of LawMessages.
-/
import Derived.Test.YtmllcomppjkhhaaGreatDoorRMsg23
import Derived.Test.YtmllcomppjkhhaaGreatDoorRMsg7
import Derived.Test.YtmllcomppjkhhaaGreatDoorRMsg14
import Derived.Test.YtmllcomppjkhhaaGreatDoorRMsgK
import Derived.LaidMore
namespace Go.Proofs.YtmllcomppjkhhaaGreatDoor.P18
end Go.Proofs.YtmllcomppjkhhaaGreatDoor.P18
namespace Go.Proofs.YtmllcomppjkhhaaGreatDoor.P3
end Go.Proofs.YtmllcomppjkhhaaGreatDoor.P3
namespace Go.Proofs.YtmllcomppjkhhaaGreatDoor
open Go.RowKit P1 P3 P9 P11 P12 P18 K
set_option linter.unusedVariables false
set_option linter.unusedSimpArgs false

theorem mdR_nil : mdR [] = (zeroMsg, false) := mdR_short (by simp)

theorem md_text (t : List UInt8) : ∃ (t2 : List UInt8) (b2 : Bool), mtV (msgText (mdR t).1) = .tuple #[.string ⟨t2.toArray⟩, .bool b2] ∧ ((mdR t).2 = true → t2 = t) ∧ (mdR t).1.da.length ≤ 1048576 ∧ ∀ f ∈ (mdR t).1.es, f.data.size ≤ 1048576 := by
  cases h : (mdR t).2 with
  | true =>
    obtain ⟨ho, hb⟩ := mdR_yes h
    have hin := msg_in ho
    refine ⟨t, true, ?_, fun _ => rfl, by have := hin.da; omega, fun f hf => ?_⟩
    · unfold msgText
      rw [if_pos ho, hb]
      rfl
    · have h5 := (ok_entry (hin.es.2 f hf)).2.2.2.2
      have h6 : (bl f.data).length = f.data.size := bl_length f.data
      omega
  | false =>
    have hz : (mdR t).1 = zeroMsg := by
      unfold mdR at h ⊢
      split
      · rename_i hc
        rw [if_pos hc] at h
        cases h
      · rfl
    rw [hz]
    refine ⟨[], false, ?_, (fun e => by cases e), by decide, by simp [zeroMsg]⟩
    unfold msgText
    rw [if_neg (by decide)]
    rfl

set_option maxRecDepth 100000 in
set_option maxHeartbeats 16000000 in
theorem FnMessages_walk (a0 : Option Addr) (len0 cap0 : Nat) (z0 : List Int) (w : World) (w0 : IsRow .u8 w a0 len0 cap0 z0) (hL : laidMetH Tryz.prog Rows.fnMessagesRow.laid w) :
    Calls Tryz.prog 3 #[.slice a0 len0 cap0] w fun e w' => e = .returned (.bool true) ∧ Below w.heap.size w w' := by
  have HLIM := hide (lims_of_laid (by kernel_rfl) (by kernel_rfl) hL)
  have HC := hide (codeAt_of_row w0)
  clear hL w0
  by_cases hbig : 1048576 < len0
  · go_enter Tryz.func3, Tryz.ntmps3
    go_wp2_with (go_at_call 4; refine (big_yes a0 len0 cap0 hbig _).mono ?_; rintro e w1 ⟨rfl, rfl⟩)
    go_ret
    exact ⟨rfl, Below.refl _ _⟩
  · have hlen : len0 ≤ 1048576 := by omega
    go_enter Tryz.func3, Tryz.ntmps3
    go_wp2_with fail
    refine (big_no a0 len0 cap0 hlen _).mono ?_
    rintro e w1 ⟨rfl, rfl⟩
    go_wp2_with fail
    refine (drawEncode_any w.heap.size a0 len0 cap0 _ hlen (Nat.le_refl _) HC.out).mono ?_
    rintro e w1 ⟨kd, fr, to, tm, ix, lt, cm, ok, v, vp, da, la, es, zs, hel, hew, hzs, hda, rfl, hown, hb1⟩
    obtain ⟨oa, cl, rfl⟩ := own_form3 hown.l
    obtain ⟨ob, cp, rfl⟩ := row_form hown.p
    have hzl := hzs.1
    have HZW := hide (show ∀ z ∈ zs, (Lit.int .i64 z).wf = true from fun z hz => wf15 (hzs.2 z hz))
    have HEW := hide hew
    have HK0 := hide (KE15.new #[.int .i64 kd, .int .i64 fr, .int .i64 to, .int .i64 tm, .int .i64 ix, .int .i64 lt, .int .i64 cm, .bool ok, .slice oa es.length cl, .slice ob zs.length cp, .string ⟨da.toArray⟩, .bool la] hown)
    have HB0 := hide (hb1.trans (((Below.refl w1.heap.size w1).alloc (Nat.le_refl _) (.cells #[.int .i64 kd, .int .i64 fr, .int .i64 to, .int .i64 tm, .int .i64 ix, .int .i64 lt, .int .i64 cm, .bool ok, .slice oa es.length cl, .slice ob zs.length cp, .string ⟨da.toArray⟩, .bool la] 27)).mono hb1.size))
    clear hzs hew hown hb1
    go_wp2_with fail
    generalize w1.alloc (.cells #[(Value.int IntKind.i64 kd), (Value.int IntKind.i64 fr), (Value.int IntKind.i64 to), (Value.int IntKind.i64 tm), (Value.int IntKind.i64 ix), (Value.int IntKind.i64 lt), (Value.int IntKind.i64 cm), (Value.bool ok), (Value.slice oa es.length cl), (Value.slice ob zs.length cp), (Value.string ⟨da.toArray⟩), (Value.bool la)] 27) = w2 at HK0 HB0 ⊢
    generalize w1.heap.size = bm at HK0 ⊢
    obtain ⟨_, _, heX, hat⟩ := entsAt_own HK0.out.own.l
    cases heX
    obtain ⟨_, _, heX, hbt⟩ := intsAt_of_own HK0.out.own.p HZW.out
    cases heX
    obtain ⟨M, hMe⟩ : ∃ M, M = (⟨kd, fr, to, tm, ix, lt, cm, ok, es, zs, da, la⟩ : MsgV) := ⟨_, rfl⟩
    cases hM0 : msgOk M with
    | true =>
      have hmt : mtV (msgText (⟨kd, fr, to, tm, ix, lt, cm, ok, es, zs, da, la⟩ : MsgV)) = .tuple #[.string ⟨(msgB M).toArray⟩, .bool true] := by rw [← hMe]; unfold msgText; rw [if_pos hM0]; rfl
      have hmd : mdR (msgB M) = ((⟨kd, fr, to, tm, ix, lt, cm, ok, es, zs, da, la⟩ : MsgV), true) := by rw [← hMe]; exact mdR_of hM0
      have hml : (msgB M).length ≤ 1048576 := by have := msgB_len hM0; omega
      have hM : msgOk (⟨kd, fr, to, tm, ix, lt, cm, ok, es, zs, da, la⟩ : MsgV) = true := by rw [← hMe]; exact hM0
      clear hMe hM0
      have HEN := hide (implEncode_any kd fr to tm ix lt cm ok _ es.length _ _ zs.length _ da la es zs (by omega) w2 (HLIM.out.on HB0.out) hat hbt (fun f hf => by have := HEW.out f hf; omega) (by omega) (by omega))
      rw [hmt] at HEN
      clear hat hbt
      refine HEN.out.mono ?_
      rintro e w3 ⟨rfl, hb3⟩
      have HK1 := hide (HK0.out.on hb3)
      have HB1 := hide (HB0.out.trans (hb3.mono HB0.out.size))
      clear hb3 HEN HK0 HB0
      have HDE := hide (fun w h => implDecode_any ⟨(msgB M).toArray⟩ (by rw [size_mk8]; first | exact hml | simp) w h)
      rw [bl_mk8, hmd] at HDE
      unfold MdPost at HDE
      go_wp2_with fail
      refine (HDE.out _ (HLIM.out.on HB1.out)).mono ?_
      rintro e w4 ⟨v4, vp4, rfl, ho4, hb4⟩
      obtain ⟨oc, cd, rfl⟩ := own_form3 ho4.l
      obtain ⟨od, ce, rfl⟩ := row_form ho4.p
      have hk := KE15.new #[.int .i64 kd, .int .i64 fr, .int .i64 to, .int .i64 tm, .int .i64 ix, .int .i64 lt, .int .i64 cm, .bool ok, .slice oc es.length cd, .slice od zs.length ce, .string ⟨da.toArray⟩, .bool la] ho4
      have hbn := hb4.trans (((Below.refl w4.heap.size w4).alloc (Nat.le_refl _) (.cells #[.int .i64 kd, .int .i64 fr, .int .i64 to, .int .i64 tm, .int .i64 ix, .int .i64 lt, .int .i64 cm, .bool ok, .slice oc es.length cd, .slice od zs.length ce, .string ⟨da.toArray⟩, .bool la] 27)).mono hb4.size)
      have HK2 := hide (HK1.out.on hbn)
      have HB2 := hide (HB1.out.trans (hbn.mono HB1.out.size))
      have HKB := hide hk
      have hlt := HK1.out.blk.lt
      have hsz := hb4.size
      clear hk hbn ho4 hb4 HK1 HB1 HDE
      obtain ⟨k0, k1, k2, k3, k4, k5, k6, k7, k8, k9, k10, k11⟩ := xs12 HK2.out.blk
      go_wp2_with fail
      clear k0 k1 k2 k3 k4 k5 k6 k7 k8 k9 k10 k11
      generalize hW5 : w4.alloc (.cells #[(Value.int IntKind.i64 kd), (Value.int IntKind.i64 fr), (Value.int IntKind.i64 to), (Value.int IntKind.i64 tm), (Value.int IntKind.i64 ix), (Value.int IntKind.i64 lt), (Value.int IntKind.i64 cm), (Value.bool ok), (Value.slice oc es.length cd), (Value.slice od zs.length ce), (Value.string ⟨da.toArray⟩), (Value.bool la)] 27) = w5 at HK2 HB2 HKB ⊢
      clear hW5
      obtain ⟨_, _, heX, hat⟩ := entsAt_own HK2.out.own.l
      cases heX
      obtain ⟨_, _, heX, hbt⟩ := intsAt_of_own HK2.out.own.p HZW.out
      cases heX
      refine (specMessageOk_any kd fr to tm ix lt cm ok _ es.length _ _ zs.length _ da la es zs (by omega) w5 hat hbt (fun f hf => by have := HEW.out f hf; omega) (by omega) (by omega)).mono ?_
      rintro e w6 ⟨rfl, hb6⟩
      have HK3 := hide (HK2.out.on hb6)
      have HKC := hide (HKB.out.on hb6)
      have HB3 := hide (HB2.out.trans (hb6.mono HB2.out.size))
      clear hb6 hat hbt HK2 HB2 HKB
      rw [hM]
      obtain ⟨k0, k1, k2, k3, k4, k5, k6, k7, k8, k9, k10, k11⟩ := xs12 HK3.out.blk
      go_wp2_with fail
      clear k0 k1 k2 k3 k4 k5 k6 k7 k8 k9 k10 k11
      obtain ⟨_, _, heX, hat⟩ := entsAt_own HK3.out.own.l
      cases heX
      obtain ⟨_, _, heX, hbt⟩ := intsAt_of_own HK3.out.own.p HZW.out
      cases heX
      refine (implMessageOk_any kd fr to tm ix lt cm ok _ es.length _ _ zs.length _ da la es zs (by omega) w6 (HLIM.out.on HB3.out) hat hbt (fun f hf => by have := HEW.out f hf; omega) (by omega) (by omega)).mono ?_
      rintro e w7 ⟨rfl, hb7⟩
      have HK4 := hide (HK3.out.on hb7)
      have HKD := hide (HKC.out.on hb7)
      have HB4 := hide (HB3.out.trans (hb7.mono HB3.out.size))
      clear hb7 hat hbt HK3 HB3 HKC
      rw [hM]
      obtain ⟨k0, k1, k2, k3, k4, k5, k6, k7, k8, k9, k10, k11⟩ := xs12 HK4.out.blk
      obtain ⟨l0, l1, l2, l3, l4, l5, l6, l7, l8, l9, l10, l11⟩ := xs12 HKD.out.blk
      go_wp2_with fail
      clear k0 k1 k2 k3 k4 k5 k6 k7 k8 k9 k10 k11 l0 l1 l2 l3 l4 l5 l6 l7 l8 l9 l10 l11
      obtain ⟨_, _, heX, hat⟩ := entsAt_own HK4.out.own.l
      cases heX
      obtain ⟨_, _, heX, hbt⟩ := intsAt_of_own HK4.out.own.p HZW.out
      cases heX
      obtain ⟨_, _, heX, hatB⟩ := entsAt_own HKD.out.own.l
      cases heX
      obtain ⟨_, _, heX, hbtB⟩ := intsAt_of_own HKD.out.own.p HZW.out
      cases heX
      refine (sameMessage_same kd fr to tm ix lt cm ok _ es.length _ _ zs.length _ da la es zs _ _ _ _ (by omega) (by omega) w7 hatB hat hbtB hbt).mono ?_
      rintro e w8 ⟨rfl, hb8⟩
      have HBE := hide (HB4.out.trans (hb8.mono HB4.out.size))
      clear hb8 hat hbt hatB hbtB HK4 HKD HB4
      go_wp2_with fail
      refine (drawDecode_any w.heap.size a0 len0 cap0 _ hlen HBE.out.size (HC.out.below HBE.out)).mono ?_
      rintro e x1 ⟨t, ht, rfl, hbx⟩
      have HB5 := hide (HBE.out.trans (hbx.mono HBE.out.size))
      clear hbx HBE
      obtain ⟨hl4, hm4, hwp⟩ := md_small t
      obtain ⟨t2, b2, hmt, hyes, hda2, hsm2⟩ := md_text t
      obtain ⟨mv, okb, hjr⟩ : ∃ mv okb, mdR t = (mv, okb) := ⟨_, _, rfl⟩
      have HIM := hide (fun w h => implDecode_any ⟨t.toArray⟩ (by rw [size_mk8]; omega) w h)
      have HSP := hide (fun w => specDecode_any ⟨t.toArray⟩ (by rw [size_mk8]; omega) w)
      rw [bl_mk8] at HIM HSP
      unfold MdPost at HIM HSP
      obtain ⟨kd2, fr2, to2, tm2, ix2, lt2, cm2, ok2, es2, zs2, da2, la2⟩ := mv
      rw [hjr] at hl4 hm4 HIM HSP hwp hyes hmt hda2 hsm2
      simp only at hl4 hm4 HIM HSP hwp hyes hmt hda2 hsm2
      clear hjr
      have HWP := hide hwp
      have HMT := hide hmt
      have HSM := hide hsm2
      have HY := hide hyes
      clear hwp hmt hsm2 hyes
      go_wp2_with fail
      refine (HIM.out _ (HLIM.out.on HB5.out)).mono ?_
      rintro e x2 ⟨v2, vp2, rfl, ho2, hb2⟩
      obtain ⟨oe, cg, rfl⟩ := own_form3 ho2.l
      obtain ⟨of, ch, rfl⟩ := row_form ho2.p
      have hk := KE15.new #[.int .i64 kd2, .int .i64 fr2, .int .i64 to2, .int .i64 tm2, .int .i64 ix2, .int .i64 lt2, .int .i64 cm2, .bool ok2, .slice oe es2.length cg, .slice of zs2.length ch, .string ⟨da2.toArray⟩, .bool la2] ho2
      have hbn := hb2.trans (((Below.refl x2.heap.size x2).alloc (Nat.le_refl _) (.cells #[.int .i64 kd2, .int .i64 fr2, .int .i64 to2, .int .i64 tm2, .int .i64 ix2, .int .i64 lt2, .int .i64 cm2, .bool ok2, .slice oe es2.length cg, .slice of zs2.length ch, .string ⟨da2.toArray⟩, .bool la2] 27)).mono hb2.size)
      have HK2 := hide hk
      have HB6 := hide (HB5.out.trans (hbn.mono HB5.out.size))
      clear hk hbn ho2 hb2 HB5
      go_wp2_with fail
      generalize x2.alloc (.cells #[(Value.int IntKind.i64 kd2), (Value.int IntKind.i64 fr2), (Value.int IntKind.i64 to2), (Value.int IntKind.i64 tm2), (Value.int IntKind.i64 ix2), (Value.int IntKind.i64 lt2), (Value.int IntKind.i64 cm2), (Value.bool ok2), (Value.slice oe es2.length cg), (Value.slice of zs2.length ch), (Value.string ⟨da2.toArray⟩), (Value.bool la2)] 27) = x3 at HK2 HB6 ⊢
      refine (HSP.out _).mono ?_
      rintro e x4 ⟨v3, vp3, rfl, ho3, hb3⟩
      obtain ⟨og, ci, rfl⟩ := own_form3 ho3.l
      obtain ⟨oh, cj, rfl⟩ := row_form ho3.p
      have hbn := hb3.trans (((Below.refl x4.heap.size x4).alloc (Nat.le_refl _) (.cells #[.int .i64 kd2, .int .i64 fr2, .int .i64 to2, .int .i64 tm2, .int .i64 ix2, .int .i64 lt2, .int .i64 cm2, .bool ok2, .slice og es2.length ci, .slice oh zs2.length cj, .string ⟨da2.toArray⟩, .bool la2] 27)).mono hb3.size)
      have HK3 := hide (HK2.out.on hbn)
      have HB7 := hide (HB6.out.trans (hbn.mono HB6.out.size))
      have hlt := HK2.out.blk.lt
      have hsz := hb3.size
      clear hbn ho3 hb3 HB6 HK2
      obtain ⟨k0, k1, k2, k3, k4, k5, k6, k7, k8, k9, k10, k11⟩ := xs12 HK3.out.blk
      go_wp2_with fail
      clear k0 k1 k2 k3 k4 k5 k6 k7 k8 k9 k10 k11
      generalize x4.alloc (.cells #[(Value.int IntKind.i64 kd2), (Value.int IntKind.i64 fr2), (Value.int IntKind.i64 to2), (Value.int IntKind.i64 tm2), (Value.int IntKind.i64 ix2), (Value.int IntKind.i64 lt2), (Value.int IntKind.i64 cm2), (Value.bool ok2), (Value.slice og es2.length ci), (Value.slice oh zs2.length cj), (Value.string ⟨da2.toArray⟩), (Value.bool la2)] 27) = x5 at HK3 HB7 ⊢
      obtain ⟨_, _, heX, hat2⟩ := entsAt_own HK3.out.own.l
      cases heX
      obtain ⟨_, _, heX, hbt2⟩ := intsAt_of_own HK3.out.own.p HWP.out
      cases heX
      have HEN := hide (implEncode_any kd2 fr2 to2 tm2 ix2 lt2 cm2 ok2 _ es2.length _ _ zs2.length _ da2 la2 es2 zs2 hda2 x5 (HLIM.out.on HB7.out) hat2 hbt2 HSM.out (by omega) (by omega))
      rw [HMT.out] at HEN
      clear hat2 hbt2
      refine HEN.out.mono ?_
      rintro e x6 ⟨rfl, hb6⟩
      have HB8 := hide (HB7.out.trans (hb6.mono HB7.out.size))
      clear hb6 HEN
      cases okb with
      | true =>
        obtain rfl := HY.out rfl
        have hs : (t2.toArray.toList == t2.toArray.toList) = true := by simp
        go_wp2_with fail
        go_ret
        exact ⟨rfl, HB8.out⟩
      | false =>
        go_wp2_with fail
        go_ret
        exact ⟨rfl, HB8.out⟩
    | false =>
      have hmt : mtV (msgText (⟨kd, fr, to, tm, ix, lt, cm, ok, es, zs, da, la⟩ : MsgV)) = .tuple #[.string ⟨([] : List UInt8).toArray⟩, .bool false] := by rw [← hMe]; unfold msgText; rw [if_neg (by rw [hM0]; simp)]; rfl
      have hM : msgOk (⟨kd, fr, to, tm, ix, lt, cm, ok, es, zs, da, la⟩ : MsgV) = false := by rw [← hMe]; exact hM0
      clear hMe hM0
      have HEN := hide (implEncode_any kd fr to tm ix lt cm ok _ es.length _ _ zs.length _ da la es zs (by omega) w2 (HLIM.out.on HB0.out) hat hbt (fun f hf => by have := HEW.out f hf; omega) (by omega) (by omega))
      rw [hmt] at HEN
      clear hat hbt
      refine HEN.out.mono ?_
      rintro e w3 ⟨rfl, hb3⟩
      have HK1 := hide (HK0.out.on hb3)
      have HB1 := hide (HB0.out.trans (hb3.mono HB0.out.size))
      clear hb3 HEN HK0 HB0
      have HDE := hide (fun w h => implDecode_any ⟨([] : List UInt8).toArray⟩ (by rw [size_mk8]; first | exact hml | simp) w h)
      rw [bl_mk8, mdR_nil] at HDE
      unfold MdPost at HDE
      simp only [zeroMsg, List.length_nil] at HDE
      go_wp2_with fail
      refine (HDE.out _ (HLIM.out.on HB1.out)).mono ?_
      rintro e w4 ⟨v4, vp4, rfl, ho4, hb4⟩
      obtain ⟨oc, cd, rfl⟩ := own_form3 ho4.l
      obtain ⟨od, ce, rfl⟩ := row_form ho4.p
      have hk := KE15.new #[.int .i64 0, .int .i64 0, .int .i64 0, .int .i64 0, .int .i64 0, .int .i64 0, .int .i64 0, .bool false, .slice oc 0 cd, .slice od 0 ce, .string ⟨#[]⟩, .bool false] ho4
      have hbn := hb4.trans (((Below.refl w4.heap.size w4).alloc (Nat.le_refl _) (.cells #[.int .i64 0, .int .i64 0, .int .i64 0, .int .i64 0, .int .i64 0, .int .i64 0, .int .i64 0, .bool false, .slice oc 0 cd, .slice od 0 ce, .string ⟨#[]⟩, .bool false] 27)).mono hb4.size)
      have HK2 := hide (HK1.out.on hbn)
      have HB2 := hide (HB1.out.trans (hbn.mono HB1.out.size))
      have HKB := hide hk
      have hlt := HK1.out.blk.lt
      have hsz := hb4.size
      clear hk hbn ho4 hb4 HK1 HB1 HDE
      obtain ⟨k0, k1, k2, k3, k4, k5, k6, k7, k8, k9, k10, k11⟩ := xs12 HK2.out.blk
      go_wp2_with fail
      clear k0 k1 k2 k3 k4 k5 k6 k7 k8 k9 k10 k11
      generalize hW5 : w4.alloc (.cells #[(Value.int IntKind.i64 0), (Value.int IntKind.i64 0), (Value.int IntKind.i64 0), (Value.int IntKind.i64 0), (Value.int IntKind.i64 0), (Value.int IntKind.i64 0), (Value.int IntKind.i64 0), (Value.bool false), (Value.slice oc 0 cd), (Value.slice od 0 ce), (Value.string ⟨#[]⟩), (Value.bool false)] 27) = w5 at HK2 HB2 HKB ⊢
      clear hW5
      obtain ⟨_, _, heX, hat⟩ := entsAt_own HK2.out.own.l
      cases heX
      obtain ⟨_, _, heX, hbt⟩ := intsAt_of_own HK2.out.own.p HZW.out
      cases heX
      refine (specMessageOk_any kd fr to tm ix lt cm ok _ es.length _ _ zs.length _ da la es zs (by omega) w5 hat hbt (fun f hf => by have := HEW.out f hf; omega) (by omega) (by omega)).mono ?_
      rintro e w6 ⟨rfl, hb6⟩
      have HK3 := hide (HK2.out.on hb6)
      have HKC := hide (HKB.out.on hb6)
      have HB3 := hide (HB2.out.trans (hb6.mono HB2.out.size))
      clear hb6 hat hbt HK2 HB2 HKB
      rw [hM]
      obtain ⟨k0, k1, k2, k3, k4, k5, k6, k7, k8, k9, k10, k11⟩ := xs12 HK3.out.blk
      go_wp2_with fail
      clear k0 k1 k2 k3 k4 k5 k6 k7 k8 k9 k10 k11
      obtain ⟨_, _, heX, hat⟩ := entsAt_own HK3.out.own.l
      cases heX
      obtain ⟨_, _, heX, hbt⟩ := intsAt_of_own HK3.out.own.p HZW.out
      cases heX
      refine (implMessageOk_any kd fr to tm ix lt cm ok _ es.length _ _ zs.length _ da la es zs (by omega) w6 (HLIM.out.on HB3.out) hat hbt (fun f hf => by have := HEW.out f hf; omega) (by omega) (by omega)).mono ?_
      rintro e w7 ⟨rfl, hb7⟩
      have HK4 := hide (HK3.out.on hb7)
      have HKD := hide (HKC.out.on hb7)
      have HB4 := hide (HB3.out.trans (hb7.mono HB3.out.size))
      clear hb7 hat hbt HK3 HB3 HKC
      rw [hM]
      have HBE := hide HB4.out
      clear HK4 HKD HB4
      go_wp2_with fail
      refine (drawDecode_any w.heap.size a0 len0 cap0 _ hlen HBE.out.size (HC.out.below HBE.out)).mono ?_
      rintro e x1 ⟨t, ht, rfl, hbx⟩
      have HB5 := hide (HBE.out.trans (hbx.mono HBE.out.size))
      clear hbx HBE
      obtain ⟨hl4, hm4, hwp⟩ := md_small t
      obtain ⟨t2, b2, hmt, hyes, hda2, hsm2⟩ := md_text t
      obtain ⟨mv, okb, hjr⟩ : ∃ mv okb, mdR t = (mv, okb) := ⟨_, _, rfl⟩
      have HIM := hide (fun w h => implDecode_any ⟨t.toArray⟩ (by rw [size_mk8]; omega) w h)
      have HSP := hide (fun w => specDecode_any ⟨t.toArray⟩ (by rw [size_mk8]; omega) w)
      rw [bl_mk8] at HIM HSP
      unfold MdPost at HIM HSP
      obtain ⟨kd2, fr2, to2, tm2, ix2, lt2, cm2, ok2, es2, zs2, da2, la2⟩ := mv
      rw [hjr] at hl4 hm4 HIM HSP hwp hyes hmt hda2 hsm2
      simp only at hl4 hm4 HIM HSP hwp hyes hmt hda2 hsm2
      clear hjr
      have HWP := hide hwp
      have HMT := hide hmt
      have HSM := hide hsm2
      have HY := hide hyes
      clear hwp hmt hsm2 hyes
      go_wp2_with fail
      refine (HIM.out _ (HLIM.out.on HB5.out)).mono ?_
      rintro e x2 ⟨v2, vp2, rfl, ho2, hb2⟩
      obtain ⟨oe, cg, rfl⟩ := own_form3 ho2.l
      obtain ⟨of, ch, rfl⟩ := row_form ho2.p
      have hk := KE15.new #[.int .i64 kd2, .int .i64 fr2, .int .i64 to2, .int .i64 tm2, .int .i64 ix2, .int .i64 lt2, .int .i64 cm2, .bool ok2, .slice oe es2.length cg, .slice of zs2.length ch, .string ⟨da2.toArray⟩, .bool la2] ho2
      have hbn := hb2.trans (((Below.refl x2.heap.size x2).alloc (Nat.le_refl _) (.cells #[.int .i64 kd2, .int .i64 fr2, .int .i64 to2, .int .i64 tm2, .int .i64 ix2, .int .i64 lt2, .int .i64 cm2, .bool ok2, .slice oe es2.length cg, .slice of zs2.length ch, .string ⟨da2.toArray⟩, .bool la2] 27)).mono hb2.size)
      have HK2 := hide hk
      have HB6 := hide (HB5.out.trans (hbn.mono HB5.out.size))
      clear hk hbn ho2 hb2 HB5
      go_wp2_with fail
      generalize x2.alloc (.cells #[(Value.int IntKind.i64 kd2), (Value.int IntKind.i64 fr2), (Value.int IntKind.i64 to2), (Value.int IntKind.i64 tm2), (Value.int IntKind.i64 ix2), (Value.int IntKind.i64 lt2), (Value.int IntKind.i64 cm2), (Value.bool ok2), (Value.slice oe es2.length cg), (Value.slice of zs2.length ch), (Value.string ⟨da2.toArray⟩), (Value.bool la2)] 27) = x3 at HK2 HB6 ⊢
      refine (HSP.out _).mono ?_
      rintro e x4 ⟨v3, vp3, rfl, ho3, hb3⟩
      obtain ⟨og, ci, rfl⟩ := own_form3 ho3.l
      obtain ⟨oh, cj, rfl⟩ := row_form ho3.p
      have hbn := hb3.trans (((Below.refl x4.heap.size x4).alloc (Nat.le_refl _) (.cells #[.int .i64 kd2, .int .i64 fr2, .int .i64 to2, .int .i64 tm2, .int .i64 ix2, .int .i64 lt2, .int .i64 cm2, .bool ok2, .slice og es2.length ci, .slice oh zs2.length cj, .string ⟨da2.toArray⟩, .bool la2] 27)).mono hb3.size)
      have HK3 := hide (HK2.out.on hbn)
      have HB7 := hide (HB6.out.trans (hbn.mono HB6.out.size))
      have hlt := HK2.out.blk.lt
      have hsz := hb3.size
      clear hbn ho3 hb3 HB6 HK2
      obtain ⟨k0, k1, k2, k3, k4, k5, k6, k7, k8, k9, k10, k11⟩ := xs12 HK3.out.blk
      go_wp2_with fail
      clear k0 k1 k2 k3 k4 k5 k6 k7 k8 k9 k10 k11
      generalize x4.alloc (.cells #[(Value.int IntKind.i64 kd2), (Value.int IntKind.i64 fr2), (Value.int IntKind.i64 to2), (Value.int IntKind.i64 tm2), (Value.int IntKind.i64 ix2), (Value.int IntKind.i64 lt2), (Value.int IntKind.i64 cm2), (Value.bool ok2), (Value.slice og es2.length ci), (Value.slice oh zs2.length cj), (Value.string ⟨da2.toArray⟩), (Value.bool la2)] 27) = x5 at HK3 HB7 ⊢
      obtain ⟨_, _, heX, hat2⟩ := entsAt_own HK3.out.own.l
      cases heX
      obtain ⟨_, _, heX, hbt2⟩ := intsAt_of_own HK3.out.own.p HWP.out
      cases heX
      have HEN := hide (implEncode_any kd2 fr2 to2 tm2 ix2 lt2 cm2 ok2 _ es2.length _ _ zs2.length _ da2 la2 es2 zs2 hda2 x5 (HLIM.out.on HB7.out) hat2 hbt2 HSM.out (by omega) (by omega))
      rw [HMT.out] at HEN
      clear hat2 hbt2
      refine HEN.out.mono ?_
      rintro e x6 ⟨rfl, hb6⟩
      have HB8 := hide (HB7.out.trans (hb6.mono HB7.out.size))
      clear hb6 HEN
      cases okb with
      | true =>
        obtain rfl := HY.out rfl
        have hs : (t2.toArray.toList == t2.toArray.toList) = true := by simp
        go_wp2_with fail
        go_ret
        exact ⟨rfl, HB8.out⟩
      | false =>
        go_wp2_with fail
        go_ret
        exact ⟨rfl, HB8.out⟩

end Go.Proofs.YtmllcomppjkhhaaGreatDoor
