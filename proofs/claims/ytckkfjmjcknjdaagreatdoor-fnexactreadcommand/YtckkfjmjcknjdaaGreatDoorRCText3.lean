/-
  Walks and mathematics of Text3.
-/
import Derived.Test.YtckkfjmjcknjdaaGreatDoorRCText1
import Derived.Test.YtckkfjmjcknjdaaGreatDoorRCComm7
namespace Go.Proofs.YtckkfjmjcknjdaaGreatDoor.P3
end Go.Proofs.YtckkfjmjcknjdaaGreatDoor.P3
namespace Go.Proofs.YtckkfjmjcknjdaaGreatDoor
open Go.RowKit P1 P3 P9 P11 P12 P18 K
set_option linter.unusedVariables false
set_option linter.unusedSimpArgs false
attribute [local go_sem ↓] Go.wp_at_zero Go.wp_at_succ

theorem cmdB_op2 {c : CmdV} (h : c.op = 2) : cmdB c = (([byB c.op] ++ varZ c.tk) ++ varZ c.sq) ++ evBody c.ev := by
  simp [cmdB, cmdTail, h]

theorem cmdB_op3 {c : CmdV} (h : c.op = 3) : cmdB c = (([byB c.op] ++ varZ c.tk) ++ varZ c.sq) ++ shortB (evB c.ev) := by
  simp [cmdB, cmdTail, h]

theorem cmdB_op4 {c : CmdV} (h : c.op = 4) : cmdB c = ((([byB c.op] ++ varZ c.tk) ++ varZ c.sq) ++ varZ c.ds) ++ varZ c.up := by
  simp [cmdB, cmdTail, h]

theorem cmdB_op {c : CmdV} (h2 : c.op ≠ 2) (h3 : c.op ≠ 3) (h4 : c.op ≠ 4) : cmdB c = ([byB c.op] ++ varZ c.tk) ++ varZ c.sq := by
  unfold cmdB
  rw [cmdTail_no h2 h3 h4]
  simp

set_option maxRecDepth 100000 in
set_option maxHeartbeats 8000000 in
theorem specCommandText_any (op tk sq id kd sn us mb dp : Int) (oa : Option Addr) (n cl : Nat) (tx : List UInt8) (ob : Option Addr) (m cp : Nat) (ds up : Int) (zl zp : List Int) (hx : tx.length ≤ 1048576) (w : World) (hat : IntsAt w oa n cl zl) (hbt : IntsAt w ob m cp zp) :
    Calls Tryz.prog 11 #[cmval op tk sq id kd sn us mb dp (.slice oa n cl) (.slice ob m cp) tx ds up] w fun e w' => e = .returned (etV (cmdText (⟨op, tk, sq, ⟨id, kd, sn, us, mb, zl, tx, zp, dp⟩, ds, up⟩ : CmdV))) ∧ Below w.heap.size w w' := by
  have HOK := hide (fun w hat hbt => specCommandOk_any op tk sq id kd sn us mb dp oa n cl tx ob m cp ds up zl zp hx w hat hbt)
  have HX0 := hide (XS.new w #[.int .i64 op, .int .i64 tk, .int .i64 sq, .int .i64 id, .int .i64 kd, .int .i64 sn, .int .i64 us, .int .i64 mb, .slice oa n cl, .string ⟨tx.toArray⟩, .slice ob m cp, .int .i64 dp, .int .i64 ds, .int .i64 up] 31)
  have HB0 := hide ((Below.refl w.heap.size w).alloc (Nat.le_refl _) (.cells #[.int .i64 op, .int .i64 tk, .int .i64 sq, .int .i64 id, .int .i64 kd, .int .i64 sn, .int .i64 us, .int .i64 mb, .slice oa n cl, .string ⟨tx.toArray⟩, .slice ob m cp, .int .i64 dp, .int .i64 ds, .int .i64 up] 31))
  have HAT := hide hat
  have HBT := hide hbt
  clear hat hbt
  obtain ⟨y0, y1, y2, y3, y4, y5, y6, y7, y8, y9, y10, y11, y12, y13⟩ := xs_cells HX0.out
  unfold cmdText
  cases cok : cmdOk (⟨op, tk, sq, ⟨id, kd, sn, us, mb, zl, tx, zp, dp⟩, ds, up⟩ : CmdV) with
  | false =>
    rw [cok] at HOK
    simp only [Bool.false_eq_true, if_false, etV]
    go_enter Tryz.func11, Tryz.ntmps11
    go_wp2_with fail
    refine (HOK.out _ (HAT.out.below HB0.out) (HBT.out.below HB0.out)).mono ?_
    rintro e w1 ⟨rfl, hb1⟩
    go_wp2_with fail
    go_ret2
    exact ⟨rfl, HB0.out.trans (hb1.mono HB0.out.size)⟩
  | true =>
    rw [cok] at HOK
    simp only [if_true, etV]
    have HC := hide (cmd_in cok)
    have hop := HC.out.1
    have htk := HC.out.2.1
    have hsq := HC.out.2.2.1
    simp only at hop htk hsq
    clear cok
    have hv1 := varZ_len tk
    have hv2 := varZ_len sq
    have f1 := add_fact Tryz.prog [byB op] (varZ tk) (by simp; omega)
    have f2 := add_fact Tryz.prog ([byB op] ++ varZ tk) (varZ sq) (by simp; omega)
    have HY := hide (l09Byte_any op (by omega))
    have HV1 := hide (l01Var_int tk (by omega) (by omega))
    have HV2 := hide (l01Var_int sq (by omega) (by omega))
    rw [show varB tk.toNat = varZ tk from rfl] at HV1
    rw [show varB sq.toNat = varZ sq from rfl] at HV2
    have E2 := hide (cmdB_op2 (c := (⟨op, tk, sq, ⟨id, kd, sn, us, mb, zl, tx, zp, dp⟩, ds, up⟩ : CmdV)))
    have E3 := hide (cmdB_op3 (c := (⟨op, tk, sq, ⟨id, kd, sn, us, mb, zl, tx, zp, dp⟩, ds, up⟩ : CmdV)))
    have E4 := hide (cmdB_op4 (c := (⟨op, tk, sq, ⟨id, kd, sn, us, mb, zl, tx, zp, dp⟩, ds, up⟩ : CmdV)))
    have E5 := hide (cmdB_op (c := (⟨op, tk, sq, ⟨id, kd, sn, us, mb, zl, tx, zp, dp⟩, ds, up⟩ : CmdV)))
    have HS0 := hide (show (([byB op] ++ varZ tk) ++ varZ sq).length ≤ 40 by simp; omega)
    simp only at E2 E3 E4 E5
    generalize (([byB op] ++ varZ tk) ++ varZ sq) = S at f2 E2 E3 E4 E5 HS0
    generalize (⟨([byB op] ++ varZ tk).toArray⟩ : ByteArray) = Y1 at f1 f2
    generalize (⟨[byB op].toArray⟩ : ByteArray) = X1 at f1 HY
    generalize (⟨(varZ tk).toArray⟩ : ByteArray) = X2 at f1 HV1
    generalize (⟨(varZ sq).toArray⟩ : ByteArray) = X3 at f2 HV2
    have hs := HS0.out
    go_enter Tryz.func11, Tryz.ntmps11
    go_wp2_with fail
    refine (HOK.out _ (HAT.out.below HB0.out) (HBT.out.below HB0.out)).mono ?_
    rintro e w0 ⟨rfl, hb1⟩
    have HX := HX0.out.on hb1
    have HB1 := hide (HB0.out.trans (hb1.mono HB0.out.size))
    clear hb1 HX0 HB0 y0 y1 y2 y3 y4 y5 y6 y7 y8 y9 y10 y11 y12 y13
    go_wp2_with fail
    refine wp_region_in (F := fun w' => Below w0.heap.size w0 w') (by kernel_rfl) (by kernel_rfl) (Below.refl _ _).drew ?_
    have hne : Nonempty (InW (fun w' => Below w0.heap.size w0 w')) := ⟨⟨_, Below.refl _ _⟩⟩
    have k0 := fun mw : InW (fun w' => Below w0.heap.size w0 w') => (HX.on mw.h).cell 0 rfl
    have k1 := fun mw : InW (fun w' => Below w0.heap.size w0 w') => (HX.on mw.h).cell 1 rfl
    have k2 := fun mw : InW (fun w' => Below w0.heap.size w0 w') => (HX.on mw.h).cell 2 rfl
    have k3 := fun mw : InW (fun w' => Below w0.heap.size w0 w') => (HX.on mw.h).cell 3 rfl
    have k4 := fun mw : InW (fun w' => Below w0.heap.size w0 w') => (HX.on mw.h).cell 4 rfl
    have k5 := fun mw : InW (fun w' => Below w0.heap.size w0 w') => (HX.on mw.h).cell 5 rfl
    have k6 := fun mw : InW (fun w' => Below w0.heap.size w0 w') => (HX.on mw.h).cell 6 rfl
    have k7 := fun mw : InW (fun w' => Below w0.heap.size w0 w') => (HX.on mw.h).cell 7 rfl
    have k8 := fun mw : InW (fun w' => Below w0.heap.size w0 w') => (HX.on mw.h).cell 8 rfl
    have k9 := fun mw : InW (fun w' => Below w0.heap.size w0 w') => (HX.on mw.h).cell 9 rfl
    have k10 := fun mw : InW (fun w' => Below w0.heap.size w0 w') => (HX.on mw.h).cell 10 rfl
    have k11 := fun mw : InW (fun w' => Below w0.heap.size w0 w') => (HX.on mw.h).cell 11 rfl
    have k12 := fun mw : InW (fun w' => Below w0.heap.size w0 w') => (HX.on mw.h).cell 12 rfl
    have k13 := fun mw : InW (fun w' => Below w0.heap.size w0 w') => (HX.on mw.h).cell 13 rfl
    have HXH := hide HX
    clear HX
    repeat (go_big_quiet_step (first
      | (go_at_call 26; (with_reducible refine (HY.out _).mono ?_); rintro e w3 ⟨rfl, hb3⟩; exact ⟨rfl, ⟨w3, inw_more8 _ hb3⟩, rfl⟩)
      | (go_at_call 27; (with_reducible refine (HV1.out _).mono ?_); rintro e w3 ⟨rfl, hb3⟩; exact ⟨rfl, ⟨w3, inw_more8 _ hb3⟩, rfl⟩)
      | (go_at_call 27; (with_reducible refine (HV2.out _).mono ?_); rintro e w3 ⟨rfl, hb3⟩; exact ⟨rfl, ⟨w3, inw_more8 _ hb3⟩, rfl⟩)))
    refine wpQuiet_nil ?_
    intro _ hw'
    obtain ⟨nq, hw''⟩ := hw'
    subst hw''
    have HX2 := hide (HXH.out.on nq.h)
    have HB2 := hide (HB1.out.trans (nq.h.mono HB1.out.size))
    clear k0 k1 k2 k3 k4 k5 k6 k7 k8 k9 k10 k11 k12 k13 hne f1 f2
    generalize nq.w = w1 at HX2 HB2 ⊢
    obtain ⟨y0, y1, y2, y3, y4, y5, y6, y7, y8, y9, y10, y11, y12, y13⟩ := xs_cells HX2.out
    by_cases o2 : op = 2
    · subst o2
      have e2 := E2.out rfl
      have hin := HC.out.2.2.2.1 rfl
      try simp only at hin
      have hbl0 := evBody_len hin
      have hbl : (evBody (⟨id, kd, sn, us, mb, zl, tx, zp, dp⟩ : EvV)).length ≤ 60 := hbl0
      clear hbl0
      have HBO := hide (fun w hat => l09BodyText_any id kd sn us mb dp oa n cl tx ob m cp zl zp hin w hat)
      generalize evBody (⟨id, kd, sn, us, mb, zl, tx, zp, dp⟩ : EvV) = k at hbl HBO e2
      have f3 := add_fact Tryz.prog S k (by omega)
      generalize (⟨k.toArray⟩ : ByteArray) = X at f3 HBO
      go_wp2_with fail
      refine (HBO.out _ (HAT.out.below HB2.out)).mono ?_
      rintro e w2 ⟨rfl, hb2⟩
      have HB3 := hide (HB2.out.trans (hb2.mono HB2.out.size))
      clear hb2
      go_wp2_with fail
      go_ret2
      exact ⟨by rw [e2]; rfl, HB3.out⟩
    by_cases o3 : op = 3
    · subst o3
      have e3 := E3.out rfl
      have hin := HC.out.2.2.2.2.1 rfl
      try simp only at hin
      have HET := hide (fun w hat hbt => specEventText_any id kd sn us mb dp oa n cl tx ob m cp zl zp hx w hat hbt)
      rw [etV_yes hin] at HET
      have hln := evB_small (evOk_in hin)
      generalize evB (⟨id, kd, sn, us, mb, zl, tx, zp, dp⟩ : EvV) = k0 at hln HET e3
      have HSH := hide (l05Short_any k0 (by omega))
      have hsl := (shortB_length k0).1
      generalize shortB k0 = k at HSH hsl e3
      have f3 := add_fact Tryz.prog S k (by omega)
      generalize (⟨k.toArray⟩ : ByteArray) = X at f3 HSH
      go_wp2_with fail
      refine (HET.out _ (HAT.out.below HB2.out) (HBT.out.below HB2.out)).mono ?_
      rintro e w2 ⟨rfl, hb2⟩
      have HB3 := hide (HB2.out.trans (hb2.mono HB2.out.size))
      clear hb2
      go_wp2_with fail
      refine (HSH.out _).mono ?_
      rintro e w3 ⟨rfl, hb3⟩
      have HB4 := hide (HB3.out.trans (hb3.mono HB3.out.size))
      clear hb3
      go_wp2_with fail
      go_ret2
      exact ⟨by rw [e3]; rfl, HB4.out⟩
    by_cases o4 : op = 4
    · subst o4
      have e4 : (⟨(cmdB (⟨4, tk, sq, ⟨id, kd, sn, us, mb, zl, tx, zp, dp⟩, ds, up⟩ : CmdV)).toArray⟩ : ByteArray) = ⟨((S ++ varZ ds) ++ varZ up).toArray⟩ := by rw [E4.out rfl]
      have hin := HC.out.2.2.2.2.2 rfl
      try simp only at hin
      have hv3 := varZ_len ds
      have hv4 := varZ_len up
      have f3 := add_fact Tryz.prog S (varZ ds) (by omega)
      have f4 := add_fact Tryz.prog (S ++ varZ ds) (varZ up) (by rw [List.length_append]; omega)
      have HV3 := hide (l01Var_int ds (by omega) (by omega))
      have HV4 := hide (l01Var_int up (by omega) (by omega))
      rw [show varB ds.toNat = varZ ds from rfl] at HV3
      rw [show varB up.toNat = varZ up from rfl] at HV4
      generalize (⟨((S ++ varZ ds) ++ varZ up).toArray⟩ : ByteArray) = Y3 at f4 e4
      generalize (⟨(S ++ varZ ds).toArray⟩ : ByteArray) = Y2 at f3 f4
      generalize (⟨(varZ ds).toArray⟩ : ByteArray) = X4 at f3 HV3
      generalize (⟨(varZ up).toArray⟩ : ByteArray) = X5 at f4 HV4
      go_wp2_with fail
      clear y0 y1 y2 y3 y4 y5 y6 y7 y8 y9 y10 y11 y12 y13
      have HX := HX2.out
      refine wp_region_in (F := fun w' => Below w1.heap.size w1 w') (by kernel_rfl) (by kernel_rfl) (Below.refl _ _).drew ?_
      have hne : Nonempty (InW (fun w' => Below w1.heap.size w1 w')) := ⟨⟨_, Below.refl _ _⟩⟩
      have k0 := fun mw : InW (fun w' => Below w1.heap.size w1 w') => (HX.on mw.h).cell 0 rfl
      have k1 := fun mw : InW (fun w' => Below w1.heap.size w1 w') => (HX.on mw.h).cell 1 rfl
      have k2 := fun mw : InW (fun w' => Below w1.heap.size w1 w') => (HX.on mw.h).cell 2 rfl
      have k3 := fun mw : InW (fun w' => Below w1.heap.size w1 w') => (HX.on mw.h).cell 3 rfl
      have k4 := fun mw : InW (fun w' => Below w1.heap.size w1 w') => (HX.on mw.h).cell 4 rfl
      have k5 := fun mw : InW (fun w' => Below w1.heap.size w1 w') => (HX.on mw.h).cell 5 rfl
      have k6 := fun mw : InW (fun w' => Below w1.heap.size w1 w') => (HX.on mw.h).cell 6 rfl
      have k7 := fun mw : InW (fun w' => Below w1.heap.size w1 w') => (HX.on mw.h).cell 7 rfl
      have k8 := fun mw : InW (fun w' => Below w1.heap.size w1 w') => (HX.on mw.h).cell 8 rfl
      have k9 := fun mw : InW (fun w' => Below w1.heap.size w1 w') => (HX.on mw.h).cell 9 rfl
      have k10 := fun mw : InW (fun w' => Below w1.heap.size w1 w') => (HX.on mw.h).cell 10 rfl
      have k11 := fun mw : InW (fun w' => Below w1.heap.size w1 w') => (HX.on mw.h).cell 11 rfl
      have k12 := fun mw : InW (fun w' => Below w1.heap.size w1 w') => (HX.on mw.h).cell 12 rfl
      have k13 := fun mw : InW (fun w' => Below w1.heap.size w1 w') => (HX.on mw.h).cell 13 rfl
      clear HX
      repeat (go_big_quiet_step (first
        | (go_at_call 27; (with_reducible refine (HV3.out _).mono ?_); rintro e w3 ⟨rfl, hb3⟩; exact ⟨rfl, ⟨w3, inw_more8 _ hb3⟩, rfl⟩)
        | (go_at_call 27; (with_reducible refine (HV4.out _).mono ?_); rintro e w3 ⟨rfl, hb3⟩; exact ⟨rfl, ⟨w3, inw_more8 _ hb3⟩, rfl⟩)))
      refine wpQuiet_nil ?_
      intro _ hw'
      obtain ⟨nq2, hw''⟩ := hw'
      subst hw''
      have HB3 := hide (HB2.out.trans (nq2.h.mono HB2.out.size))
      clear k0 k1 k2 k3 k4 k5 k6 k7 k8 k9 k10 k11 k12 k13 hne f3 f4
      generalize nq2.w = w2 at HB3 ⊢
      go_wp2_with fail
      go_ret2
      exact ⟨by rw [e4]; rfl, HB3.out⟩
    have b2 : (op == 2) = false := by simpa using o2
    have b3 : (op == 3) = false := by simpa using o3
    have b4 : (op == 4) = false := by simpa using o4
    go_wp2_with fail
    go_ret2
    exact ⟨by rw [E5.out o2 o3 o4]; rfl, HB2.out⟩

end Go.Proofs.YtckkfjmjcknjdaaGreatDoor
