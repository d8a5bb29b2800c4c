/-
  Walks and mathematics of LawDecode.
-/
import Derived.Test.YtmllcomppjkhhaaDoorQdMsg14
import Derived.Test.YtmllcomppjkhhaaDoorQdMsgK
import Derived.LaidMore
namespace Go.Proofs.YtmllcomppjkhhaaDoor.P18
end Go.Proofs.YtmllcomppjkhhaaDoor.P18
namespace Go.Proofs.YtmllcomppjkhhaaDoor.P3
end Go.Proofs.YtmllcomppjkhhaaDoor.P3
namespace Go.Proofs.YtmllcomppjkhhaaDoor
open Go.RowKit P1 P3 P9 P11 P12 P18 K
set_option linter.unusedVariables false
set_option linter.unusedSimpArgs false

set_option maxRecDepth 20000 in
set_option maxHeartbeats 8000000 in
theorem FnExactDecode_walk (a0 : ByteArray) (w0 : a0.size ≤ maxLen) (w : World) (hL : laidMetH Tryd.prog Rows.fnExactDecodeRow.laid w) :
    Calls Tryd.prog 5 #[.string a0] w fun e w' => e = .returned (.bool true) ∧ Below w.heap.size w w' := by
  have HLIM := hide (lims_of_laid (by kernel_rfl) (by kernel_rfl) hL)
  clear hL
  unfold maxLen at w0
  by_cases hbig : 1048576 < a0.size
  · go_enter Tryd.func5, Tryd.ntmps5
    go_wp2_with fail
    go_ret
    exact ⟨rfl, Below.refl _ _⟩
  · have hs : a0.size ≤ 1048576 := by omega
    clear w0
    obtain ⟨hl4, hm4, hwp⟩ := md_small (bl a0)
    have HSP := hide (fun w => specDecode_any a0 hs w)
    have HIM := hide (fun w h => implDecode_any a0 hs w h)
    unfold MdPost at HSP HIM
    obtain ⟨mv, okb, hjr⟩ : ∃ mv okb, mdR (bl a0) = (mv, okb) := ⟨_, _, rfl⟩
    obtain ⟨kd, fr, to, tm, ix, lt, cm, ok, es, zs, da, la⟩ := mv
    rw [hjr] at hl4 hm4 HSP HIM hwp
    simp only at hl4 hm4 HSP HIM hwp
    clear hjr
    obtain ⟨N, hN⟩ : ∃ N, es.length = N := ⟨_, rfl⟩
    obtain ⟨M, hM⟩ : ∃ M, zs.length = M := ⟨_, rfl⟩
    rw [hN] at hl4 HSP HIM
    rw [hM] at hm4 HSP HIM
    have HWP := hide hwp
    clear hN hM hwp
    go_enter Tryd.func5, Tryd.ntmps5
    go_wp2_with fail
    refine (HSP.out _).mono ?_
    rintro e w1 ⟨vl0, vp0, rfl, ho0, hb0⟩
    obtain ⟨oa0, cl0, hvl0⟩ := row_form ho0.l
    obtain ⟨ob0, cp0, hvp0⟩ := row_form ho0.p
    subst hvl0
    subst hvp0
    have hk0 := KE15.new #[.int .i64 kd, .int .i64 fr, .int .i64 to, .int .i64 tm, .int .i64 ix, .int .i64 lt, .int .i64 cm, .bool ok, .slice oa0 N cl0, .slice ob0 M cp0, .string ⟨da.toArray⟩, .bool la] ho0
    have hbn0 := (Below.refl w1.heap.size w1).alloc (Nat.le_refl _) (.cells #[.int .i64 kd, .int .i64 fr, .int .i64 to, .int .i64 tm, .int .i64 ix, .int .i64 lt, .int .i64 cm, .bool ok, .slice oa0 N cl0, .slice ob0 M cp0, .string ⟨da.toArray⟩, .bool la] 30)
    have hbb0 := hb0.trans (hbn0.mono hb0.size)
    have HK0 := hide hk0
    have B2 := hide hbb0
    have sz2 : (w1.alloc (.cells #[.int .i64 kd, .int .i64 fr, .int .i64 to, .int .i64 tm, .int .i64 ix, .int .i64 lt, .int .i64 cm, .bool ok, .slice oa0 N cl0, .slice ob0 M cp0, .string ⟨da.toArray⟩, .bool la] 30)).heap.size = w1.heap.size + 1 := by simp
    clear ho0 hb0 hk0 hbn0 hbb0
    go_wp2_with fail
    generalize w1.alloc (.cells #[.int .i64 kd, .int .i64 fr, .int .i64 to, .int .i64 tm, .int .i64 ix, .int .i64 lt, .int .i64 cm, .bool ok, .slice oa0 N cl0, .slice ob0 M cp0, .string ⟨da.toArray⟩, .bool la] 30) = w2 at HK0 B2 sz2 ⊢
    refine (HIM.out _ (HLIM.out.on B2.out)).mono ?_
    rintro e w3 ⟨vl1, vp1, rfl, ho1, hb1⟩
    obtain ⟨oa1, cl1, hvl1⟩ := row_form ho1.l
    obtain ⟨ob1, cp1, hvp1⟩ := row_form ho1.p
    subst hvl1
    subst hvp1
    have hk1 := KE15.new #[.int .i64 kd, .int .i64 fr, .int .i64 to, .int .i64 tm, .int .i64 ix, .int .i64 lt, .int .i64 cm, .bool ok, .slice oa1 N cl1, .slice ob1 M cp1, .string ⟨da.toArray⟩, .bool la] ho1
    have hbn1 := (Below.refl w3.heap.size w3).alloc (Nat.le_refl _) (.cells #[.int .i64 kd, .int .i64 fr, .int .i64 to, .int .i64 tm, .int .i64 ix, .int .i64 lt, .int .i64 cm, .bool ok, .slice oa1 N cl1, .slice ob1 M cp1, .string ⟨da.toArray⟩, .bool la] 30)
    have hbb1 := hb1.trans (hbn1.mono hb1.size)
    have HK04 := hide (HK0.out.on hbb1)
    have B4 := hide (B2.out.trans (hbb1.mono B2.out.size))
    have HK1 := hide hk1
    have hs3 := hb1.size
    have hs4 := hbb1.size
    clear ho1 hb1 hk1 hbn1 hbb1 HK0
    obtain ⟨x0, x1, x2, x3, x4, x5, x6, x7, x8, x9, x10, x11⟩ := xs12 HK1.out.blk
    obtain ⟨y0, y1, y2, y3, y4, y5, y6, y7, y8, y9, y10, y11⟩ := xs12 HK04.out.blk
    go_wp2_with fail
    generalize w3.alloc (.cells #[.int .i64 kd, .int .i64 fr, .int .i64 to, .int .i64 tm, .int .i64 ix, .int .i64 lt, .int .i64 cm, .bool ok, .slice oa1 N cl1, .slice ob1 M cp1, .string ⟨da.toArray⟩, .bool la] 30) = w4 at HK1 HK04 B4 hs4 x0 x1 x2 x3 x4 x5 x6 x7 x8 x9 x10 x11 y0 y1 y2 y3 y4 y5 y6 y7 y8 y9 y10 y11 ⊢
    obtain ⟨_, _, heX, hatA⟩ := entsAt_own HK1.out.own.l
    cases heX
    obtain ⟨_, _, heX, hbtA⟩ := intsAt_of_own HK1.out.own.p HWP.out
    cases heX
    obtain ⟨_, _, heX, hatB⟩ := entsAt_own HK04.out.own.l
    cases heX
    obtain ⟨_, _, heX, hbtB⟩ := intsAt_of_own HK04.out.own.p HWP.out
    cases heX
    refine (eqMessage_same kd fr to tm ix lt cm ok _ N _ _ M _ da la es zs _ _ _ _ (by omega) (by omega) _ hatA hatB hbtA hbtB).mono ?_
    rintro e w5 ⟨rfl, hbq⟩
    have HK15 := hide (HK1.out.on hbq)
    have HK05 := hide (HK04.out.on hbq)
    have B5 := hide (B4.out.trans (hbq.mono B4.out.size))
    clear hbq hatA hatB hbtA hbtB HK1 HK04 B4 x0 x1 x2 x3 x4 x5 x6 x7 x8 x9 x10 x11 y0 y1 y2 y3 y4 y5 y6 y7 y8 y9 y10 y11
    obtain ⟨x0, x1, x2, x3, x4, x5, x6, x7, x8, x9, x10, x11⟩ := xs12 HK15.out.blk
    have hsz5 := B5.out.size
    have hlt5 := HK05.out.blk.lt
    have hlt15 := HK15.out.blk.lt
    go_wp2_with fail
    clear x0 x1 x2 x3 x4 x5 x6 x7 x8 x9 x10 x11
    refine (markMessage_keep kd fr to tm ix lt cm ok la da _ _ N M w2.heap.size 1 es zs (by omega) (by omega) (by omega) w5 (by omega) HK15.out.own).mono ?_
    rintro e w6 ⟨rfl, hm6, hb6, hx6⟩
    have HK16 := hide (HK15.out.marked hm6 hx6)
    have HK06 := hide (HK05.out.low hb6 (by omega))
    have B6 := hide (B5.out.trans (hb6.mono (by have := B2.out.size; omega)))
    clear hm6 hb6 hx6 HK15 HK05 B5 hsz5 hlt5 hlt15
    obtain ⟨x0, x1, x2, x3, x4, x5, x6, x7, x8, x9, x10, x11⟩ := xs12 HK16.out.blk
    go_wp2_with fail
    clear x0 x1 x2 x3 x4 x5 x6 x7 x8 x9 x10 x11
    refine (heldMessage_any kd fr to tm ix lt cm ok la da _ _ N M w2.heap.size 1 (by omega) (by omega) (by omega) _ HK16.out.own).mono ?_
    rintro e w7 ⟨rfl, hbq⟩
    have HK17 := hide (HK16.out.on hbq)
    have HK07 := hide (HK06.out.on hbq)
    have B7 := hide (B6.out.trans (hbq.mono B6.out.size))
    clear hbq HK16 HK06 B6
    go_wp2_with fail
    refine (HIM.out _ (HLIM.out.on B7.out)).mono ?_
    rintro e w8 ⟨vl8, vp8, rfl, ho8, hb8⟩
    obtain ⟨oa8, cl8, hvl8⟩ := row_form ho8.l
    obtain ⟨ob8, cp8, hvp8⟩ := row_form ho8.p
    subst hvl8
    subst hvp8
    have hk8 := KE15.new #[.int .i64 kd, .int .i64 fr, .int .i64 to, .int .i64 tm, .int .i64 ix, .int .i64 lt, .int .i64 cm, .bool ok, .slice oa8 N cl8, .slice ob8 M cp8, .string ⟨da.toArray⟩, .bool la] ho8
    have hbn8 := (Below.refl w8.heap.size w8).alloc (Nat.le_refl _) (.cells #[.int .i64 kd, .int .i64 fr, .int .i64 to, .int .i64 tm, .int .i64 ix, .int .i64 lt, .int .i64 cm, .bool ok, .slice oa8 N cl8, .slice ob8 M cp8, .string ⟨da.toArray⟩, .bool la] 30)
    have hbb8 := hb8.trans (hbn8.mono hb8.size)
    have HK19 := hide (HK17.out.on hbb8)
    have HK09 := hide (HK07.out.on hbb8)
    have B9 := hide (B7.out.trans (hbb8.mono B7.out.size))
    have HK8 := hide hk8
    clear ho8 hb8 hk8 hbn8 hbb8 HK17 HK07 B7
    obtain ⟨x0, x1, x2, x3, x4, x5, x6, x7, x8, x9, x10, x11⟩ := xs12 HK8.out.blk
    obtain ⟨y0, y1, y2, y3, y4, y5, y6, y7, y8, y9, y10, y11⟩ := xs12 HK09.out.blk
    go_wp2_with fail
    generalize w8.alloc (.cells #[.int .i64 kd, .int .i64 fr, .int .i64 to, .int .i64 tm, .int .i64 ix, .int .i64 lt, .int .i64 cm, .bool ok, .slice oa8 N cl8, .slice ob8 M cp8, .string ⟨da.toArray⟩, .bool la] 30) = w9 at HK8 HK19 HK09 B9 x0 x1 x2 x3 x4 x5 x6 x7 x8 x9 x10 x11 y0 y1 y2 y3 y4 y5 y6 y7 y8 y9 y10 y11 ⊢
    obtain ⟨_, _, heX, hatA⟩ := entsAt_own HK8.out.own.l
    cases heX
    obtain ⟨_, _, heX, hbtA⟩ := intsAt_of_own HK8.out.own.p HWP.out
    cases heX
    obtain ⟨_, _, heX, hatB⟩ := entsAt_own HK09.out.own.l
    cases heX
    obtain ⟨_, _, heX, hbtB⟩ := intsAt_of_own HK09.out.own.p HWP.out
    cases heX
    refine (eqMessage_same kd fr to tm ix lt cm ok _ N _ _ M _ da la es zs _ _ _ _ (by omega) (by omega) _ hatA hatB hbtA hbtB).mono ?_
    rintro e w10 ⟨rfl, hbq⟩
    have HK110 := hide (HK19.out.on hbq)
    have B10 := hide (B9.out.trans (hbq.mono B9.out.size))
    clear hbq hatA hatB hbtA hbtB HK19 HK8 HK09 B9 x0 x1 x2 x3 x4 x5 x6 x7 x8 x9 x10 x11 y0 y1 y2 y3 y4 y5 y6 y7 y8 y9 y10 y11
    obtain ⟨x0, x1, x2, x3, x4, x5, x6, x7, x8, x9, x10, x11⟩ := xs12 HK110.out.blk
    go_wp2_with fail
    clear x0 x1 x2 x3 x4 x5 x6 x7 x8 x9 x10 x11
    refine (heldMessage_any kd fr to tm ix lt cm ok la da _ _ N M w2.heap.size 1 (by omega) (by omega) (by omega) _ HK110.out.own).mono ?_
    rintro e w11 ⟨rfl, hbq⟩
    have B11 := hide (B10.out.trans (hbq.mono B10.out.size))
    clear hbq  B10
    go_wp2_with fail
    go_ret
    exact ⟨rfl, B11.out⟩

end Go.Proofs.YtmllcomppjkhhaaDoor
