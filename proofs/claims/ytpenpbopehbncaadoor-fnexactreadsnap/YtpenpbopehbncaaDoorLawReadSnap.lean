/-
  The law FnExactReadSnap: its walk.
-/
import Derived.Test.YtpenpbopehbncaaDoorWalk8g
import Derived.Test.YtpenpbopehbncaaDoorSnap4
import Derived.Test.YtpenpbopehbncaaDoorSumTab
namespace Go.Proofs.YtpenpbopehbncaaDoor
open Go.RowKit P1 P3 P9 P11 K
set_option linter.unusedVariables false
set_option linter.unusedSimpArgs false

set_option maxHeartbeats 8000000 in
theorem FnExactReadSnap_walk (a0 : ByteArray) (w0 : a0.size ≤ maxLen) (w : World) (hL : laidMetH Tryd.prog Rows.fnExactReadSnapRow.laid w) :
    Calls Tryd.prog 5 #[.string a0] w fun e w' => e = .returned (.bool true) ∧ Below w.heap.size w w' := by
  unfold maxLen at w0
  have HT := hide (sums_of_laid (by kernel_rfl) hL)
  clear hL
  by_cases hbig : 1048576 < a0.size
  · go_enter Tryd.func5, Tryd.ntmps5
    go_wp2_with fail
    go_ret
    exact ⟨rfl, Below.refl _ _⟩
  · have hs : a0.size ≤ 1048576 := by omega
    clear w0
    obtain ⟨hlen, hfit⟩ := rs_small (bl a0)
    have HSP := hide (fun w => specReadSnap_any a0 hs w)
    have HIM := hide (fun w ht => implReadSnap_any a0 hs w ht)
    unfold RsPost at HSP HIM
    obtain ⟨i, t, zs, b, ok, hjr⟩ : ∃ i t zs b ok, rsR (bl a0) = (i, t, zs, b, ok) := ⟨_, _, _, _, _, rfl⟩
    rw [hjr] at hlen HSP HIM hfit
    simp only at hlen HSP HIM hfit
    clear hjr
    obtain ⟨N, hN⟩ : ∃ N, zs.length = N := ⟨_, rfl⟩
    rw [hN] at hlen HSP HIM
    have HFIT := hide hfit
    clear hN hfit
    go_enter Tryd.func5, Tryd.ntmps5
    go_wp2_with fail
    refine (HSP.out _).mono ?_
    rintro e w1 ⟨v0, rfl, ho1, hb1⟩
    obtain ⟨oa0, cap0, hv0⟩ := own_slice ho1
    subst hv0
    have hk1 := KS.new (i := i) (t := t) (s := b) ho1
    have hb2 := hb1.alloc hb1.size (.cells (sncells i t (.slice oa0 N cap0) b) 30)
    have HK1 := hide hk1
    have B2 := hide hb2
    have sz2 : (w1.alloc (.cells (sncells i t (.slice oa0 N cap0) b) 30)).heap.size = w1.heap.size + 1 := by simp
    clear ho1 hb1 hk1 hb2
    go_wp2_with fail
    generalize w1.alloc (.cells #[.int .i64 i, .int .i64 t, .slice oa0 N cap0, .string ⟨b.toArray⟩] 30) = w2 at HK1 B2 sz2 ⊢
    refine (HIM.out _ (tab_below HT.out B2.out)).mono ?_
    rintro e w3 ⟨v1, rfl, ho3, hb3⟩
    obtain ⟨oa1, cap1, hv1⟩ := own_slice ho3
    subst hv1
    have hk3 := KS.new (i := i) (t := t) (s := b) ho3
    have hb34 := (Below.refl w3.heap.size w3).alloc (Nat.le_refl _) (.cells (sncells i t (.slice oa1 N cap1) b) 30)
    have hk1' := (HK1.out.on hb3).on hb34
    have B4 := hide (B2.out.trans ((hb3.trans (hb34.mono hb3.size)).mono B2.out.size))
    have HK3 := hide hk3
    have HK14 := hide hk1'
    have hs3 := hb3.size
    clear ho3 hb3 hb34 hk3 hk1' HK1
    obtain ⟨x0, x1, x2, x3⟩ := HK3.out.blk.sv
    obtain ⟨y0, y1, y2, y3⟩ := HK14.out.blk.sv
    go_wp2_with fail
    generalize w3.alloc (.cells #[.int .i64 i, .int .i64 t, .slice oa1 N cap1, .string ⟨b.toArray⟩] 30) = w4 at HK3 HK14 B4 x0 x1 x2 x3 y0 y1 y2 y3 ⊢
    obtain ⟨_, _, he3, hat3⟩ := intsAt_of_own HK3.out.own HFIT.out
    cases he3
    obtain ⟨_, _, he1, hat1⟩ := intsAt_of_own HK14.out.own HFIT.out
    cases he1
    refine (eqSnap_same i t _ N _ _ _ zs b (by omega) _ hat3 hat1).mono ?_
    rintro e w5 ⟨rfl, hb5⟩
    have HK35 := hide (HK3.out.on hb5)
    have HK15 := hide (HK14.out.on hb5)
    have B5 := hide (B4.out.trans (hb5.mono B4.out.size))
    clear hb5 hat3 hat1 HK3 HK14 B4 x0 x1 x2 x3 y0 y1 y2 y3
    obtain ⟨x0, x1, x2, x3⟩ := HK35.out.blk.sv
    go_wp2_with fail
    refine (markSnap_any i t _ b N _ 1 (by omega) (by omega) w5 _ HK35.out.own).mono ?_
    rintro e w6 ⟨rfl, ho6, hg6⟩
    have hpart := HK15.out.part HK35.out (by omega)
    have HK36 := hide (HK35.out.marked ho6 hg6)
    have HK16 := hide (HK15.out.kept HK35.out.own (by decide) hg6 hpart)
    have B6 := hide (below_own8 B5.out B5.out.size B2.out.size HK35.out.own hg6)
    clear ho6 hg6 HK35 HK15 B5 x0 x1 x2 x3 hpart
    obtain ⟨x0, x1, x2, x3⟩ := HK36.out.blk.sv
    have HM := hide (marksI_wf 1 N (by omega) (by omega))
    go_wp2_with fail
    obtain ⟨_, _, he6, hat6⟩ := intsAt_of_own HK36.out.own HM.out
    cases he6
    refine (heldSnap_any i t _ b N _ 1 (by omega) (by omega) _ hat6).mono ?_
    rintro e w7 ⟨rfl, hb7⟩
    have HK37 := hide (HK36.out.on hb7)
    have HK17 := hide (HK16.out.on hb7)
    have B7 := hide (B6.out.trans (hb7.mono B6.out.size))
    clear hb7 hat6 HK36 HK16 B6 x0 x1 x2 x3
    go_wp2_with fail
    refine (HIM.out _ (tab_below HT.out B7.out)).mono ?_
    rintro e w8 ⟨v8, rfl, ho8, hb8⟩
    obtain ⟨oa8, cap8, hv8⟩ := own_slice ho8
    subst hv8
    have hk8 := KS.new (i := i) (t := t) (s := b) ho8
    have hb89 := (Below.refl w8.heap.size w8).alloc (Nat.le_refl _) (.cells (sncells i t (.slice oa8 N cap8) b) 30)
    have HK39 := hide ((HK37.out.on hb8).on hb89)
    have HK19 := hide ((HK17.out.on hb8).on hb89)
    have B9 := hide (B7.out.trans ((hb8.trans (hb89.mono hb8.size)).mono B7.out.size))
    have HK8 := hide hk8
    clear ho8 hb8 hb89 hk8 HK37 HK17 B7
    obtain ⟨x0, x1, x2, x3⟩ := HK8.out.blk.sv
    obtain ⟨y0, y1, y2, y3⟩ := HK19.out.blk.sv
    go_wp2_with fail
    generalize w8.alloc (.cells #[.int .i64 i, .int .i64 t, .slice oa8 N cap8, .string ⟨b.toArray⟩] 30) = w9 at HK8 HK39 HK19 B9 x0 x1 x2 x3 y0 y1 y2 y3 ⊢
    obtain ⟨_, _, he8, hat8⟩ := intsAt_of_own HK8.out.own HFIT.out
    cases he8
    obtain ⟨_, _, he1, hat1⟩ := intsAt_of_own HK19.out.own HFIT.out
    cases he1
    refine (eqSnap_same i t _ N _ _ _ zs b (by omega) _ hat8 hat1).mono ?_
    rintro e w10 ⟨rfl, hb10⟩
    have HK310 := hide (HK39.out.on hb10)
    have B10 := hide (B9.out.trans (hb10.mono B9.out.size))
    clear hb10 hat8 hat1 HK8 HK39 HK19 B9 x0 x1 x2 x3 y0 y1 y2 y3
    obtain ⟨x0, x1, x2, x3⟩ := HK310.out.blk.sv
    go_wp2_with fail
    obtain ⟨_, _, he10, hat10⟩ := intsAt_of_own HK310.out.own HM.out
    cases he10
    refine (heldSnap_any i t _ b N _ 1 (by omega) (by omega) _ hat10).mono ?_
    rintro e w11 ⟨rfl, hb11⟩
    have B11 := hide (B10.out.trans (hb11.mono B10.out.size))
    clear hb11 hat10 HK310 B10 x0 x1 x2 x3
    go_wp2_with fail
    go_ret
    exact ⟨rfl, B11.out⟩

end Go.Proofs.YtpenpbopehbncaaDoor
