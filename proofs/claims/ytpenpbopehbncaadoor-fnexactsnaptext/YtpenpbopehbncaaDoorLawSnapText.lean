/-
  The law FnExactSnapText: its walk.
-/
import Derived.Test.YtpenpbopehbncaaDoorSnap3
import Derived.Test.YtpenpbopehbncaaDoorWalk8c
import Derived.Test.YtpenpbopehbncaaDoorSumTab
import Derived.Deep.RegionHeld3
namespace Go.Proofs.YtpenpbopehbncaaDoor
open Go.RowKit P1 P3 P9 P11 K
set_option linter.unusedVariables false
set_option linter.unusedSimpArgs false

theorem szS_fine {n m : Nat} (h : ¬ szS n m 1048576 < 0) : n ≤ 1048576 ∧ m ≤ 1048576 := by
  unfold szS at h
  split at h <;> omega

set_option maxHeartbeats 4000000 in
theorem FnExactSnapText_walk (i t : Int) (oa : Option Addr) (n cap : Nat) (zs : List Int) (b : List UInt8) (w : World) (hat : IntsAt w oa n cap zs) (hbw : b.length ≤ maxLen) (wi : (Lit.int .i64 i).wf = true) (wt : (Lit.int .i64 t).wf = true) (hL : laidMetH Tryd.prog Rows.fnExactSnapTextRow.laid w) :
    Calls Tryd.prog 4 #[.agg #[.int .i64 i, .int .i64 t, .slice oa n cap, .string ⟨b.toArray⟩]] w fun e w' => e = .returned (.bool true) ∧ Below w.heap.size w w' := by
  have hb0 := (Below.refl w.heap.size w).alloc (Nat.le_refl _) (.cells #[.int .i64 i, .int .i64 t, .slice oa n cap, .string ⟨b.toArray⟩] 26)
  have HSZ := hide (szSnap_any i t oa n cap b (Nat.le_trans hat.room hat.most) hbw 1048576 (by omega) (by omega))
  have HAT := hide hat
  have HB0 := hide hb0
  have HTB := hide (sums_of_laid (by kernel_rfl) hL)
  clear hL wi wt
  by_cases c : szS n b.length 1048576 < 0
  · generalize szS n b.length 1048576 = z at c HSZ
    clear hat hb0 hbw
    go_enter Tryd.func4, Tryd.ntmps4
    go_wp2_with fail
    refine (HSZ.out _).mono ?_
    rintro e w1 ⟨rfl, hb1⟩
    go_wp2_with fail
    go_ret
    exact ⟨rfl, HB0.out.trans (hb1.mono (by simp))⟩
  · obtain ⟨hn20, hb20⟩ := szS_fine c
    generalize szS n b.length 1048576 = z at c HSZ
    have HTO := hide (fun w hat => toSnap_any i t oa n cap zs b hn20 w hat)
    clear hat hb0 hbw
    obtain ⟨r0, r1, hr⟩ : ∃ r0 r1, stVal (snText i t zs b) = .tuple #[.string r0, .bool r1] := by unfold stVal; split <;> exact ⟨_, _, rfl⟩
    have HST := hide (fun (oa : Option Addr) (cap : Nat) w hat => specSnapText_any i t oa n cap zs b hb20 w hat)
    have HIT := hide (fun (oa : Option Addr) (cap : Nat) w hat => implSnapText_any i t oa n cap zs b hb20 w hat)
    rw [hr] at HST HIT
    clear hr
    have q0 : (r0.toList == r0.toList) = true := by simp
    go_enter Tryd.func4, Tryd.ntmps4
    go_wp2_with fail
    refine (HSZ.out _).mono ?_
    rintro e w1 ⟨rfl, hb1⟩
    have B1 := hide (HB0.out.trans (hb1.mono (by simp)))
    have L1 := hide ((SV.new w i t (.slice oa n cap) b 26).on hb1)
    obtain ⟨p0, p1, p2, p3⟩ := L1.out
    clear hb1
    go_wp2_with fail
    refine (HTO.out _ (HAT.out.below B1.out)).mono ?_
    rintro e w2 ⟨g2, rfl, hown2, hb2⟩
    have B2 := hide (B1.out.trans (hb2.mono B1.out.size))
    have L2 := hide (L1.out.on hb2)
    obtain ⟨_, _, he, hat2⟩ := intsAt_of_own hown2 HAT.out.fits
    cases he
    have HA2 := hide hat2
    clear hb2 hown2 hat2 p0 p1 p2 p3 L1
    go_wp2_with fail
    refine (HST.out _ _ _ HA2.out).mono ?_
    rintro e w3 ⟨rfl, hb3⟩
    have B3 := hide (B2.out.trans (hb3.mono B2.out.size))
    have L3 := hide (L2.out.on hb3)
    obtain ⟨p0, p1, p2, p3⟩ := L3.out
    clear hb3 L2 HA2
    go_wp2_with fail
    refine (HTO.out _ (HAT.out.below B3.out)).mono ?_
    rintro e w4 ⟨g4, rfl, hown4, hb4⟩
    have B4 := hide (B3.out.trans (hb4.mono B3.out.size))
    have L4 := hide (L3.out.on hb4)
    have HO4 := hide hown4
    clear hb4 hown4 p0 p1 p2 p3 L3
    go_wp2_with fail
    have hb5 := (Below.refl w4.heap.size w4).alloc (Nat.le_refl _) (.cells #[.int .i64 i, .int .i64 t, .slice (some ⟨g4, 0, none⟩) n n, .string ⟨b.toArray⟩] 30)
    obtain ⟨_, _, he, hat5⟩ := intsAt_of_own (own_below HO4.out hb5) HAT.out.fits
    cases he
    have HA5 := hide hat5
    have HB5 := hide hb5
    clear hat5 hb5
    refine (HIT.out _ _ _ HA5.out (tab_below HTB.out (B4.out.trans (HB5.out.mono B4.out.size)))).mono ?_
    rintro e w6 ⟨rfl, hb6⟩
    have hb46 := HB5.out.trans (hb6.mono (by simp))
    have B6 := hide (B4.out.trans (hb46.mono B4.out.size))
    have L6 := hide (L4.out.on hb46)
    have X6 := hide ((SV.new w4 i t (.slice (some ⟨g4, 0, none⟩) n n) b 30).on hb6)
    have HA6 := hide (HA5.out.below hb6)
    have hb4 := L4.out.lt
    clear hb6 hb46 HA5 HB5 L4 HO4
    go_wp2_with fail
    have k0 : ∀ w', SV w' w.heap.size i t (.slice oa n cap) b ∧ SV w' w4.heap.size i t (.slice (some ⟨g4, 0, none⟩) n n) b → w'.cell? ⟨w.heap.size, 0, none⟩ = some (.int .i64 i) := fun w' h => h.1.c0
    have m0 : ∀ w', SV w' w.heap.size i t (.slice oa n cap) b ∧ SV w' w4.heap.size i t (.slice (some ⟨g4, 0, none⟩) n n) b → w'.cell? ⟨w4.heap.size, 0, none⟩ = some (.int .i64 i) := fun w' h => h.2.c0
    have k1 : ∀ w', SV w' w.heap.size i t (.slice oa n cap) b ∧ SV w' w4.heap.size i t (.slice (some ⟨g4, 0, none⟩) n n) b → w'.cell? ⟨w.heap.size, 1, none⟩ = some (.int .i64 t) := fun w' h => h.1.c1
    have m1 : ∀ w', SV w' w.heap.size i t (.slice oa n cap) b ∧ SV w' w4.heap.size i t (.slice (some ⟨g4, 0, none⟩) n n) b → w'.cell? ⟨w4.heap.size, 1, none⟩ = some (.int .i64 t) := fun w' h => h.2.c1
    have k2 : ∀ w', SV w' w.heap.size i t (.slice oa n cap) b ∧ SV w' w4.heap.size i t (.slice (some ⟨g4, 0, none⟩) n n) b → w'.cell? ⟨w.heap.size, 2, none⟩ = some (.slice oa n cap) := fun w' h => h.1.c2
    have m2 : ∀ w', SV w' w.heap.size i t (.slice oa n cap) b ∧ SV w' w4.heap.size i t (.slice (some ⟨g4, 0, none⟩) n n) b → w'.cell? ⟨w4.heap.size, 2, none⟩ = some (.slice (some ⟨g4, 0, none⟩) n n) := fun w' h => h.2.c2
    have k3 : ∀ w', SV w' w.heap.size i t (.slice oa n cap) b ∧ SV w' w4.heap.size i t (.slice (some ⟨g4, 0, none⟩) n n) b → w'.cell? ⟨w.heap.size, 3, none⟩ = some (.string ⟨b.toArray⟩) := fun w' h => h.1.c3
    have m3 : ∀ w', SV w' w.heap.size i t (.slice oa n cap) b ∧ SV w' w4.heap.size i t (.slice (some ⟨g4, 0, none⟩) n n) b → w'.cell? ⟨w4.heap.size, 3, none⟩ = some (.string ⟨b.toArray⟩) := fun w' h => h.2.c3
    go_region_held3 (fun w' => SV w' w.heap.size i t (.slice oa n cap) b ∧ SV w' w4.heap.size i t (.slice (some ⟨g4, 0, none⟩) n n) b) (first | exact ⟨L6.out.drew, X6.out.drew⟩ | exact ⟨L6.out.drew.on hb7, X6.out.drew.on hb7⟩ | exact ⟨(L6.out.drew.on hb7).on hb8, (X6.out.drew.on hb7).on hb8⟩)
      (first
        | (go_at_call 13; refine (HTO.out _ (HAT.out.below B6.out.drew)).mono ?_; rintro e w7 ⟨g7, rfl, hown7, hb7⟩; obtain ⟨oa7, cap7, he7, hat7⟩ := intsAt_of_own hown7 HAT.out.fits; cases he7; have HAT7 := hide hat7; clear hown7 hat7)
        | (go_at_call 15; refine (eqSnap_same i t _ n _ _ _ zs b hn20 _ ((HA6.out.below (Below.refl _ _).drew).below hb7) HAT7.out).mono ?_; rintro e w8 ⟨rfl, hb8⟩))
    have B8 : Below w.heap.size w w8 := (B6.out.drew.trans (hb7.mono (by simpa using B6.out.size))).trans (hb8.mono (Nat.le_trans (by simpa using B6.out.size) hb7.size))
    clear hb7 hb8 k0 m0 k1 m1 k2 m2 k3 m3
    go_wp2_with fail
    go_ret
    exact ⟨rfl, B8⟩

end Go.Proofs.YtpenpbopehbncaaDoor
