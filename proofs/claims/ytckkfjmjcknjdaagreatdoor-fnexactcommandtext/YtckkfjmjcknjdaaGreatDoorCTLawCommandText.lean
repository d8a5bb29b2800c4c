/-
  Walks and mathematics of LawCommandText.
-/
import Derived.Test.YtckkfjmjcknjdaaGreatDoorCTComm8
import Derived.Test.YtckkfjmjcknjdaaGreatDoorCTText3
import Derived.LaidMore
import Derived.Deep.RegionHeld3
namespace Go.Proofs.YtckkfjmjcknjdaaGreatDoor.P3
end Go.Proofs.YtckkfjmjcknjdaaGreatDoor.P3
namespace Go.Proofs.YtckkfjmjcknjdaaGreatDoor
open Go.RowKit P1 P3 P9 P11 P12 P18 K
set_option linter.unusedVariables false
set_option linter.unusedSimpArgs false

theorem szV_fine_CommandText {n k m : Nat} (h : ¬ szV n k m 1048576 < 0) : n ≤ 1048576 ∧ k ≤ 1048576 ∧ m ≤ 1048576 := by
  unfold szV at h
  split at h <;> omega

set_option maxRecDepth 20000 in
set_option maxHeartbeats 16000000 in
theorem FnExactCommandText_walk (op tk sq id kd sn us mb dp : Int) (oa : Option Addr) (n cl : Nat) (tx : List UInt8) (ob : Option Addr) (m cp : Nat) (zl zp : List Int) (ds up : Int) (w : World) (hat : IntsAt w oa n cl zl) (hbt : IntsAt w ob m cp zp) (hxw : tx.length ≤ maxLen) (hL : laidMetH Tryz.prog Rows.fnExactCommandTextRow.laid w) :
    Calls Tryz.prog 4 #[cmval op tk sq id kd sn us mb dp (.slice oa n cl) (.slice ob m cp) tx ds up] w fun e w' => e = .returned (.bool true) ∧ Below w.heap.size w w' := by
  clear hL
  have hb0 := (Below.refl w.heap.size w).alloc (Nat.le_refl _) (.cells #[.int .i64 op, .int .i64 tk, .int .i64 sq, .int .i64 id, .int .i64 kd, .int .i64 sn, .int .i64 us, .int .i64 mb, .slice oa n cl, .string ⟨tx.toArray⟩, .slice ob m cp, .int .i64 dp, .int .i64 ds, .int .i64 up] 26)
  have HSZ := hide (fun w => szCommand_any op tk sq id kd sn us mb dp oa n cl tx ob m cp ds up (Nat.le_trans hat.room hat.most) hxw (Nat.le_trans hbt.room hbt.most) 1048576 (by omega) (by omega) w)
  have HAT := hide hat
  have HBT := hide hbt
  have HB0 := hide hb0
  by_cases c : szV n tx.length m 1048576 < 0
  · generalize szV n tx.length m 1048576 = z at c HSZ
    clear hat hbt hb0 hxw
    go_enter Tryz.func4, Tryz.ntmps4
    go_wp2_with fail
    refine (HSZ.out _).mono ?_
    rintro e w1 ⟨rfl, hb1⟩
    go_wp2_with fail
    go_ret
    exact ⟨rfl, HB0.out.trans (hb1.mono (by simp))⟩
  · obtain ⟨hn20, hx20, hm20⟩ := szV_fine_CommandText c
    generalize szV n tx.length m 1048576 = z at c HSZ
    have HTO := hide (fun w hat hbt => toCommand_any op tk sq id kd sn us mb dp oa n cl tx ob m cp ds up zl zp hn20 hm20 w hat hbt)
    clear hat hbt hb0 hxw
    have HSP := hide (fun (oa : Option Addr) (cl : Nat) (ob : Option Addr) (cp : Nat) w hat hbt => specCommandText_any op tk sq id kd sn us mb dp oa n cl tx ob m cp ds up zl zp hx20 w hat hbt)
    have HIM := hide (fun (oa : Option Addr) (cl : Nat) (ob : Option Addr) (cp : Nat) w hat hbt => implCommandText_any op tk sq id kd sn us mb dp oa n cl tx ob m cp ds up zl zp hx20 w hat hbt)
    obtain ⟨r0, r1, hr⟩ : ∃ r0 r1, etV (cmdText (⟨op, tk, sq, ⟨id, kd, sn, us, mb, zl, tx, zp, dp⟩, ds, up⟩ : CmdV)) = .tuple #[.string r0, .bool r1] := by unfold etV; split <;> exact ⟨_, _, rfl⟩
    rw [hr] at HSP HIM
    clear hr
    have q0 : (r0.toList == r0.toList) = true := by simp
    have q1 : (r1 == r1) = true := by simp
    go_enter Tryz.func4, Tryz.ntmps4
    go_wp2_with fail
    refine (HSZ.out _).mono ?_
    rintro e w1 ⟨rfl, hb1⟩
    have B1 := hide (HB0.out.trans (hb1.mono (by simp)))
    have L1 := hide ((CL.new w op tk sq id kd sn us mb dp oa n cl tx ob m cp ds up).on hb1 (by simp))
    obtain ⟨p0, p1, p2, p3, p4, p5, p6, p7, p8, p9, p10, p11, p12, p13⟩ := L1.out.cc
    clear hb1
    go_wp2_with fail
    refine (HTO.out _ (HAT.out.below B1.out) (HBT.out.below B1.out)).mono ?_
    rintro e w2 ⟨g2, h2, rfl, hl2, hp2, hlt2, hb2⟩
    have B2 := hide (B1.out.trans (hb2.mono B1.out.size))
    have L2 := hide (L1.out.on hb2 L1.out.lt)
    obtain ⟨_, _, he, hat2⟩ := intsAt_of_own hl2 HAT.out.fits
    cases he
    obtain ⟨_, _, he, hbt2⟩ := intsAt_of_own hp2 HBT.out.fits
    cases he
    have HA2 := hide hat2
    have HC2 := hide hbt2
    clear hb2 hl2 hp2 hat2 hbt2 p0 p1 p2 p3 p4 p5 p6 p7 p8 p9 p10 p11 p12 p13 L1
    go_wp2_with fail
    refine (HSP.out _ _ _ _ _ HA2.out HC2.out).mono ?_
    rintro e w3 ⟨rfl, hb3⟩
    have B3 := hide (B2.out.trans (hb3.mono B2.out.size))
    have L3 := hide (L2.out.on hb3 L2.out.lt)
    obtain ⟨p0, p1, p2, p3, p4, p5, p6, p7, p8, p9, p10, p11, p12, p13⟩ := L3.out.cc
    clear hb3 L2 HA2 HC2
    go_wp2_with fail
    refine (HTO.out _ (HAT.out.below B3.out) (HBT.out.below B3.out)).mono ?_
    rintro e w4 ⟨g4, h4, rfl, hl4, hp4, hlt4, hb4⟩
    have B4 := hide (B3.out.trans (hb4.mono B3.out.size))
    have L4 := hide (L3.out.on hb4 L3.out.lt)
    have HO4 := hide hl4
    have HP4 := hide hp4
    clear hb4 hl4 hp4 p0 p1 p2 p3 p4 p5 p6 p7 p8 p9 p10 p11 p12 p13 L3
    go_wp2_with fail
    have hb5 := (Below.refl w4.heap.size w4).alloc (Nat.le_refl _) (.cells #[.int .i64 op, .int .i64 tk, .int .i64 sq, .int .i64 id, .int .i64 kd, .int .i64 sn, .int .i64 us, .int .i64 mb, .slice (some ⟨g4, 0, none⟩) n n, .string ⟨tx.toArray⟩, .slice (some ⟨h4, 0, none⟩) m m, .int .i64 dp, .int .i64 ds, .int .i64 up] 31)
    obtain ⟨_, _, he, hat5⟩ := intsAt_of_own (own_below HO4.out hb5) HAT.out.fits
    cases he
    obtain ⟨_, _, he, hbt5⟩ := intsAt_of_own (own_below HP4.out hb5) HBT.out.fits
    cases he
    have HA5 := hide hat5
    have HC5 := hide hbt5
    have HB5 := hide hb5
    clear hat5 hbt5 hb5
    refine (HIM.out _ _ _ _ _ HA5.out HC5.out).mono ?_
    rintro e w6 ⟨rfl, hb6⟩
    have hb46 := HB5.out.trans (hb6.mono (by simp))
    have B6 := hide (B4.out.trans (hb46.mono B4.out.size))
    have L6 := hide (L4.out.on hb46 L4.out.lt)
    have X6 := hide ((CB.new w4 op tk sq id kd sn us mb dp (some ⟨g4, 0, none⟩) n n tx (some ⟨h4, 0, none⟩) m m ds up).on hb6 (by simp))
    have HA6 := hide (HA5.out.below hb6)
    have HC6 := hide (HC5.out.below hb6)
    clear hb6 hb46 HA5 HC5 HB5 L4 HO4 HP4
    go_wp2_with fail
    have k0 : ∀ w', CL w' w.heap.size op tk sq id kd sn us mb dp oa n cl tx ob m cp ds up ∧ CB w' w4.heap.size op tk sq id kd sn us mb dp (some ⟨g4, 0, none⟩) n n tx (some ⟨h4, 0, none⟩) m m ds up → w'.cell? ⟨w.heap.size, 0, none⟩ = some (.int .i64 op) := fun w' h => h.1.cc.c0
    have k1 : ∀ w', CL w' w.heap.size op tk sq id kd sn us mb dp oa n cl tx ob m cp ds up ∧ CB w' w4.heap.size op tk sq id kd sn us mb dp (some ⟨g4, 0, none⟩) n n tx (some ⟨h4, 0, none⟩) m m ds up → w'.cell? ⟨w.heap.size, 1, none⟩ = some (.int .i64 tk) := fun w' h => h.1.cc.c1
    have k2 : ∀ w', CL w' w.heap.size op tk sq id kd sn us mb dp oa n cl tx ob m cp ds up ∧ CB w' w4.heap.size op tk sq id kd sn us mb dp (some ⟨g4, 0, none⟩) n n tx (some ⟨h4, 0, none⟩) m m ds up → w'.cell? ⟨w.heap.size, 2, none⟩ = some (.int .i64 sq) := fun w' h => h.1.cc.c2
    have k3 : ∀ w', CL w' w.heap.size op tk sq id kd sn us mb dp oa n cl tx ob m cp ds up ∧ CB w' w4.heap.size op tk sq id kd sn us mb dp (some ⟨g4, 0, none⟩) n n tx (some ⟨h4, 0, none⟩) m m ds up → w'.cell? ⟨w.heap.size, 3, none⟩ = some (.int .i64 id) := fun w' h => h.1.cc.c3
    have k4 : ∀ w', CL w' w.heap.size op tk sq id kd sn us mb dp oa n cl tx ob m cp ds up ∧ CB w' w4.heap.size op tk sq id kd sn us mb dp (some ⟨g4, 0, none⟩) n n tx (some ⟨h4, 0, none⟩) m m ds up → w'.cell? ⟨w.heap.size, 4, none⟩ = some (.int .i64 kd) := fun w' h => h.1.cc.c4
    have k5 : ∀ w', CL w' w.heap.size op tk sq id kd sn us mb dp oa n cl tx ob m cp ds up ∧ CB w' w4.heap.size op tk sq id kd sn us mb dp (some ⟨g4, 0, none⟩) n n tx (some ⟨h4, 0, none⟩) m m ds up → w'.cell? ⟨w.heap.size, 5, none⟩ = some (.int .i64 sn) := fun w' h => h.1.cc.c5
    have k6 : ∀ w', CL w' w.heap.size op tk sq id kd sn us mb dp oa n cl tx ob m cp ds up ∧ CB w' w4.heap.size op tk sq id kd sn us mb dp (some ⟨g4, 0, none⟩) n n tx (some ⟨h4, 0, none⟩) m m ds up → w'.cell? ⟨w.heap.size, 6, none⟩ = some (.int .i64 us) := fun w' h => h.1.cc.c6
    have k7 : ∀ w', CL w' w.heap.size op tk sq id kd sn us mb dp oa n cl tx ob m cp ds up ∧ CB w' w4.heap.size op tk sq id kd sn us mb dp (some ⟨g4, 0, none⟩) n n tx (some ⟨h4, 0, none⟩) m m ds up → w'.cell? ⟨w.heap.size, 7, none⟩ = some (.int .i64 mb) := fun w' h => h.1.cc.c7
    have k8 : ∀ w', CL w' w.heap.size op tk sq id kd sn us mb dp oa n cl tx ob m cp ds up ∧ CB w' w4.heap.size op tk sq id kd sn us mb dp (some ⟨g4, 0, none⟩) n n tx (some ⟨h4, 0, none⟩) m m ds up → w'.cell? ⟨w.heap.size, 8, none⟩ = some (.slice oa n cl) := fun w' h => h.1.cc.c8
    have k9 : ∀ w', CL w' w.heap.size op tk sq id kd sn us mb dp oa n cl tx ob m cp ds up ∧ CB w' w4.heap.size op tk sq id kd sn us mb dp (some ⟨g4, 0, none⟩) n n tx (some ⟨h4, 0, none⟩) m m ds up → w'.cell? ⟨w.heap.size, 9, none⟩ = some (.string ⟨tx.toArray⟩) := fun w' h => h.1.cc.c9
    have k10 : ∀ w', CL w' w.heap.size op tk sq id kd sn us mb dp oa n cl tx ob m cp ds up ∧ CB w' w4.heap.size op tk sq id kd sn us mb dp (some ⟨g4, 0, none⟩) n n tx (some ⟨h4, 0, none⟩) m m ds up → w'.cell? ⟨w.heap.size, 10, none⟩ = some (.slice ob m cp) := fun w' h => h.1.cc.c10
    have k11 : ∀ w', CL w' w.heap.size op tk sq id kd sn us mb dp oa n cl tx ob m cp ds up ∧ CB w' w4.heap.size op tk sq id kd sn us mb dp (some ⟨g4, 0, none⟩) n n tx (some ⟨h4, 0, none⟩) m m ds up → w'.cell? ⟨w.heap.size, 11, none⟩ = some (.int .i64 dp) := fun w' h => h.1.cc.c11
    have k12 : ∀ w', CL w' w.heap.size op tk sq id kd sn us mb dp oa n cl tx ob m cp ds up ∧ CB w' w4.heap.size op tk sq id kd sn us mb dp (some ⟨g4, 0, none⟩) n n tx (some ⟨h4, 0, none⟩) m m ds up → w'.cell? ⟨w.heap.size, 12, none⟩ = some (.int .i64 ds) := fun w' h => h.1.cc.c12
    have k13 : ∀ w', CL w' w.heap.size op tk sq id kd sn us mb dp oa n cl tx ob m cp ds up ∧ CB w' w4.heap.size op tk sq id kd sn us mb dp (some ⟨g4, 0, none⟩) n n tx (some ⟨h4, 0, none⟩) m m ds up → w'.cell? ⟨w.heap.size, 13, none⟩ = some (.int .i64 up) := fun w' h => h.1.cc.c13
    have m0 : ∀ w', CL w' w.heap.size op tk sq id kd sn us mb dp oa n cl tx ob m cp ds up ∧ CB w' w4.heap.size op tk sq id kd sn us mb dp (some ⟨g4, 0, none⟩) n n tx (some ⟨h4, 0, none⟩) m m ds up → w'.cell? ⟨w4.heap.size, 0, none⟩ = some (.int .i64 op) := fun w' h => h.2.cc.c0
    have m1 : ∀ w', CL w' w.heap.size op tk sq id kd sn us mb dp oa n cl tx ob m cp ds up ∧ CB w' w4.heap.size op tk sq id kd sn us mb dp (some ⟨g4, 0, none⟩) n n tx (some ⟨h4, 0, none⟩) m m ds up → w'.cell? ⟨w4.heap.size, 1, none⟩ = some (.int .i64 tk) := fun w' h => h.2.cc.c1
    have m2 : ∀ w', CL w' w.heap.size op tk sq id kd sn us mb dp oa n cl tx ob m cp ds up ∧ CB w' w4.heap.size op tk sq id kd sn us mb dp (some ⟨g4, 0, none⟩) n n tx (some ⟨h4, 0, none⟩) m m ds up → w'.cell? ⟨w4.heap.size, 2, none⟩ = some (.int .i64 sq) := fun w' h => h.2.cc.c2
    have m3 : ∀ w', CL w' w.heap.size op tk sq id kd sn us mb dp oa n cl tx ob m cp ds up ∧ CB w' w4.heap.size op tk sq id kd sn us mb dp (some ⟨g4, 0, none⟩) n n tx (some ⟨h4, 0, none⟩) m m ds up → w'.cell? ⟨w4.heap.size, 3, none⟩ = some (.int .i64 id) := fun w' h => h.2.cc.c3
    have m4 : ∀ w', CL w' w.heap.size op tk sq id kd sn us mb dp oa n cl tx ob m cp ds up ∧ CB w' w4.heap.size op tk sq id kd sn us mb dp (some ⟨g4, 0, none⟩) n n tx (some ⟨h4, 0, none⟩) m m ds up → w'.cell? ⟨w4.heap.size, 4, none⟩ = some (.int .i64 kd) := fun w' h => h.2.cc.c4
    have m5 : ∀ w', CL w' w.heap.size op tk sq id kd sn us mb dp oa n cl tx ob m cp ds up ∧ CB w' w4.heap.size op tk sq id kd sn us mb dp (some ⟨g4, 0, none⟩) n n tx (some ⟨h4, 0, none⟩) m m ds up → w'.cell? ⟨w4.heap.size, 5, none⟩ = some (.int .i64 sn) := fun w' h => h.2.cc.c5
    have m6 : ∀ w', CL w' w.heap.size op tk sq id kd sn us mb dp oa n cl tx ob m cp ds up ∧ CB w' w4.heap.size op tk sq id kd sn us mb dp (some ⟨g4, 0, none⟩) n n tx (some ⟨h4, 0, none⟩) m m ds up → w'.cell? ⟨w4.heap.size, 6, none⟩ = some (.int .i64 us) := fun w' h => h.2.cc.c6
    have m7 : ∀ w', CL w' w.heap.size op tk sq id kd sn us mb dp oa n cl tx ob m cp ds up ∧ CB w' w4.heap.size op tk sq id kd sn us mb dp (some ⟨g4, 0, none⟩) n n tx (some ⟨h4, 0, none⟩) m m ds up → w'.cell? ⟨w4.heap.size, 7, none⟩ = some (.int .i64 mb) := fun w' h => h.2.cc.c7
    have m8 : ∀ w', CL w' w.heap.size op tk sq id kd sn us mb dp oa n cl tx ob m cp ds up ∧ CB w' w4.heap.size op tk sq id kd sn us mb dp (some ⟨g4, 0, none⟩) n n tx (some ⟨h4, 0, none⟩) m m ds up → w'.cell? ⟨w4.heap.size, 8, none⟩ = some (.slice (some ⟨g4, 0, none⟩) n n) := fun w' h => h.2.cc.c8
    have m9 : ∀ w', CL w' w.heap.size op tk sq id kd sn us mb dp oa n cl tx ob m cp ds up ∧ CB w' w4.heap.size op tk sq id kd sn us mb dp (some ⟨g4, 0, none⟩) n n tx (some ⟨h4, 0, none⟩) m m ds up → w'.cell? ⟨w4.heap.size, 9, none⟩ = some (.string ⟨tx.toArray⟩) := fun w' h => h.2.cc.c9
    have m10 : ∀ w', CL w' w.heap.size op tk sq id kd sn us mb dp oa n cl tx ob m cp ds up ∧ CB w' w4.heap.size op tk sq id kd sn us mb dp (some ⟨g4, 0, none⟩) n n tx (some ⟨h4, 0, none⟩) m m ds up → w'.cell? ⟨w4.heap.size, 10, none⟩ = some (.slice (some ⟨h4, 0, none⟩) m m) := fun w' h => h.2.cc.c10
    have m11 : ∀ w', CL w' w.heap.size op tk sq id kd sn us mb dp oa n cl tx ob m cp ds up ∧ CB w' w4.heap.size op tk sq id kd sn us mb dp (some ⟨g4, 0, none⟩) n n tx (some ⟨h4, 0, none⟩) m m ds up → w'.cell? ⟨w4.heap.size, 11, none⟩ = some (.int .i64 dp) := fun w' h => h.2.cc.c11
    have m12 : ∀ w', CL w' w.heap.size op tk sq id kd sn us mb dp oa n cl tx ob m cp ds up ∧ CB w' w4.heap.size op tk sq id kd sn us mb dp (some ⟨g4, 0, none⟩) n n tx (some ⟨h4, 0, none⟩) m m ds up → w'.cell? ⟨w4.heap.size, 12, none⟩ = some (.int .i64 ds) := fun w' h => h.2.cc.c12
    have m13 : ∀ w', CL w' w.heap.size op tk sq id kd sn us mb dp oa n cl tx ob m cp ds up ∧ CB w' w4.heap.size op tk sq id kd sn us mb dp (some ⟨g4, 0, none⟩) n n tx (some ⟨h4, 0, none⟩) m m ds up → w'.cell? ⟨w4.heap.size, 13, none⟩ = some (.int .i64 up) := fun w' h => h.2.cc.c13
    have hll := L6.out.lt
    have hxl := X6.out.lt
    go_region_held3 (fun w' => CL w' w.heap.size op tk sq id kd sn us mb dp oa n cl tx ob m cp ds up ∧ CB w' w4.heap.size op tk sq id kd sn us mb dp (some ⟨g4, 0, none⟩) n n tx (some ⟨h4, 0, none⟩) m m ds up) (first | exact ⟨L6.out, X6.out⟩ | exact ⟨CL.on (w := w6.drew) L6.out hb7 hll, CB.on (w := w6.drew) X6.out hb7 hxl⟩ | exact ⟨(CL.on (w := w6.drew) L6.out hb7 hll).on hb8 (Nat.lt_of_lt_of_le hll hb7.size), (CB.on (w := w6.drew) X6.out hb7 hxl).on hb8 (Nat.lt_of_lt_of_le hxl hb7.size)⟩)
      (first
        | (go_at_call 8; refine (HTO.out _ (HAT.out.below B6.out.drew) (HBT.out.below B6.out.drew)).mono ?_; rintro e w7 ⟨g7, h7, rfl, hl7, hp7, hlt7, hb7⟩; obtain ⟨oa7, cap7, he7, hat7⟩ := intsAt_of_own hl7 HAT.out.fits; cases he7; obtain ⟨ob7, cbp7, he7, hbt7⟩ := intsAt_of_own hp7 HBT.out.fits; cases he7; have HAT7 := hide hat7; have HBT7 := hide hbt7; clear hl7 hp7 hat7 hbt7 hlt7)
        | (go_at_call 10; refine (eqCommand_same op tk sq id kd sn us mb dp _ n _ tx _ m _ ds up zl zp _ _ _ _ hn20 hm20 _ ((HA6.out.below (Below.refl _ _).drew).below hb7) HAT7.out ((HC6.out.below (Below.refl _ _).drew).below hb7) HBT7.out).mono ?_; rintro e w8 ⟨rfl, hb8⟩))
    have B8 : Below w.heap.size w w8 := (B6.out.drew.trans (hb7.mono (by simpa using B6.out.size))).trans (hb8.mono (Nat.le_trans (by simpa using B6.out.size) hb7.size))
    clear hb7 hb8 k0 m0 k1 m1 k2 m2 k3 m3 k4 m4 k5 m5 k6 m6 k7 m7 k8 m8 k9 m9 k10 m10 k11 m11 k12 m12 k13 m13
    go_wp2_with fail
    go_ret
    exact ⟨rfl, B8⟩

end Go.Proofs.YtckkfjmjcknjdaaGreatDoor
