/-
  Walks and mathematics of LawEncode.
-/
import Derived.Test.YtmllcomppjkhhaaDoorQbMsg8
import Derived.Test.YtmllcomppjkhhaaDoorQbMsg10
import Derived.Test.YtmllcomppjkhhaaDoorQbOpenMsg
import Derived.LaidMore
import Derived.Deep.RegionHeld3
namespace Go.Proofs.YtmllcomppjkhhaaDoor.P18
end Go.Proofs.YtmllcomppjkhhaaDoor.P18
namespace Go.Proofs.YtmllcomppjkhhaaDoor.P3
end Go.Proofs.YtmllcomppjkhhaaDoor.P3
namespace Go.Proofs.YtmllcomppjkhhaaDoor
open Go.RowKit P1 P3 P9 P11 P12 P18 K
set_option linter.unusedVariables false
set_option linter.unusedSimpArgs false

set_option maxRecDepth 20000 in
set_option maxHeartbeats 16000000 in
theorem FnExactEncode_walk (kd fr to tm ix lt cm : Int) (ok : Bool) (oa : Option Addr) (n cl : Nat) (ob : Option Addr) (m cp : Nat) (da : List UInt8) (la : Bool) (es : List EntV) (zs : List Int) (w : World) (hat : EntsAt w oa n cl es) (hwd : ∀ f ∈ es, EntWide f) (hbt : IntsAt w ob m cp zs) (hxw : da.length ≤ maxLen) (hL : laidMetH Tryd.prog Rows.fnExactEncodeRow.laid w) :
    Calls Tryd.prog 4 #[(mgval kd fr to tm ix lt cm ok (.slice oa n cl) (.slice ob m cp) da la)] w fun e w' => e = .returned (.bool true) ∧ Below w.heap.size w w' := by
  have HLIM := hide (lims_of_laid (by kernel_rfl) (by kernel_rfl) hL)
  clear hL
  have hb0 := (Below.refl w.heap.size w).alloc (Nat.le_refl _) (.cells #[.int .i64 kd, .int .i64 fr, .int .i64 to, .int .i64 tm, .int .i64 ix, .int .i64 lt, .int .i64 cm, .bool ok, .slice oa n cl, .slice ob m cp, .string ⟨da.toArray⟩, .bool la] 25)
  have HSZ := hide (szMessage_any kd fr to tm ix lt cm ok oa n cl ob m cp da la es 1048576 (by omega) (by omega) _ (hat.below hb0) hwd (Nat.le_trans hbt.room hbt.most) hxw)
  have HAT := hide hat
  have HBT := hide hbt
  have HB0 := hide hb0
  have HL0 := hide (XS.new w #[.int .i64 kd, .int .i64 fr, .int .i64 to, .int .i64 tm, .int .i64 ix, .int .i64 lt, .int .i64 cm, .bool ok, .slice oa n cl, .slice ob m cp, .string ⟨da.toArray⟩, .bool la] 25)
  have hnl := hat.len
  have hml := hbt.len
  by_cases c : szMg es m da.length 1048576 < 0
  · generalize szMg es m da.length 1048576 = z at c HSZ
    clear hat hbt hb0 hxw hwd
    go_enter Tryd.func4, Tryd.ntmps4
    go_wp2_with fail
    refine HSZ.out.mono ?_
    rintro e w1 ⟨rfl, hb1⟩
    go_wp2_with fail
    go_ret
    exact ⟨rfl, HB0.out.trans (hb1.mono (by simp))⟩
  · obtain ⟨hn20, hfine, hm20, hx20⟩ := szMg_fine c
    rw [hnl] at hn20
    generalize szMg es m da.length 1048576 = z at c HSZ
    have HTO := hide (fun w hat hbt => toMessage_any kd fr to tm ix lt cm ok oa n cl ob m cp da la es zs hn20 hm20 w hat hbt)
    clear hat hbt hb0 hxw hwd hnl hml
    have HSP := hide (fun (oa : Option Addr) (cl : Nat) (ob : Option Addr) (cp : Nat) w hat hbt => specEncode_any kd fr to tm ix lt cm ok oa n cl ob m cp da la es zs hx20 w hat hbt hfine hn20 hm20)
    have HIM := hide (fun (oa : Option Addr) (cl : Nat) (ob : Option Addr) (cp : Nat) w ht hat hbt => implEncode_any kd fr to tm ix lt cm ok oa n cl ob m cp da la es zs hx20 w ht hat hbt hfine hn20 hm20)
    clear hfine
    obtain ⟨r0, r1, hr⟩ : ∃ r0 r1, mtV (msgText (⟨kd, fr, to, tm, ix, lt, cm, ok, es, zs, da, la⟩ : MsgV)) = .tuple #[.string r0, .bool r1] := by unfold mtV; split <;> exact ⟨_, _, rfl⟩
    rw [hr] at HSP HIM
    clear hr
    have q0 : (r0.toList == r0.toList) = true := by simp
    have q1 : (r1 == r1) = true := by simp
    go_enter Tryd.func4, Tryd.ntmps4
    go_wp2_with fail
    refine HSZ.out.mono ?_
    rintro e w1 ⟨rfl, hb1⟩
    have B1 := hide (HB0.out.trans (hb1.mono (by simp)))
    have L1 := hide (HL0.out.on hb1)
    obtain ⟨k0, k1, k2, k3, k4, k5, k6, k7, k8, k9, k10, k11⟩ := xs12 L1.out
    clear hb1
    go_wp2_with fail
    refine (HTO.out _ (HAT.out.below B1.out) (HBT.out.below B1.out)).mono ?_
    rintro e w2 ⟨g2, h2, rfl, hl2, hp2, hb2⟩
    have B2 := hide (B1.out.trans (hb2.mono B1.out.size))
    have L2 := hide (L1.out.on hb2)
    obtain ⟨_, _, he, hat2⟩ := entsAt_own hl2
    cases he
    obtain ⟨_, _, he, hbt2⟩ := intsAt_of_own hp2 HBT.out.fits
    cases he
    have HA2 := hide hat2
    have HC2 := hide hbt2
    clear hb2 hl2 hp2 hat2 hbt2 k0 k1 k2 k3 k4 k5 k6 k7 k8 k9 k10 k11 L1
    go_wp2_with fail
    refine (HSP.out _ _ _ _ _ HA2.out HC2.out).mono ?_
    rintro e w3 ⟨rfl, hb3⟩
    have B3 := hide (B2.out.trans (hb3.mono B2.out.size))
    have L3 := hide (L2.out.on hb3)
    obtain ⟨k0, k1, k2, k3, k4, k5, k6, k7, k8, k9, k10, k11⟩ := xs12 L3.out
    clear hb3 L2 HA2 HC2
    go_wp2_with fail
    refine (HTO.out _ (HAT.out.below B3.out) (HBT.out.below B3.out)).mono ?_
    rintro e w4 ⟨g4, h4, rfl, hl4, hp4, hb4⟩
    have B4 := hide (B3.out.trans (hb4.mono B3.out.size))
    have L4 := hide (L3.out.on hb4)
    have HO4 := hide hl4
    have HP4 := hide hp4
    clear hb4 hl4 hp4 k0 k1 k2 k3 k4 k5 k6 k7 k8 k9 k10 k11 L3
    go_wp2_with fail
    have hb5 := (Below.refl w4.heap.size w4).alloc (Nat.le_refl _) (.cells #[.int .i64 kd, .int .i64 fr, .int .i64 to, .int .i64 tm, .int .i64 ix, .int .i64 lt, .int .i64 cm, .bool ok, .slice (some ⟨g4, 0, none⟩) n n, .slice (some ⟨h4, 0, none⟩) m m, .string ⟨da.toArray⟩, .bool la] 30)
    obtain ⟨_, _, he, hat5⟩ := entsAt_own (own_below HO4.out hb5)
    cases he
    obtain ⟨_, _, he, hbt5⟩ := intsAt_of_own (own_below HP4.out hb5) HBT.out.fits
    cases he
    have HA5 := hide hat5
    have HC5 := hide hbt5
    have HB5 := hide hb5
    clear hat5 hbt5 hb5
    refine (HIM.out _ _ _ _ _ (HLIM.out.on (B4.out.trans (HB5.out.mono B4.out.size))) HA5.out HC5.out).mono ?_
    rintro e w6 ⟨rfl, hb6⟩
    have hb46 := HB5.out.trans (hb6.mono (by simp))
    have B6 := hide (B4.out.trans (hb46.mono B4.out.size))
    have L6 := hide (L4.out.on hb46)
    have X6 := hide ((XS.new w4 #[.int .i64 kd, .int .i64 fr, .int .i64 to, .int .i64 tm, .int .i64 ix, .int .i64 lt, .int .i64 cm, .bool ok, .slice (some ⟨g4, 0, none⟩) n n, .slice (some ⟨h4, 0, none⟩) m m, .string ⟨da.toArray⟩, .bool la] 30).on hb6)
    have HA6 := hide (HA5.out.below hb6)
    have HC6 := hide (HC5.out.below hb6)
    clear hb6 hb46 HA5 HC5 HB5 L4 HO4 HP4
    go_wp2_with fail
    have hkx : ∀ w', XS w.heap.size #[.int .i64 kd, .int .i64 fr, .int .i64 to, .int .i64 tm, .int .i64 ix, .int .i64 lt, .int .i64 cm, .bool ok, .slice oa n cl, .slice ob m cp, .string ⟨da.toArray⟩, .bool la] 25 w' ∧ XS w4.heap.size #[.int .i64 kd, .int .i64 fr, .int .i64 to, .int .i64 tm, .int .i64 ix, .int .i64 lt, .int .i64 cm, .bool ok, .slice (some ⟨g4, 0, none⟩) n n, .slice (some ⟨h4, 0, none⟩) m m, .string ⟨da.toArray⟩, .bool la] 30 w' → _ := fun w' h => xs12 h.1
    have hmx : ∀ w', XS w.heap.size #[.int .i64 kd, .int .i64 fr, .int .i64 to, .int .i64 tm, .int .i64 ix, .int .i64 lt, .int .i64 cm, .bool ok, .slice oa n cl, .slice ob m cp, .string ⟨da.toArray⟩, .bool la] 25 w' ∧ XS w4.heap.size #[.int .i64 kd, .int .i64 fr, .int .i64 to, .int .i64 tm, .int .i64 ix, .int .i64 lt, .int .i64 cm, .bool ok, .slice (some ⟨g4, 0, none⟩) n n, .slice (some ⟨h4, 0, none⟩) m m, .string ⟨da.toArray⟩, .bool la] 30 w' → _ := fun w' h => xs12 h.2
    have k0 : ∀ w', XS w.heap.size #[.int .i64 kd, .int .i64 fr, .int .i64 to, .int .i64 tm, .int .i64 ix, .int .i64 lt, .int .i64 cm, .bool ok, .slice oa n cl, .slice ob m cp, .string ⟨da.toArray⟩, .bool la] 25 w' ∧ XS w4.heap.size #[.int .i64 kd, .int .i64 fr, .int .i64 to, .int .i64 tm, .int .i64 ix, .int .i64 lt, .int .i64 cm, .bool ok, .slice (some ⟨g4, 0, none⟩) n n, .slice (some ⟨h4, 0, none⟩) m m, .string ⟨da.toArray⟩, .bool la] 30 w' → w'.cell? ⟨w.heap.size, 0, none⟩ = some (.int .i64 kd) := fun w' h => (hkx w' h).1
    have k1 : ∀ w', XS w.heap.size #[.int .i64 kd, .int .i64 fr, .int .i64 to, .int .i64 tm, .int .i64 ix, .int .i64 lt, .int .i64 cm, .bool ok, .slice oa n cl, .slice ob m cp, .string ⟨da.toArray⟩, .bool la] 25 w' ∧ XS w4.heap.size #[.int .i64 kd, .int .i64 fr, .int .i64 to, .int .i64 tm, .int .i64 ix, .int .i64 lt, .int .i64 cm, .bool ok, .slice (some ⟨g4, 0, none⟩) n n, .slice (some ⟨h4, 0, none⟩) m m, .string ⟨da.toArray⟩, .bool la] 30 w' → w'.cell? ⟨w.heap.size, 1, none⟩ = some (.int .i64 fr) := fun w' h => (hkx w' h).2.1
    have k2 : ∀ w', XS w.heap.size #[.int .i64 kd, .int .i64 fr, .int .i64 to, .int .i64 tm, .int .i64 ix, .int .i64 lt, .int .i64 cm, .bool ok, .slice oa n cl, .slice ob m cp, .string ⟨da.toArray⟩, .bool la] 25 w' ∧ XS w4.heap.size #[.int .i64 kd, .int .i64 fr, .int .i64 to, .int .i64 tm, .int .i64 ix, .int .i64 lt, .int .i64 cm, .bool ok, .slice (some ⟨g4, 0, none⟩) n n, .slice (some ⟨h4, 0, none⟩) m m, .string ⟨da.toArray⟩, .bool la] 30 w' → w'.cell? ⟨w.heap.size, 2, none⟩ = some (.int .i64 to) := fun w' h => (hkx w' h).2.2.1
    have k3 : ∀ w', XS w.heap.size #[.int .i64 kd, .int .i64 fr, .int .i64 to, .int .i64 tm, .int .i64 ix, .int .i64 lt, .int .i64 cm, .bool ok, .slice oa n cl, .slice ob m cp, .string ⟨da.toArray⟩, .bool la] 25 w' ∧ XS w4.heap.size #[.int .i64 kd, .int .i64 fr, .int .i64 to, .int .i64 tm, .int .i64 ix, .int .i64 lt, .int .i64 cm, .bool ok, .slice (some ⟨g4, 0, none⟩) n n, .slice (some ⟨h4, 0, none⟩) m m, .string ⟨da.toArray⟩, .bool la] 30 w' → w'.cell? ⟨w.heap.size, 3, none⟩ = some (.int .i64 tm) := fun w' h => (hkx w' h).2.2.2.1
    have k4 : ∀ w', XS w.heap.size #[.int .i64 kd, .int .i64 fr, .int .i64 to, .int .i64 tm, .int .i64 ix, .int .i64 lt, .int .i64 cm, .bool ok, .slice oa n cl, .slice ob m cp, .string ⟨da.toArray⟩, .bool la] 25 w' ∧ XS w4.heap.size #[.int .i64 kd, .int .i64 fr, .int .i64 to, .int .i64 tm, .int .i64 ix, .int .i64 lt, .int .i64 cm, .bool ok, .slice (some ⟨g4, 0, none⟩) n n, .slice (some ⟨h4, 0, none⟩) m m, .string ⟨da.toArray⟩, .bool la] 30 w' → w'.cell? ⟨w.heap.size, 4, none⟩ = some (.int .i64 ix) := fun w' h => (hkx w' h).2.2.2.2.1
    have k5 : ∀ w', XS w.heap.size #[.int .i64 kd, .int .i64 fr, .int .i64 to, .int .i64 tm, .int .i64 ix, .int .i64 lt, .int .i64 cm, .bool ok, .slice oa n cl, .slice ob m cp, .string ⟨da.toArray⟩, .bool la] 25 w' ∧ XS w4.heap.size #[.int .i64 kd, .int .i64 fr, .int .i64 to, .int .i64 tm, .int .i64 ix, .int .i64 lt, .int .i64 cm, .bool ok, .slice (some ⟨g4, 0, none⟩) n n, .slice (some ⟨h4, 0, none⟩) m m, .string ⟨da.toArray⟩, .bool la] 30 w' → w'.cell? ⟨w.heap.size, 5, none⟩ = some (.int .i64 lt) := fun w' h => (hkx w' h).2.2.2.2.2.1
    have k6 : ∀ w', XS w.heap.size #[.int .i64 kd, .int .i64 fr, .int .i64 to, .int .i64 tm, .int .i64 ix, .int .i64 lt, .int .i64 cm, .bool ok, .slice oa n cl, .slice ob m cp, .string ⟨da.toArray⟩, .bool la] 25 w' ∧ XS w4.heap.size #[.int .i64 kd, .int .i64 fr, .int .i64 to, .int .i64 tm, .int .i64 ix, .int .i64 lt, .int .i64 cm, .bool ok, .slice (some ⟨g4, 0, none⟩) n n, .slice (some ⟨h4, 0, none⟩) m m, .string ⟨da.toArray⟩, .bool la] 30 w' → w'.cell? ⟨w.heap.size, 6, none⟩ = some (.int .i64 cm) := fun w' h => (hkx w' h).2.2.2.2.2.2.1
    have k7 : ∀ w', XS w.heap.size #[.int .i64 kd, .int .i64 fr, .int .i64 to, .int .i64 tm, .int .i64 ix, .int .i64 lt, .int .i64 cm, .bool ok, .slice oa n cl, .slice ob m cp, .string ⟨da.toArray⟩, .bool la] 25 w' ∧ XS w4.heap.size #[.int .i64 kd, .int .i64 fr, .int .i64 to, .int .i64 tm, .int .i64 ix, .int .i64 lt, .int .i64 cm, .bool ok, .slice (some ⟨g4, 0, none⟩) n n, .slice (some ⟨h4, 0, none⟩) m m, .string ⟨da.toArray⟩, .bool la] 30 w' → w'.cell? ⟨w.heap.size, 7, none⟩ = some (.bool ok) := fun w' h => (hkx w' h).2.2.2.2.2.2.2.1
    have k8 : ∀ w', XS w.heap.size #[.int .i64 kd, .int .i64 fr, .int .i64 to, .int .i64 tm, .int .i64 ix, .int .i64 lt, .int .i64 cm, .bool ok, .slice oa n cl, .slice ob m cp, .string ⟨da.toArray⟩, .bool la] 25 w' ∧ XS w4.heap.size #[.int .i64 kd, .int .i64 fr, .int .i64 to, .int .i64 tm, .int .i64 ix, .int .i64 lt, .int .i64 cm, .bool ok, .slice (some ⟨g4, 0, none⟩) n n, .slice (some ⟨h4, 0, none⟩) m m, .string ⟨da.toArray⟩, .bool la] 30 w' → w'.cell? ⟨w.heap.size, 8, none⟩ = some (.slice oa n cl) := fun w' h => (hkx w' h).2.2.2.2.2.2.2.2.1
    have k9 : ∀ w', XS w.heap.size #[.int .i64 kd, .int .i64 fr, .int .i64 to, .int .i64 tm, .int .i64 ix, .int .i64 lt, .int .i64 cm, .bool ok, .slice oa n cl, .slice ob m cp, .string ⟨da.toArray⟩, .bool la] 25 w' ∧ XS w4.heap.size #[.int .i64 kd, .int .i64 fr, .int .i64 to, .int .i64 tm, .int .i64 ix, .int .i64 lt, .int .i64 cm, .bool ok, .slice (some ⟨g4, 0, none⟩) n n, .slice (some ⟨h4, 0, none⟩) m m, .string ⟨da.toArray⟩, .bool la] 30 w' → w'.cell? ⟨w.heap.size, 9, none⟩ = some (.slice ob m cp) := fun w' h => (hkx w' h).2.2.2.2.2.2.2.2.2.1
    have k10 : ∀ w', XS w.heap.size #[.int .i64 kd, .int .i64 fr, .int .i64 to, .int .i64 tm, .int .i64 ix, .int .i64 lt, .int .i64 cm, .bool ok, .slice oa n cl, .slice ob m cp, .string ⟨da.toArray⟩, .bool la] 25 w' ∧ XS w4.heap.size #[.int .i64 kd, .int .i64 fr, .int .i64 to, .int .i64 tm, .int .i64 ix, .int .i64 lt, .int .i64 cm, .bool ok, .slice (some ⟨g4, 0, none⟩) n n, .slice (some ⟨h4, 0, none⟩) m m, .string ⟨da.toArray⟩, .bool la] 30 w' → w'.cell? ⟨w.heap.size, 10, none⟩ = some (.string ⟨da.toArray⟩) := fun w' h => (hkx w' h).2.2.2.2.2.2.2.2.2.2.1
    have k11 : ∀ w', XS w.heap.size #[.int .i64 kd, .int .i64 fr, .int .i64 to, .int .i64 tm, .int .i64 ix, .int .i64 lt, .int .i64 cm, .bool ok, .slice oa n cl, .slice ob m cp, .string ⟨da.toArray⟩, .bool la] 25 w' ∧ XS w4.heap.size #[.int .i64 kd, .int .i64 fr, .int .i64 to, .int .i64 tm, .int .i64 ix, .int .i64 lt, .int .i64 cm, .bool ok, .slice (some ⟨g4, 0, none⟩) n n, .slice (some ⟨h4, 0, none⟩) m m, .string ⟨da.toArray⟩, .bool la] 30 w' → w'.cell? ⟨w.heap.size, 11, none⟩ = some (.bool la) := fun w' h => (hkx w' h).2.2.2.2.2.2.2.2.2.2.2
    have m0 : ∀ w', XS w.heap.size #[.int .i64 kd, .int .i64 fr, .int .i64 to, .int .i64 tm, .int .i64 ix, .int .i64 lt, .int .i64 cm, .bool ok, .slice oa n cl, .slice ob m cp, .string ⟨da.toArray⟩, .bool la] 25 w' ∧ XS w4.heap.size #[.int .i64 kd, .int .i64 fr, .int .i64 to, .int .i64 tm, .int .i64 ix, .int .i64 lt, .int .i64 cm, .bool ok, .slice (some ⟨g4, 0, none⟩) n n, .slice (some ⟨h4, 0, none⟩) m m, .string ⟨da.toArray⟩, .bool la] 30 w' → w'.cell? ⟨w4.heap.size, 0, none⟩ = some (.int .i64 kd) := fun w' h => (hmx w' h).1
    have m1 : ∀ w', XS w.heap.size #[.int .i64 kd, .int .i64 fr, .int .i64 to, .int .i64 tm, .int .i64 ix, .int .i64 lt, .int .i64 cm, .bool ok, .slice oa n cl, .slice ob m cp, .string ⟨da.toArray⟩, .bool la] 25 w' ∧ XS w4.heap.size #[.int .i64 kd, .int .i64 fr, .int .i64 to, .int .i64 tm, .int .i64 ix, .int .i64 lt, .int .i64 cm, .bool ok, .slice (some ⟨g4, 0, none⟩) n n, .slice (some ⟨h4, 0, none⟩) m m, .string ⟨da.toArray⟩, .bool la] 30 w' → w'.cell? ⟨w4.heap.size, 1, none⟩ = some (.int .i64 fr) := fun w' h => (hmx w' h).2.1
    have m2 : ∀ w', XS w.heap.size #[.int .i64 kd, .int .i64 fr, .int .i64 to, .int .i64 tm, .int .i64 ix, .int .i64 lt, .int .i64 cm, .bool ok, .slice oa n cl, .slice ob m cp, .string ⟨da.toArray⟩, .bool la] 25 w' ∧ XS w4.heap.size #[.int .i64 kd, .int .i64 fr, .int .i64 to, .int .i64 tm, .int .i64 ix, .int .i64 lt, .int .i64 cm, .bool ok, .slice (some ⟨g4, 0, none⟩) n n, .slice (some ⟨h4, 0, none⟩) m m, .string ⟨da.toArray⟩, .bool la] 30 w' → w'.cell? ⟨w4.heap.size, 2, none⟩ = some (.int .i64 to) := fun w' h => (hmx w' h).2.2.1
    have m3 : ∀ w', XS w.heap.size #[.int .i64 kd, .int .i64 fr, .int .i64 to, .int .i64 tm, .int .i64 ix, .int .i64 lt, .int .i64 cm, .bool ok, .slice oa n cl, .slice ob m cp, .string ⟨da.toArray⟩, .bool la] 25 w' ∧ XS w4.heap.size #[.int .i64 kd, .int .i64 fr, .int .i64 to, .int .i64 tm, .int .i64 ix, .int .i64 lt, .int .i64 cm, .bool ok, .slice (some ⟨g4, 0, none⟩) n n, .slice (some ⟨h4, 0, none⟩) m m, .string ⟨da.toArray⟩, .bool la] 30 w' → w'.cell? ⟨w4.heap.size, 3, none⟩ = some (.int .i64 tm) := fun w' h => (hmx w' h).2.2.2.1
    have m4 : ∀ w', XS w.heap.size #[.int .i64 kd, .int .i64 fr, .int .i64 to, .int .i64 tm, .int .i64 ix, .int .i64 lt, .int .i64 cm, .bool ok, .slice oa n cl, .slice ob m cp, .string ⟨da.toArray⟩, .bool la] 25 w' ∧ XS w4.heap.size #[.int .i64 kd, .int .i64 fr, .int .i64 to, .int .i64 tm, .int .i64 ix, .int .i64 lt, .int .i64 cm, .bool ok, .slice (some ⟨g4, 0, none⟩) n n, .slice (some ⟨h4, 0, none⟩) m m, .string ⟨da.toArray⟩, .bool la] 30 w' → w'.cell? ⟨w4.heap.size, 4, none⟩ = some (.int .i64 ix) := fun w' h => (hmx w' h).2.2.2.2.1
    have m5 : ∀ w', XS w.heap.size #[.int .i64 kd, .int .i64 fr, .int .i64 to, .int .i64 tm, .int .i64 ix, .int .i64 lt, .int .i64 cm, .bool ok, .slice oa n cl, .slice ob m cp, .string ⟨da.toArray⟩, .bool la] 25 w' ∧ XS w4.heap.size #[.int .i64 kd, .int .i64 fr, .int .i64 to, .int .i64 tm, .int .i64 ix, .int .i64 lt, .int .i64 cm, .bool ok, .slice (some ⟨g4, 0, none⟩) n n, .slice (some ⟨h4, 0, none⟩) m m, .string ⟨da.toArray⟩, .bool la] 30 w' → w'.cell? ⟨w4.heap.size, 5, none⟩ = some (.int .i64 lt) := fun w' h => (hmx w' h).2.2.2.2.2.1
    have m6 : ∀ w', XS w.heap.size #[.int .i64 kd, .int .i64 fr, .int .i64 to, .int .i64 tm, .int .i64 ix, .int .i64 lt, .int .i64 cm, .bool ok, .slice oa n cl, .slice ob m cp, .string ⟨da.toArray⟩, .bool la] 25 w' ∧ XS w4.heap.size #[.int .i64 kd, .int .i64 fr, .int .i64 to, .int .i64 tm, .int .i64 ix, .int .i64 lt, .int .i64 cm, .bool ok, .slice (some ⟨g4, 0, none⟩) n n, .slice (some ⟨h4, 0, none⟩) m m, .string ⟨da.toArray⟩, .bool la] 30 w' → w'.cell? ⟨w4.heap.size, 6, none⟩ = some (.int .i64 cm) := fun w' h => (hmx w' h).2.2.2.2.2.2.1
    have m7 : ∀ w', XS w.heap.size #[.int .i64 kd, .int .i64 fr, .int .i64 to, .int .i64 tm, .int .i64 ix, .int .i64 lt, .int .i64 cm, .bool ok, .slice oa n cl, .slice ob m cp, .string ⟨da.toArray⟩, .bool la] 25 w' ∧ XS w4.heap.size #[.int .i64 kd, .int .i64 fr, .int .i64 to, .int .i64 tm, .int .i64 ix, .int .i64 lt, .int .i64 cm, .bool ok, .slice (some ⟨g4, 0, none⟩) n n, .slice (some ⟨h4, 0, none⟩) m m, .string ⟨da.toArray⟩, .bool la] 30 w' → w'.cell? ⟨w4.heap.size, 7, none⟩ = some (.bool ok) := fun w' h => (hmx w' h).2.2.2.2.2.2.2.1
    have m8 : ∀ w', XS w.heap.size #[.int .i64 kd, .int .i64 fr, .int .i64 to, .int .i64 tm, .int .i64 ix, .int .i64 lt, .int .i64 cm, .bool ok, .slice oa n cl, .slice ob m cp, .string ⟨da.toArray⟩, .bool la] 25 w' ∧ XS w4.heap.size #[.int .i64 kd, .int .i64 fr, .int .i64 to, .int .i64 tm, .int .i64 ix, .int .i64 lt, .int .i64 cm, .bool ok, .slice (some ⟨g4, 0, none⟩) n n, .slice (some ⟨h4, 0, none⟩) m m, .string ⟨da.toArray⟩, .bool la] 30 w' → w'.cell? ⟨w4.heap.size, 8, none⟩ = some (.slice (some ⟨g4, 0, none⟩) n n) := fun w' h => (hmx w' h).2.2.2.2.2.2.2.2.1
    have m9 : ∀ w', XS w.heap.size #[.int .i64 kd, .int .i64 fr, .int .i64 to, .int .i64 tm, .int .i64 ix, .int .i64 lt, .int .i64 cm, .bool ok, .slice oa n cl, .slice ob m cp, .string ⟨da.toArray⟩, .bool la] 25 w' ∧ XS w4.heap.size #[.int .i64 kd, .int .i64 fr, .int .i64 to, .int .i64 tm, .int .i64 ix, .int .i64 lt, .int .i64 cm, .bool ok, .slice (some ⟨g4, 0, none⟩) n n, .slice (some ⟨h4, 0, none⟩) m m, .string ⟨da.toArray⟩, .bool la] 30 w' → w'.cell? ⟨w4.heap.size, 9, none⟩ = some (.slice (some ⟨h4, 0, none⟩) m m) := fun w' h => (hmx w' h).2.2.2.2.2.2.2.2.2.1
    have m10 : ∀ w', XS w.heap.size #[.int .i64 kd, .int .i64 fr, .int .i64 to, .int .i64 tm, .int .i64 ix, .int .i64 lt, .int .i64 cm, .bool ok, .slice oa n cl, .slice ob m cp, .string ⟨da.toArray⟩, .bool la] 25 w' ∧ XS w4.heap.size #[.int .i64 kd, .int .i64 fr, .int .i64 to, .int .i64 tm, .int .i64 ix, .int .i64 lt, .int .i64 cm, .bool ok, .slice (some ⟨g4, 0, none⟩) n n, .slice (some ⟨h4, 0, none⟩) m m, .string ⟨da.toArray⟩, .bool la] 30 w' → w'.cell? ⟨w4.heap.size, 10, none⟩ = some (.string ⟨da.toArray⟩) := fun w' h => (hmx w' h).2.2.2.2.2.2.2.2.2.2.1
    have m11 : ∀ w', XS w.heap.size #[.int .i64 kd, .int .i64 fr, .int .i64 to, .int .i64 tm, .int .i64 ix, .int .i64 lt, .int .i64 cm, .bool ok, .slice oa n cl, .slice ob m cp, .string ⟨da.toArray⟩, .bool la] 25 w' ∧ XS w4.heap.size #[.int .i64 kd, .int .i64 fr, .int .i64 to, .int .i64 tm, .int .i64 ix, .int .i64 lt, .int .i64 cm, .bool ok, .slice (some ⟨g4, 0, none⟩) n n, .slice (some ⟨h4, 0, none⟩) m m, .string ⟨da.toArray⟩, .bool la] 30 w' → w'.cell? ⟨w4.heap.size, 11, none⟩ = some (.bool la) := fun w' h => (hmx w' h).2.2.2.2.2.2.2.2.2.2.2
    clear hkx hmx
    go_region_held3 (fun w' => XS w.heap.size #[.int .i64 kd, .int .i64 fr, .int .i64 to, .int .i64 tm, .int .i64 ix, .int .i64 lt, .int .i64 cm, .bool ok, .slice oa n cl, .slice ob m cp, .string ⟨da.toArray⟩, .bool la] 25 w' ∧ XS w4.heap.size #[.int .i64 kd, .int .i64 fr, .int .i64 to, .int .i64 tm, .int .i64 ix, .int .i64 lt, .int .i64 cm, .bool ok, .slice (some ⟨g4, 0, none⟩) n n, .slice (some ⟨h4, 0, none⟩) m m, .string ⟨da.toArray⟩, .bool la] 30 w') (first | exact ⟨L6.out, X6.out⟩ | exact ⟨L6.out.drew, X6.out.drew⟩ | exact ⟨L6.out.drew.on hb7, X6.out.drew.on hb7⟩ | exact ⟨(L6.out.drew.on hb7).on hb8, (X6.out.drew.on hb7).on hb8⟩)
      (first
        | (go_at_call 8; refine (HTO.out _ (HAT.out.below B6.out.drew) (HBT.out.below B6.out.drew)).mono ?_; rintro e w7 ⟨g7, h7, rfl, hl7, hp7, hb7⟩; obtain ⟨oa7, cap7, he7, hat7⟩ := entsAt_own hl7; cases he7; obtain ⟨ob7, cbp7, he7, hbt7⟩ := intsAt_of_own hp7 HBT.out.fits; cases he7; have HAT7 := hide hat7; have HBT7 := hide hbt7; clear hl7 hp7 hat7 hbt7)
        | (go_at_call 10; refine (eqMessage_same kd fr to tm ix lt cm ok _ n _ _ m _ da la es zs _ _ _ _ hn20 hm20 _ ((HA6.out.below (Below.refl _ _).drew).below hb7) HAT7.out ((HC6.out.below (Below.refl _ _).drew).below hb7) HBT7.out).mono ?_; rintro e w8 ⟨rfl, hb8⟩))
    have B8 : Below w.heap.size w w8 := (B6.out.drew.trans (hb7.mono (by simpa using B6.out.size))).trans (hb8.mono (Nat.le_trans (by simpa using B6.out.size) hb7.size))
    clear hb7 hb8 k0 m0 k1 m1 k2 m2 k3 m3 k4 m4 k5 m5 k6 m6 k7 m7 k8 m8 k9 m9 k10 m10 k11 m11
    go_wp2_with fail
    go_ret
    exact ⟨rfl, B8⟩

end Go.Proofs.YtmllcomppjkhhaaDoor
