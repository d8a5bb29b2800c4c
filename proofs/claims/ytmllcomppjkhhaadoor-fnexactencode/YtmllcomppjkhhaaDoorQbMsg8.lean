/-
  Walks and mathematics of Msg8.
-/
import Derived.Test.YtmllcomppjkhhaaDoorQbMsg7b
import Derived.Test.YtmllcomppjkhhaaDoorQbMtv
namespace Go.Proofs.YtmllcomppjkhhaaDoor.P18
end Go.Proofs.YtmllcomppjkhhaaDoor.P18
namespace Go.Proofs.YtmllcomppjkhhaaDoor.P3
end Go.Proofs.YtmllcomppjkhhaaDoor.P3
namespace Go.Proofs.YtmllcomppjkhhaaDoor
open Go.RowKit P1 P3 P9 P11 P12 P18 K
set_option linter.unusedVariables false
set_option linter.unusedSimpArgs false

set_option maxRecDepth 100000 in
set_option maxHeartbeats 2000000 in
theorem implEncode_any (kd fr to tm ix lt cm : Int) (ok : Bool) (oa : Option Addr) (n cl : Nat) (ob : Option Addr) (m cp : Nat) (da : List UInt8) (la : Bool) (es : List EntV) (zs : List Int) (hd : da.length ≤ 1048576) (w : World) (ht : LimIs w) (hat : EntsAt w oa n cl es) (hbt : IntsAt w ob m cp zs) (hw : ∀ f ∈ es, f.data.size ≤ 1048576) (hn20 : n ≤ 1048576) (hm20 : m ≤ 1048576) :
    Calls Tryd.prog 12 #[(mgval kd fr to tm ix lt cm ok (.slice oa n cl) (.slice ob m cp) da la)] w fun e w' => e = .returned (mtV (msgText (⟨kd, fr, to, tm, ix, lt, cm, ok, es, zs, da, la⟩ : MsgV))) ∧ Below w.heap.size w w' := by
  have HOK := hide (fun w ht hat hbt => implMessageOk_any kd fr to tm ix lt cm ok oa n cl ob m cp da la es zs hd w ht hat hbt hw hn20 hm20)
  have HX0 := hide (XS.new w #[.int .i64 kd, .int .i64 fr, .int .i64 to, .int .i64 tm, .int .i64 ix, .int .i64 lt, .int .i64 cm, .bool ok, .slice oa n cl, .slice ob m cp, .string ⟨da.toArray⟩, .bool la] 30)
  have HB0 := hide ((Below.refl w.heap.size w).alloc (Nat.le_refl _) (.cells #[.int .i64 kd, .int .i64 fr, .int .i64 to, .int .i64 tm, .int .i64 ix, .int .i64 lt, .int .i64 cm, .bool ok, .slice oa n cl, .slice ob m cp, .string ⟨da.toArray⟩, .bool la] 30))
  have HAT := hide hat
  have HBT := hide hbt
  have HT := hide ht
  clear hat hbt ht
  obtain ⟨k0, k1, k2, k3, k4, k5, k6, k7, k8, k9, k10, k11⟩ := xs12 HX0.out
  unfold msgText
  cases cok : msgOk (⟨kd, fr, to, tm, ix, lt, cm, ok, es, zs, da, la⟩ : MsgV) with
  | false =>
    rw [cok] at HOK
    simp only [Bool.false_eq_true, if_false, mtV]
    go_enter Tryd.func12, Tryd.ntmps12
    go_wp2_with fail
    refine (HOK.out _ (HT.out.on HB0.out) (HAT.out.below HB0.out) (HBT.out.below HB0.out)).mono ?_
    rintro e w1 ⟨rfl, hb1⟩
    go_wp2_with fail
    go_ret2
    exact ⟨rfl, HB0.out.trans (hb1.mono HB0.out.size)⟩
  | true =>
    rw [cok] at HOK
    simp only [if_true, mtV]
    have HCM := hide (fun W0 g w hT hb hat hbt => message_any15 W0 g kd fr to tm ix lt cm ok oa n cl ob m cp da la es zs cok hw w hT hb hat hbt)
    clear cok
    generalize msgB (⟨kd, fr, to, tm, ix, lt, cm, ok, es, zs, da, la⟩ : MsgV) = k at HCM ⊢
    go_enter Tryd.func12, Tryd.ntmps12
    go_wp2_with fail
    refine (HOK.out _ (HT.out.on HB0.out) (HAT.out.below HB0.out) (HBT.out.below HB0.out)).mono ?_
    rintro e x1 ⟨rfl, hb1⟩
    have HX1 := hide (HX0.out.on hb1)
    have HB1 := hide (HB0.out.trans (hb1.mono HB0.out.size))
    clear hb1 HX0 HB0 k0 k1 k2 k3 k4 k5 k6 k7 k8 k9 k10 k11
    have HX2 := hide (HX1.out.alloc (.cells #[.slice none 0 0] 68))
    obtain ⟨k0, k1, k2, k3, k4, k5, k6, k7, k8, k9, k10, k11⟩ := xs12 HX2.out
    have HT2 := hide (Tw.new x1)
    have HB2 := hide (HB1.out.alloc HB1.out.size (.cells #[.slice none 0 0] 68))
    have hzl := HX1.out.lt
    go_wp2_with fail
    refine (HCM.out x1 x1.heap.size _ HT2.out ((Below.refl _ _).alloc (Nat.le_refl _) _) (HAT.out.below HB1.out) (HBT.out.below HB1.out)).mono ?_
    rintro e x3 ⟨rfl, hT3, hb3⟩
    have HB3 := hide (HB1.out.trans (hb3.mono HB1.out.size))
    clear k0 k1 k2 k3 k4 k5 k6 k7 k8 k9 k10 k11 hb3
    go_wp2_with fail
    refine (written_any14 _ _ _ _ hT3).mono ?_
    rintro e x4 ⟨rfl, rfl⟩
    go_wp2_with fail
    go_ret2
    exact ⟨rfl, HB3.out⟩

end Go.Proofs.YtmllcomppjkhhaaDoor
