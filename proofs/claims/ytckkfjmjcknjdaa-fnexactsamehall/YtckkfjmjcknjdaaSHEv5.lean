/-
  Walks and mathematics of Ev5.
-/
import Derived.Test.YtckkfjmjcknjdaaSHEv3
import Derived.Test.YtckkfjmjcknjdaaSHInts
import Derived.ChangeSlices
import Derived.WideShapes
namespace Go.Proofs.Ytckkfjmjcknjdaa.P1
end Go.Proofs.Ytckkfjmjcknjdaa.P1
namespace Go.Proofs.Ytckkfjmjcknjdaa.P11
end Go.Proofs.Ytckkfjmjcknjdaa.P11
namespace Go.Proofs.Ytckkfjmjcknjdaa.P3
end Go.Proofs.Ytckkfjmjcknjdaa.P3
namespace Go.Proofs.Ytckkfjmjcknjdaa
open Go.RowKit P1 P3 P9 P11 P12 K
set_option linter.unusedVariables false
set_option linter.unusedSimpArgs false

set_option maxHeartbeats 2000000 in
theorem eqEvent_same (id kd sn us mb dp : Int) (oa : Option Addr) (n cl : Nat) (tx : List UInt8) (ob : Option Addr) (m cp : Nat) (zl zp : List Int) (oc od : Option Addr) (cl' cp' : Nat) (hn20 : n ≤ 1048576) (hm20 : m ≤ 1048576) (w : World) (h1 : IntsAt w oa n cl zl) (h2 : IntsAt w oc n cl' zl) (h3 : IntsAt w ob m cp zp) (h4 : IntsAt w od m cp' zp) :
    Calls Try.prog 67 #[evval id kd sn us mb dp (.slice oa n cl) (.slice ob m cp) tx, evval id kd sn us mb dp (.slice oc n cl') (.slice od m cp') tx] w fun e w' => e = .returned (.bool true) ∧ Below w.heap.size w w' := by
  have hb0 := ((Below.refl w.heap.size w).alloc (Nat.le_refl _) (.cells #[.int .i64 id, .int .i64 kd, .int .i64 sn, .int .i64 us, .int .i64 mb, .slice oa n cl, .string ⟨tx.toArray⟩, .slice ob m cp, .int .i64 dp] 83)).alloc (by simp) (.cells #[.int .i64 id, .int .i64 kd, .int .i64 sn, .int .i64 us, .int .i64 mb, .slice oc n cl', .string ⟨tx.toArray⟩, .slice od m cp', .int .i64 dp] 83)
  have HE := hide (eqIntS_same oa n cl oc cl' zl hn20 _ (h1.below hb0) (h2.below hb0))
  have HP := hide (fun w h3 h4 => eqIntS_same ob m cp od cp' zp hm20 w h3 h4)
  have L1 := hide ((EB.new w id kd sn us mb dp (.slice oa n cl) (.slice ob m cp) tx).on ((Below.refl _ _).alloc (Nat.le_refl _) (.cells #[.int .i64 id, .int .i64 kd, .int .i64 sn, .int .i64 us, .int .i64 mb, .slice oc n cl', .string ⟨tx.toArray⟩, .slice od m cp', .int .i64 dp] 83)) (by simp))
  have L2 := hide (EB.new (w.alloc (.cells #[.int .i64 id, .int .i64 kd, .int .i64 sn, .int .i64 us, .int .i64 mb, .slice oa n cl, .string ⟨tx.toArray⟩, .slice ob m cp, .int .i64 dp] 83)) id kd sn us mb dp (.slice oc n cl') (.slice od m cp') tx)
  have HB0 := hide hb0
  have H3 := hide (h3.below hb0)
  have H4 := hide (h4.below hb0)
  clear h1 h2 h3 h4 hb0
  go_enter Try.func67, Try.ntmps67
  go_wp2_with fail
  refine HE.out.mono ?_
  rintro e w1 ⟨rfl, hb1⟩
  have L1b := hide (L1.out.on hb1 L1.out.lt)
  have L2b := hide (L2.out.on hb1 L2.out.lt)
  have H3b := hide (H3.out.below hb1)
  have H4b := hide (H4.out.below hb1)
  have HB1 := hide (HB0.out.trans (hb1.mono HB0.out.size))
  clear hb1 L1 L2 H3 H4 HE HB0
  rw [World.size_alloc] at L2b
  obtain ⟨a0, a1, a2, a3, a4, a5, a6, a7, a8⟩ := L1b.out.ev
  obtain ⟨b0, b1, b2, b3, b4, b5, b6, b7, b8⟩ := L2b.out.ev
  go_wp2_with fail
  clear a0 a1 a2 a3 a4 a5 a6 a7 a8 b0 b1 b2 b3 b4 b5 b6 b7 b8
  refine (HP.out _ H3b.out H4b.out).mono ?_
  rintro e w2 ⟨rfl, hb2⟩
  obtain ⟨a0, a1, a2, a3, a4, a5, a6, a7, a8⟩ := (L1b.out.on hb2 L1b.out.lt).ev
  obtain ⟨b0, b1, b2, b3, b4, b5, b6, b7, b8⟩ := (L2b.out.on hb2 L2b.out.lt).ev
  have HB2 := hide (HB1.out.trans (hb2.mono HB1.out.size))
  clear hb2 L1b L2b
  go_wp2_with fail
  go_ret
  exact ⟨rfl, HB2.out⟩

end Go.Proofs.Ytckkfjmjcknjdaa
