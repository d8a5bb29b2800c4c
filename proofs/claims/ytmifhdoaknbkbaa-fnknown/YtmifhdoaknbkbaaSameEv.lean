/-
  Walks of chapter 9: two events compared by the law.
-/
import Derived.Test.YtmifhdoaknbkbaaPkEv3
import Derived.Test.YtmifhdoaknbkbaaPkEv4
import Derived.Test.YtmifhdoaknbkbaaWalk5a
import Derived.Test.YtmifhdoaknbkbaaQuietIn
namespace Go.Proofs.Ytmifhdoaknbkbaa
open Go.RowKit P1 P3 P9 P11 P12 K
set_option linter.unusedVariables false
set_option linter.unusedSimpArgs false

set_option maxHeartbeats 1000000 in
theorem sameInts_yes (oa : Option Addr) (n cap : Nat) (ob : Option Addr) (cap' : Nat) (zs : List Int) (hn20 : n ≤ 1048576) (w : World) (hat : IntsAt w oa n cap zs) (hbt : IntsAt w ob n cap' zs) :
    Calls Try.prog 51 #[.slice oa n cap, .slice ob n cap'] w fun e w' => e = .returned (.bool true) ∧ Below w.heap.size w w' := by
  have HAT := hide hat
  have HBT := hide hbt
  clear hat hbt
  go_enter Try.func51, Try.ntmps51
  go_wp2_with fail
  go_loopw [5] (fun i wr => ∃ (j q : Nat), i = .int .i64 (j : Int) ∧ j ≤ n ∧ wr = w.drewN q) (fun i _ => n - (intOf i).toNat)
  case atStart => exact ⟨0, 0, rfl, Nat.zero_le _, rfl⟩
  case round =>
    obtain ⟨j, q, rfl, hj, rfl⟩ := hrel
    by_cases hlt : j < n
    · have j0 : (j : Int) < (n : Int) := by omega
      obtain ⟨z, b, p, hz, hidx, hb, c0, hwf⟩ := HAT.out.get Try.underlying38 infoI j hlt
      obtain ⟨z', b', p', hz', hidx', hb', c0', hwf'⟩ := HBT.out.get Try.underlying38 infoI j hlt
      rw [hz] at hz'
      cases hz'
      clear hz
      go_wp2_with fail
      go_quiet (fail)
      go_wp2_with fail
      go_roundw
      case rel => exact ⟨j + 1, q + nq, by go_num, by omega, by simp⟩
      case measure => simp [intOf]; omega
    · go_wp2_with fail
      go_ret
      exact ⟨rfl, below_drewN (Below.refl _ _) _⟩

set_option maxHeartbeats 2000000 in
theorem sameEvent_yes (id kd sn us mb dp : Int) (oa : Option Addr) (n cl : Nat) (tx : List UInt8) (ob : Option Addr) (m cp : Nat) (zl zp : List Int) (oc od : Option Addr) (cl' cp' : Nat) (hn20 : n ≤ 1048576) (hm20 : m ≤ 1048576) (w : World) (h1 : IntsAt w oa n cl zl) (h2 : IntsAt w oc n cl' zl) (h3 : IntsAt w ob m cp zp) (h4 : IntsAt w od m cp' zp) :
    Calls Try.prog 24 #[evval id kd sn us mb dp (.slice oa n cl) (.slice ob m cp) tx, evval id kd sn us mb dp (.slice oc n cl') (.slice od m cp') tx] w fun e w' => e = .returned (.bool true) ∧ Below w.heap.size w w' := by
  have hb0 := ((Below.refl w.heap.size w).alloc (Nat.le_refl _) (.cells #[.int .i64 id, .int .i64 kd, .int .i64 sn, .int .i64 us, .int .i64 mb, .slice oa n cl, .string ⟨tx.toArray⟩, .slice ob m cp, .int .i64 dp] 40)).alloc (by simp) (.cells #[.int .i64 id, .int .i64 kd, .int .i64 sn, .int .i64 us, .int .i64 mb, .slice oc n cl', .string ⟨tx.toArray⟩, .slice od m cp', .int .i64 dp] 40)
  have HE := hide (fun w h1 h2 => sameInts_yes oa n cl oc cl' zl hn20 w h1 h2)
  have HP := hide (fun w h3 h4 => sameInts_yes ob m cp od cp' zp hm20 w h3 h4)
  have L1 := hide ((EB.new w id kd sn us mb dp (.slice oa n cl) (.slice ob m cp) tx).on ((Below.refl _ _).alloc (Nat.le_refl _) (.cells #[.int .i64 id, .int .i64 kd, .int .i64 sn, .int .i64 us, .int .i64 mb, .slice oc n cl', .string ⟨tx.toArray⟩, .slice od m cp', .int .i64 dp] 40)) (by simp))
  have L2 := hide (EB.new (w.alloc (.cells #[.int .i64 id, .int .i64 kd, .int .i64 sn, .int .i64 us, .int .i64 mb, .slice oa n cl, .string ⟨tx.toArray⟩, .slice ob m cp, .int .i64 dp] 40)) id kd sn us mb dp (.slice oc n cl') (.slice od m cp') tx)
  have HB0 := hide hb0
  have H1 := hide (h1.below hb0)
  have H2 := hide (h2.below hb0)
  have H3 := hide (h3.below hb0)
  have H4 := hide (h4.below hb0)
  clear h1 h2 h3 h4 hb0
  rw [World.size_alloc] at L2
  have q0 : ((⟨tx.toArray⟩ : ByteArray).toList == (⟨tx.toArray⟩ : ByteArray).toList) = true := by simp
  go_enter Try.func24, Try.ntmps24
  go_wp2_with fail
  refine (HE.out _ H1.out H2.out).mono ?_
  rintro e w1 ⟨rfl, hb1⟩
  have L1b := hide (L1.out.on hb1 L1.out.lt)
  have L2b := hide (L2.out.on hb1 (by simp))
  have H3b := hide (H3.out.below hb1)
  have H4b := hide (H4.out.below hb1)
  have HB1 := hide (HB0.out.trans (hb1.mono HB0.out.size))
  clear hb1 L1 L2 H1 H2 H3 H4 HE HB0
  obtain ⟨a0, a1, a2, a3, a4, a5, a6, a7, a8⟩ := L1b.out.ev
  obtain ⟨b0, b1, b2, b3, b4, b5, b6, b7, b8⟩ := L2b.out.ev
  go_wp2_with fail
  clear a0 a1 a2 a3 a4 a5 a6 a7 a8 b0 b1 b2 b3 b4 b5 b6 b7 b8
  refine (HP.out _ H3b.out H4b.out).mono ?_
  rintro e w2 ⟨rfl, hb2⟩
  have HB2 := hide (HB1.out.trans (hb2.mono HB1.out.size))
  clear hb2 L1b L2b
  go_wp2_with fail
  go_ret
  exact ⟨rfl, HB2.out⟩

end Go.Proofs.Ytmifhdoaknbkbaa
