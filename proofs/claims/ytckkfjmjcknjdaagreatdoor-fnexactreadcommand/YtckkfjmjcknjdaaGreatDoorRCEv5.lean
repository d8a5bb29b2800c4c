/-
  Walks and mathematics of Ev5.
-/
import Derived.Test.YtckkfjmjcknjdaaGreatDoorRCEv2
import Derived.Test.YtckkfjmjcknjdaaGreatDoorRCIntsMark
import Derived.Test.YtckkfjmjcknjdaaGreatDoorRCFlat2
import Derived.Test.YtckkfjmjcknjdaaGreatDoorRCInts
import Derived.ChangeSlices
import Derived.WideShapes
namespace Go.Proofs.YtckkfjmjcknjdaaGreatDoor.P3
end Go.Proofs.YtckkfjmjcknjdaaGreatDoor.P3
namespace Go.Proofs.YtckkfjmjcknjdaaGreatDoor
open Go.RowKit P1 P3 P9 P11 P12 K
set_option linter.unusedVariables false
set_option linter.unusedSimpArgs false

set_option maxHeartbeats 2000000 in
theorem eqEvent_same (id kd sn us mb dp : Int) (oa : Option Addr) (n cl : Nat) (tx : List UInt8) (ob : Option Addr) (m cp : Nat) (zl zp : List Int) (oc od : Option Addr) (cl' cp' : Nat) (hn20 : n ≤ 1048576) (hm20 : m ≤ 1048576) (w : World) (h1 : IntsAt w oa n cl zl) (h2 : IntsAt w oc n cl' zl) (h3 : IntsAt w ob m cp zp) (h4 : IntsAt w od m cp' zp) :
    Calls Tryz.prog 25 #[evval id kd sn us mb dp (.slice oa n cl) (.slice ob m cp) tx, evval id kd sn us mb dp (.slice oc n cl') (.slice od m cp') tx] w fun e w' => e = .returned (.bool true) ∧ Below w.heap.size w w' := by
  have hb0 := ((Below.refl w.heap.size w).alloc (Nat.le_refl _) (.cells #[.int .i64 id, .int .i64 kd, .int .i64 sn, .int .i64 us, .int .i64 mb, .slice oa n cl, .string ⟨tx.toArray⟩, .slice ob m cp, .int .i64 dp] 29)).alloc (by simp) (.cells #[.int .i64 id, .int .i64 kd, .int .i64 sn, .int .i64 us, .int .i64 mb, .slice oc n cl', .string ⟨tx.toArray⟩, .slice od m cp', .int .i64 dp] 29)
  have HE := hide (eqIntS_same oa n cl oc cl' zl hn20 _ (h1.below hb0) (h2.below hb0))
  have HP := hide (fun w h3 h4 => eqIntS_same ob m cp od cp' zp hm20 w h3 h4)
  have L1 := hide ((EB.new w id kd sn us mb dp (.slice oa n cl) (.slice ob m cp) tx).on ((Below.refl _ _).alloc (Nat.le_refl _) (.cells #[.int .i64 id, .int .i64 kd, .int .i64 sn, .int .i64 us, .int .i64 mb, .slice oc n cl', .string ⟨tx.toArray⟩, .slice od m cp', .int .i64 dp] 29)) (by simp))
  have L2 := hide (EB.new (w.alloc (.cells #[.int .i64 id, .int .i64 kd, .int .i64 sn, .int .i64 us, .int .i64 mb, .slice oa n cl, .string ⟨tx.toArray⟩, .slice ob m cp, .int .i64 dp] 29)) id kd sn us mb dp (.slice oc n cl') (.slice od m cp') tx)
  have HB0 := hide hb0
  have H3 := hide (h3.below hb0)
  have H4 := hide (h4.below hb0)
  clear h1 h2 h3 h4 hb0
  go_enter Tryz.func25, Tryz.ntmps25
  go_wp2_with fail
  refine HE.out.mono ?_
  rintro e w1 ⟨rfl, hb1⟩
  have L1b := hide (L1.out.on hb1 L1.out.lt)
  have L2b := hide (L2.out.on hb1 L2.out.lt)
  have H3b := hide (H3.out.below hb1)
  have H4b := hide (H4.out.below hb1)
  have HB1 := hide (HB0.out.trans (hb1.mono HB0.out.size))
  clear hb1 L1 L2 H3 H4 HE HB0
  rw [World.size_alloc] at L2b
  obtain ⟨a0, a1, a2, a3, a4, a5, a6, a7, a8⟩ := L1b.out.ev
  obtain ⟨b0, b1, b2, b3, b4, b5, b6, b7, b8⟩ := L2b.out.ev
  go_wp2_with fail
  clear a0 a1 a2 a3 a4 a5 a6 a7 a8 b0 b1 b2 b3 b4 b5 b6 b7 b8
  refine (HP.out _ H3b.out H4b.out).mono ?_
  rintro e w2 ⟨rfl, hb2⟩
  obtain ⟨a0, a1, a2, a3, a4, a5, a6, a7, a8⟩ := (L1b.out.on hb2 L1b.out.lt).ev
  obtain ⟨b0, b1, b2, b3, b4, b5, b6, b7, b8⟩ := (L2b.out.on hb2 L2b.out.lt).ev
  have HB2 := hide (HB1.out.trans (hb2.mono HB1.out.size))
  clear hb2 L1b L2b
  go_wp2_with fail
  go_ret
  exact ⟨rfl, HB2.out⟩

set_option maxHeartbeats 1000000 in
theorem markIntS_e (v : Value) (n base k : Nat) (hn : n ≤ 1048576) (hk : k ≤ 1000000000) (w : World) (xs : List Value) (hown : w.ownsRow base 3 1 v n xs) :
    Calls Tryz.prog 67 #[v, .int .i64 (k : Int)] w fun e w' => e = .returned (.int .i64 ((k + n : Nat) : Int)) ∧ w'.ownsRow base 3 1 v n ((marksI k n).map icell) ∧ w.grownBy w' v.ownBlock := by
  rcases hown.2 with ⟨rfl, rfl⟩ | ⟨g, cap, cur, rfl, hg⟩
  · have HO := hide (World.ownsRow_nil w base 3 1)
    go_enter Tryz.func67, Tryz.ntmps67
    go_wp2_with fail
    go_loopw [1, 5] (fun x i wr => x = .int .i64 (k : Int) ∧ i = .int .i64 0 ∧ w = wr) (fun _ i _ => 0)
    case atStart => exact ⟨rfl, rfl, rfl⟩
    case round =>
      obtain ⟨rfl, rfl, rfl⟩ := hrel
      go_wp2_with fail
      go_ret
      exact ⟨by go_num, by simpa [marksI] using HO.out, World.grownBy.refl _ _⟩
  · exact markIntS_own g n cap base k hn hk w xs hown

structure EvOwn (w : World) (base : Nat) (vl vp : Value) (n m : Nat) (zl zp : List Int) : Prop where
  l : w.ownsRow base 3 1 vl n (zl.map icell)
  p : w.ownsRow base 3 1 vp m (zp.map icell)
  ne : ∀ k, vl.ownBlock = some k → vp.ownBlock ≠ some k

theorem EvOwn.on {w w' : World} {base : Nat} {vl vp : Value} {n m : Nat} {zl zp : List Int} (h : EvOwn w base vl vp n m zl zp) (hb : Below w.heap.size w w') : EvOwn w' base vl vp n m zl zp :=
  ⟨own_below h.l hb, own_below h.p hb, h.ne⟩

theorem EvOwn.down {w : World} {base base' : Nat} {vl vp : Value} {n m : Nat} {zl zp : List Int} (h : EvOwn w base vl vp n m zl zp) (hb : base' ≤ base) : EvOwn w base' vl vp n m zl zp :=
  ⟨own_base h.l hb, own_base h.p hb, h.ne⟩

theorem EvOwn.kept {w w' : World} {base : Nat} {vl vp : Value} {n m : Nat} {zl zp : List Int} {b : Nat} (h : EvOwn w base vl vp n m zl zp) (hg : w.grownBy w' (some b)) (hlt : b < base) : EvOwn w' base vl vp n m zl zp :=
  ⟨h.l.kept hg (Or.inr (fun q => by have := h.l.lt b q; omega)), h.p.kept hg (Or.inr (fun q => by have := h.p.lt b q; omega)), h.ne⟩

structure EvMarks (w : World) (base : Nat) (vl vp : Value) (n m k : Nat) : Prop where
  l : w.ownsRow base 3 1 vl n ((marksI k n).map icell)
  p : w.ownsRow base 3 1 vp m ((marksI (k + n) m).map icell)
  ne : ∀ k, vl.ownBlock = some k → vp.ownBlock ≠ some k

theorem EvMarks.on {w w' : World} {base : Nat} {vl vp : Value} {n m k : Nat} (h : EvMarks w base vl vp n m k) (hb : Below w.heap.size w w') : EvMarks w' base vl vp n m k :=
  ⟨own_below h.l hb, own_below h.p hb, h.ne⟩

set_option maxHeartbeats 2000000 in
theorem heldEvent_any (id kd sn us mb dp : Int) (tx : List UInt8) (vl vp : Value) (n m base k : Nat) (hn20 : n ≤ 1048576) (hm20 : m ≤ 1048576) (hk : k ≤ 1000000) (w : World) (ho : EvMarks w base vl vp n m k) :
    Calls Tryz.prog 41 #[evval id kd sn us mb dp vl vp tx, .int .i64 (k : Int)] w fun e w' => e = .returned (.int .i64 ((k + n + m : Nat) : Int)) ∧ Below w.heap.size w w' := by
  obtain ⟨oa, cl, hvl, hat⟩ := intsAt_of_own ho.l (marksI_wf k n (by omega) hn20)
  obtain ⟨ob, cp, hvp, hbt⟩ := intsAt_of_own ho.p (marksI_wf (k + n) m (by omega) hm20)
  subst hvl
  subst hvp
  have hb0 := (Below.refl w.heap.size w).alloc (Nat.le_refl _) (.cells #[.int .i64 id, .int .i64 kd, .int .i64 sn, .int .i64 us, .int .i64 mb, .slice oa n cl, .string ⟨tx.toArray⟩, .slice ob m cp, .int .i64 dp] 29)
  have HH := hide (heldIntS_own oa n cl k hn20 (by omega) _ (hat.below hb0))
  have HP := hide (fun w h => heldIntS_own ob m cp (k + n) hm20 (by omega) w h)
  have HBT := hide (hbt.below hb0)
  have HEV := hide (EB.new w id kd sn us mb dp (.slice oa n cl) (.slice ob m cp) tx)
  have HB0 := hide hb0
  clear ho hat hbt hb0
  have g1 : ¬ ((k + n : Nat) : Int) < 0 := by omega
  have g2 : ¬ ((k + n + m : Nat) : Int) < 0 := by omega
  go_enter Tryz.func41, Tryz.ntmps41
  go_wp2_with fail
  refine HH.out.mono ?_
  rintro e w1 ⟨rfl, hb1⟩
  have HB1 := hide (HB0.out.trans (hb1.mono HB0.out.size))
  have HBT1 := hide (HBT.out.below hb1)
  have HE1 := hide (HEV.out.on hb1 HEV.out.lt)
  clear hb1 HEV HBT HB0 HH
  obtain ⟨a0, a1, a2, a3, a4, a5, a6, a7, a8⟩ := HE1.out.ev
  go_wp2_with fail
  clear a0 a1 a2 a3 a4 a5 a6 a7 a8
  refine (HP.out _ HBT1.out).mono ?_
  rintro e w2 ⟨rfl, hb2⟩
  have HB2 := hide (HB1.out.trans (hb2.mono HB1.out.size))
  clear hb2
  go_wp2_with fail
  go_ret
  exact ⟨by go_num, HB2.out⟩

end Go.Proofs.YtckkfjmjcknjdaaGreatDoor
