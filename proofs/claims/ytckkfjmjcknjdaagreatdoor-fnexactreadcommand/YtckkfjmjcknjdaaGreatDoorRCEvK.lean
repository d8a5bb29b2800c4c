/-
  Walks and mathematics of EvK.
-/
import Derived.Test.YtckkfjmjcknjdaaGreatDoorRCEv5
namespace Go.Proofs.YtckkfjmjcknjdaaGreatDoor.P3
end Go.Proofs.YtckkfjmjcknjdaaGreatDoor.P3
namespace Go.Proofs.YtckkfjmjcknjdaaGreatDoor
open Go.RowKit P1 P3 P9 P11 P12 K
set_option linter.unusedVariables false
set_option linter.unusedSimpArgs false

theorem grown_low {a b c : World} {r : Option Nat} (h : a.grownBy b r) (k : Below a.heap.size b c) : a.grownBy c r :=
  ⟨k.os.trans h.os, k.tape.trans h.tape, k.output.trans h.output, Nat.le_trans h.size k.size, fun i hi hne => (k.block i hi).trans (h.block i hi hne)⟩

set_option maxHeartbeats 2000000 in
theorem markEvent_keep (id kd sn us mb dp : Int) (tx : List UInt8) (vl vp : Value) (n m base k : Nat) (zl zp : List Int) (hn20 : n ≤ 1048576) (hm20 : m ≤ 1048576) (hk : k ≤ 1000000) (w : World) (hbase : base ≤ w.heap.size) (ho : EvOwn w base vl vp n m zl zp) :
    Calls Tryz.prog 40 #[evval id kd sn us mb dp vl vp tx, .int .i64 (k : Int)] w fun e w' => e = .returned (.int .i64 ((k + n + m : Nat) : Int)) ∧ EvMarks w' base vl vp n m k ∧ Below base w w' ∧ ∀ b, b < w.heap.size → vl.ownBlock ≠ some b → vp.ownBlock ≠ some b → w'.heap[b]? = w.heap[b]? := by
  obtain ⟨oa, cl, hvl⟩ := row_form ho.l
  obtain ⟨ob, cp, hvp⟩ := row_form ho.p
  subst hvl
  subst hvp
  have HB0 := hide ((Below.refl w.heap.size w).alloc (Nat.le_refl _) (.cells #[.int .i64 id, .int .i64 kd, .int .i64 sn, .int .i64 us, .int .i64 mb, .slice oa n cl, .string ⟨tx.toArray⟩, .slice ob m cp, .int .i64 dp] 29))
  have HO1 := hide (ho.on HB0.out)
  have HEV := hide (EB.new w id kd sn us mb dp (.slice oa n cl) (.slice ob m cp) tx)
  have HM := hide (markIntS_e _ n base k hn20 (by omega) _ _ HO1.out.l)
  have HLE := hide (show ∀ j, (Value.slice oa n cl).ownBlock = some j → base ≤ j ∧ j < w.heap.size from fun j q => ⟨(ho.l.lt j q).1, (ho.l.lt j q).2⟩)
  have HLP := hide (show ∀ j, (Value.slice ob m cp).ownBlock = some j → base ≤ j ∧ j < w.heap.size from fun j q => ⟨(ho.p.lt j q).1, (ho.p.lt j q).2⟩)
  clear ho
  go_enter Tryz.func40, Tryz.ntmps40
  go_wp2_with fail
  refine HM.out.mono ?_
  rintro e w2 ⟨rfl, ho2, hg2⟩
  have HE2 := hide (HEV.out.kept hg2 (fun q => by have := (HLE.out _ q).2; omega))
  have HO2 := hide ho2
  have HP2 := hide (HO1.out.p.kept hg2 (by
    cases hq : (Value.slice ob m cp).ownBlock with
    | none => exact Or.inl rfl
    | some j => exact Or.inr (fun q => HO1.out.ne j q.symm hq)))
  have HB2 := hide (((Below.refl base w).alloc hbase (.cells #[.int .i64 id, .int .i64 kd, .int .i64 sn, .int .i64 us, .int .i64 mb, .slice oa n cl, .string ⟨tx.toArray⟩, .slice ob m cp, .int .i64 dp] 29)).grown hg2 (by simp; omega) (fun j q => (HLE.out j q).1))
  have HX2 := hide (show ∀ b, b < w.heap.size → (Value.slice oa n cl).ownBlock ≠ some b → w2.heap[b]? = w.heap[b]? from fun b hb hne => (hg2.block b (by simp; omega) (fun q => hne q.symm)).trans (HB0.out.block b hb))
  clear ho2 hg2 HM
  obtain ⟨a0, a1, a2, a3, a4, a5, a6, a7, a8⟩ := HE2.out.ev
  go_wp2_with fail
  clear a0 a1 a2 a3 a4 a5 a6 a7 a8
  refine (markIntS_e _ m base (k + n) hm20 (by omega) _ _ HP2.out).mono ?_
  rintro e w3 ⟨rfl, ho3, hg3⟩
  have hlt := HB2.out.size
  have hlt2 := HE2.out.lt
  have HB3 := hide (HB2.out.grown hg3 (by omega) (fun j q => (HLP.out j q).1))
  have HO3 := hide (HO2.out.kept hg3 (by
    cases hq : (Value.slice oa n cl).ownBlock with
    | none => exact Or.inl rfl
    | some j => exact Or.inr (fun q => HO1.out.ne j hq q.symm)))
  have HX3 := hide ho3
  have HY3 := hide (show ∀ b, b < w.heap.size → (Value.slice oa n cl).ownBlock ≠ some b → (Value.slice ob m cp).ownBlock ≠ some b → w3.heap[b]? = w.heap[b]? from fun b hb h1 h2 => (hg3.block b (by omega) (fun q => h2 q.symm)).trans (HX2.out b hb h1))
  clear ho3 hg3
  go_wp2_with fail
  go_ret
  exact ⟨by go_num, ⟨HO3.out, HX3.out, HO1.out.ne⟩, HB3.out, HY3.out⟩

section
variable {w w' : World} {b base top : Nat} {id kd sn us mb dp : Int} {vl vp : Value} {tx : List UInt8} {n m k : Nat} {zl zp : List Int}

theorem own_low {v : Value} {e : TypeId} {xs : List Value} {B : Nat} (h : w.ownsRow base e 1 v n xs) (hb : Below B w w') (hl : ∀ g, v.ownBlock = some g → g < B) : w'.ownsRow base e 1 v n xs := by
  obtain ⟨k1, k2⟩ := h
  refine ⟨k1, ?_⟩
  rcases k2 with k2 | ⟨g, cap, cur, hv, hg, hh, r⟩
  · exact Or.inl k2
  · exact Or.inr ⟨g, cap, cur, hv, hg, by rw [hb.block g (hl g (by rw [hv]; rfl))]; exact hh, r⟩

end

end Go.Proofs.YtckkfjmjcknjdaaGreatDoor
