/-
  Walks and mathematics of Evs3.
-/
import Derived.Test.YthieilmjbefamaaSEvs2
namespace Go.Proofs.Ythieilmjbefamaa.P11
end Go.Proofs.Ythieilmjbefamaa.P11
namespace Go.Proofs.Ythieilmjbefamaa.P14
end Go.Proofs.Ythieilmjbefamaa.P14
namespace Go.Proofs.Ythieilmjbefamaa.P3
end Go.Proofs.Ythieilmjbefamaa.P3
namespace Go.Proofs.Ythieilmjbefamaa.P9
end Go.Proofs.Ythieilmjbefamaa.P9
namespace Go.Proofs.Ythieilmjbefamaa
open Go.RowKit P1 P3 P5 P9 P11 P12 P14 K
set_option linter.unusedVariables false
set_option linter.unusedSimpArgs false

set_option maxHeartbeats 4000000 in
theorem eqEventS_same (oa : Option Addr) (n cap : Nat) (es : List EvV) (ob : Option Addr) (cap' : Nat) (hfine : FineE es) (w : World) (hat : EvsAt w oa n cap es) (hbt : EvsAt w ob n cap' es) :
    Calls Try.prog 28 #[.slice oa n cap, .slice ob n cap'] w fun e w' => e = .returned (.bool true) ∧ Below w.heap.size w w' := by
  have hmx := Nat.le_trans hat.room hat.most
  unfold maxLen at hmx
  have HAT := hide hat
  have HBT := hide hbt
  have HFI := hide hfine
  clear hat hbt hfine
  go_enter Try.func28, Try.ntmps28
  go_wp2_with fail
  go_loopw [5] (fun i wr => ∃ (j : Nat), i = .int .i64 (j : Int) ∧ j ≤ n ∧ Below w.heap.size w wr) (fun i _ => n - (intOf i).toNat)
  case atStart => exact ⟨0, rfl, Nat.zero_le _, Below.refl _ _⟩
  case round =>
    obtain ⟨j, rfl, hj, hbel⟩ := hrel
    have hsz := hbel.size
    by_cases hlt : j < n
    · have j0 : (j : Int) < (n : Int) := by omega
      obtain ⟨e, b, q, xa, xc, ya, yc, he, hidx, hev⟩ := (HAT.out.below hbel).get Try.underlying30 infoIV j hlt
      obtain ⟨e', b', q', xa', xc', ya', yc', he', hidx', hev'⟩ := (HBT.out.below hbel).get Try.underlying30 infoIV j hlt
      have hee : e = e' := by rw [he] at he'; exact Option.some.inj he'
      subst hee
      obtain ⟨l1, l2, l3⟩ := HFI.out.one (List.mem_of_getElem? he)
      clear he he'
      have hb := hev.lt
      have hb' := hev'.lt
      obtain ⟨c0, c1, c2, c3, c4, c5, c6, c7, c8⟩ := hev.cs
      obtain ⟨d0, d1, d2, d3, d4, d5, d6, d7, d8⟩ := hev'.cs
      have HC := hide (fun (w2 : World) (hb2 : Below wr.heap.size wr w2) => eqEvent_same e.id e.kind e.sender e.user e.member e.depth xa e.levels.length xc e.text ya e.prev.length yc e.levels e.prev xa' ya' xc' yc' l1 l3 w2 (hev.lev.below hb2) (hev'.lev.below hb2) (hev.prv.below hb2) (hev'.prv.below hb2))
      clear hev hev'
      go_wp2_with fail
      refine wp_region_in (F := fun w' => Below wr.heap.size wr w') (by kernel_rfl) (by kernel_rfl) (Below.refl _ _).drew ?_
      have hne : Nonempty (InW (fun w' => Below wr.heap.size wr w')) := ⟨⟨_, Below.refl _ _⟩⟩
      have k0 : ∀ m : InW (fun w' => Below wr.heap.size wr w'), m.w.cell? ⟨b, q, none⟩ = some (.int .i64 e.id) := fun m => (m.h.cell hb).trans c0
      have k1 : ∀ m : InW (fun w' => Below wr.heap.size wr w'), m.w.cell? ⟨b, q + 1, none⟩ = some (.int .i64 e.kind) := fun m => (m.h.cell hb).trans c1
      have k2 : ∀ m : InW (fun w' => Below wr.heap.size wr w'), m.w.cell? ⟨b, q + 2, none⟩ = some (.int .i64 e.sender) := fun m => (m.h.cell hb).trans c2
      have k3 : ∀ m : InW (fun w' => Below wr.heap.size wr w'), m.w.cell? ⟨b, q + 3, none⟩ = some (.int .i64 e.user) := fun m => (m.h.cell hb).trans c3
      have k4 : ∀ m : InW (fun w' => Below wr.heap.size wr w'), m.w.cell? ⟨b, q + 4, none⟩ = some (.int .i64 e.member) := fun m => (m.h.cell hb).trans c4
      have k5 : ∀ m : InW (fun w' => Below wr.heap.size wr w'), m.w.cell? ⟨b, q + 5, none⟩ = some (.slice xa e.levels.length xc) := fun m => (m.h.cell hb).trans c5
      have k6 : ∀ m : InW (fun w' => Below wr.heap.size wr w'), m.w.cell? ⟨b, q + 6, none⟩ = some (.string ⟨e.text.toArray⟩) := fun m => (m.h.cell hb).trans c6
      have k7 : ∀ m : InW (fun w' => Below wr.heap.size wr w'), m.w.cell? ⟨b, q + 7, none⟩ = some (.slice ya e.prev.length yc) := fun m => (m.h.cell hb).trans c7
      have k8 : ∀ m : InW (fun w' => Below wr.heap.size wr w'), m.w.cell? ⟨b, q + 8, none⟩ = some (.int .i64 e.depth) := fun m => (m.h.cell hb).trans c8
      have m0 : ∀ m : InW (fun w' => Below wr.heap.size wr w'), m.w.cell? ⟨b', q', none⟩ = some (.int .i64 e.id) := fun m => (m.h.cell hb').trans d0
      have m1 : ∀ m : InW (fun w' => Below wr.heap.size wr w'), m.w.cell? ⟨b', q' + 1, none⟩ = some (.int .i64 e.kind) := fun m => (m.h.cell hb').trans d1
      have m2 : ∀ m : InW (fun w' => Below wr.heap.size wr w'), m.w.cell? ⟨b', q' + 2, none⟩ = some (.int .i64 e.sender) := fun m => (m.h.cell hb').trans d2
      have m3 : ∀ m : InW (fun w' => Below wr.heap.size wr w'), m.w.cell? ⟨b', q' + 3, none⟩ = some (.int .i64 e.user) := fun m => (m.h.cell hb').trans d3
      have m4 : ∀ m : InW (fun w' => Below wr.heap.size wr w'), m.w.cell? ⟨b', q' + 4, none⟩ = some (.int .i64 e.member) := fun m => (m.h.cell hb').trans d4
      have m5 : ∀ m : InW (fun w' => Below wr.heap.size wr w'), m.w.cell? ⟨b', q' + 5, none⟩ = some (.slice xa' e.levels.length xc') := fun m => (m.h.cell hb').trans d5
      have m6 : ∀ m : InW (fun w' => Below wr.heap.size wr w'), m.w.cell? ⟨b', q' + 6, none⟩ = some (.string ⟨e.text.toArray⟩) := fun m => (m.h.cell hb').trans d6
      have m7 : ∀ m : InW (fun w' => Below wr.heap.size wr w'), m.w.cell? ⟨b', q' + 7, none⟩ = some (.slice ya' e.prev.length yc') := fun m => (m.h.cell hb').trans d7
      have m8 : ∀ m : InW (fun w' => Below wr.heap.size wr w'), m.w.cell? ⟨b', q' + 8, none⟩ = some (.int .i64 e.depth) := fun m => (m.h.cell hb').trans d8
      repeat (go_big_quiet_step (first | (go_at_call 40; refine (HC.out _ (InW.h _)).mono ?_; rintro e' w2 ⟨rfl, hb2⟩; exact ⟨rfl, ⟨w2, Below.trans (InW.h _) (hb2.mono (Below.size (InW.h (F := fun w' => Below wr.heap.size wr w') ‹_›)))⟩, rfl⟩)))
      refine wpQuiet_nil ?_
      intro _ hw'
      obtain ⟨nq, hw''⟩ := hw'
      subst hw''
      have hb3 := hbel.trans (nq.h.mono hsz)
      generalize nq.w = w2 at hb3 ⊢
      clear hne k0 k1 k2 k3 k4 k5 k6 k7 k8 m0 m1 m2 m3 m4 m5 m6 m7 m8 c0 c1 c2 c3 c4 c5 c6 c7 c8 d0 d1 d2 d3 d4 d5 d6 d7 d8
      go_wp2_with fail
      go_roundw
      case rel => exact ⟨j + 1, by go_num, by omega, hb3⟩
      case measure => simp [intOf]; omega
    · have hjn : j = n := by omega
      go_wp2_with fail
      go_ret
      exact ⟨rfl, hbel⟩

theorem EvSh.rowKept {w w' : World} {lo hi g : Nat} {es : List EvV} (h : EvSh w lo hi g es) {v : Value} {n : Nat} (hr : RowS w lo hi v n) (hg : w.grownBy w' (some g)) : RowS w' lo hi v n := by
  obtain ⟨h1, h2, cs, h3, h4, hx⟩ := h
  exact hr.cells h3 hg

def MkPostB (w : World) (lo hi : Nat) (e : Ending) (w' : World) : Prop := ∃ k : Nat, e = .returned (.int .i64 (k : Int)) ∧ k ≤ 10000000 ∧ Within lo hi w w'

set_option maxHeartbeats 8000000 in
theorem markEventS_b (g n lo hi : Nat) (es : List EvV) (hn : es.length = n) (hfine : FineE es) (w : World) (hsh : EvSh w lo hi g es) :
    Calls Try.prog 32 #[.slice (some ⟨g, 0, none⟩) n n, .int .i64 1] w (MkPostB w lo hi) := by
  have hn20 : n ≤ 1048576 := by rw [← hn]; exact hfine.len
  have hall := hfine.all
  have HSH := hide hsh
  have HN := hide hn
  have HFI := hide hfine
  clear hsh hn hfine
  go_enter Try.func32, Try.ntmps32
  go_wp2_with fail
  go_loopw [1, 5] (fun x i wr => ∃ (j k : Nat), i = .int .i64 (j : Int) ∧ x = .int .i64 (k : Int) ∧ j ≤ n ∧ k ≤ 1 + 7 * j + evW (es.take j) ∧ EvSh wr lo hi g es ∧ Within lo hi w wr) (fun _ i _ => n - (intOf i).toNat)
  case atStart => exact ⟨0, 1, rfl, rfl, Nat.zero_le _, by omega, HSH.out, Within.refl _ _ _⟩
  case round =>
    obtain ⟨j, k, rfl, rfl, hj, hk, hsh, hwi⟩ := hrel
    have hk9 : k ≤ 1 + 7 * 1048576 + 1048576 := by have := evW_take_le es j; omega
    have HWI := hide hwi
    have HS := hide hsh
    clear hsh hwi
    by_cases hlt : j < n
    · have j0 : (j : Int) < (n : Int) := by omega
      have hidx2 : ∀ wx, (Instr.indexAt 30 (.slice (some ⟨g, 0, none⟩) n n) (.int .i64 (j : Int))).run Try.prog wx = .ok (.pointer (some ⟨g, j * 9, none⟩)) wx := fun wx => by
        have := run_indexAt_slice wx 30 49 9 Try.underlying30 infoIV g 0 n n j hlt
        rwa [Nat.zero_add] at this
      obtain ⟨e, he⟩ : ∃ e, es[j]? = some e := ⟨_, List.getElem?_eq_getElem (by rw [HN.out]; exact hlt)⟩
      have hT := evW_take he
      obtain ⟨l1, l2, l3⟩ := HFI.out.one (List.mem_of_getElem? he)
      unfold evw at hT
      obtain ⟨u0, u1, u2, u3, u4, vl, u6, vp, u8, c0, c1, c2, c3, c4, c5, c6, c7, c8, hfz, hrl, hrp⟩ := HS.out.get he
      have f0 := hfz (j * 9)
      have f1 := hfz (j * 9 + 1)
      have f2 := hfz (j * 9 + 2)
      have f3 := hfz (j * 9 + 3)
      have f4 := hfz (j * 9 + 4)
      obtain ⟨xs1, ho1⟩ := hrl.own
      obtain ⟨ol, cl, rfl⟩ := row_form ho1
      have HE := hide he
      have HTK := hide hT
      have HRL := hide hrl
      clear hfz hrl hrp he hT ho1
      go_wp2_with fail
      have hsh1 := ((((HS.out.cell0 (j := j) (.int .i64 (k : Int))).cell (j := j) (c := 1) (by omega) (by omega) (by omega) (.int .i64 ((k : Int) + 1))).cell (j := j) (c := 2) (by omega) (by omega) (by omega) (.int .i64 ((k : Int) + 1 + 1))).cell (j := j) (c := 3) (by omega) (by omega) (by omega) (.int .i64 ((k : Int) + 1 + 1 + 1))).cell (j := j) (c := 4) (by omega) (by omega) (by omega) (.int .i64 ((k : Int) + 1 + 1 + 1 + 1))
      have hwi1 : Within lo hi wr (((((wr.setCell ⟨g, j * 9, none⟩ (.int .i64 (k : Int))).setCell ⟨g, j * 9 + 1, none⟩ (.int .i64 ((k : Int) + 1))).setCell ⟨g, j * 9 + 2, none⟩ (.int .i64 ((k : Int) + 1 + 1))).setCell ⟨g, j * 9 + 3, none⟩ (.int .i64 ((k : Int) + 1 + 1 + 1))).setCell ⟨g, j * 9 + 4, none⟩ (.int .i64 ((k : Int) + 1 + 1 + 1 + 1))) :=
        Within.row (row := some g) (grown_trans (grown_trans (grown_trans (grown_trans (blk_grown _ _ _ _) (blk_grown _ _ _ _)) (blk_grown _ _ _ _)) (blk_grown _ _ _ _)) (blk_grown _ _ _ _)) (fun q hq => by cases hq; exact ⟨HS.out.lo_, HS.out.hi_⟩)
      have hrl1 := HS.out.rowKept (w' := ((((wr.setCell ⟨g, j * 9, none⟩ (.int .i64 (k : Int))).setCell ⟨g, j * 9 + 1, none⟩ (.int .i64 ((k : Int) + 1))).setCell ⟨g, j * 9 + 2, none⟩ (.int .i64 ((k : Int) + 1 + 1))).setCell ⟨g, j * 9 + 3, none⟩ (.int .i64 ((k : Int) + 1 + 1 + 1))).setCell ⟨g, j * 9 + 4, none⟩ (.int .i64 ((k : Int) + 1 + 1 + 1 + 1))) HRL.out (grown_trans (grown_trans (grown_trans (grown_trans (blk_grown _ _ _ _) (blk_grown _ _ _ _)) (blk_grown _ _ _ _)) (blk_grown _ _ _ _)) (blk_grown _ _ _ _))
      generalize ((((wr.setCell ⟨g, j * 9, none⟩ (.int .i64 (k : Int))).setCell ⟨g, j * 9 + 1, none⟩ (.int .i64 ((k : Int) + 1))).setCell ⟨g, j * 9 + 2, none⟩ (.int .i64 ((k : Int) + 1 + 1))).setCell ⟨g, j * 9 + 3, none⟩ (.int .i64 ((k : Int) + 1 + 1 + 1))).setCell ⟨g, j * 9 + 4, none⟩ (.int .i64 ((k : Int) + 1 + 1 + 1 + 1)) = w1 at hsh1 hwi1 hrl1 ⊢
      have HW1 := hide (HWI.out.trans hwi1)
      have HS1 := hide hsh1
      have HR1 := hide hrl1
      clear hsh1 hwi1 hrl1 c0 c1 c2 c3 c4 c5 c6 c7 c8 f0 f1 f2 f3 f4 HS HWI HRL
      obtain ⟨ys1, ho1⟩ := HR1.out.own
      have HM1 := hide (markIntS_e _ e.levels.length lo (k + 1 + 1 + 1 + 1 + 1) l1 (by omega) w1 ys1 ho1)
      have e5 : ((k + 1 + 1 + 1 + 1 + 1 : Nat) : Int) = (k : Int) + 1 + 1 + 1 + 1 + 1 := by omega
      rw [e5] at HM1
      have HO1 := hide ho1
      clear ho1 e5
      refine HM1.out.mono ?_
      rintro e2 w2 ⟨rfl, ho2, hg2⟩
      have HS2 := hide (HS1.out.row HO1.out ho2 hg2)
      have HW2 := hide (HW1.out.trans (Within.row hg2 (fun q hq => ⟨(HO1.out.lt q hq).1, HR1.out.top q hq⟩)))
      obtain ⟨k2, hk2⟩ : ∃ k2, k + 1 + 1 + 1 + 1 + 1 + e.levels.length = k2 := ⟨_, rfl⟩
      rw [hk2]
      clear ho2 hg2 HM1 HO1 HS1 HW1 HR1
      go_wp2_with fail
      refine (markText_any k2 (by omega) _).mono ?_
      rintro e3 w3 ⟨rfl, hb3⟩
      have HS3 := hide (HS2.out.on hb3)
      have HW3 := hide (HW2.out.trans (Within.below hb3))
      clear hb3 HS2 HW2
      obtain ⟨u0, u1, u2, u3, u4, vl, u6, vp, u8, c0, c1, c2, c3, c4, c5, c6, c7, c8, hfz, hrl, hrp⟩ := HS3.out.get HE.out
      have f6 := hfz (j * 9 + 6)
      obtain ⟨xs3, ho3⟩ := hrp.own
      obtain ⟨op, cp, rfl⟩ := row_form ho3
      have HRP := hide hrp
      clear hfz hrl hrp ho3
      go_wp2_with fail
      have hsh4 := HS3.out.cell (j := j) (c := 6) (by omega) (by omega) (by omega) (.string ⟨(markB k2).toArray⟩)
      have hrp4 := HS3.out.rowKept HRP.out (blk_grown w3 g (j * 9 + 6) (.string ⟨(markB k2).toArray⟩))
      have hwi4 : Within lo hi w3 (w3.setCell ⟨g, j * 9 + 6, none⟩ (.string ⟨(markB k2).toArray⟩)) := Within.row (row := some g) (blk_grown _ _ _ _) (fun q hq => by cases hq; exact ⟨HS3.out.lo_, HS3.out.hi_⟩)
      generalize w3.setCell ⟨g, j * 9 + 6, none⟩ (.string ⟨(markB k2).toArray⟩) = w4 at hsh4 hrp4 hwi4 ⊢
      have HS4 := hide hsh4
      have HR4 := hide hrp4
      have HW4 := hide (HW3.out.trans hwi4)
      clear hsh4 hrp4 hwi4 c0 c1 c2 c3 c4 c5 c6 c7 c8 f6 HS3 HW3 HRP
      obtain ⟨ys4, ho4⟩ := HR4.out.own
      have HM4 := hide (markIntS_e _ e.prev.length lo (k2 + 1) l3 (by omega) w4 ys4 ho4)
      have e6 : ((k2 + 1 : Nat) : Int) = (k2 : Int) + 1 := by omega
      rw [e6] at HM4
      have HO4 := hide ho4
      clear ho4 e6
      refine HM4.out.mono ?_
      rintro e5 w5 ⟨rfl, ho5, hg5⟩
      have HS5 := hide (HS4.out.row HO4.out ho5 hg5)
      have HW5 := hide (HW4.out.trans (Within.row hg5 (fun q hq => ⟨(HO4.out.lt q hq).1, HR4.out.top q hq⟩)))
      obtain ⟨k5, hk5⟩ : ∃ k5, k2 + 1 + e.prev.length = k5 := ⟨_, rfl⟩
      rw [hk5]
      clear ho5 hg5 HM4 HO4 HS4 HW4 HR4
      obtain ⟨u0, u1, u2, u3, u4, vl, u6, vp, u8, c0, c1, c2, c3, c4, c5, c6, c7, c8, hfz, hrl, hrp⟩ := HS5.out.get HE.out
      have f8 := hfz (j * 9 + 8)
      clear hfz hrl hrp
      go_wp2_with fail
      have HS6 := hide (HS5.out.cell (j := j) (c := 8) (by omega) (by omega) (by omega) (.int .i64 (k5 : Int)))
      have HW6 := hide (HW5.out.trans (Within.row (lo := lo) (hi := hi) (row := some g) (blk_grown w5 g (j * 9 + 8) (.int .i64 (k5 : Int))) (fun q hq => by cases hq; exact ⟨HS5.out.lo_, HS5.out.hi_⟩)))
      go_roundw
      case rel => exact ⟨j + 1, k5 + 1, by go_num, by go_num, by omega, by rw [HTK.out]; omega, HS6.out, HW6.out⟩
      case measure => simp [intOf]; omega
    · go_wp2_with fail
      go_ret
      exact ⟨k, rfl, by omega, HWI.out⟩

end Go.Proofs.Ythieilmjbefamaa
