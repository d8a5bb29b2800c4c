/-
  Walks of chapter 3: the laws' copies of files and disks, and their comparison.
  Walks of chapter 3: the laws' copies of disks, and their comparison.
  Files marked, and whether the marks are held.
  Journals: sized, copied, compared, marked by the laws.
  A log in a variable, its entries in a row of the call's own: what keeps it.
  A journal in a variable, its entries in a row of the call's own: what keeps it.
  The type that errors.As asks for, as the rows list it.
-/
import Derived.Test.YthbgklmnmoclhaaGreatDoorPack5
import Derived.Test.YthbgklmnmoclhaaGreatDoorPack9
import Derived.Deep.RegionHeld3
import Derived.Deep.QuietTactic
import Derived.BigQuiet
import Derived.Test.YthbgklmnmoclhaaGreatDoorPack12
import Derived.Test.YthbgklmnmoclhaaGreatDoorPack20
import Derived.Test.YthbgklmnmoclhaaGreatDoorPack13
import Derived.Test.YthbgklmnmoclhaaGreatDoorWalk7g
import Derived.Test.YthbgklmnmoclhaaGreatDoorPack31
import Derived.Test.YthbgklmnmoclhaaGreatDoorRows
import Derived.LaidSub
import Derived.LaidMore
import Derived.LaidLaws
import Derived.LaidHandle
import Derived.Stop.Joined
namespace Go.Proofs.YthbgklmnmoclhaaGreatDoor
open Go.RowKit P5 K
set_option linter.unusedVariables false
set_option linter.unusedSimpArgs false

theorem toFile_any (f : FileV) (w : World) :
    Calls Tryz.prog 46 #[fval f] w fun e w' => e = .returned (fval f) ∧ Below w.heap.size w w' := by
  obtain ⟨nm, tx, kp⟩ := f
  simp only [fval] at *
  have hb := (Below.refl w.heap.size w).alloc (Nat.le_refl _) (.cells #[.string ⟨nm.toArray⟩, .string ⟨tx.toArray⟩, .int .i64 kp] 73)
  have HB := hide hb
  clear hb
  go_enter Tryz.func46, Tryz.ntmps46
  go_wp2_with fail
  refine bodyPost_ret (v := fval ⟨nm, tx, kp⟩) (by simp [results, Tryz.results46, go_sem, fval]) rfl ⟨rfl, ?_⟩
  exact ((HB.out.alloc (by simp) _).alloc (by simp; omega) _)

theorem eqFile_any (f g : FileV) (w : World) :
    Calls Tryz.prog 56 #[fval f, fval g] w fun e w' => e = .returned (.bool (decide (f = g))) ∧ Below w.heap.size w w' := by
  obtain ⟨nm, tx, kp⟩ := f
  obtain ⟨nm', tx', kp'⟩ := g
  simp only [fval] at *
  have hb := ((Below.refl w.heap.size w).alloc (Nat.le_refl _) (.cells #[.string ⟨nm.toArray⟩, .string ⟨tx.toArray⟩, .int .i64 kp] 49)).alloc (by simp) (.cells #[.string ⟨nm'.toArray⟩, .string ⟨tx'.toArray⟩, .int .i64 kp'] 49)
  have HB := hide hb
  clear hb
  cases h1 : (nm == nm') with
  | false =>
    have HE := hide (show decide (FileV.mk nm tx kp = FileV.mk nm' tx' kp') = false by
      simp at h1 ⊢
      intro h; exact absurd h h1)
    go_enter Tryz.func56, Tryz.ntmps56
    go_wp2_with fail
    go_ret
    exact ⟨by rw [HE.out]; rfl, HB.out⟩
  | true =>
    cases h2 : (tx == tx') with
    | false =>
      have HE := hide (show decide (FileV.mk nm tx kp = FileV.mk nm' tx' kp') = false by
        simp at h2 ⊢
        intro _ h; exact absurd h h2)
      go_enter Tryz.func56, Tryz.ntmps56
      go_wp2_with fail
      go_ret
      exact ⟨by rw [HE.out]; rfl, HB.out⟩
    | true =>
      have e1 := h1
      have e2 := h2
      simp at e1 e2
      have E1 := hide e1
      have E2 := hide e2
      clear e1 e2
      by_cases h3 : kp = kp'
      · have g3 : (kp == kp') = true := by simpa using h3
        have HE := hide (show decide (FileV.mk nm tx kp = FileV.mk nm' tx' kp') = true by simp [E1.out, E2.out, h3])
        clear h3
        go_enter Tryz.func56, Tryz.ntmps56
        go_wp2_with fail
        go_ret
        exact ⟨by rw [HE.out]; rfl, HB.out⟩
      · have g3 : (kp == kp') = false := by simpa using h3
        have HE := hide (show decide (FileV.mk nm tx kp = FileV.mk nm' tx' kp') = false by simp [h3])
        go_enter Tryz.func56, Tryz.ntmps56
        go_wp2_with fail
        go_ret
        exact ⟨by rw [HE.out]; rfl, HB.out⟩


/-- The call's own copy of a slice of files. -/
theorem toFileS_any (oa : Option Addr) (n cap : Nat) (fs : List FileV) (hn20 : n ≤ 1048576) (w : World) (hat : FilesAt w oa n cap fs) :
    Calls Tryz.prog 25 #[.slice oa n cap] w fun e w' => ∃ g, e = .returned (.slice (some ⟨g, 0, none⟩) n n) ∧ w'.ownsRow w.heap.size 49 3 (.slice (some ⟨g, 0, none⟩) n n) n (fs.flatMap fcells) ∧ Below w.heap.size w w' := by
  have hn := hat.len
  have hc := hat.room
  have hm := hat.most
  unfold maxLen at hm
  obtain ⟨i0, hi, hz0, hz1, hz2⟩ := info_parts infoIFz
  obtain ⟨W0, hmk, hown0, hgr0⟩ := run_make_full (P := Tryz.prog) w w.heap.size 34 49 i0 _ 3 Tryz.underlying34 hi hz0 hz1 .i64 .i64 n (by rw [hz2]; omega) (by unfold maxLen; omega) (Nat.le_refl _)
  have HOWN := hide hown0
  have HGR := hide hgr0
  have HN := hide hn
  have HAT := hide hat
  clear hown0 hgr0 hn hat hi hz0 hz1 hz2
  go_enter Tryz.func25, Tryz.ntmps25
  go_wp2_with fail
  go_loopw [4] (fun i wr => ∃ (j : Nat) (xs : List Value), i = .int .i64 (j : Int) ∧ j ≤ n ∧ Filled fs j xs ∧ wr.ownsRow w.heap.size 49 3 (.slice (some ⟨w.heap.size, 0, none⟩) n n) n xs ∧ Below w.heap.size w wr) (fun i _ => n - (intOf i).toNat)
  case atStart => exact ⟨0, _, rfl, Nat.zero_le _, filled_zero _ _, HOWN.out, (Below.refl _ _).grown HGR.out (Nat.le_refl _) (fun k hk => by cases hk)⟩
  case round =>
    obtain ⟨j, xs, rfl, hj, hfill, hown, hbel⟩ := hrel
    by_cases hlt : j < n
    · have j0 : (j : Int) < (n : Int) := by omega
      obtain ⟨f, b, q, hf, hidx, hb, c0, c1', c2⟩ := (HAT.out.below hbel).get Tryz.underlying22 infoLF j hlt
      have hidx2 : ∀ wx, (Instr.indexAt 34 (.slice (some ⟨w.heap.size, 0, none⟩) n n) (.int .i64 (j : Int))).run Tryz.prog wx = .ok (.pointer (some ⟨w.heap.size, j * 3, none⟩)) wx := fun wx => by
        have := run_indexAt_slice wx 34 49 3 Tryz.underlying34 infoIF w.heap.size 0 n n j hlt
        rwa [Nat.zero_add] at this
      have HF := hide hf
      have HFI := hide hfill
      have HO := hide hown
      have hsz := hbel.size
      clear hf hfill hown
      go_wp2_with (go_at_call 46; refine (toFile_any f _).mono ?_; unfold fval; rintro e w2 ⟨rfl, hb2⟩; have ho2 := own_below HO.out hb2; obtain ⟨⟨y0, z0⟩, ⟨y1, z1⟩, ⟨y2, z2⟩⟩ := own_three ho2 j hlt; have f0 := ho2.frozenAt (j * 3); have f1 := ho2.frozenAt (j * 3 + 1); have f2 := ho2.frozenAt (j * 3 + 2); have HO2 := hide ho2; clear ho2)
      have hst := own_set3 HO2.out j f
      have hb3 := (hbel.trans (hb2.mono hsz)).grown hst.2 (Nat.le_trans hsz hb2.size) (fun k hk => by cases hk; exact Nat.le_refl _)
      go_roundw
      case rel => exact ⟨j + 1, _, by go_num, by omega, filled_step HFI.out HF.out (by have := HO.out.1; omega), hst.1, hb3⟩
      case measure => simp [intOf]; omega
    · have hjn : j = n := by omega
      subst hjn
      have HO := hide hown
      have HFI := hide hfill
      clear hown hfill
      go_wp2_with fail
      go_ret
      refine ⟨w.heap.size, rfl, ?_, hbel⟩
      rw [← filled_end HFI.out HN.out HO.out.1]
      exact HO.out

end Go.Proofs.YthbgklmnmoclhaaGreatDoor

namespace Go.Proofs.YthbgklmnmoclhaaGreatDoor
open Go.RowKit P5 K
set_option linter.unusedVariables false
set_option linter.unusedSimpArgs false

theorem toDisk_any (oa : Option Addr) (n cap : Nat) (fs : List FileV) (hn20 : n ≤ 1048576) (w : World) (hat : FilesAt w oa n cap fs) :
    Calls Tryz.prog 6 #[.agg #[.slice oa n cap]] w fun e w' => ∃ g, e = .returned (.agg #[.slice (some ⟨g, 0, none⟩) n n]) ∧ w'.ownsRow w.heap.size 49 3 (.slice (some ⟨g, 0, none⟩) n n) n (fs.flatMap fcells) ∧ Below w.heap.size w w' := by
  have hb0 := (((Below.refl w.heap.size w).alloc (Nat.le_refl _) (.cells #[.slice oa n cap] 24)).alloc (by simp) (.cells #[.slice none 0 0] 36)).alloc (by simp; omega) (.cells #[.slice none 0 0] 36)
  have HAT := hide (hat.below hb0)
  have HB0 := hide hb0
  clear hat hb0
  go_enter Tryz.func6, Tryz.ntmps6
  go_wp2_with fail
  refine (toFileS_any oa n cap fs hn20 _ HAT.out).mono ?_
  rintro e w2 ⟨g, rfl, hown, hb2⟩
  have k1 := hb2.cell (p := ⟨w.heap.size + 1, 0, none⟩) (by simp)
  have k2 := hb2.cell (p := ⟨w.heap.size + 1 + 1, 0, none⟩) (by simp)
  have q1 := hb2.frozen (p := ⟨w.heap.size + 1, 0, none⟩) (by simp)
  have q2 := hb2.frozen (p := ⟨w.heap.size + 1 + 1, 0, none⟩) (by simp)
  have HO := hide hown
  clear hown
  go_wp2_with fail
  refine bodyPost_ret (v := .agg #[.slice (some ⟨g, 0, none⟩) n n]) (by simp [results, Tryz.results6, go_sem, k1, k2, q1, q2]) rfl ⟨g, rfl, ?_, ?_⟩
  · exact own_base (own_setCell (own_setCell HO.out (by simp) _) (by simp) _) (by simp; omega)
  · exact ((HB0.out.trans (hb2.mono (by simp; omega))).setCell (by simp <;> omega) _).setCell (by simp <;> omega) _

theorem eqFileS_any (oa : Option Addr) (n cap : Nat) (fs : List FileV) (ob : Option Addr) (m cap' : Nat) (gs : List FileV) (hn20 : n ≤ 1048576) (w : World) (hat : FilesAt w oa n cap fs) (hbt : FilesAt w ob m cap' gs) :
    Calls Tryz.prog 30 #[.slice oa n cap, .slice ob m cap'] w fun e w' => e = .returned (.bool (decide (fs = gs))) ∧ Below w.heap.size w w' := by
  have hn := hat.len
  have hm := hbt.len
  have HAT := hide hat
  have HBT := hide hbt
  clear hat hbt
  by_cases hnm : n = m
  · subst hnm
    go_enter Tryz.func30, Tryz.ntmps30
    go_wp2_with fail
    have HN := hide hn
    have HM := hide hm
    clear hn hm
    go_loopw [5] (fun i wr => ∃ (j : Nat), i = .int .i64 (j : Int) ∧ j ≤ n ∧ fs.take j = gs.take j ∧ Below w.heap.size w wr) (fun i _ => n - (intOf i).toNat)
    case atStart => exact ⟨0, rfl, Nat.zero_le _, by simp, Below.refl _ _⟩
    case round =>
      obtain ⟨j, rfl, hj, hsame, hbel⟩ := hrel
      have HS := hide hsame
      have hsz := hbel.size
      clear hsame
      by_cases hlt : j < n
      · have j0 : (j : Int) < (n : Int) := by omega
        obtain ⟨f, b, q, hf, hidx, hb, c0, c1, c2⟩ := (HAT.out.below hbel).get Tryz.underlying34 infoIF j hlt
        obtain ⟨f', b', q', hf', hidx', hb', c0', c1', c2'⟩ := (HBT.out.below hbel).get Tryz.underlying34 infoIF j hlt
        have HF := hide hf
        have HF' := hide hf'
        clear hf hf'
        cases hd : decide (f = f') with
        | false =>
          have hne : f ≠ f' := by simpa using hd
          have HNE := hide (show decide (fs = gs) = false by
            have h1 := HF.out
            have h2 := HF'.out
            simp
            intro e
            rw [e, h2] at h1
            exact hne (Option.some.inj h1).symm)
          have HD := hide hd
          clear hd hne
          go_wp2_with fail
          refine wp_region_in (F := fun w' => Below wr.heap.size wr w') (by kernel_rfl) (by kernel_rfl) (Below.refl _ _).drew ?_
          have hne : Nonempty (InW (fun w' => Below wr.heap.size wr w')) := ⟨⟨_, Below.refl _ _⟩⟩
          have k0 : ∀ m : InW (fun w' => Below wr.heap.size wr w'), m.w.cell? ⟨b, q, none⟩ = some (.string ⟨f.name.toArray⟩) := fun m => (m.h.cell hb).trans c0
          have k1 : ∀ m : InW (fun w' => Below wr.heap.size wr w'), m.w.cell? ⟨b, q + 1, none⟩ = some (.string ⟨f.text.toArray⟩) := fun m => (m.h.cell hb).trans c1
          have k2 : ∀ m : InW (fun w' => Below wr.heap.size wr w'), m.w.cell? ⟨b, q + 2, none⟩ = some (.int .i64 f.kept) := fun m => (m.h.cell hb).trans c2
          have k3 : ∀ m : InW (fun w' => Below wr.heap.size wr w'), m.w.cell? ⟨b', q', none⟩ = some (.string ⟨f'.name.toArray⟩) := fun m => (m.h.cell hb').trans c0'
          have k4 : ∀ m : InW (fun w' => Below wr.heap.size wr w'), m.w.cell? ⟨b', q' + 1, none⟩ = some (.string ⟨f'.text.toArray⟩) := fun m => (m.h.cell hb').trans c1'
          have k5 : ∀ m : InW (fun w' => Below wr.heap.size wr w'), m.w.cell? ⟨b', q' + 2, none⟩ = some (.int .i64 f'.kept) := fun m => (m.h.cell hb').trans c2'
          repeat (go_big_quiet_step (first | (go_at_call 56; refine (eqFile_any f f' _).mono ?_; rw [HD.out]; rintro e w2 ⟨rfl, hb2⟩; exact ⟨rfl, ⟨w2, Below.trans (InW.h _) (hb2.mono (Below.size (InW.h (F := fun w' => Below wr.heap.size wr w') ‹_›)))⟩, rfl⟩)))
          refine wpQuiet_nil ?_
          intro _ hw'
          obtain ⟨nq, hw''⟩ := hw'
          subst hw''
          have hb3 := hbel.trans (nq.h.mono hsz)
          generalize nq.w = w2 at hb3 ⊢
          clear hne k0 k1 k2 k3 k4 k5
          go_wp2_with fail
          go_ret
          exact ⟨by rw [HNE.out]; rfl, hb3⟩
        | true =>
          have hee : f = f' := by simpa using hd
          have HEE := hide hee
          have HD := hide hd
          clear hd hee
          go_wp2_with fail
          refine wp_region_in (F := fun w' => Below wr.heap.size wr w') (by kernel_rfl) (by kernel_rfl) (Below.refl _ _).drew ?_
          have hne : Nonempty (InW (fun w' => Below wr.heap.size wr w')) := ⟨⟨_, Below.refl _ _⟩⟩
          have k0 : ∀ m : InW (fun w' => Below wr.heap.size wr w'), m.w.cell? ⟨b, q, none⟩ = some (.string ⟨f.name.toArray⟩) := fun m => (m.h.cell hb).trans c0
          have k1 : ∀ m : InW (fun w' => Below wr.heap.size wr w'), m.w.cell? ⟨b, q + 1, none⟩ = some (.string ⟨f.text.toArray⟩) := fun m => (m.h.cell hb).trans c1
          have k2 : ∀ m : InW (fun w' => Below wr.heap.size wr w'), m.w.cell? ⟨b, q + 2, none⟩ = some (.int .i64 f.kept) := fun m => (m.h.cell hb).trans c2
          have k3 : ∀ m : InW (fun w' => Below wr.heap.size wr w'), m.w.cell? ⟨b', q', none⟩ = some (.string ⟨f'.name.toArray⟩) := fun m => (m.h.cell hb').trans c0'
          have k4 : ∀ m : InW (fun w' => Below wr.heap.size wr w'), m.w.cell? ⟨b', q' + 1, none⟩ = some (.string ⟨f'.text.toArray⟩) := fun m => (m.h.cell hb').trans c1'
          have k5 : ∀ m : InW (fun w' => Below wr.heap.size wr w'), m.w.cell? ⟨b', q' + 2, none⟩ = some (.int .i64 f'.kept) := fun m => (m.h.cell hb').trans c2'
          repeat (go_big_quiet_step (first | (go_at_call 56; refine (eqFile_any f f' _).mono ?_; rw [HD.out]; rintro e w2 ⟨rfl, hb2⟩; exact ⟨rfl, ⟨w2, Below.trans (InW.h _) (hb2.mono (Below.size (InW.h (F := fun w' => Below wr.heap.size wr w') ‹_›)))⟩, rfl⟩)))
          refine wpQuiet_nil ?_
          intro _ hw'
          obtain ⟨nq, hw''⟩ := hw'
          subst hw''
          have hb3 := hbel.trans (nq.h.mono hsz)
          generalize nq.w = w2 at hb3 ⊢
          clear hne k0 k1 k2 k3 k4 k5
          go_wp2_with fail
          go_roundw
          case rel => exact ⟨j + 1, by go_num, by omega, by rw [List.take_add_one, List.take_add_one, HS.out, HF.out, HF'.out, HEE.out], hb3⟩
          case measure => simp [intOf]; omega
      · have hjn : j = n := by omega
        have HE := hide (show decide (fs = gs) = true by
          have h1 := HS.out
          rw [hjn, ← HN.out, List.take_length, HN.out, ← HM.out, List.take_length] at h1
          simpa using h1)
        go_wp2_with fail
        go_ret
        exact ⟨by rw [HE.out]; rfl, hbel⟩
  · have HNE := hide (show decide (fs = gs) = false by
      simp
      intro e
      rw [e] at hn
      omega)
    have g : ((n : Int) == (m : Int)) = false := by simp; omega
    clear hn hm
    go_enter Tryz.func30, Tryz.ntmps30
    go_wp2_with fail
    go_ret
    exact ⟨by rw [HNE.out]; rfl, Below.refl _ _⟩


theorem eqDisk_any (oa : Option Addr) (n cap : Nat) (fs : List FileV) (ob : Option Addr) (m cap' : Nat) (gs : List FileV) (hn20 : n ≤ 1048576) (w : World) (hat : FilesAt w oa n cap fs) (hbt : FilesAt w ob m cap' gs) :
    Calls Tryz.prog 10 #[.agg #[.slice oa n cap], .agg #[.slice ob m cap']] w fun e w' => e = .returned (.bool (decide (fs = gs))) ∧ Below w.heap.size w w' := by
  have hb0 := ((Below.refl w.heap.size w).alloc (Nat.le_refl _) (.cells #[.slice oa n cap] 36)).alloc (by simp) (.cells #[.slice ob m cap'] 36)
  have HAT := hide (hat.below hb0)
  have HBT := hide (hbt.below hb0)
  have HB0 := hide hb0
  clear hat hbt hb0
  cases hd : decide (fs = gs) with
  | false =>
    have HD := hide hd
    clear hd
    go_enter Tryz.func10, Tryz.ntmps10
    go_wp2_with (go_at_call 30; refine (eqFileS_any oa n cap fs ob m cap' gs hn20 _ HAT.out HBT.out).mono ?_; rw [HD.out]; rintro e w2 ⟨rfl, hb2⟩)
    go_ret
    exact ⟨rfl, HB0.out.trans (hb2.mono (by simp; omega))⟩
  | true =>
    have HD := hide hd
    clear hd
    go_enter Tryz.func10, Tryz.ntmps10
    go_wp2_with (go_at_call 30; refine (eqFileS_any oa n cap fs ob m cap' gs hn20 _ HAT.out HBT.out).mono ?_; rw [HD.out]; rintro e w2 ⟨rfl, hb2⟩)
    go_ret
    exact ⟨rfl, HB0.out.trans (hb2.mono (by simp; omega))⟩

end Go.Proofs.YthbgklmnmoclhaaGreatDoor

namespace Go.Proofs.YthbgklmnmoclhaaGreatDoor
open Go.RowKit P1 P5 K
set_option linter.unusedVariables false
set_option linter.unusedSimpArgs false

def markF (k i : Nat) : FileV := ⟨markB (k + 3 * i), markB (k + 3 * i + 1), ((k + 3 * i + 2 : Nat) : Int)⟩
def marksF (k n : Nat) : List FileV := (List.range n).map (markF k)

theorem marksF_length (k n : Nat) : (marksF k n).length = n := by simp [marksF]
theorem marksF_at (k n i : Nat) (h : i < n) : (marksF k n)[i]? = some (markF k i) := by simp [marksF, h]

/-- The step of one cell in a row that the call owns. -/
theorem own_one {w : World} {base : Nat} {e : TypeId} {g n cap : Nat} {xs : List Value} (h : w.ownsRow base e 3 (.slice (some ⟨g, 0, none⟩) n cap) n xs) (j : Nat) (hj : j < n * 3) :
    ∃ u, w.cell? ⟨g, j, none⟩ = some u := ⟨_, by rw [h.cellAt j hj, List.getElem?_eq_getElem (by rw [h.1]; exact hj)]⟩

set_option maxHeartbeats 1000000 in
theorem markFileS_some (g n cap base k : Nat) (hn : n ≤ 1048576) (hk : k ≤ 1000) (w : World) (xs : List Value) (hown : w.ownsRow base 49 3 (.slice (some ⟨g, 0, none⟩) n cap) n xs) :
    Calls Tryz.prog 31 #[.slice (some ⟨g, 0, none⟩) n cap, .int .i64 (k : Int)] w fun e w' => e = .returned (.int .i64 ((k + 3 * n : Nat) : Int)) ∧ w'.ownsRow base 49 3 (.slice (some ⟨g, 0, none⟩) n cap) n ((marksF k n).flatMap fcells) ∧ w.grownBy w' (some g) := by
  have HO0 := hide hown
  clear hown
  go_enter Tryz.func31, Tryz.ntmps31
  go_wp2_with fail
  go_loopw [1, 5] (fun x i wr => ∃ (j : Nat) (ys : List Value), i = .int .i64 (j : Int) ∧ x = .int .i64 ((k + 3 * j : Nat) : Int) ∧ j ≤ n ∧ Filled (marksF k n) j ys ∧ wr.ownsRow base 49 3 (.slice (some ⟨g, 0, none⟩) n cap) n ys ∧ w.grownBy wr (some g)) (fun _ i _ => n - (intOf i).toNat)
  case atStart => exact ⟨0, xs, rfl, rfl, Nat.zero_le _, filled_zero _ _, HO0.out, grown_below (Below.refl _ _)⟩
  case round =>
    obtain ⟨j, ys, rfl, rfl, hj, hfill, hown, hgr⟩ := hrel
    by_cases hlt : j < n
    · have j0 : (j : Int) < (n : Int) := by omega
      have hidx2 : ∀ wx, (Instr.indexAt 34 (.slice (some ⟨g, 0, none⟩) n cap) (.int .i64 (j : Int))).run Tryz.prog wx = .ok (.pointer (some ⟨g, j * 3, none⟩)) wx := fun wx => by
        have := run_indexAt_slice wx 34 49 3 Tryz.underlying34 infoIF g 0 n cap j hlt
        rwa [Nat.zero_add] at this
      have HFI := hide hfill
      have HO := hide hown
      have HG := hide hgr
      clear hfill hown hgr
      go_wp2_with fail
      refine (markText_any (k + 3 * j) (by omega) _).mono ?_
      rintro e w2 ⟨rfl, hb2⟩
      have ho2 := own_below HO.out hb2
      obtain ⟨y0, z0⟩ := own_one ho2 (j * 3) (by omega)
      have f0 := ho2.frozenAt (j * 3)
      have st2 := ho2.stored (j * 3) (.string ⟨(markB (k + 3 * j)).toArray⟩)
      have HO2 := hide st2.1
      have HG2 := hide (grown_trans HG.out (grown_trans (grown_below hb2) st2.2))
      clear hb2 ho2 st2
      go_wp2_with fail
      refine (markText_any (k + 3 * j + 1) (by omega) _).mono ?_
      rintro e w3 ⟨rfl, hb3⟩
      have ho3 := own_below HO2.out hb3
      obtain ⟨y1, z1⟩ := own_one ho3 (j * 3 + 1) (by omega)
      have f1 := ho3.frozenAt (j * 3 + 1)
      have st3 := ho3.stored (j * 3 + 1) (.string ⟨(markB (k + 3 * j + 1)).toArray⟩)
      have HG3 := hide (grown_trans HG2.out (grown_trans (grown_below hb3) st3.2))
      obtain ⟨y2, z2⟩ := own_one st3.1 (j * 3 + 2) (by omega)
      have f2 := st3.1.frozenAt (j * 3 + 2)
      have st4 := st3.1.stored (j * 3 + 2) (.int .i64 ((k + 3 * j + 2 : Nat) : Int))
      have HO4 := hide st4.1
      have HG4 := hide (grown_trans HG3.out st4.2)
      clear hb3 ho3 st3 st4 z0 f0
      go_wp2_with fail
      go_roundw
      case rel => exact ⟨j + 1, _, by go_num, by go_num, by omega, filled_step HFI.out (marksF_at k n j hlt) (by have := HO.out.1; omega), HO4.out, HG4.out⟩
      case measure => simp [intOf]; omega
    · have ej : j = n := by omega
      subst ej
      have HO := hide hown
      have HE := hide (filled_end hfill (marksF_length k j) hown.1)
      clear hown hfill
      go_wp2_with fail
      go_ret
      exact ⟨by go_num, by rw [← HE.out]; exact HO.out, hgr⟩

theorem markFileS_any (v : Value) (n base k : Nat) (hn : n ≤ 1048576) (hk : k ≤ 1000) (w : World) (xs : List Value) (hown : w.ownsRow base 49 3 v n xs) :
    Calls Tryz.prog 31 #[v, .int .i64 (k : Int)] w fun e w' => e = .returned (.int .i64 ((k + 3 * n : Nat) : Int)) ∧ w'.ownsRow base 49 3 v n ((marksF k n).flatMap fcells) ∧ w.grownBy w' v.ownBlock := by
  rcases hown.2 with ⟨rfl, rfl⟩ | ⟨g, cap, cur, rfl, _⟩
  · clear hown
    go_enter Tryz.func31, Tryz.ntmps31
    go_wp2_with fail
    go_loopw [1, 5] (fun x i wr => x = .int .i64 (k : Int) ∧ i = .int .i64 0 ∧ wr = w) (fun _ _ _ => 0)
    case atStart => exact ⟨rfl, rfl, rfl⟩
    case round =>
      obtain ⟨rfl, rfl, rfl⟩ := hrel
      go_wp2_with fail
      go_ret
      exact ⟨rfl, World.ownsRow_nil _ _ _ _, grown_below (Below.refl _ _)⟩
  · exact markFileS_some g n cap base k hn hk w xs hown

theorem markDisk_any (v : Value) (n base k : Nat) (hn : n ≤ 1048576) (hk : k ≤ 1000) (w : World) (xs : List Value) (hown : w.ownsRow base 49 3 v n xs) :
    Calls Tryz.prog 11 #[.agg #[v], .int .i64 (k : Int)] w fun e w' => e = .returned (.int .i64 ((k + 3 * n : Nat) : Int)) ∧ w'.ownsRow base 49 3 v n ((marksF k n).flatMap fcells) ∧ w.grownBy w' v.ownBlock := by
  have hv : v.oneCell' = true := by
    rcases hown.2 with ⟨rfl, rfl⟩ | ⟨g, cap, cur, rfl, _⟩ <;> simp [Value.oneCell']
  have HO := hide hown
  clear hown
  go_enter Tryz.func11, Tryz.ntmps11
  go_wp2_with (go_at_call 31; refine (markFileS_any v n base k hn hk _ xs (HO.out.alloc _)).mono ?_; rintro e w2 ⟨rfl, ho2, hg2⟩)
  go_ret
  exact ⟨rfl, ho2, grown_trans (World.grownBy_alloc _ _ _) hg2⟩

end Go.Proofs.YthbgklmnmoclhaaGreatDoor

namespace Go.Proofs.YthbgklmnmoclhaaGreatDoor
open Go.RowKit P1 P9 K
set_option linter.unusedVariables false
set_option linter.unusedSimpArgs false

/-- What is made of a journal's copy: the row is the call's own. -/
def ToJour (w : World) (jn jt jv s u : Int) (n : Nat) (es : List EntV) (e : Ending) (w' : World) : Prop :=
  ∃ g, e = .returned (jval jn jt jv s u (.slice (some ⟨g, 0, none⟩) n n)) ∧ w'.ownsRow w.heap.size 111 3 (.slice (some ⟨g, 0, none⟩) n n) n (es.flatMap ecells) ∧ Below w.heap.size w w'

set_option maxHeartbeats 1000000 in
theorem eqJournal_same (jn jt jv s u : Int) (oa : Option Addr) (n cap : Nat) (ob : Option Addr) (cap' : Nat) (es : List EntV) (hn20 : n ≤ 1048576) (w : World) (hat : EntsAt w oa n cap es) (hbt : EntsAt w ob n cap' es) :
    Calls Tryz.prog 8 #[jval jn jt jv s u (.slice oa n cap), jval jn jt jv s u (.slice ob n cap')] w fun e w' => e = .returned (.bool true) ∧ Below w.heap.size w w' := by
  have hb0 := ((Below.refl w.heap.size w).alloc (Nat.le_refl _) (.cells #[.int .i64 jn, .int .i64 jt, .int .i64 jv, .int .i64 s, .int .i64 u, .slice oa n cap] 30)).alloc (by simp) (.cells #[.int .i64 jn, .int .i64 jt, .int .i64 jv, .int .i64 s, .int .i64 u, .slice ob n cap'] 30)
  have HE := hide (eqLog_same s u oa n cap ob cap' es hn20 _ (hat.below hb0) (hbt.below hb0))
  have HB0 := hide hb0
  clear hat hbt hb0
  go_enter Tryz.func8, Tryz.ntmps8
  go_wp2_with fail
  refine HE.out.mono ?_
  rintro e w1 ⟨rfl, hb1⟩
  go_wp2_with fail
  go_ret
  exact ⟨rfl, HB0.out.trans (hb1.mono (by simp; omega))⟩

set_option maxHeartbeats 1000000 in
theorem markJournal_any (jn jt jv s u : Int) (v : Value) (n base k : Nat) (hn : n ≤ 1048576) (hk : k ≤ 1000000) (w : World) (es : List EntV) (hown : w.ownsRow base 111 3 v n (es.flatMap ecells)) :
    Calls Tryz.prog 12 #[jval jn jt jv s u v, .int .i64 (k : Int)] w fun e w' => e = .returned (.int .i64 ((k + 3 * n : Nat) : Int)) ∧ w'.ownsRow base 111 3 v n ((marksE k n).flatMap ecells) ∧ w.grownBy w' v.ownBlock := by
  have hv := own_oneCell6 hown
  have HM := hide (markLog_any s u v n base k hn hk _ es (hown.alloc (.cells #[.int .i64 jn, .int .i64 jt, .int .i64 jv, .int .i64 s, .int .i64 u, v] 30)))
  clear hown
  go_enter Tryz.func12, Tryz.ntmps12
  go_wp2_with fail
  refine HM.out.mono ?_
  rintro e w2 ⟨rfl, ho2, hg2⟩
  have HO2 := hide ho2
  have HG2 := hide hg2
  clear ho2 hg2
  go_wp2_with fail
  go_ret
  exact ⟨by go_num, HO2.out, grown_trans (World.grownBy_alloc _ _ _) HG2.out⟩

set_option maxHeartbeats 1000000 in
theorem heldJournal_any (jn jt jv s u : Int) (oa : Option Addr) (n cap k : Nat) (hn : n ≤ 1048576) (hk : k ≤ 1000000) (w : World) (hat : EntsAt w oa n cap (marksE k n)) :
    Calls Tryz.prog 14 #[jval jn jt jv s u (.slice oa n cap), .int .i64 (k : Int)] w fun e w' => e = .returned (.int .i64 ((k + 3 * n : Nat) : Int)) ∧ Below w.heap.size w w' := by
  have hb0 := (Below.refl w.heap.size w).alloc (Nat.le_refl _) (.cells #[.int .i64 jn, .int .i64 jt, .int .i64 jv, .int .i64 s, .int .i64 u, .slice oa n cap] 30)
  have HH := hide (heldLog_any s u oa n cap k hn hk _ (hat.below hb0))
  have HB0 := hide hb0
  clear hat hb0
  have g : ¬ ((k + 3 * n : Nat) : Int) < 0 := by omega
  go_enter Tryz.func14, Tryz.ntmps14
  go_wp2_with fail
  refine HH.out.mono ?_
  rintro e w1 ⟨rfl, hb1⟩
  go_wp2_with fail
  go_ret
  exact ⟨by go_num, HB0.out.trans (hb1.mono (by simp))⟩

end Go.Proofs.YthbgklmnmoclhaaGreatDoor

namespace Go.Proofs.YthbgklmnmoclhaaGreatDoor
open Go.RowKit P1 P9 K
set_option linter.unusedVariables false
set_option linter.unusedSimpArgs false

/-- A variable at block b that holds a log whose entries lie in a row from block 'base' on. -/
structure KL (w : World) (b base : Nat) (s u : Int) (v : Value) (n : Nat) (es : List EntV) : Prop where
  blk : w.heap[b]? = some (.cells #[.int .i64 s, .int .i64 u, v] 28 (0, 0))
  own : w.ownsRow base 111 3 v n (es.flatMap ecells)

section
variable {w w' : World} {b base : Nat} {s u : Int} {v : Value} {n : Nat} {es : List EntV}

theorem KL.new (ho : w.ownsRow base 111 3 v n (es.flatMap ecells)) : KL (w.alloc (.cells #[.int .i64 s, .int .i64 u, v] 28)) w.heap.size base s u v n es :=
  ⟨heap_alloc_new _ _, ho.alloc _⟩

theorem KL.on (h : KL w b base s u v n es) (hb : Below w.heap.size w w') : KL w' b base s u v n es :=
  ⟨(hb.block b (blk_lt h.blk)).trans h.blk, own_below h.own hb⟩

theorem KL.lt (h : KL w b base s u v n es) : b < w.heap.size := blk_lt h.blk

theorem KL.lv (h : KL w b base s u v n es) : LV w b s u v := ⟨blk_cell h.blk 0 rfl, blk_cell h.blk 1 rfl, blk_cell h.blk 2 rfl⟩

/-- Another row written leaves it. -/
theorem KL.kept {base2 : Nat} {v2 : Value} {n2 : Nat} {xs2 : List Value} (h : KL w b base s u v n es) (ho : w.ownsRow base2 111 3 v2 n2 xs2) (hg : w.grownBy w' v2.ownBlock) (hne : ∀ g, v.ownBlock = some g → v2.ownBlock ≠ some g) : KL w' b base s u v n es := by
  refine ⟨(hg.block b (blk_lt h.blk) (fun e1 => ?_)).trans h.blk, h.own.kept hg ?_⟩
  · rcases ho.2 with ⟨rfl, -⟩ | ⟨g, cap, cur, rfl, -, hgb, -⟩
    · cases e1
    · cases e1
      have k := h.blk
      rw [hgb] at k
      cases k
  · cases hv : v.ownBlock with
    | none => exact Or.inl rfl
    | some g => exact Or.inr (fun e => hne g hv e.symm)

/-- Its own row written leaves the variable. -/
theorem KL.marked (h : KL w b base s u v n es) {ms : List EntV} (ho : w'.ownsRow base 111 3 v n (ms.flatMap ecells)) (hg : w.grownBy w' v.ownBlock) : KL w' b base s u v n ms := by
  refine ⟨(hg.block b (blk_lt h.blk) (fun e1 => ?_)).trans h.blk, ho⟩
  rcases h.own.2 with ⟨rfl, -⟩ | ⟨g, cap, cur, rfl, -, hgb, -⟩
  · cases e1
  · cases e1
    have k := h.blk
    rw [hgb] at k
    cases k

theorem KL.row (h : KL w b base s u v n es) : ∀ g, v.ownBlock = some g → base ≤ g ∧ g < w.heap.size := h.own.lt

end

theorem own_marks_at {w : World} {base : Nat} {v : Value} {n k : Nat} (h : w.ownsRow base 111 3 v n ((marksE k n).flatMap ecells)) : ∃ oa cap, v = .slice oa n cap ∧ EntsAt w oa n cap (marksE k n) := entsAt_own h

/-- Rows of the call that write only into new memory and into rows from 'base' on. -/
theorem below_row {B base : Nat} {W w w' : World} {v : Value} {n : Nat} {xs : List Value} (h : Below B W w) (hB : B ≤ w.heap.size) (hb : B ≤ base) (ho : w.ownsRow base 111 3 v n xs) (hg : w.grownBy w' v.ownBlock) : Below B W w' :=
  h.grown hg hB (fun q hq => Nat.le_trans hb (ho.lt q hq).1)

end Go.Proofs.YthbgklmnmoclhaaGreatDoor

namespace Go.Proofs.YthbgklmnmoclhaaGreatDoor
open Go.RowKit P1 P9 K
set_option linter.unusedVariables false
set_option linter.unusedSimpArgs false

/-- A variable at block b that holds a journal whose entries lie in a row from block 'base' on, ahead of block 'top'. -/
structure KJ (w : World) (b base top : Nat) (n t v0 s u : Int) (v : Value) (m : Nat) (es : List EntV) : Prop where
  blk : JB w b n t v0 s u v
  own : w.ownsRow base 111 3 v m (es.flatMap ecells)
  ahead : ∀ g, v.ownBlock = some g → base ≤ g ∧ g < top

section
variable {w w' : World} {b base top : Nat} {n t v0 s u : Int} {v : Value} {m : Nat} {es : List EntV}

theorem KJ.new (ho : w.ownsRow base 111 3 v m (es.flatMap ecells)) : KJ (w.alloc (.cells (jcells n t v0 s u v) 30)) w.heap.size base w.heap.size n t v0 s u v m es :=
  ⟨heap_alloc_new _ _, ho.alloc _, ho.lt⟩

theorem KJ.on (h : KJ w b base top n t v0 s u v m es) (hb : Below w.heap.size w w') : KJ w' b base top n t v0 s u v m es :=
  ⟨h.blk.on hb h.blk.lt, own_below h.own hb, h.ahead⟩

theorem KJ.lt (h : KJ w b base top n t v0 s u v m es) : b < w.heap.size := h.blk.lt

theorem jb_row {base2 : Nat} {v2 : Value} {n2 : Nat} {xs2 : List Value} (hj : JB w b n t v0 s u v) (ho : w.ownsRow base2 111 3 v2 n2 xs2) : v2.ownBlock ≠ some b := by
  intro e1
  rcases ho.2 with ⟨rfl, -⟩ | ⟨g, cap, cur, rfl, -, hgb, -⟩
  · cases e1
  · cases e1
    unfold JB at hj
    rw [hgb] at hj
    cases hj

/-- Another row written leaves it. -/
theorem KJ.kept {base2 : Nat} {v2 : Value} {n2 : Nat} {xs2 : List Value} (h : KJ w b base top n t v0 s u v m es) (ho : w.ownsRow base2 111 3 v2 n2 xs2) (hg : w.grownBy w' v2.ownBlock) (hne : ∀ g, v.ownBlock = some g → v2.ownBlock ≠ some g) : KJ w' b base top n t v0 s u v m es := by
  refine ⟨h.blk.kept hg (jb_row h.blk ho), h.own.kept hg ?_, h.ahead⟩
  cases hv : v.ownBlock with
  | none => exact Or.inl rfl
  | some g => exact Or.inr (fun e => hne g hv e.symm)

/-- Its own row written leaves the variable. -/
theorem KJ.marked (h : KJ w b base top n t v0 s u v m es) {ms : List EntV} (ho : w'.ownsRow base 111 3 v m (ms.flatMap ecells)) (hg : w.grownBy w' v.ownBlock) : KJ w' b base top n t v0 s u v m ms :=
  ⟨h.blk.kept hg (jb_row h.blk h.own), ho, h.ahead⟩

/-- Two rows of which one was made behind the other are not the same. -/
theorem rows_part {base1 top1 base2 top2 b2 : Nat} {n2 t2 v2 s2 u2 : Int} {x2 : Value} {m2 : Nat} {es2 : List EntV} {w2 : World} (h : KJ w b base1 top1 n t v0 s u v m es) (h2 : KJ w2 b2 base2 top2 n2 t2 v2 s2 u2 x2 m2 es2) (hle : top1 ≤ base2) : ∀ g, v.ownBlock = some g → x2.ownBlock ≠ some g := by
  intro g hg e
  have k1 := h.ahead g hg
  have k2 := h2.ahead g e
  omega
end

end Go.Proofs.YthbgklmnmoclhaaGreatDoor

namespace Go.Proofs.YthbgklmnmoclhaaGreatDoor
open Go.RowKit K
set_option linter.unusedVariables false

theorem el_var : Tryz.prog.globalNamed "errors.errorType" = some 0 := by kernel_rfl
theorem el_rt : (Tryz.prog.cutTypes.find? (·.1 == "internal/reflectlite.rtype")).map (·.2) = some 155 := by kernel_rfl
theorem el_row : ((List.range 242).filter fun t => Tryz.prog.rowNamed t [101, 114, 114, 111, 114]) = [63] := by kernel_rfl
theorem el_size : Tryz.prog.types.size = 242 := by kernel_rfl

theorem err_of_laid {row : List (String × DataW Unit)} {W : World} (e : row.filter (fun x => x.2.handleName?.isSome) = [("errors.errorType", DataW.iface "internal/reflectlite.rtype" (.agg [.ptr (.lit (.string [101, 114, 114, 111, 114]))]))]) (h : laidMetH Tryz.prog row W) : ErrVar W := by
  unfold laidMetH at h
  rw [e] at h
  obtain ⟨name, u, ty, e1, e2, e3, e4, e5⟩ := h.2 _ (List.mem_singleton.2 rfl)
  have en : name = [101, 114, 114, 111, 114] := (Option.some.inj e1).symm
  subst en
  obtain rfl := Option.some.inj (el_rt.symm.trans e2)
  have hm : ty ∈ (List.range 242).filter fun t => Tryz.prog.rowNamed t [101, 114, 114, 111, 114] := List.mem_filter.2 ⟨List.mem_range.2 (by rw [← el_size]; exact e3), e4⟩
  rw [el_row] at hm
  obtain rfl := List.mem_singleton.1 hm
  have hh : typeHandle Tryz.prog 63 = .pointer (some ⟨5, 63, none⟩) := by kernel_rfl
  rw [hh] at e5
  simpa [ErrVar] using World.var?_cell el_var e5 0

end Go.Proofs.YthbgklmnmoclhaaGreatDoor
