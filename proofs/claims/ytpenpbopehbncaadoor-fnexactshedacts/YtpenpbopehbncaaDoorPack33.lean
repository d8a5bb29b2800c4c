/-
  Walks of chapter 3: the laws' copies of files and disks, and their comparison.
  Walks of chapter 3: the laws' copies of disks, and their comparison.
-/
import Derived.Test.YtpenpbopehbncaaDoorFlat2
import Derived.Test.YtpenpbopehbncaaDoorPack15
import Derived.Deep.RegionHeld3
import Derived.Deep.QuietTactic
import Derived.BigQuiet
namespace Go.Proofs.YtpenpbopehbncaaDoor
open Go.RowKit P5 K
set_option linter.unusedVariables false
set_option linter.unusedSimpArgs false

theorem toFile_any (f : FileV) (w : World) :
    Calls Tryd.prog 85 #[fval f] w fun e w' => e = .returned (fval f) ∧ Below w.heap.size w w' := by
  obtain ⟨nm, tx, kp⟩ := f
  simp only [fval] at *
  have hb := (Below.refl w.heap.size w).alloc (Nat.le_refl _) (.cells #[.string ⟨nm.toArray⟩, .string ⟨tx.toArray⟩, .int .i64 kp] 109)
  have HB := hide hb
  clear hb
  go_enter Tryd.func85, Tryd.ntmps85
  go_wp2_with fail
  refine bodyPost_ret (v := fval ⟨nm, tx, kp⟩) (by simp [results, Tryd.results85, go_sem, fval]) rfl ⟨rfl, ?_⟩
  exact ((HB.out.alloc (by simp) _).alloc (by simp; omega) _)

theorem eqFile_any (f g : FileV) (w : World) :
    Calls Tryd.prog 89 #[fval f, fval g] w fun e w' => e = .returned (.bool (decide (f = g))) ∧ Below w.heap.size w w' := by
  obtain ⟨nm, tx, kp⟩ := f
  obtain ⟨nm', tx', kp'⟩ := g
  simp only [fval] at *
  have hb := ((Below.refl w.heap.size w).alloc (Nat.le_refl _) (.cells #[.string ⟨nm.toArray⟩, .string ⟨tx.toArray⟩, .int .i64 kp] 89)).alloc (by simp) (.cells #[.string ⟨nm'.toArray⟩, .string ⟨tx'.toArray⟩, .int .i64 kp'] 89)
  have HB := hide hb
  clear hb
  cases h1 : (nm == nm') with
  | false =>
    have HE := hide (show decide (FileV.mk nm tx kp = FileV.mk nm' tx' kp') = false by
      simp at h1 ⊢
      intro h; exact absurd h h1)
    go_enter Tryd.func89, Tryd.ntmps89
    go_wp2_with fail
    go_ret
    exact ⟨by rw [HE.out]; rfl, HB.out⟩
  | true =>
    cases h2 : (tx == tx') with
    | false =>
      have HE := hide (show decide (FileV.mk nm tx kp = FileV.mk nm' tx' kp') = false by
        simp at h2 ⊢
        intro _ h; exact absurd h h2)
      go_enter Tryd.func89, Tryd.ntmps89
      go_wp2_with fail
      go_ret
      exact ⟨by rw [HE.out]; rfl, HB.out⟩
    | true =>
      have e1 := h1
      have e2 := h2
      simp at e1 e2
      have E1 := hide e1
      have E2 := hide e2
      clear e1 e2
      by_cases h3 : kp = kp'
      · have g3 : (kp == kp') = true := by simpa using h3
        have HE := hide (show decide (FileV.mk nm tx kp = FileV.mk nm' tx' kp') = true by simp [E1.out, E2.out, h3])
        clear h3
        go_enter Tryd.func89, Tryd.ntmps89
        go_wp2_with fail
        go_ret
        exact ⟨by rw [HE.out]; rfl, HB.out⟩
      · have g3 : (kp == kp') = false := by simpa using h3
        have HE := hide (show decide (FileV.mk nm tx kp = FileV.mk nm' tx' kp') = false by simp [h3])
        go_enter Tryd.func89, Tryd.ntmps89
        go_wp2_with fail
        go_ret
        exact ⟨by rw [HE.out]; rfl, HB.out⟩


/-- The call's own copy of a slice of files. -/
theorem toFileS_any (oa : Option Addr) (n cap : Nat) (fs : List FileV) (hn20 : n ≤ 1048576) (w : World) (hat : FilesAt w oa n cap fs) :
    Calls Tryd.prog 60 #[.slice oa n cap] w fun e w' => ∃ g, e = .returned (.slice (some ⟨g, 0, none⟩) n n) ∧ w'.ownsRow w.heap.size 89 3 (.slice (some ⟨g, 0, none⟩) n n) n (fs.flatMap fcells) ∧ Below w.heap.size w w' := by
  have hn := hat.len
  have hc := hat.room
  have hm := hat.most
  unfold maxLen at hm
  obtain ⟨i0, hi, hz0, hz1, hz2⟩ := info_parts infoIFz
  obtain ⟨W0, hmk, hown0, hgr0⟩ := run_make_full (P := Tryd.prog) w w.heap.size 45 89 i0 _ 3 Tryd.underlying45 hi hz0 hz1 .i64 .i64 n (by rw [hz2]; omega) (by unfold maxLen; omega) (Nat.le_refl _)
  have HOWN := hide hown0
  have HGR := hide hgr0
  have HN := hide hn
  have HAT := hide hat
  clear hown0 hgr0 hn hat hi hz0 hz1 hz2
  go_enter Tryd.func60, Tryd.ntmps60
  go_wp2_with fail
  go_loopw [4] (fun i wr => ∃ (j : Nat) (xs : List Value), i = .int .i64 (j : Int) ∧ j ≤ n ∧ Filled fs j xs ∧ wr.ownsRow w.heap.size 89 3 (.slice (some ⟨w.heap.size, 0, none⟩) n n) n xs ∧ Below w.heap.size w wr) (fun i _ => n - (intOf i).toNat)
  case atStart => exact ⟨0, _, rfl, Nat.zero_le _, filled_zero _ _, HOWN.out, (Below.refl _ _).grown HGR.out (Nat.le_refl _) (fun k hk => by cases hk)⟩
  case round =>
    obtain ⟨j, xs, rfl, hj, hfill, hown, hbel⟩ := hrel
    by_cases hlt : j < n
    · have j0 : (j : Int) < (n : Int) := by omega
      obtain ⟨f, b, q, hf, hidx, hb, c0, c1', c2⟩ := (HAT.out.below hbel).get Tryd.underlying38 infoLF j hlt
      have hidx2 : ∀ wx, (Instr.indexAt 45 (.slice (some ⟨w.heap.size, 0, none⟩) n n) (.int .i64 (j : Int))).run Tryd.prog wx = .ok (.pointer (some ⟨w.heap.size, j * 3, none⟩)) wx := fun wx => by
        have := run_indexAt_slice wx 45 89 3 Tryd.underlying45 infoIF w.heap.size 0 n n j hlt
        rwa [Nat.zero_add] at this
      have HF := hide hf
      have HFI := hide hfill
      have HO := hide hown
      have hsz := hbel.size
      clear hf hfill hown
      go_wp2_with (go_at_call 85; refine (toFile_any f _).mono ?_; unfold fval; rintro e w2 ⟨rfl, hb2⟩; have ho2 := own_below HO.out hb2; obtain ⟨⟨y0, z0⟩, ⟨y1, z1⟩, ⟨y2, z2⟩⟩ := own_three ho2 j hlt; have f0 := ho2.frozenAt (j * 3); have f1 := ho2.frozenAt (j * 3 + 1); have f2 := ho2.frozenAt (j * 3 + 2); have HO2 := hide ho2; clear ho2)
      have hst := own_set3 HO2.out j f
      have hb3 := (hbel.trans (hb2.mono hsz)).grown hst.2 (Nat.le_trans hsz hb2.size) (fun k hk => by cases hk; exact Nat.le_refl _)
      go_roundw
      case rel => exact ⟨j + 1, _, by go_num, by omega, filled_step HFI.out HF.out (by have := HO.out.1; omega), hst.1, hb3⟩
      case measure => simp [intOf]; omega
    · have hjn : j = n := by omega
      subst hjn
      have HO := hide hown
      have HFI := hide hfill
      clear hown hfill
      go_wp2_with fail
      go_ret
      refine ⟨w.heap.size, rfl, ?_, hbel⟩
      rw [← filled_end HFI.out HN.out HO.out.1]
      exact HO.out

end Go.Proofs.YtpenpbopehbncaaDoor

namespace Go.Proofs.YtpenpbopehbncaaDoor
open Go.RowKit P5 K
set_option linter.unusedVariables false
set_option linter.unusedSimpArgs false

theorem toDisk_any (oa : Option Addr) (n cap : Nat) (fs : List FileV) (hn20 : n ≤ 1048576) (w : World) (hat : FilesAt w oa n cap fs) :
    Calls Tryd.prog 22 #[.agg #[.slice oa n cap]] w fun e w' => ∃ g, e = .returned (.agg #[.slice (some ⟨g, 0, none⟩) n n]) ∧ w'.ownsRow w.heap.size 89 3 (.slice (some ⟨g, 0, none⟩) n n) n (fs.flatMap fcells) ∧ Below w.heap.size w w' := by
  have hb0 := (((Below.refl w.heap.size w).alloc (Nat.le_refl _) (.cells #[.slice oa n cap] 40)).alloc (by simp) (.cells #[.slice none 0 0] 47)).alloc (by simp; omega) (.cells #[.slice none 0 0] 47)
  have HAT := hide (hat.below hb0)
  have HB0 := hide hb0
  clear hat hb0
  go_enter Tryd.func22, Tryd.ntmps22
  go_wp2_with fail
  refine (toFileS_any oa n cap fs hn20 _ HAT.out).mono ?_
  rintro e w2 ⟨g, rfl, hown, hb2⟩
  have k1 := hb2.cell (p := ⟨w.heap.size + 1, 0, none⟩) (by simp)
  have k2 := hb2.cell (p := ⟨w.heap.size + 1 + 1, 0, none⟩) (by simp)
  have q1 := hb2.frozen (p := ⟨w.heap.size + 1, 0, none⟩) (by simp)
  have q2 := hb2.frozen (p := ⟨w.heap.size + 1 + 1, 0, none⟩) (by simp)
  have HO := hide hown
  clear hown
  go_wp2_with fail
  refine bodyPost_ret (v := .agg #[.slice (some ⟨g, 0, none⟩) n n]) (by simp [results, Tryd.results22, go_sem, k1, k2, q1, q2]) rfl ⟨g, rfl, ?_, ?_⟩
  · exact own_base (own_setCell (own_setCell HO.out (by simp) _) (by simp) _) (by simp; omega)
  · exact ((HB0.out.trans (hb2.mono (by simp; omega))).setCell (by simp <;> omega) _).setCell (by simp <;> omega) _

theorem eqFileS_any (oa : Option Addr) (n cap : Nat) (fs : List FileV) (ob : Option Addr) (m cap' : Nat) (gs : List FileV) (hn20 : n ≤ 1048576) (w : World) (hat : FilesAt w oa n cap fs) (hbt : FilesAt w ob m cap' gs) :
    Calls Tryd.prog 66 #[.slice oa n cap, .slice ob m cap'] w fun e w' => e = .returned (.bool (decide (fs = gs))) ∧ Below w.heap.size w w' := by
  have hn := hat.len
  have hm := hbt.len
  have HAT := hide hat
  have HBT := hide hbt
  clear hat hbt
  by_cases hnm : n = m
  · subst hnm
    go_enter Tryd.func66, Tryd.ntmps66
    go_wp2_with fail
    have HN := hide hn
    have HM := hide hm
    clear hn hm
    go_loopw [5] (fun i wr => ∃ (j : Nat), i = .int .i64 (j : Int) ∧ j ≤ n ∧ fs.take j = gs.take j ∧ Below w.heap.size w wr) (fun i _ => n - (intOf i).toNat)
    case atStart => exact ⟨0, rfl, Nat.zero_le _, by simp, Below.refl _ _⟩
    case round =>
      obtain ⟨j, rfl, hj, hsame, hbel⟩ := hrel
      have HS := hide hsame
      have hsz := hbel.size
      clear hsame
      by_cases hlt : j < n
      · have j0 : (j : Int) < (n : Int) := by omega
        obtain ⟨f, b, q, hf, hidx, hb, c0, c1, c2⟩ := (HAT.out.below hbel).get Tryd.underlying45 infoIF j hlt
        obtain ⟨f', b', q', hf', hidx', hb', c0', c1', c2'⟩ := (HBT.out.below hbel).get Tryd.underlying45 infoIF j hlt
        have HF := hide hf
        have HF' := hide hf'
        clear hf hf'
        cases hd : decide (f = f') with
        | false =>
          have hne : f ≠ f' := by simpa using hd
          have HNE := hide (show decide (fs = gs) = false by
            have h1 := HF.out
            have h2 := HF'.out
            simp
            intro e
            rw [e, h2] at h1
            exact hne (Option.some.inj h1).symm)
          have HD := hide hd
          clear hd hne
          go_wp2_with fail
          refine wp_region_in (F := fun w' => Below wr.heap.size wr w') (by kernel_rfl) (by kernel_rfl) (Below.refl _ _).drew ?_
          have hne : Nonempty (InW (fun w' => Below wr.heap.size wr w')) := ⟨⟨_, Below.refl _ _⟩⟩
          have k0 : ∀ m : InW (fun w' => Below wr.heap.size wr w'), m.w.cell? ⟨b, q, none⟩ = some (.string ⟨f.name.toArray⟩) := fun m => (m.h.cell hb).trans c0
          have k1 : ∀ m : InW (fun w' => Below wr.heap.size wr w'), m.w.cell? ⟨b, q + 1, none⟩ = some (.string ⟨f.text.toArray⟩) := fun m => (m.h.cell hb).trans c1
          have k2 : ∀ m : InW (fun w' => Below wr.heap.size wr w'), m.w.cell? ⟨b, q + 2, none⟩ = some (.int .i64 f.kept) := fun m => (m.h.cell hb).trans c2
          have k3 : ∀ m : InW (fun w' => Below wr.heap.size wr w'), m.w.cell? ⟨b', q', none⟩ = some (.string ⟨f'.name.toArray⟩) := fun m => (m.h.cell hb').trans c0'
          have k4 : ∀ m : InW (fun w' => Below wr.heap.size wr w'), m.w.cell? ⟨b', q' + 1, none⟩ = some (.string ⟨f'.text.toArray⟩) := fun m => (m.h.cell hb').trans c1'
          have k5 : ∀ m : InW (fun w' => Below wr.heap.size wr w'), m.w.cell? ⟨b', q' + 2, none⟩ = some (.int .i64 f'.kept) := fun m => (m.h.cell hb').trans c2'
          repeat (go_big_quiet_step (first | (go_at_call 89; refine (eqFile_any f f' _).mono ?_; rw [HD.out]; rintro e w2 ⟨rfl, hb2⟩; exact ⟨rfl, ⟨w2, Below.trans (InW.h _) (hb2.mono (Below.size (InW.h (F := fun w' => Below wr.heap.size wr w') ‹_›)))⟩, rfl⟩)))
          refine wpQuiet_nil ?_
          intro _ hw'
          obtain ⟨nq, hw''⟩ := hw'
          subst hw''
          have hb3 := hbel.trans (nq.h.mono hsz)
          generalize nq.w = w2 at hb3 ⊢
          clear hne k0 k1 k2 k3 k4 k5
          go_wp2_with fail
          go_ret
          exact ⟨by rw [HNE.out]; rfl, hb3⟩
        | true =>
          have hee : f = f' := by simpa using hd
          have HEE := hide hee
          have HD := hide hd
          clear hd hee
          go_wp2_with fail
          refine wp_region_in (F := fun w' => Below wr.heap.size wr w') (by kernel_rfl) (by kernel_rfl) (Below.refl _ _).drew ?_
          have hne : Nonempty (InW (fun w' => Below wr.heap.size wr w')) := ⟨⟨_, Below.refl _ _⟩⟩
          have k0 : ∀ m : InW (fun w' => Below wr.heap.size wr w'), m.w.cell? ⟨b, q, none⟩ = some (.string ⟨f.name.toArray⟩) := fun m => (m.h.cell hb).trans c0
          have k1 : ∀ m : InW (fun w' => Below wr.heap.size wr w'), m.w.cell? ⟨b, q + 1, none⟩ = some (.string ⟨f.text.toArray⟩) := fun m => (m.h.cell hb).trans c1
          have k2 : ∀ m : InW (fun w' => Below wr.heap.size wr w'), m.w.cell? ⟨b, q + 2, none⟩ = some (.int .i64 f.kept) := fun m => (m.h.cell hb).trans c2
          have k3 : ∀ m : InW (fun w' => Below wr.heap.size wr w'), m.w.cell? ⟨b', q', none⟩ = some (.string ⟨f'.name.toArray⟩) := fun m => (m.h.cell hb').trans c0'
          have k4 : ∀ m : InW (fun w' => Below wr.heap.size wr w'), m.w.cell? ⟨b', q' + 1, none⟩ = some (.string ⟨f'.text.toArray⟩) := fun m => (m.h.cell hb').trans c1'
          have k5 : ∀ m : InW (fun w' => Below wr.heap.size wr w'), m.w.cell? ⟨b', q' + 2, none⟩ = some (.int .i64 f'.kept) := fun m => (m.h.cell hb').trans c2'
          repeat (go_big_quiet_step (first | (go_at_call 89; refine (eqFile_any f f' _).mono ?_; rw [HD.out]; rintro e w2 ⟨rfl, hb2⟩; exact ⟨rfl, ⟨w2, Below.trans (InW.h _) (hb2.mono (Below.size (InW.h (F := fun w' => Below wr.heap.size wr w') ‹_›)))⟩, rfl⟩)))
          refine wpQuiet_nil ?_
          intro _ hw'
          obtain ⟨nq, hw''⟩ := hw'
          subst hw''
          have hb3 := hbel.trans (nq.h.mono hsz)
          generalize nq.w = w2 at hb3 ⊢
          clear hne k0 k1 k2 k3 k4 k5
          go_wp2_with fail
          go_roundw
          case rel => exact ⟨j + 1, by go_num, by omega, by rw [List.take_add_one, List.take_add_one, HS.out, HF.out, HF'.out, HEE.out], hb3⟩
          case measure => simp [intOf]; omega
      · have hjn : j = n := by omega
        have HE := hide (show decide (fs = gs) = true by
          have h1 := HS.out
          rw [hjn, ← HN.out, List.take_length, HN.out, ← HM.out, List.take_length] at h1
          simpa using h1)
        go_wp2_with fail
        go_ret
        exact ⟨by rw [HE.out]; rfl, hbel⟩
  · have HNE := hide (show decide (fs = gs) = false by
      simp
      intro e
      rw [e] at hn
      omega)
    have g : ((n : Int) == (m : Int)) = false := by simp; omega
    clear hn hm
    go_enter Tryd.func66, Tryd.ntmps66
    go_wp2_with fail
    go_ret
    exact ⟨by rw [HNE.out]; rfl, Below.refl _ _⟩


theorem eqDisk_any (oa : Option Addr) (n cap : Nat) (fs : List FileV) (ob : Option Addr) (m cap' : Nat) (gs : List FileV) (hn20 : n ≤ 1048576) (w : World) (hat : FilesAt w oa n cap fs) (hbt : FilesAt w ob m cap' gs) :
    Calls Tryd.prog 25 #[.agg #[.slice oa n cap], .agg #[.slice ob m cap']] w fun e w' => e = .returned (.bool (decide (fs = gs))) ∧ Below w.heap.size w w' := by
  have hb0 := ((Below.refl w.heap.size w).alloc (Nat.le_refl _) (.cells #[.slice oa n cap] 47)).alloc (by simp) (.cells #[.slice ob m cap'] 47)
  have HAT := hide (hat.below hb0)
  have HBT := hide (hbt.below hb0)
  have HB0 := hide hb0
  clear hat hbt hb0
  cases hd : decide (fs = gs) with
  | false =>
    have HD := hide hd
    clear hd
    go_enter Tryd.func25, Tryd.ntmps25
    go_wp2_with (go_at_call 66; refine (eqFileS_any oa n cap fs ob m cap' gs hn20 _ HAT.out HBT.out).mono ?_; rw [HD.out]; rintro e w2 ⟨rfl, hb2⟩)
    go_ret
    exact ⟨rfl, HB0.out.trans (hb2.mono (by simp; omega))⟩
  | true =>
    have HD := hide hd
    clear hd
    go_enter Tryd.func25, Tryd.ntmps25
    go_wp2_with (go_at_call 66; refine (eqFileS_any oa n cap fs ob m cap' gs hn20 _ HAT.out HBT.out).mono ?_; rw [HD.out]; rintro e w2 ⟨rfl, hb2⟩)
    go_ret
    exact ⟨rfl, HB0.out.trans (hb2.mono (by simp; omega))⟩

end Go.Proofs.YtpenpbopehbncaaDoor
