/-
  Walks of chapter 3: the laws' copies of disks, and their comparison.
-/
import Derived.Test.YtpenpbopehbncaaDoorWalk3d
namespace Go.Proofs.YtpenpbopehbncaaDoor
open Go.RowKit P5 K
set_option linter.unusedVariables false
set_option linter.unusedSimpArgs false

theorem toDisk_any (oa : Option Addr) (n cap : Nat) (fs : List FileV) (hn20 : n ≤ 1048576) (w : World) (hat : FilesAt w oa n cap fs) :
    Calls Tryd.prog 22 #[.agg #[.slice oa n cap]] w fun e w' => ∃ g, e = .returned (.agg #[.slice (some ⟨g, 0, none⟩) n n]) ∧ w'.ownsRow w.heap.size 89 3 (.slice (some ⟨g, 0, none⟩) n n) n (fs.flatMap fcells) ∧ Below w.heap.size w w' := by
  have hb0 := (((Below.refl w.heap.size w).alloc (Nat.le_refl _) (.cells #[.slice oa n cap] 40)).alloc (by simp) (.cells #[.slice none 0 0] 47)).alloc (by simp; omega) (.cells #[.slice none 0 0] 47)
  have HAT := hide (hat.below hb0)
  have HB0 := hide hb0
  clear hat hb0
  go_enter Tryd.func22, Tryd.ntmps22
  go_wp2_with fail
  refine (toFileS_any oa n cap fs hn20 _ HAT.out).mono ?_
  rintro e w2 ⟨g, rfl, hown, hb2⟩
  have k1 := hb2.cell (p := ⟨w.heap.size + 1, 0, none⟩) (by simp)
  have k2 := hb2.cell (p := ⟨w.heap.size + 1 + 1, 0, none⟩) (by simp)
  have q1 := hb2.frozen (p := ⟨w.heap.size + 1, 0, none⟩) (by simp)
  have q2 := hb2.frozen (p := ⟨w.heap.size + 1 + 1, 0, none⟩) (by simp)
  have HO := hide hown
  clear hown
  go_wp2_with fail
  refine bodyPost_ret (v := .agg #[.slice (some ⟨g, 0, none⟩) n n]) (by simp [results, Tryd.results22, go_sem, k1, k2, q1, q2]) rfl ⟨g, rfl, ?_, ?_⟩
  · exact own_base (own_setCell (own_setCell HO.out (by simp) _) (by simp) _) (by simp; omega)
  · exact ((HB0.out.trans (hb2.mono (by simp; omega))).setCell (by simp <;> omega) _).setCell (by simp <;> omega) _

theorem eqFileS_any (oa : Option Addr) (n cap : Nat) (fs : List FileV) (ob : Option Addr) (m cap' : Nat) (gs : List FileV) (hn20 : n ≤ 1048576) (w : World) (hat : FilesAt w oa n cap fs) (hbt : FilesAt w ob m cap' gs) :
    Calls Tryd.prog 66 #[.slice oa n cap, .slice ob m cap'] w fun e w' => e = .returned (.bool (decide (fs = gs))) ∧ Below w.heap.size w w' := by
  have hn := hat.len
  have hm := hbt.len
  have HAT := hide hat
  have HBT := hide hbt
  clear hat hbt
  by_cases hnm : n = m
  · subst hnm
    go_enter Tryd.func66, Tryd.ntmps66
    go_wp2_with fail
    have HN := hide hn
    have HM := hide hm
    clear hn hm
    go_loopw [5] (fun i wr => ∃ (j : Nat), i = .int .i64 (j : Int) ∧ j ≤ n ∧ fs.take j = gs.take j ∧ Below w.heap.size w wr) (fun i _ => n - (intOf i).toNat)
    case atStart => exact ⟨0, rfl, Nat.zero_le _, by simp, Below.refl _ _⟩
    case round =>
      obtain ⟨j, rfl, hj, hsame, hbel⟩ := hrel
      have HS := hide hsame
      have hsz := hbel.size
      clear hsame
      by_cases hlt : j < n
      · have j0 : (j : Int) < (n : Int) := by omega
        obtain ⟨f, b, q, hf, hidx, hb, c0, c1, c2⟩ := (HAT.out.below hbel).get Tryd.underlying45 infoIF j hlt
        obtain ⟨f', b', q', hf', hidx', hb', c0', c1', c2'⟩ := (HBT.out.below hbel).get Tryd.underlying45 infoIF j hlt
        have HF := hide hf
        have HF' := hide hf'
        clear hf hf'
        cases hd : decide (f = f') with
        | false =>
          have hne : f ≠ f' := by simpa using hd
          have HNE := hide (show decide (fs = gs) = false by
            have h1 := HF.out
            have h2 := HF'.out
            simp
            intro e
            rw [e, h2] at h1
            exact hne (Option.some.inj h1).symm)
          have HD := hide hd
          clear hd hne
          go_wp2_with fail
          refine wp_region_in (F := fun w' => Below wr.heap.size wr w') (by kernel_rfl) (by kernel_rfl) (Below.refl _ _).drew ?_
          have hne : Nonempty (InW (fun w' => Below wr.heap.size wr w')) := ⟨⟨_, Below.refl _ _⟩⟩
          have k0 : ∀ m : InW (fun w' => Below wr.heap.size wr w'), m.w.cell? ⟨b, q, none⟩ = some (.string ⟨f.name.toArray⟩) := fun m => (m.h.cell hb).trans c0
          have k1 : ∀ m : InW (fun w' => Below wr.heap.size wr w'), m.w.cell? ⟨b, q + 1, none⟩ = some (.string ⟨f.text.toArray⟩) := fun m => (m.h.cell hb).trans c1
          have k2 : ∀ m : InW (fun w' => Below wr.heap.size wr w'), m.w.cell? ⟨b, q + 2, none⟩ = some (.int .i64 f.kept) := fun m => (m.h.cell hb).trans c2
          have k3 : ∀ m : InW (fun w' => Below wr.heap.size wr w'), m.w.cell? ⟨b', q', none⟩ = some (.string ⟨f'.name.toArray⟩) := fun m => (m.h.cell hb').trans c0'
          have k4 : ∀ m : InW (fun w' => Below wr.heap.size wr w'), m.w.cell? ⟨b', q' + 1, none⟩ = some (.string ⟨f'.text.toArray⟩) := fun m => (m.h.cell hb').trans c1'
          have k5 : ∀ m : InW (fun w' => Below wr.heap.size wr w'), m.w.cell? ⟨b', q' + 2, none⟩ = some (.int .i64 f'.kept) := fun m => (m.h.cell hb').trans c2'
          repeat (go_big_quiet_step (first | (go_at_call 89; refine (eqFile_any f f' _).mono ?_; rw [HD.out]; rintro e w2 ⟨rfl, hb2⟩; exact ⟨rfl, ⟨w2, Below.trans (InW.h _) (hb2.mono (Below.size (InW.h (F := fun w' => Below wr.heap.size wr w') ‹_›)))⟩, rfl⟩)))
          refine wpQuiet_nil ?_
          intro _ hw'
          obtain ⟨nq, hw''⟩ := hw'
          subst hw''
          have hb3 := hbel.trans (nq.h.mono hsz)
          generalize nq.w = w2 at hb3 ⊢
          clear hne k0 k1 k2 k3 k4 k5
          go_wp2_with fail
          go_ret
          exact ⟨by rw [HNE.out]; rfl, hb3⟩
        | true =>
          have hee : f = f' := by simpa using hd
          have HEE := hide hee
          have HD := hide hd
          clear hd hee
          go_wp2_with fail
          refine wp_region_in (F := fun w' => Below wr.heap.size wr w') (by kernel_rfl) (by kernel_rfl) (Below.refl _ _).drew ?_
          have hne : Nonempty (InW (fun w' => Below wr.heap.size wr w')) := ⟨⟨_, Below.refl _ _⟩⟩
          have k0 : ∀ m : InW (fun w' => Below wr.heap.size wr w'), m.w.cell? ⟨b, q, none⟩ = some (.string ⟨f.name.toArray⟩) := fun m => (m.h.cell hb).trans c0
          have k1 : ∀ m : InW (fun w' => Below wr.heap.size wr w'), m.w.cell? ⟨b, q + 1, none⟩ = some (.string ⟨f.text.toArray⟩) := fun m => (m.h.cell hb).trans c1
          have k2 : ∀ m : InW (fun w' => Below wr.heap.size wr w'), m.w.cell? ⟨b, q + 2, none⟩ = some (.int .i64 f.kept) := fun m => (m.h.cell hb).trans c2
          have k3 : ∀ m : InW (fun w' => Below wr.heap.size wr w'), m.w.cell? ⟨b', q', none⟩ = some (.string ⟨f'.name.toArray⟩) := fun m => (m.h.cell hb').trans c0'
          have k4 : ∀ m : InW (fun w' => Below wr.heap.size wr w'), m.w.cell? ⟨b', q' + 1, none⟩ = some (.string ⟨f'.text.toArray⟩) := fun m => (m.h.cell hb').trans c1'
          have k5 : ∀ m : InW (fun w' => Below wr.heap.size wr w'), m.w.cell? ⟨b', q' + 2, none⟩ = some (.int .i64 f'.kept) := fun m => (m.h.cell hb').trans c2'
          repeat (go_big_quiet_step (first | (go_at_call 89; refine (eqFile_any f f' _).mono ?_; rw [HD.out]; rintro e w2 ⟨rfl, hb2⟩; exact ⟨rfl, ⟨w2, Below.trans (InW.h _) (hb2.mono (Below.size (InW.h (F := fun w' => Below wr.heap.size wr w') ‹_›)))⟩, rfl⟩)))
          refine wpQuiet_nil ?_
          intro _ hw'
          obtain ⟨nq, hw''⟩ := hw'
          subst hw''
          have hb3 := hbel.trans (nq.h.mono hsz)
          generalize nq.w = w2 at hb3 ⊢
          clear hne k0 k1 k2 k3 k4 k5
          go_wp2_with fail
          go_roundw
          case rel => exact ⟨j + 1, by go_num, by omega, by rw [List.take_add_one, List.take_add_one, HS.out, HF.out, HF'.out, HEE.out], hb3⟩
          case measure => simp [intOf]; omega
      · have hjn : j = n := by omega
        have HE := hide (show decide (fs = gs) = true by
          have h1 := HS.out
          rw [hjn, ← HN.out, List.take_length, HN.out, ← HM.out, List.take_length] at h1
          simpa using h1)
        go_wp2_with fail
        go_ret
        exact ⟨by rw [HE.out]; rfl, hbel⟩
  · have HNE := hide (show decide (fs = gs) = false by
      simp
      intro e
      rw [e] at hn
      omega)
    have g : ((n : Int) == (m : Int)) = false := by simp; omega
    clear hn hm
    go_enter Tryd.func66, Tryd.ntmps66
    go_wp2_with fail
    go_ret
    exact ⟨by rw [HNE.out]; rfl, Below.refl _ _⟩


theorem eqDisk_any (oa : Option Addr) (n cap : Nat) (fs : List FileV) (ob : Option Addr) (m cap' : Nat) (gs : List FileV) (hn20 : n ≤ 1048576) (w : World) (hat : FilesAt w oa n cap fs) (hbt : FilesAt w ob m cap' gs) :
    Calls Tryd.prog 25 #[.agg #[.slice oa n cap], .agg #[.slice ob m cap']] w fun e w' => e = .returned (.bool (decide (fs = gs))) ∧ Below w.heap.size w w' := by
  have hb0 := ((Below.refl w.heap.size w).alloc (Nat.le_refl _) (.cells #[.slice oa n cap] 47)).alloc (by simp) (.cells #[.slice ob m cap'] 47)
  have HAT := hide (hat.below hb0)
  have HBT := hide (hbt.below hb0)
  have HB0 := hide hb0
  clear hat hbt hb0
  cases hd : decide (fs = gs) with
  | false =>
    have HD := hide hd
    clear hd
    go_enter Tryd.func25, Tryd.ntmps25
    go_wp2_with (go_at_call 66; refine (eqFileS_any oa n cap fs ob m cap' gs hn20 _ HAT.out HBT.out).mono ?_; rw [HD.out]; rintro e w2 ⟨rfl, hb2⟩)
    go_ret
    exact ⟨rfl, HB0.out.trans (hb2.mono (by simp; omega))⟩
  | true =>
    have HD := hide hd
    clear hd
    go_enter Tryd.func25, Tryd.ntmps25
    go_wp2_with (go_at_call 66; refine (eqFileS_any oa n cap fs ob m cap' gs hn20 _ HAT.out HBT.out).mono ?_; rw [HD.out]; rintro e w2 ⟨rfl, hb2⟩)
    go_ret
    exact ⟨rfl, HB0.out.trans (hb2.mono (by simp; omega))⟩

end Go.Proofs.YtpenpbopehbncaaDoor
