/-
  Walks of chapter 3: DiskOk of the program.
-/
import Derived.Test.YtpenpbopehbncaaDoorWalk3b
import Derived.Test.YtpenpbopehbncaaDoorPack15
namespace Go.Proofs.YtpenpbopehbncaaDoor
open Go.RowKit P5 K
set_option linter.unusedVariables false
set_option linter.unusedSimpArgs false

theorem below_undrew {B : Nat} {w w' : World} (h : Below B w.drew w') : Below B w w' := ⟨h.os, h.tape, h.output, h.size, h.block⟩

set_option maxHeartbeats 8000000 in
theorem implDiskOk_any (oa : Option Addr) (n cap : Nat) (fs : List FileV) (w : World) (hat : FilesAt w oa n cap fs) (hw : ∀ f ∈ fs, Fine f) :
    Calls Tryd.prog 61 #[.agg #[.slice oa n cap]] w fun e w' => e = .returned (.bool (diskOk fs)) ∧ Below w.heap.size w w' := by
  have hb0 := (Below.refl w.heap.size w).alloc (Nat.le_refl _) (.cells #[.slice oa n cap] 47)
  have hn := hat.len
  have hc := hat.room
  have hm := hat.most
  unfold maxLen at hm
  unfold diskOk
  rw [hn]
  by_cases c1 : n ≤ 30
  · have g1 : ¬ (30 : Int) < (n : Int) := by omega
    rw [decide_eq_true c1, Bool.true_and]
    have HN := hide hn
    have HAT := hide hat
    have HW := hide hw
    have HB0 := hide hb0
    clear hn hat hw hb0
    go_enter Tryd.func61, Tryd.ntmps61
    go_wp2_with fail
    go_loopw [12] (fun i wr => ∃ (j : Nat), i = .int .i64 (j : Int) ∧ j ≤ n ∧ okFrom (prevAt fs j) (fs.drop j) = okFrom none fs ∧ wr.cell? ⟨w.heap.size, 0, none⟩ = some (.slice oa n cap) ∧ Below w.heap.size w wr ∧ w.heap.size < wr.heap.size) (fun i _ => n - (intOf i).toNat)
    case atStart => exact ⟨0, rfl, Nat.zero_le _, rfl, by simp, HB0.out, by simp⟩
    case round =>
      obtain ⟨j, rfl, hj, hrest, hcd, hbel, hsz⟩ := hrel
      by_cases hlt : j < n
      · have j0 : (j : Int) < (n : Int) := by omega
        obtain ⟨f, b, q, hf, hidx, hb, c0, c1', c2⟩ := (HAT.out.below hbel).get Tryd.underlying45 infoIF j hlt
        have hwf := HW.out f (List.mem_of_getElem? hf)
        have hwn : f.name.length ≤ 9223372036854775807 := by have := hwf.1; omega
        have hwt : f.text.length ≤ 9223372036854775807 := by have := hwf.2.1; omega
        rw [drop_at hf, okFrom_cons] at hrest
        have HR := hide hrest
        have HF := hide hf
        clear hrest hf
        cases hfo : fileOk f with
        | false =>
          have HNO := hide (show false = okFrom none fs by rw [← HR.out, hfo]; rfl)
          have HFO := hide hfo
          clear hfo
          go_wp2_with fail
          refine wp_region_in (F := fun w' => Below (wr.heap.size + 1) (wr.alloc (.cells #[.string ⟨f.name.toArray⟩, .string ⟨f.text.toArray⟩, .int .i64 f.kept] 89)) w') (by kernel_rfl) (by kernel_rfl) (Below.refl _ _).drew ?_
          have hne : Nonempty (InW (fun w' => Below (wr.heap.size + 1) (wr.alloc (.cells #[.string ⟨f.name.toArray⟩, .string ⟨f.text.toArray⟩, .int .i64 f.kept] 89)) w')) := ⟨⟨_, Below.refl _ _⟩⟩
          have k0 : ∀ m : InW (fun w' => Below (wr.heap.size + 1) (wr.alloc (.cells #[.string ⟨f.name.toArray⟩, .string ⟨f.text.toArray⟩, .int .i64 f.kept] 89)) w'), m.w.cell? ⟨wr.heap.size, 0, none⟩ = some (.string ⟨f.name.toArray⟩) := fun m => (m.h.cell (by simp)).trans (by simp)
          have k1 : ∀ m : InW (fun w' => Below (wr.heap.size + 1) (wr.alloc (.cells #[.string ⟨f.name.toArray⟩, .string ⟨f.text.toArray⟩, .int .i64 f.kept] 89)) w'), m.w.cell? ⟨wr.heap.size, 1, none⟩ = some (.string ⟨f.text.toArray⟩) := fun m => (m.h.cell (by simp)).trans (by simp)
          have k2 : ∀ m : InW (fun w' => Below (wr.heap.size + 1) (wr.alloc (.cells #[.string ⟨f.name.toArray⟩, .string ⟨f.text.toArray⟩, .int .i64 f.kept] 89)) w'), m.w.cell? ⟨wr.heap.size, 2, none⟩ = some (.int .i64 f.kept) := fun m => (m.h.cell (by simp)).trans (by simp)
          repeat (go_big_quiet_step (first | (go_at_call 86; refine (right_any f hwn hwt _).mono ?_; rw [HFO.out]; rintro e w2 ⟨rfl, hb2⟩; exact ⟨rfl, ⟨w2, Below.trans (InW.h _) (hb2.mono (by have := Below.size (InW.h (F := fun w' => Below (wr.heap.size + 1) (wr.alloc (.cells #[.string ⟨f.name.toArray⟩, .string ⟨f.text.toArray⟩, .int .i64 f.kept] 89)) w') ‹_›); simp at this; omega))⟩, rfl⟩)))
          refine wpQuiet_nil ?_
          intro _ hw'
          obtain ⟨nq, hw''⟩ := hw'
          subst hw''
          have hb3 := nq.h
          have hb4 : Below w.heap.size w nq.w := (hbel.alloc (by omega) _).trans (hb3.mono (by omega))
          generalize nq.w = w2 at hb3 hb4 ⊢
          clear hne k0 k1 k2
          go_wp2_with fail
          go_ret
          exact ⟨by rw [← HNO.out]; rfl, hb4⟩
        | true =>
          have HFO := hide hfo
          clear hfo
          by_cases hj0 : j = 0
          · have gj : decide (0 < j) = false := by simp [hj0]
            have HYES := hide (show okFrom (prevAt fs (j + 1)) (fs.drop (j + 1)) = okFrom none fs by rw [← HR.out, HFO.out, prevAt_next HF.out]; simp [prevAt, hj0])
            have HJ0 := hide hj0
            clear hj0
            go_wp2_with fail
            refine wp_region_in (F := fun w' => Below (wr.heap.size + 1) (wr.alloc (.cells #[.string ⟨f.name.toArray⟩, .string ⟨f.text.toArray⟩, .int .i64 f.kept] 89)) w') (by kernel_rfl) (by kernel_rfl) (Below.refl _ _).drew ?_
            have hne : Nonempty (InW (fun w' => Below (wr.heap.size + 1) (wr.alloc (.cells #[.string ⟨f.name.toArray⟩, .string ⟨f.text.toArray⟩, .int .i64 f.kept] 89)) w')) := ⟨⟨_, Below.refl _ _⟩⟩
            have k0 : ∀ m : InW (fun w' => Below (wr.heap.size + 1) (wr.alloc (.cells #[.string ⟨f.name.toArray⟩, .string ⟨f.text.toArray⟩, .int .i64 f.kept] 89)) w'), m.w.cell? ⟨wr.heap.size, 0, none⟩ = some (.string ⟨f.name.toArray⟩) := fun m => (m.h.cell (by simp)).trans (by simp)
            have k1 : ∀ m : InW (fun w' => Below (wr.heap.size + 1) (wr.alloc (.cells #[.string ⟨f.name.toArray⟩, .string ⟨f.text.toArray⟩, .int .i64 f.kept] 89)) w'), m.w.cell? ⟨wr.heap.size, 1, none⟩ = some (.string ⟨f.text.toArray⟩) := fun m => (m.h.cell (by simp)).trans (by simp)
            have k2 : ∀ m : InW (fun w' => Below (wr.heap.size + 1) (wr.alloc (.cells #[.string ⟨f.name.toArray⟩, .string ⟨f.text.toArray⟩, .int .i64 f.kept] 89)) w'), m.w.cell? ⟨wr.heap.size, 2, none⟩ = some (.int .i64 f.kept) := fun m => (m.h.cell (by simp)).trans (by simp)
            repeat (go_big_quiet_step (first | (go_at_call 86; refine (right_any f hwn hwt _).mono ?_; rw [HFO.out]; rintro e w2 ⟨rfl, hb2⟩; exact ⟨rfl, ⟨w2, Below.trans (InW.h _) (hb2.mono (by have := Below.size (InW.h (F := fun w' => Below (wr.heap.size + 1) (wr.alloc (.cells #[.string ⟨f.name.toArray⟩, .string ⟨f.text.toArray⟩, .int .i64 f.kept] 89)) w') ‹_›); simp at this; omega))⟩, rfl⟩)))
            refine wpQuiet_nil ?_
            intro _ hw'
            obtain ⟨nq, hw''⟩ := hw'
            subst hw''
            have hb3 := nq.h
            have hb4 : Below w.heap.size w nq.w := (hbel.alloc (by omega) _).trans (hb3.mono (by omega))
            generalize nq.w = w2 at hb3 hb4 ⊢
            clear hne k0 k1 k2
            go_wp2_with fail
            go_roundw
            case rel => exact ⟨j + 1, by go_num, by omega, HYES.out, (hb3.cell (p := ⟨w.heap.size, 0, none⟩) (by simp; omega)).trans (((Below.refl wr.heap.size wr).alloc (Nat.le_refl _) _).cell (p := ⟨w.heap.size, 0, none⟩) hsz |>.trans hcd), hb4, by have := hb3.size; simp at this; omega⟩
            case measure => simp [intOf]; omega
          · have gj : decide (0 < j) = true := by simp; omega
            obtain ⟨p, b', q', hp, hidx', hb', c0', c1'', c2'⟩ := (HAT.out.below hbel).get Tryd.underlying45 infoIF (j - 1) (by omega)
            have hjc : ((j - 1 : Nat) : Int) = (j : Int) - 1 := by omega
            rw [hjc] at hidx'
            have hpv : prevAt fs j = some p.name := by simp [prevAt, hj0, hp]
            have hwr : IntKind.i64.wrap ((j : Int) - 1) = (j : Int) - 1 := by rw [IntKind.wrap_i64]; omega
            have HPV := hide hpv
            clear hpv hp hjc
            cases hlb : ltB p.name f.name with
            | false =>
              have HNO := hide (show false = okFrom none fs by rw [← HR.out, HPV.out]; simp [hlb])
              have HL : Op.bytesLess p.name f.name = false := by rw [bytesLess_eq]; exact hlb
              go_wp2_with fail
              refine wp_region_in (F := fun w' => Below (wr.heap.size + 1) (wr.alloc (.cells #[.string ⟨f.name.toArray⟩, .string ⟨f.text.toArray⟩, .int .i64 f.kept] 89)) w') (by kernel_rfl) (by kernel_rfl) (Below.refl _ _).drew ?_
              have hne : Nonempty (InW (fun w' => Below (wr.heap.size + 1) (wr.alloc (.cells #[.string ⟨f.name.toArray⟩, .string ⟨f.text.toArray⟩, .int .i64 f.kept] 89)) w')) := ⟨⟨_, Below.refl _ _⟩⟩
              have k0 : ∀ m : InW (fun w' => Below (wr.heap.size + 1) (wr.alloc (.cells #[.string ⟨f.name.toArray⟩, .string ⟨f.text.toArray⟩, .int .i64 f.kept] 89)) w'), m.w.cell? ⟨wr.heap.size, 0, none⟩ = some (.string ⟨f.name.toArray⟩) := fun m => (m.h.cell (by simp)).trans (by simp)
              have k1 : ∀ m : InW (fun w' => Below (wr.heap.size + 1) (wr.alloc (.cells #[.string ⟨f.name.toArray⟩, .string ⟨f.text.toArray⟩, .int .i64 f.kept] 89)) w'), m.w.cell? ⟨wr.heap.size, 1, none⟩ = some (.string ⟨f.text.toArray⟩) := fun m => (m.h.cell (by simp)).trans (by simp)
              have k2 : ∀ m : InW (fun w' => Below (wr.heap.size + 1) (wr.alloc (.cells #[.string ⟨f.name.toArray⟩, .string ⟨f.text.toArray⟩, .int .i64 f.kept] 89)) w'), m.w.cell? ⟨wr.heap.size, 2, none⟩ = some (.int .i64 f.kept) := fun m => (m.h.cell (by simp)).trans (by simp)
              have k3 : ∀ m : InW (fun w' => Below (wr.heap.size + 1) (wr.alloc (.cells #[.string ⟨f.name.toArray⟩, .string ⟨f.text.toArray⟩, .int .i64 f.kept] 89)) w'), m.w.cell? ⟨w.heap.size, 0, none⟩ = some (.slice oa n cap) := fun m => (m.h.cell (by simp; omega)).trans ((((Below.refl wr.heap.size wr).alloc (Nat.le_refl _) _).cell (p := ⟨w.heap.size, 0, none⟩) hsz).trans hcd)
              have k4 : ∀ m : InW (fun w' => Below (wr.heap.size + 1) (wr.alloc (.cells #[.string ⟨f.name.toArray⟩, .string ⟨f.text.toArray⟩, .int .i64 f.kept] 89)) w'), m.w.cell? ⟨b', q', none⟩ = some (.string ⟨p.name.toArray⟩) := fun m => (m.h.cell (by simp; omega)).trans ((((Below.refl wr.heap.size wr).alloc (Nat.le_refl _) _).cell (p := ⟨b', q', none⟩) hb').trans c0')
              repeat (go_big_quiet_step (first | (go_at_call 86; refine (right_any f hwn hwt _).mono ?_; rw [HFO.out]; rintro e w2 ⟨rfl, hb2⟩; exact ⟨rfl, ⟨w2, Below.trans (InW.h _) (hb2.mono (by have := Below.size (InW.h (F := fun w' => Below (wr.heap.size + 1) (wr.alloc (.cells #[.string ⟨f.name.toArray⟩, .string ⟨f.text.toArray⟩, .int .i64 f.kept] 89)) w') ‹_›); simp at this; omega))⟩, rfl⟩)))
              refine wpQuiet_nil ?_
              intro _ hw'
              obtain ⟨nq, hw''⟩ := hw'
              subst hw''
              have hb3 := nq.h
              have hb4 : Below w.heap.size w nq.w := (hbel.alloc (by omega) _).trans (hb3.mono (by omega))
              generalize nq.w = w2 at hb3 hb4 ⊢
              clear hne k0 k1 k2 k3 k4
              go_wp2_with fail
              go_ret
              exact ⟨by rw [← HNO.out]; rfl, hb4⟩
            | true =>
              have HYES := hide (show okFrom (prevAt fs (j + 1)) (fs.drop (j + 1)) = okFrom none fs by rw [← HR.out, HPV.out, HFO.out, prevAt_next HF.out]; simp [hlb])
              have HL : Op.bytesLess p.name f.name = true := by rw [bytesLess_eq]; exact hlb
              go_wp2_with fail
              refine wp_region_in (F := fun w' => Below (wr.heap.size + 1) (wr.alloc (.cells #[.string ⟨f.name.toArray⟩, .string ⟨f.text.toArray⟩, .int .i64 f.kept] 89)) w') (by kernel_rfl) (by kernel_rfl) (Below.refl _ _).drew ?_
              have hne : Nonempty (InW (fun w' => Below (wr.heap.size + 1) (wr.alloc (.cells #[.string ⟨f.name.toArray⟩, .string ⟨f.text.toArray⟩, .int .i64 f.kept] 89)) w')) := ⟨⟨_, Below.refl _ _⟩⟩
              have k0 : ∀ m : InW (fun w' => Below (wr.heap.size + 1) (wr.alloc (.cells #[.string ⟨f.name.toArray⟩, .string ⟨f.text.toArray⟩, .int .i64 f.kept] 89)) w'), m.w.cell? ⟨wr.heap.size, 0, none⟩ = some (.string ⟨f.name.toArray⟩) := fun m => (m.h.cell (by simp)).trans (by simp)
              have k1 : ∀ m : InW (fun w' => Below (wr.heap.size + 1) (wr.alloc (.cells #[.string ⟨f.name.toArray⟩, .string ⟨f.text.toArray⟩, .int .i64 f.kept] 89)) w'), m.w.cell? ⟨wr.heap.size, 1, none⟩ = some (.string ⟨f.text.toArray⟩) := fun m => (m.h.cell (by simp)).trans (by simp)
              have k2 : ∀ m : InW (fun w' => Below (wr.heap.size + 1) (wr.alloc (.cells #[.string ⟨f.name.toArray⟩, .string ⟨f.text.toArray⟩, .int .i64 f.kept] 89)) w'), m.w.cell? ⟨wr.heap.size, 2, none⟩ = some (.int .i64 f.kept) := fun m => (m.h.cell (by simp)).trans (by simp)
              have k3 : ∀ m : InW (fun w' => Below (wr.heap.size + 1) (wr.alloc (.cells #[.string ⟨f.name.toArray⟩, .string ⟨f.text.toArray⟩, .int .i64 f.kept] 89)) w'), m.w.cell? ⟨w.heap.size, 0, none⟩ = some (.slice oa n cap) := fun m => (m.h.cell (by simp; omega)).trans ((((Below.refl wr.heap.size wr).alloc (Nat.le_refl _) _).cell (p := ⟨w.heap.size, 0, none⟩) hsz).trans hcd)
              have k4 : ∀ m : InW (fun w' => Below (wr.heap.size + 1) (wr.alloc (.cells #[.string ⟨f.name.toArray⟩, .string ⟨f.text.toArray⟩, .int .i64 f.kept] 89)) w'), m.w.cell? ⟨b', q', none⟩ = some (.string ⟨p.name.toArray⟩) := fun m => (m.h.cell (by simp; omega)).trans ((((Below.refl wr.heap.size wr).alloc (Nat.le_refl _) _).cell (p := ⟨b', q', none⟩) hb').trans c0')
              repeat (go_big_quiet_step (first | (go_at_call 86; refine (right_any f hwn hwt _).mono ?_; rw [HFO.out]; rintro e w2 ⟨rfl, hb2⟩; exact ⟨rfl, ⟨w2, Below.trans (InW.h _) (hb2.mono (by have := Below.size (InW.h (F := fun w' => Below (wr.heap.size + 1) (wr.alloc (.cells #[.string ⟨f.name.toArray⟩, .string ⟨f.text.toArray⟩, .int .i64 f.kept] 89)) w') ‹_›); simp at this; omega))⟩, rfl⟩)))
              refine wpQuiet_nil ?_
              intro _ hw'
              obtain ⟨nq, hw''⟩ := hw'
              subst hw''
              have hb3 := nq.h
              have hb4 : Below w.heap.size w nq.w := (hbel.alloc (by omega) _).trans (hb3.mono (by omega))
              generalize nq.w = w2 at hb3 hb4 ⊢
              clear hne k0 k1 k2 k3 k4
              go_wp2_with fail
              go_roundw
              case rel => exact ⟨j + 1, by go_num, by omega, HYES.out, (hb3.cell (p := ⟨w.heap.size, 0, none⟩) (by simp; omega)).trans (((Below.refl wr.heap.size wr).alloc (Nat.le_refl _) _).cell (p := ⟨w.heap.size, 0, none⟩) hsz |>.trans hcd), hb4, by have := hb3.size; simp at this; omega⟩
              case measure => simp [intOf]; omega
      · have hjn : j = n := by omega
        have HR := hide hrest
        go_wp2_with fail
        go_ret
        refine ⟨?_, hbel⟩
        rw [← HR.out, hjn, ← HN.out, List.drop_length]
        cases prevAt fs fs.length <;> rfl
  · have g1 : (30 : Int) < (n : Int) := by omega
    rw [decide_eq_false c1, Bool.false_and]
    have HB0 := hide hb0
    clear hb0 hn hat hw
    go_enter Tryd.func61, Tryd.ntmps61
    go_wp2_with fail
    go_ret
    exact ⟨rfl, HB0.out⟩

end Go.Proofs.YtpenpbopehbncaaDoor
