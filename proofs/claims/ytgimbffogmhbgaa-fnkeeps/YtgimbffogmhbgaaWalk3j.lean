/-
  Walks of chapter 3: what the power leaves of a file.
-/
import Derived.Test.YtgimbffogmhbgaaWalk3i
import Derived.Lib.MinMax
namespace Go.Proofs.Ytgimbffogmhbgaa
open Go.RowKit P5 K
set_option linter.unusedVariables false
set_option linter.unusedSimpArgs false

theorem run_begin {P : Program} {t : TypeId} (h : P.underlying t = some .string) (s : List UInt8) (k : Nat) (hk : k ≤ s.length) (wx : World) :
    (Instr.slice t (.string ⟨s.toArray⟩) none (some (.int .i64 (k : Int))) none).run P wx = .ok (.string ⟨(s.take k).toArray⟩) wx := by
  have e : (⟨s.toArray⟩ : ByteArray).extract 0 k = ⟨(s.take k).toArray⟩ := by
    apply ByteArray.ext
    simp [ByteArray.data_extract]
  have hs : (⟨s.toArray⟩ : ByteArray).size = s.length := by simp [ByteArray.size]
  have h1 : (k : Int) ≤ (s.length : Int) := by omega
  rw [← e]
  simp [Instr.slice, run_underlying h, Instr.sliceBounds, go_sem, hs, h1, hk]

set_option maxHeartbeats 1000000 in
theorem lost_any (f : FileV) (hf : fileOk f = true) (told : Int) (w : World) :
    Calls Try.prog 36 #[fval f, .int .i64 told] w fun e w' => e = .returned (fval (loseF f told)) ∧ Below w.heap.size w w' := by
  have hk := fileOk_kept hf
  have hle := leftOf_le hf told
  have hnt : f.name.length ≤ 8 ∧ f.text.length ≤ 20000 := by simp [fileOk, nameOk] at hf; omega
  have hst : max f.kept (min told (f.text.length : Int)) = (P5.leftOf f told : Int) := by unfold P5.leftOf; omega
  obtain ⟨nm, tx, kp⟩ := f
  obtain ⟨L, hL⟩ : ∃ L, L = P5.leftOf ⟨nm, tx, kp⟩ told := ⟨_, rfl⟩
  simp only [loseF] at *
  rw [← hL] at hle hst ⊢
  simp only [fval] at *
  have hb := ((Below.refl w.heap.size w).alloc (Nat.le_refl _) (.cells #[.string ⟨nm.toArray⟩, .string ⟨tx.toArray⟩, .int .i64 kp] 37)).alloc (by simp) (.cells #[.string ⟨#[]⟩, .string ⟨#[]⟩, .int .i64 0] 37)
  obtain ⟨W, hW⟩ : ∃ W, W = ((w.alloc (.cells #[.string ⟨nm.toArray⟩, .string ⟨tx.toArray⟩, .int .i64 kp] 37)).alloc (.cells #[.string ⟨#[]⟩, .string ⟨#[]⟩, .int .i64 0] 37)) := ⟨_, rfl⟩
  have hH : Held (w.heap.size + 1) W (w.heap.size + 1) 3 W.drew := by
    subst hW
    refine ⟨(Below.refl _ _).drew, by simp, fun j hj => ?_⟩
    match j, hj with
    | 0, _ => simp
    | 1, _ => simp
    | 2, _ => simp
  have k0 : ∀ w', Held (w.heap.size + 1) W (w.heap.size + 1) 3 w' → w'.cell? ⟨w.heap.size, 0, none⟩ = some (.string ⟨nm.toArray⟩) := fun w' h => h.cell (by simp) (by subst hW; simp)
  have k1 : ∀ w', Held (w.heap.size + 1) W (w.heap.size + 1) 3 w' → w'.cell? ⟨w.heap.size, 1, none⟩ = some (.string ⟨tx.toArray⟩) := fun w' h => h.cell (by simp) (by subst hW; simp)
  have r0 : ∀ w', Held (w.heap.size + 1) W (w.heap.size + 1) 3 w' → w'.cell? ⟨w.heap.size + 1, 0, none⟩ = some (cellOr w' ⟨w.heap.size + 1, 0, none⟩) := fun w' h => h.room (by omega)
  have r1 : ∀ w', Held (w.heap.size + 1) W (w.heap.size + 1) 3 w' → w'.cell? ⟨w.heap.size + 1, 1, none⟩ = some (cellOr w' ⟨w.heap.size + 1, 1, none⟩) := fun w' h => h.room (by omega)
  have r2 : ∀ w', Held (w.heap.size + 1) W (w.heap.size + 1) 3 w' → w'.cell? ⟨w.heap.size + 1, 2, none⟩ = some (cellOr w' ⟨w.heap.size + 1, 2, none⟩) := fun w' h => h.room (by omega)
  have q0 : ∀ w', Held (w.heap.size + 1) W (w.heap.size + 1) 3 w' → w'.frozen? ⟨w.heap.size + 1, 0, none⟩ = false := fun w' h => h.free (by omega)
  have q1 : ∀ w', Held (w.heap.size + 1) W (w.heap.size + 1) 3 w' → w'.frozen? ⟨w.heap.size + 1, 1, none⟩ = false := fun w' h => h.free (by omega)
  have q2 : ∀ w', Held (w.heap.size + 1) W (w.heap.size + 1) 3 w' → w'.frozen? ⟨w.heap.size + 1, 2, none⟩ = false := fun w' h => h.free (by omega)
  have hsl := run_begin (P := Try.prog) Try.underlying9 tx L hle
  have HB := hide hb
  have HW := hide hW
  have HL := hide hL
  have hl2 : (tx.take L).length ≤ 20000000 := by rw [List.length_take]; omega
  clear hb hW hL
  go_enter Try.func36, Try.ntmps36
  go_wp2_with fail
  rw [← HW.out]
  go_region_held3 (fun w' => Held (w.heap.size + 1) W (w.heap.size + 1) 3 w') (first | exact hH | (exact Held.below ‹_› (by omega) hb2) | exact ((Held.set ‹_› (by simp) rfl _).set (by simp) rfl _).set (by simp) rfl _)
    (first
      | (go_at_call 43; refine (copied_any ⟨nm, tx.take L, (L : Int)⟩ (by simp only []; omega) hl2 _).mono ?_; unfold fval; rintro e w2 ⟨rfl, hb2⟩))
  have h2 : Held (w.heap.size + 1) W (w.heap.size + 1) 3 w2 := hH.below (by omega) hb2
  have z0 := r0 w2 h2
  have z1 := r1 w2 h2
  have z2 := r2 w2 h2
  have hfin : Below w.heap.size w w2 := by
    have h3 := h2.1.mono (Nat.le_succ _)
    rw [HW.out] at h3
    exact HB.out.trans h3
  clear k0 k1 r0 r1 r2 q0 q1 q2 hH
  go_wp2_with fail
  refine bodyPost_ret (v := fval ⟨nm, tx.take L, (L : Int)⟩) (by simp [results, Try.results36, go_sem, fval, z0, z1, z2]) rfl ⟨rfl, ?_⟩
  exact ((hfin.setCell (by simp) _).setCell (by simp) _).setCell (by simp) _

end Go.Proofs.Ytgimbffogmhbgaa
