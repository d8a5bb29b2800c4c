/-
  Walks of chapter 3: what the power leaves of a file.
  Slices of numbers: read, copied, compared, marked.
-/
import Derived.Test.YtdcdlfkbdeogeaaPack15
import Derived.Lib.MinMax
import Derived.Test.YtdcdlfkbdeogeaaFlat2
import Derived.Deep.RegionHeld3
import Derived.Deep.QuietTactic
import Derived.BigQuiet
namespace Go.Proofs.Ytdcdlfkbdeogeaa
open Go.RowKit P5 K
set_option linter.unusedVariables false
set_option linter.unusedSimpArgs false

theorem run_begin {P : Program} {t : TypeId} (h : P.underlying t = some .string) (s : List UInt8) (k : Nat) (hk : k ≤ s.length) (wx : World) :
    (Instr.slice t (.string ⟨s.toArray⟩) none (some (.int .i64 (k : Int))) none).run P wx = .ok (.string ⟨(s.take k).toArray⟩) wx := by
  have e : (⟨s.toArray⟩ : ByteArray).extract 0 k = ⟨(s.take k).toArray⟩ := by
    apply ByteArray.ext
    simp [ByteArray.data_extract]
  have hs : (⟨s.toArray⟩ : ByteArray).size = s.length := by simp [ByteArray.size]
  have h1 : (k : Int) ≤ (s.length : Int) := by omega
  rw [← e]
  simp [Instr.slice, run_underlying h, Instr.sliceBounds, go_sem, hs, h1, hk]

set_option maxHeartbeats 1000000 in
theorem lost_any (f : FileV) (hf : fileOk f = true) (told : Int) (w : World) :
    Calls Try.prog 50 #[fval f, .int .i64 told] w fun e w' => e = .returned (fval (loseF f told)) ∧ Below w.heap.size w w' := by
  have hk := fileOk_kept hf
  have hle := leftOf_le hf told
  have hnt : f.name.length ≤ 8 ∧ f.text.length ≤ 20000 := by simp [fileOk, nameOk] at hf; omega
  have hst : max f.kept (min told (f.text.length : Int)) = (P5.leftOf f told : Int) := by unfold P5.leftOf; omega
  obtain ⟨nm, tx, kp⟩ := f
  obtain ⟨L, hL⟩ : ∃ L, L = P5.leftOf ⟨nm, tx, kp⟩ told := ⟨_, rfl⟩
  simp only [loseF] at *
  rw [← hL] at hle hst ⊢
  simp only [fval] at *
  have hb := ((Below.refl w.heap.size w).alloc (Nat.le_refl _) (.cells #[.string ⟨nm.toArray⟩, .string ⟨tx.toArray⟩, .int .i64 kp] 49)).alloc (by simp) (.cells #[.string ⟨#[]⟩, .string ⟨#[]⟩, .int .i64 0] 49)
  obtain ⟨W, hW⟩ : ∃ W, W = ((w.alloc (.cells #[.string ⟨nm.toArray⟩, .string ⟨tx.toArray⟩, .int .i64 kp] 49)).alloc (.cells #[.string ⟨#[]⟩, .string ⟨#[]⟩, .int .i64 0] 49)) := ⟨_, rfl⟩
  have hH : Held (w.heap.size + 1) W (w.heap.size + 1) 3 W.drew := by
    subst hW
    refine ⟨(Below.refl _ _).drew, by simp, fun j hj => ?_⟩
    match j, hj with
    | 0, _ => simp
    | 1, _ => simp
    | 2, _ => simp
  have k0 : ∀ w', Held (w.heap.size + 1) W (w.heap.size + 1) 3 w' → w'.cell? ⟨w.heap.size, 0, none⟩ = some (.string ⟨nm.toArray⟩) := fun w' h => h.cell (by simp) (by subst hW; simp)
  have k1 : ∀ w', Held (w.heap.size + 1) W (w.heap.size + 1) 3 w' → w'.cell? ⟨w.heap.size, 1, none⟩ = some (.string ⟨tx.toArray⟩) := fun w' h => h.cell (by simp) (by subst hW; simp)
  have r0 : ∀ w', Held (w.heap.size + 1) W (w.heap.size + 1) 3 w' → w'.cell? ⟨w.heap.size + 1, 0, none⟩ = some (cellOr w' ⟨w.heap.size + 1, 0, none⟩) := fun w' h => h.room (by omega)
  have r1 : ∀ w', Held (w.heap.size + 1) W (w.heap.size + 1) 3 w' → w'.cell? ⟨w.heap.size + 1, 1, none⟩ = some (cellOr w' ⟨w.heap.size + 1, 1, none⟩) := fun w' h => h.room (by omega)
  have r2 : ∀ w', Held (w.heap.size + 1) W (w.heap.size + 1) 3 w' → w'.cell? ⟨w.heap.size + 1, 2, none⟩ = some (cellOr w' ⟨w.heap.size + 1, 2, none⟩) := fun w' h => h.room (by omega)
  have q0 : ∀ w', Held (w.heap.size + 1) W (w.heap.size + 1) 3 w' → w'.frozen? ⟨w.heap.size + 1, 0, none⟩ = false := fun w' h => h.free (by omega)
  have q1 : ∀ w', Held (w.heap.size + 1) W (w.heap.size + 1) 3 w' → w'.frozen? ⟨w.heap.size + 1, 1, none⟩ = false := fun w' h => h.free (by omega)
  have q2 : ∀ w', Held (w.heap.size + 1) W (w.heap.size + 1) 3 w' → w'.frozen? ⟨w.heap.size + 1, 2, none⟩ = false := fun w' h => h.free (by omega)
  have hsl := run_begin (P := Try.prog) Try.underlying9 tx L hle
  have HB := hide hb
  have HW := hide hW
  have HL := hide hL
  have hl2 : (tx.take L).length ≤ 20000000 := by rw [List.length_take]; omega
  clear hb hW hL
  go_enter Try.func50, Try.ntmps50
  go_wp2_with fail
  rw [← HW.out]
  go_region_held3 (fun w' => Held (w.heap.size + 1) W (w.heap.size + 1) 3 w') (first | exact hH | (exact Held.below ‹_› (by omega) hb2) | exact ((Held.set ‹_› (by simp) rfl _).set (by simp) rfl _).set (by simp) rfl _)
    (first
      | (go_at_call 19; refine (copied_any ⟨nm, tx.take L, (L : Int)⟩ (by simp only []; omega) hl2 _).mono ?_; unfold fval; rintro e w2 ⟨rfl, hb2⟩))
  have h2 : Held (w.heap.size + 1) W (w.heap.size + 1) 3 w2 := hH.below (by omega) hb2
  have z0 := r0 w2 h2
  have z1 := r1 w2 h2
  have z2 := r2 w2 h2
  have hfin : Below w.heap.size w w2 := by
    have h3 := h2.1.mono (Nat.le_succ _)
    rw [HW.out] at h3
    exact HB.out.trans h3
  clear k0 k1 r0 r1 r2 q0 q1 q2 hH
  go_wp2_with fail
  refine bodyPost_ret (v := fval ⟨nm, tx.take L, (L : Int)⟩) (by simp [results, Try.results50, go_sem, fval, z0, z1, z2]) rfl ⟨rfl, ?_⟩
  exact ((hfin.setCell (by simp) _).setCell (by simp) _).setCell (by simp) _

end Go.Proofs.Ytdcdlfkbdeogeaa

namespace Go.Proofs.Ytdcdlfkbdeogeaa
open Go.RowKit P5 K
set_option linter.unusedVariables false
set_option linter.unusedSimpArgs false

/-- A slice of numbers that reads as zs. -/
structure IntsAt (w : World) (oa : Option Addr) (n cap : Nat) (zs : List Int) : Prop where
  len : zs.length = n
  room : n ≤ cap
  most : cap ≤ maxLen
  fits : ∀ z ∈ zs, (Lit.int .i64 z).wf = true
  at_ : ∀ (i : Nat) (z : Int), zs[i]? = some z → ∃ b o, oa = some ⟨b, o, none⟩ ∧ w.cell? ⟨b, o + i, none⟩ = some (.int .i64 z)

theorem IntsAt.below {w w' : World} {oa : Option Addr} {n cap : Nat} {zs : List Int} (h : IntsAt w oa n cap zs) (hb : Below w.heap.size w w') : IntsAt w' oa n cap zs :=
  ⟨h.len, h.room, h.most, h.fits, fun i z hz => by
    obtain ⟨b, o, ha, hc⟩ := h.at_ i z hz
    exact ⟨b, o, ha, by rw [hb.cell (cell_lt hc)]; exact hc⟩⟩

theorem IntsAt.get {w : World} {oa : Option Addr} {n cap : Nat} {zs : List Int} (h : IntsAt w oa n cap zs) {P : Program} {t e : TypeId} (ht : P.underlying t = some (.slice e)) (hi : (P.info? e).map (·.size) = some 1) (i : Nat) (hin : i < n) :
    ∃ z b q, zs[i]? = some z ∧ (∀ wx, (Instr.indexAt t (.slice oa n cap) (.int .i64 (i : Int))).run P wx = .ok (.pointer (some ⟨b, q, none⟩)) wx) ∧ b < w.heap.size ∧ w.cell? ⟨b, q, none⟩ = some (.int .i64 z) ∧ (Lit.int .i64 z).wf = true := by
  obtain ⟨z, hz⟩ : ∃ z, zs[i]? = some z := ⟨_, List.getElem?_eq_getElem (by rw [h.len]; exact hin)⟩
  obtain ⟨b, o, rfl, hc⟩ := h.at_ i z hz
  refine ⟨z, b, o + i, hz, fun wx => ?_, cell_lt hc, hc, h.fits z (List.mem_of_getElem? hz)⟩
  have := run_indexAt_slice wx t e 1 ht hi b o n cap i hin
  rwa [Nat.mul_one] at this

def icell (z : Int) : Value := .int .i64 z

theorem intsAt_of_own {w : World} {base : Nat} {e : TypeId} {v : Value} {n : Nat} {zs : List Int} (h : w.ownsRow base e 1 v n (zs.map icell)) (hf : ∀ z ∈ zs, (Lit.int .i64 z).wf = true) :
    ∃ oa cap, v = .slice oa n cap ∧ IntsAt w oa n cap zs := by
  have hlen : zs.length = n := by have := h.1; simpa using this
  rcases h.2 with ⟨rfl, rfl⟩ | ⟨g, cap, cur, rfl, hb, hg, hnc, hcm, hcs, htake⟩
  · have : zs = [] := List.eq_nil_of_length_eq_zero hlen
    subst this
    exact ⟨none, 0, rfl, ⟨rfl, Nat.le_refl _, by unfold maxLen; omega, hf, fun i f hf => by simp at hf⟩⟩
  · refine ⟨some ⟨g, 0, none⟩, cap, rfl, ⟨hlen, hnc, hcm, hf, fun i z hz => ⟨g, 0, rfl, ?_⟩⟩⟩
    have hi : i < zs.length := (List.getElem?_eq_some_iff.1 hz).1
    rw [Nat.zero_add, h.cellAt i (by omega)]
    simp [hz, icell]

theorem infoI : (Try.prog.info? 3).map (·.size) = some 1 := by kernel_rfl
theorem infoIz : (Try.prog.info? 3).map (fun i => (i.zero, i.size, i.bytes)) = some (some (.int .i64 0), 1, 8) := by kernel_rfl

end Go.Proofs.Ytdcdlfkbdeogeaa
