/-
  Walks of chapter 3: copies of files.
-/
import Derived.Test.YtgimbffogmhbgaaWalk3f
import Derived.Test.YtgimbffogmhbgaaFlat2
import Derived.Deep.RegionHeld3
namespace Go.Proofs.Ytgimbffogmhbgaa
open Go.RowKit P5 K
set_option linter.unusedVariables false
set_option linter.unusedSimpArgs false

/-- What a cell holds. -/
def cellOr (w : World) (p : Addr) : Value := (w.cell? p).getD undef

/-- Everything below B stands as in W; the variable of k cells at block b may be written. -/
def Held (B : Nat) (W : World) (b k : Nat) (w' : World) : Prop := Below B W w' ∧ B ≤ w'.heap.size ∧ w'.there b 0 k

theorem Held.drew {B : Nat} {W : World} {b k : Nat} {w' : World} (h : Held B W b k w') : Held B W b k w'.drew := ⟨h.1.drew, h.2.1, h.2.2⟩

theorem there_below {w w' : World} {b k : Nat} (h : w.there b 0 k) (hk : 0 < k) (hb : Below w.heap.size w w') : w'.there b 0 k := fun j hj => by
  obtain ⟨h1, h2⟩ := h j hj
  obtain ⟨u, hu⟩ := Option.isSome_iff_exists.1 h1
  have hlt := cell_lt hu
  exact ⟨by rw [hb.cell hlt, hu]; rfl, by rw [hb.frozen hlt]; exact h2⟩

theorem Held.below {B : Nat} {W : World} {b k : Nat} {w' w'' : World} (h : Held B W b k w') (hk : 0 < k) (hb : Below w'.heap.size w' w'') : Held B W b k w'' :=
  ⟨h.1.trans (hb.mono h.2.1), Nat.le_trans h.2.1 hb.size, there_below h.2.2 hk hb⟩

theorem Held.cell {B : Nat} {W : World} {b k : Nat} {w' : World} (h : Held B W b k w') {p : Addr} (hp : p.block < B) {u : Value} (hu : W.cell? p = some u) : w'.cell? p = some u := (h.1.cell hp).trans hu

theorem Held.room {B : Nat} {W : World} {b k : Nat} {w' : World} (h : Held B W b k w') {j : Nat} (hj : j < k) : w'.cell? ⟨b, j, none⟩ = some (cellOr w' ⟨b, j, none⟩) := by
  have := (h.2.2 j hj).1
  rw [Nat.zero_add] at this
  obtain ⟨u, hu⟩ := Option.isSome_iff_exists.1 this
  rw [cellOr, hu]
  rfl

theorem Held.free {B : Nat} {W : World} {b k : Nat} {w' : World} (h : Held B W b k w') {j : Nat} (hj : j < k) : w'.frozen? ⟨b, j, none⟩ = false := by
  have := (h.2.2 j hj).2
  rwa [Nat.zero_add] at this

theorem Held.set {B : Nat} {W : World} {b k : Nat} {w' : World} (h : Held B W b k w') {p : Addr} (hp : B ≤ p.block) (hs : p.spot = none) (u : Value) : Held B W b k (w'.setCell p u) := by
  obtain ⟨pb, po, ps⟩ := p
  simp only at hs
  subst hs
  exact ⟨h.1.setCell hp u, Nat.le_trans h.2.1 ((Below.refl 0 w').setCell (Nat.zero_le _) u).size, World.there_setCells h.2.2 pb po [u]⟩

set_option maxHeartbeats 1000000 in
theorem copied_any (f : FileV) (hn : f.name.length ≤ 20000000) (ht : f.text.length ≤ 20000000) (w : World) :
    Calls Try.prog 43 #[fval f] w fun e w' => e = .returned (fval f) ∧ Below w.heap.size w w' := by
  obtain ⟨nm, tx, kp⟩ := f
  simp only [fval] at *
  have hb := ((Below.refl w.heap.size w).alloc (Nat.le_refl _) (.cells #[.string ⟨nm.toArray⟩, .string ⟨tx.toArray⟩, .int .i64 kp] 37)).alloc (by simp) (.cells #[.string ⟨#[]⟩, .string ⟨#[]⟩, .int .i64 0] 37)
  obtain ⟨W, hW⟩ : ∃ W, W = ((w.alloc (.cells #[.string ⟨nm.toArray⟩, .string ⟨tx.toArray⟩, .int .i64 kp] 37)).alloc (.cells #[.string ⟨#[]⟩, .string ⟨#[]⟩, .int .i64 0] 37)) := ⟨_, rfl⟩
  have hH : Held (w.heap.size + 1) W (w.heap.size + 1) 3 W.drew := by
    subst hW
    refine ⟨(Below.refl _ _).drew, by simp, fun j hj => ?_⟩
    match j, hj with
    | 0, _ => simp
    | 1, _ => simp
    | 2, _ => simp
  have k0 : ∀ w', Held (w.heap.size + 1) W (w.heap.size + 1) 3 w' → w'.cell? ⟨w.heap.size, 0, none⟩ = some (.string ⟨nm.toArray⟩) := fun w' h => h.cell (by simp) (by subst hW; simp)
  have k1 : ∀ w', Held (w.heap.size + 1) W (w.heap.size + 1) 3 w' → w'.cell? ⟨w.heap.size, 1, none⟩ = some (.string ⟨tx.toArray⟩) := fun w' h => h.cell (by simp) (by subst hW; simp)
  have k2 : ∀ w', Held (w.heap.size + 1) W (w.heap.size + 1) 3 w' → w'.cell? ⟨w.heap.size, 2, none⟩ = some (.int .i64 kp) := fun w' h => h.cell (by simp) (by subst hW; simp)
  have r0 : ∀ w', Held (w.heap.size + 1) W (w.heap.size + 1) 3 w' → w'.cell? ⟨w.heap.size + 1, 0, none⟩ = some (cellOr w' ⟨w.heap.size + 1, 0, none⟩) := fun w' h => h.room (by omega)
  have r1 : ∀ w', Held (w.heap.size + 1) W (w.heap.size + 1) 3 w' → w'.cell? ⟨w.heap.size + 1, 1, none⟩ = some (cellOr w' ⟨w.heap.size + 1, 1, none⟩) := fun w' h => h.room (by omega)
  have r2 : ∀ w', Held (w.heap.size + 1) W (w.heap.size + 1) 3 w' → w'.cell? ⟨w.heap.size + 1, 2, none⟩ = some (cellOr w' ⟨w.heap.size + 1, 2, none⟩) := fun w' h => h.room (by omega)
  have q0 : ∀ w', Held (w.heap.size + 1) W (w.heap.size + 1) 3 w' → w'.frozen? ⟨w.heap.size + 1, 0, none⟩ = false := fun w' h => h.free (by omega)
  have q1 : ∀ w', Held (w.heap.size + 1) W (w.heap.size + 1) 3 w' → w'.frozen? ⟨w.heap.size + 1, 1, none⟩ = false := fun w' h => h.free (by omega)
  have q2 : ∀ w', Held (w.heap.size + 1) W (w.heap.size + 1) 3 w' → w'.frozen? ⟨w.heap.size + 1, 2, none⟩ = false := fun w' h => h.free (by omega)
  have HB := hide hb
  have HW := hide hW
  have hn' : (⟨nm.toArray⟩ : ByteArray).size ≤ 281474976710656 := by
    have h3 : (⟨nm.toArray⟩ : ByteArray).size = nm.length := by simp [ByteArray.size]
    omega
  have ht' : (⟨tx.toArray⟩ : ByteArray).size ≤ 281474976710656 := by
    have h3 : (⟨tx.toArray⟩ : ByteArray).size = tx.length := by simp [ByteArray.size]
    omega
  clear hb hW
  go_enter Try.func43, Try.ntmps43
  go_wp2_with fail
  rw [← HW.out]
  go_region_held3 (fun w' => Held (w.heap.size + 1) W (w.heap.size + 1) 3 w') (first | exact hH | (exact Held.below ‹_› (by omega) hb2) | exact ((Held.set ‹_› (by simp) rfl _).set (by simp) rfl _).set (by simp) rfl _)
    (first
      | (go_at_call 48; refine (stringsClone3_any _ (by first | exact hn' | exact ht') _).mono ?_; rintro e w2 ⟨rfl, hb2⟩))
  have h2 : Held (w.heap.size + 1) W (w.heap.size + 1) 3 w2 := by
    refine Held.below ?_ (by omega) hb2
    exact hH.below (by omega) (by assumption)
  have z0 := r0 w2 h2
  have z1 := r1 w2 h2
  have z2 := r2 w2 h2
  have hfin : Below w.heap.size w w2 := by
    have h3 := h2.1.mono (Nat.le_succ _)
    rw [HW.out] at h3
    exact HB.out.trans h3
  clear k0 k1 k2 r0 r1 r2 q0 q1 q2 hH
  go_wp2_with fail
  refine bodyPost_ret (v := fval ⟨nm, tx, kp⟩) (by simp [results, Try.results43, go_sem, fval, z0, z1, z2]) rfl ⟨rfl, ?_⟩
  exact ((hfin.setCell (by simp) _).setCell (by simp) _).setCell (by simp) _

end Go.Proofs.Ytgimbffogmhbgaa
