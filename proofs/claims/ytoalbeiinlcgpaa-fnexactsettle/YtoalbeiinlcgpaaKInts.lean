/-
  Walks and mathematics of Ints.
-/
import Derived.Test.YtoalbeiinlcgpaaKFlat
import Derived.Deep.RegionHeld3
import Derived.Deep.QuietTactic
import Derived.BigQuiet
namespace Go.Proofs.Ytoalbeiinlcgpaa.P5
end Go.Proofs.Ytoalbeiinlcgpaa.P5
namespace Go.Proofs.Ytoalbeiinlcgpaa
open Go.RowKit P5 K
set_option linter.unusedVariables false
set_option linter.unusedSimpArgs false

structure IntsAt (w : World) (oa : Option Addr) (n cap : Nat) (zs : List Int) : Prop where
  len : zs.length = n
  room : n ≤ cap
  most : cap ≤ maxLen
  fits : ∀ z ∈ zs, (Lit.int .i64 z).wf = true
  at_ : ∀ (i : Nat) (z : Int), zs[i]? = some z → ∃ b o, oa = some ⟨b, o, none⟩ ∧ w.cell? ⟨b, o + i, none⟩ = some (.int .i64 z)

theorem IntsAt.below {w w' : World} {oa : Option Addr} {n cap : Nat} {zs : List Int} (h : IntsAt w oa n cap zs) (hb : Below w.heap.size w w') : IntsAt w' oa n cap zs :=
  ⟨h.len, h.room, h.most, h.fits, fun i z hz => by
    obtain ⟨b, o, ha, hc⟩ := h.at_ i z hz
    exact ⟨b, o, ha, by rw [hb.cell (cell_lt hc)]; exact hc⟩⟩

theorem IntsAt.get {w : World} {oa : Option Addr} {n cap : Nat} {zs : List Int} (h : IntsAt w oa n cap zs) {P : Program} {t e : TypeId} (ht : P.underlying t = some (.slice e)) (hi : (P.info? e).map (·.size) = some 1) (i : Nat) (hin : i < n) :
    ∃ z b q, zs[i]? = some z ∧ (∀ wx, (Instr.indexAt t (.slice oa n cap) (.int .i64 (i : Int))).run P wx = .ok (.pointer (some ⟨b, q, none⟩)) wx) ∧ b < w.heap.size ∧ w.cell? ⟨b, q, none⟩ = some (.int .i64 z) ∧ (Lit.int .i64 z).wf = true := by
  obtain ⟨z, hz⟩ : ∃ z, zs[i]? = some z := ⟨_, List.getElem?_eq_getElem (by rw [h.len]; exact hin)⟩
  obtain ⟨b, o, rfl, hc⟩ := h.at_ i z hz
  refine ⟨z, b, o + i, hz, fun wx => ?_, cell_lt hc, hc, h.fits z (List.mem_of_getElem? hz)⟩
  have := run_indexAt_slice wx t e 1 ht hi b o n cap i hin
  rwa [Nat.mul_one] at this

def icell (z : Int) : Value := .int .i64 z

theorem intsAt_of_own {w : World} {base : Nat} {e : TypeId} {v : Value} {n : Nat} {zs : List Int} (h : w.ownsRow base e 1 v n (zs.map icell)) (hf : ∀ z ∈ zs, (Lit.int .i64 z).wf = true) :
    ∃ oa cap, v = .slice oa n cap ∧ IntsAt w oa n cap zs := by
  have hlen : zs.length = n := by have := h.1; simpa using this
  rcases h.2 with ⟨rfl, rfl⟩ | ⟨g, cap, cur, rfl, hb, hg, hnc, hcm, hcs, htake⟩
  · have : zs = [] := List.eq_nil_of_length_eq_zero hlen
    subst this
    exact ⟨none, 0, rfl, ⟨rfl, Nat.le_refl _, by unfold maxLen; omega, hf, fun i f hf => by simp at hf⟩⟩
  · refine ⟨some ⟨g, 0, none⟩, cap, rfl, ⟨hlen, hnc, hcm, hf, fun i z hz => ⟨g, 0, rfl, ?_⟩⟩⟩
    have hi : i < zs.length := (List.getElem?_eq_some_iff.1 hz).1
    rw [Nat.zero_add, h.cellAt i (by omega)]
    simp [hz, icell]

theorem infoI : (Try.prog.info? 3).map (·.size) = some 1 := by kernel_rfl

theorem infoIz : (Try.prog.info? 3).map (fun i => (i.zero, i.size, i.bytes)) = some (some (.int .i64 0), 1, 8) := by kernel_rfl

set_option maxHeartbeats 1000000 in
theorem toIntS_any (oa : Option Addr) (n cap : Nat) (zs : List Int) (hn20 : n ≤ 1048576) (w : World) (hat : IntsAt w oa n cap zs) :
    Calls Try.prog 12 #[.slice oa n cap] w fun e w' => ∃ g, e = .returned (.slice (some ⟨g, 0, none⟩) n n) ∧ w'.ownsRow w.heap.size 3 1 (.slice (some ⟨g, 0, none⟩) n n) n (zs.map icell) ∧ Below w.heap.size w w' := by
  have hn := hat.len
  have hc := hat.room
  have hm := hat.most
  unfold maxLen at hm
  obtain ⟨i0, hi, hz0, hz1, hz2⟩ := info_parts infoIz
  obtain ⟨W0, hmk, hown0, hgr0⟩ := run_make_full (P := Try.prog) w w.heap.size 22 3 i0 _ 1 Try.underlying22 hi hz0 hz1 .i64 .i64 n (by rw [hz2]; omega) (by unfold maxLen; omega) (Nat.le_refl _)
  have HOWN := hide hown0
  have HGR := hide hgr0
  have HN := hide hn
  have HAT := hide hat
  clear hown0 hgr0 hn hat hi hz0 hz1 hz2
  go_enter Try.func12, Try.ntmps12
  go_wp2_with fail
  go_loopw [4] (fun i wr => ∃ (j : Nat) (xs : List Value), i = .int .i64 (j : Int) ∧ j ≤ n ∧ xs.take j = (zs.take j).map icell ∧ wr.ownsRow w.heap.size 3 1 (.slice (some ⟨w.heap.size, 0, none⟩) n n) n xs ∧ Below w.heap.size w wr) (fun i _ => n - (intOf i).toNat)
  case atStart => exact ⟨0, _, rfl, Nat.zero_le _, by simp, HOWN.out, (Below.refl _ _).grown HGR.out (Nat.le_refl _) (fun k hk => by cases hk)⟩
  case round =>
    obtain ⟨j, xs, rfl, hj, hfill, hown, hbel⟩ := hrel
    by_cases hlt : j < n
    · have j0 : (j : Int) < (n : Int) := by omega
      obtain ⟨z, b, q, hz, hidx, hb, c0, hwf⟩ := (HAT.out.below hbel).get Try.underlying22 infoI j hlt
      have hidx2 : ∀ wx, (Instr.indexAt 22 (.slice (some ⟨w.heap.size, 0, none⟩) n n) (.int .i64 (j : Int))).run Try.prog wx = .ok (.pointer (some ⟨w.heap.size, j, none⟩)) wx := fun wx => by
        have := run_indexAt_slice wx 22 3 1 Try.underlying22 infoI w.heap.size 0 n n j hlt
        rwa [Nat.zero_add, Nat.mul_one] at this
      have hl := hown.1
      obtain ⟨u, hu⟩ : ∃ u, wr.cell? ⟨w.heap.size, j, none⟩ = some u := ⟨_, by rw [hown.cellAt j (by omega), List.getElem?_eq_getElem (by omega)]⟩
      have hfz := hown.frozenAt j
      have HST := hide (hown.stored j (.int .i64 z))
      have HFI := hide (show (xs.set j (.int .i64 z)).take (j + 1) = (zs.take (j + 1)).map icell by
        rw [List.take_add_one, List.take_set, List.set_eq_of_length_le (by simp; omega), hfill, List.getElem?_set_self (by omega), List.take_add_one, hz]
        simp [icell])
      have hsz := hbel.size
      clear hown hfill hz hl
      go_wp2_with fail
      go_roundw
      case rel => exact ⟨j + 1, _, by go_num, by omega, HFI.out, HST.out.1, hbel.setCell (Nat.le_refl _) _⟩
      case measure => simp [intOf]; omega
    · have hjn : j = n := by omega
      have HE := hide (show xs = zs.map icell by
        have h1 := hfill
        have h2 := hown.1
        rw [hjn] at h1
        rw [List.take_of_length_le (by omega), List.take_of_length_le (by rw [HN.out]; omega)] at h1
        exact h1)
      have HO := hide hown
      clear hown hfill
      go_wp2_with fail
      go_ret
      refine ⟨w.heap.size, rfl, ?_, hbel⟩
      rw [← HE.out]
      exact HO.out

set_option maxHeartbeats 1000000 in
theorem eqIntS_same (oa : Option Addr) (n cap : Nat) (ob : Option Addr) (cap' : Nat) (zs : List Int) (hn20 : n ≤ 1048576) (w : World) (hat : IntsAt w oa n cap zs) (hbt : IntsAt w ob n cap' zs) :
    Calls Try.prog 14 #[.slice oa n cap, .slice ob n cap'] w fun e w' => e = .returned (.bool true) ∧ Below w.heap.size w w' := by
  have HAT := hide hat
  have HBT := hide hbt
  clear hat hbt
  go_enter Try.func14, Try.ntmps14
  go_wp2_with fail
  go_loopw [5] (fun i wr => ∃ (j q : Nat), i = .int .i64 (j : Int) ∧ j ≤ n ∧ wr = w.drewN q) (fun i _ => n - (intOf i).toNat)
  case atStart => exact ⟨0, 0, rfl, Nat.zero_le _, rfl⟩
  case round =>
    obtain ⟨j, q, rfl, hj, rfl⟩ := hrel
    by_cases hlt : j < n
    · have j0 : (j : Int) < (n : Int) := by omega
      obtain ⟨z, b, p, hz, hidx, hb, c0, hwf⟩ := HAT.out.get Try.underlying22 infoI j hlt
      obtain ⟨z', b', p', hz', hidx', hb', c0', hwf'⟩ := HBT.out.get Try.underlying22 infoI j hlt
      rw [hz] at hz'
      cases hz'
      clear hz
      go_wp2_with fail
      go_quiet (fail)
      go_wp2_with fail
      go_roundw
      case rel => exact ⟨j + 1, q + nq, by go_num, by omega, by simp⟩
      case measure => simp [intOf]; omega
    · go_wp2_with fail
      go_ret
      exact ⟨rfl, below_drewN (Below.refl _ _) _⟩

end Go.Proofs.Ytoalbeiinlcgpaa
