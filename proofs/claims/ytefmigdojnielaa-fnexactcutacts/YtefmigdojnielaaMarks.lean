/-
  Files marked, and whether the marks are held.
-/
import Derived.Test.YtefmigdojnielaaFlat2
import Derived.Test.YtefmigdojnielaaLawStr
import Derived.Test.YtefmigdojnielaaQuietIn
namespace Go.Proofs.Ytefmigdojnielaa
open Go.RowKit P1 P5 K
set_option linter.unusedVariables false
set_option linter.unusedSimpArgs false

def markF (k i : Nat) : FileV := ⟨markB (k + 3 * i), markB (k + 3 * i + 1), ((k + 3 * i + 2 : Nat) : Int)⟩
def marksF (k n : Nat) : List FileV := (List.range n).map (markF k)

theorem marksF_length (k n : Nat) : (marksF k n).length = n := by simp [marksF]
theorem marksF_at (k n i : Nat) (h : i < n) : (marksF k n)[i]? = some (markF k i) := by simp [marksF, h]

/-- The step of one cell in a row that the call owns. -/
theorem own_one {w : World} {base : Nat} {e : TypeId} {g n cap : Nat} {xs : List Value} (h : w.ownsRow base e 3 (.slice (some ⟨g, 0, none⟩) n cap) n xs) (j : Nat) (hj : j < n * 3) :
    ∃ u, w.cell? ⟨g, j, none⟩ = some u := ⟨_, by rw [h.cellAt j hj, List.getElem?_eq_getElem (by rw [h.1]; exact hj)]⟩

set_option maxHeartbeats 1000000 in
theorem markFileS_some (g n cap base k : Nat) (hn : n ≤ 1048576) (hk : k ≤ 1000) (w : World) (xs : List Value) (hown : w.ownsRow base 36 3 (.slice (some ⟨g, 0, none⟩) n cap) n xs) :
    Calls Try.prog 66 #[.slice (some ⟨g, 0, none⟩) n cap, .int .i64 (k : Int)] w fun e w' => e = .returned (.int .i64 ((k + 3 * n : Nat) : Int)) ∧ w'.ownsRow base 36 3 (.slice (some ⟨g, 0, none⟩) n cap) n ((marksF k n).flatMap fcells) ∧ w.grownBy w' (some g) := by
  have HO0 := hide hown
  clear hown
  go_enter Try.func66, Try.ntmps66
  go_wp2_with fail
  go_loopw [1, 5] (fun x i wr => ∃ (j : Nat) (ys : List Value), i = .int .i64 (j : Int) ∧ x = .int .i64 ((k + 3 * j : Nat) : Int) ∧ j ≤ n ∧ Filled (marksF k n) j ys ∧ wr.ownsRow base 36 3 (.slice (some ⟨g, 0, none⟩) n cap) n ys ∧ w.grownBy wr (some g)) (fun _ i _ => n - (intOf i).toNat)
  case atStart => exact ⟨0, xs, rfl, rfl, Nat.zero_le _, filled_zero _ _, HO0.out, grown_below (Below.refl _ _)⟩
  case round =>
    obtain ⟨j, ys, rfl, rfl, hj, hfill, hown, hgr⟩ := hrel
    by_cases hlt : j < n
    · have j0 : (j : Int) < (n : Int) := by omega
      have hidx2 : ∀ wx, (Instr.indexAt 24 (.slice (some ⟨g, 0, none⟩) n cap) (.int .i64 (j : Int))).run Try.prog wx = .ok (.pointer (some ⟨g, j * 3, none⟩)) wx := fun wx => by
        have := run_indexAt_slice wx 24 36 3 Try.underlying24 infoIF g 0 n cap j hlt
        rwa [Nat.zero_add] at this
      have HFI := hide hfill
      have HO := hide hown
      have HG := hide hgr
      clear hfill hown hgr
      go_wp2_with fail
      refine (markText_any (k + 3 * j) (by omega) _).mono ?_
      rintro e w2 ⟨rfl, hb2⟩
      have ho2 := own_below HO.out hb2
      obtain ⟨y0, z0⟩ := own_one ho2 (j * 3) (by omega)
      have f0 := ho2.frozenAt (j * 3)
      have st2 := ho2.stored (j * 3) (.string ⟨(markB (k + 3 * j)).toArray⟩)
      have HO2 := hide st2.1
      have HG2 := hide (grown_trans HG.out (grown_trans (grown_below hb2) st2.2))
      clear hb2 ho2 st2
      go_wp2_with fail
      refine (markText_any (k + 3 * j + 1) (by omega) _).mono ?_
      rintro e w3 ⟨rfl, hb3⟩
      have ho3 := own_below HO2.out hb3
      obtain ⟨y1, z1⟩ := own_one ho3 (j * 3 + 1) (by omega)
      have f1 := ho3.frozenAt (j * 3 + 1)
      have st3 := ho3.stored (j * 3 + 1) (.string ⟨(markB (k + 3 * j + 1)).toArray⟩)
      have HG3 := hide (grown_trans HG2.out (grown_trans (grown_below hb3) st3.2))
      obtain ⟨y2, z2⟩ := own_one st3.1 (j * 3 + 2) (by omega)
      have f2 := st3.1.frozenAt (j * 3 + 2)
      have st4 := st3.1.stored (j * 3 + 2) (.int .i64 ((k + 3 * j + 2 : Nat) : Int))
      have HO4 := hide st4.1
      have HG4 := hide (grown_trans HG3.out st4.2)
      clear hb3 ho3 st3 st4 z0 f0
      go_wp2_with fail
      go_roundw
      case rel => exact ⟨j + 1, _, by go_num, by go_num, by omega, filled_step HFI.out (marksF_at k n j hlt) (by have := HO.out.1; omega), HO4.out, HG4.out⟩
      case measure => simp [intOf]; omega
    · have ej : j = n := by omega
      subst ej
      have HO := hide hown
      have HE := hide (filled_end hfill (marksF_length k j) hown.1)
      clear hown hfill
      go_wp2_with fail
      go_ret
      exact ⟨by go_num, by rw [← HE.out]; exact HO.out, hgr⟩

theorem markFileS_any (v : Value) (n base k : Nat) (hn : n ≤ 1048576) (hk : k ≤ 1000) (w : World) (xs : List Value) (hown : w.ownsRow base 36 3 v n xs) :
    Calls Try.prog 66 #[v, .int .i64 (k : Int)] w fun e w' => e = .returned (.int .i64 ((k + 3 * n : Nat) : Int)) ∧ w'.ownsRow base 36 3 v n ((marksF k n).flatMap fcells) ∧ w.grownBy w' v.ownBlock := by
  rcases hown.2 with ⟨rfl, rfl⟩ | ⟨g, cap, cur, rfl, _⟩
  · clear hown
    go_enter Try.func66, Try.ntmps66
    go_wp2_with fail
    go_loopw [1, 5] (fun x i wr => x = .int .i64 (k : Int) ∧ i = .int .i64 0 ∧ wr = w) (fun _ _ _ => 0)
    case atStart => exact ⟨rfl, rfl, rfl⟩
    case round =>
      obtain ⟨rfl, rfl, rfl⟩ := hrel
      go_wp2_with fail
      go_ret
      exact ⟨rfl, World.ownsRow_nil _ _ _ _, grown_below (Below.refl _ _)⟩
  · exact markFileS_some g n cap base k hn hk w xs hown

theorem markDisk_any (v : Value) (n base k : Nat) (hn : n ≤ 1048576) (hk : k ≤ 1000) (w : World) (xs : List Value) (hown : w.ownsRow base 36 3 v n xs) :
    Calls Try.prog 30 #[.agg #[v], .int .i64 (k : Int)] w fun e w' => e = .returned (.int .i64 ((k + 3 * n : Nat) : Int)) ∧ w'.ownsRow base 36 3 v n ((marksF k n).flatMap fcells) ∧ w.grownBy w' v.ownBlock := by
  have hv : v.oneCell' = true := by
    rcases hown.2 with ⟨rfl, rfl⟩ | ⟨g, cap, cur, rfl, _⟩ <;> simp [Value.oneCell']
  have HO := hide hown
  clear hown
  go_enter Try.func30, Try.ntmps30
  go_wp2_with (go_at_call 66; refine (markFileS_any v n base k hn hk _ xs (HO.out.alloc _)).mono ?_; rintro e w2 ⟨rfl, ho2, hg2⟩)
  go_ret
  exact ⟨rfl, ho2, grown_trans (World.grownBy_alloc _ _ _) hg2⟩

set_option maxHeartbeats 1000000 in
theorem heldFileS_any (oa : Option Addr) (n cap k : Nat) (hn : n ≤ 1048576) (hk : k ≤ 1000) (w : World) (hat : FilesAt w oa n cap (marksF k n)) :
    Calls Try.prog 67 #[.slice oa n cap, .int .i64 (k : Int)] w fun e w' => e = .returned (.int .i64 ((k + 3 * n : Nat) : Int)) ∧ Below w.heap.size w w' := by
  have HAT := hide hat
  clear hat
  go_enter Try.func67, Try.ntmps67
  go_wp2_with fail
  go_loopw [1, 5] (fun x i wr => ∃ (j : Nat), i = .int .i64 (j : Int) ∧ x = .int .i64 ((k + 3 * j : Nat) : Int) ∧ j ≤ n ∧ Below w.heap.size w wr) (fun _ i _ => n - (intOf i).toNat)
  case atStart => exact ⟨0, rfl, rfl, Nat.zero_le _, Below.refl _ _⟩
  case round =>
    obtain ⟨j, rfl, rfl, hj, hbel⟩ := hrel
    by_cases hlt : j < n
    · have j0 : (j : Int) < (n : Int) := by omega
      obtain ⟨f, b, q, hf, hidx, hb, c0, c1, c2⟩ := (HAT.out.below hbel).get Try.underlying24 infoIF j hlt
      rw [marksF_at k n j hlt] at hf
      cases hf
      simp only [markF] at c0 c1 c2
      have hsz := hbel.size
      go_wp2_with fail
      refine wp_region_in (F := fun w' => Below wr.heap.size wr w') (by kernel_rfl) (by kernel_rfl) (Below.refl _ _).drew ?_
      have hne : Nonempty (InW (fun w' => Below wr.heap.size wr w')) := ⟨⟨_, Below.refl _ _⟩⟩
      have k0 : ∀ m : InW (fun w' => Below wr.heap.size wr w'), m.w.cell? ⟨b, q, none⟩ = some (.string ⟨(markB (k + 3 * j)).toArray⟩) := fun m => (m.h.cell hb).trans c0
      repeat (go_big_quiet_step (first | (go_at_call 69; refine (markText_any (k + 3 * j) (by omega) _).mono ?_; rintro e w2 ⟨rfl, hb2⟩; exact ⟨rfl, ⟨w2, Below.trans (InW.h _) (hb2.mono (Below.size (InW.h (F := fun w' => Below wr.heap.size wr w') ‹_›)))⟩, rfl⟩)))
      refine wpQuiet_nil ?_
      intro _ hw'
      obtain ⟨nq, hw''⟩ := hw'
      subst hw''
      have hb3 := nq.h
      generalize nq.w = w3 at hb3 ⊢
      clear hne k0
      have c1' := (hb3.cell (p := ⟨b, q + 1, none⟩) hb).trans c1
      have c2' := (hb3.cell (p := ⟨b, q + 2, none⟩) hb).trans c2
      have hb' : b < w3.heap.size := Nat.lt_of_lt_of_le hb hb3.size
      have B3 := hide (hbel.trans (hb3.mono hsz))
      have s3 := Nat.le_trans hsz hb3.size
      clear c0 c1 c2 hbel hb3 hb
      go_wp2_with fail
      refine wp_region_in (F := fun w' => Below w3.heap.size w3 w') (by kernel_rfl) (by kernel_rfl) (Below.refl _ _).drew ?_
      have hne : Nonempty (InW (fun w' => Below w3.heap.size w3 w')) := ⟨⟨_, Below.refl _ _⟩⟩
      have k0 : ∀ m : InW (fun w' => Below w3.heap.size w3 w'), m.w.cell? ⟨b, q + 1, none⟩ = some (.string ⟨(markB (k + 3 * j + 1)).toArray⟩) := fun m => (m.h.cell hb').trans c1'
      repeat (go_big_quiet_step (first | (go_at_call 69; refine (markText_any (k + 3 * j + 1) (by omega) _).mono ?_; rintro e w2 ⟨rfl, hb2⟩; exact ⟨rfl, ⟨w2, Below.trans (InW.h _) (hb2.mono (Below.size (InW.h (F := fun w' => Below w3.heap.size w3 w') ‹_›)))⟩, rfl⟩)))
      refine wpQuiet_nil ?_
      intro _ hw'
      obtain ⟨nq, hw''⟩ := hw'
      subst hw''
      have hb4 := nq.h
      generalize nq.w = w4 at hb4 ⊢
      clear hne k0
      have c2'' := (hb4.cell (p := ⟨b, q + 2, none⟩) hb').trans c2'
      have B4 := hide (B3.out.trans (hb4.mono s3))
      clear c1' c2' hb4
      go_wp2_with fail
      go_roundw
      case rel => exact ⟨j + 1, by go_num, by go_num, by omega, B4.out⟩
      case measure => simp [intOf]; omega
    · have ej : j = n := by omega
      subst ej
      go_wp2_with fail
      go_ret
      exact ⟨by go_num, hbel⟩

theorem heldDisk_any (v : Value) (n base k : Nat) (hn : n ≤ 1048576) (hk : k ≤ 1000) (w : World) (hown : w.ownsRow base 36 3 v n ((marksF k n).flatMap fcells)) :
    Calls Try.prog 31 #[.agg #[v], .int .i64 (k : Int)] w fun e w' => e = .returned (.int .i64 ((k + 3 * n : Nat) : Int)) ∧ Below w.heap.size w w' := by
  obtain ⟨oa, cap, rfl, hat⟩ := filesAt_of_own hown
  have hb0 := (Below.refl w.heap.size w).alloc (Nat.le_refl _) (.cells #[.slice oa n cap] 26)
  have HAT := hide (hat.below hb0)
  have HB0 := hide hb0
  clear hown hat hb0
  have g : ¬ ((k + 3 * n : Nat) : Int) < 0 := by omega
  go_enter Try.func31, Try.ntmps31
  go_wp2_with (go_at_call 67; refine (heldFileS_any oa n cap k hn hk _ HAT.out).mono ?_; rintro e w2 ⟨rfl, hb2⟩)
  go_ret
  exact ⟨rfl, HB0.out.trans (hb2.mono (by simp))⟩

end Go.Proofs.Ytefmigdojnielaa
