/-
  Walks and mathematics of Walk10a.
-/
import Derived.Test.YtckkfjmjcknjdaaSHItemsArg
import Derived.Test.YtckkfjmjcknjdaaSHInts
import Derived.Test.YtckkfjmjcknjdaaSHPlain9
import Derived.Test.YtckkfjmjcknjdaaSHQuietIn
import Derived.Deep.RegionHeld3
import Derived.Deep.QuietTactic
import Derived.BigQuiet
namespace Go.Proofs.Ytckkfjmjcknjdaa.P5
end Go.Proofs.Ytckkfjmjcknjdaa.P5
namespace Go.Proofs.Ytckkfjmjcknjdaa
open Go.RowKit P5 P9 K
set_option linter.unusedVariables false
set_option linter.unusedSimpArgs false

theorem infoLI : (Try.prog.info? 109).map (·.size) = some 2 := by kernel_rfl

theorem infoII : (Try.prog.info? 100).map (·.size) = some 2 := by kernel_rfl

theorem infoIIz : (Try.prog.info? 100).map (fun i => (i.zero, i.size, i.bytes)) = some (some (.agg #[.int .i64 0, .int .i64 0]), 2, 16) := by kernel_rfl

theorem toItem_any (x : Int × Int) (w : World) :
    Calls Try.prog 81 #[ival x] w fun e w' => e = .returned (ival x) ∧ Below w.heap.size w w' := by
  obtain ⟨k, i⟩ := x
  simp only [ival] at *
  have hb := (Below.refl w.heap.size w).alloc (Nat.le_refl _) (.cells #[.int .i64 k, .int .i64 i] 109)
  have HB := hide hb
  clear hb
  go_enter Try.func81, Try.ntmps81
  go_wp2_with fail
  refine bodyPost_ret (v := ival (k, i)) (by simp [results, Try.results81, go_sem, ival]) rfl ⟨rfl, ?_⟩
  exact ((HB.out.alloc (by simp) _).alloc (by simp; omega) _)

theorem own_two {w : World} {base : Nat} {e : TypeId} {g n cap : Nat} {xs : List Value} (h : w.ownsRow base e 2 (.slice (some ⟨g, 0, none⟩) n cap) n xs) (j : Nat) (hj : j < n) :
    (∃ u, w.cell? ⟨g, j * 2, none⟩ = some u) ∧ (∃ u, w.cell? ⟨g, j * 2 + 1, none⟩ = some u) := by
  have hl := h.1
  exact ⟨⟨_, by rw [h.cellAt (j * 2) (by omega), List.getElem?_eq_getElem (by omega)]⟩, ⟨_, by rw [h.cellAt (j * 2 + 1) (by omega), List.getElem?_eq_getElem (by omega)]⟩⟩

theorem toItemS_any (oa : Option Addr) (n cap : Nat) (s : List (Int × Int)) (hn20 : n ≤ 1048576) (w : World) (hat : ItemsAt w oa n cap s) :
    Calls Try.prog 76 #[.slice oa n cap] w fun e w' => ∃ g, e = .returned (.slice (some ⟨g, 0, none⟩) n n) ∧ w'.ownsRow w.heap.size 100 2 (.slice (some ⟨g, 0, none⟩) n n) n (s.flatMap icells) ∧ Below w.heap.size w w' := by
  have hn := hat.len
  have hc := hat.room
  have hm := hat.most
  unfold maxLen at hm
  obtain ⟨i0, hi, hz0, hz1, hz2⟩ := info_parts infoIIz
  obtain ⟨W0, hmk, hown0, hgr0⟩ := run_make_full (P := Try.prog) w w.heap.size 85 100 i0 _ 2 Try.underlying85 hi hz0 hz1 .i64 .i64 n (by rw [hz2]; omega) (by unfold maxLen; omega) (Nat.le_refl _)
  have HOWN := hide hown0
  have HGR := hide hgr0
  have HN := hide hn
  have HAT := hide hat
  clear hown0 hgr0 hn hat hi hz0 hz1 hz2
  go_enter Try.func76, Try.ntmps76
  go_wp2_with fail
  go_loopw [4] (fun i wr => ∃ (j : Nat) (xs : List Value), i = .int .i64 (j : Int) ∧ j ≤ n ∧ FilledI s j xs ∧ wr.ownsRow w.heap.size 100 2 (.slice (some ⟨w.heap.size, 0, none⟩) n n) n xs ∧ Below w.heap.size w wr) (fun i _ => n - (intOf i).toNat)
  case atStart => exact ⟨0, _, rfl, Nat.zero_le _, filledI_zero _ _, HOWN.out, (Below.refl _ _).grown HGR.out (Nat.le_refl _) (fun k hk => by cases hk)⟩
  case round =>
    obtain ⟨j, xs, rfl, hj, hfill, hown, hbel⟩ := hrel
    by_cases hlt : j < n
    · have j0 : (j : Int) < (n : Int) := by omega
      obtain ⟨f, b, q, hf, hidx, hb, c0, c1'⟩ := (HAT.out.below hbel).get Try.underlying98 infoLI j hlt
      have hidx2 : ∀ wx, (Instr.indexAt 85 (.slice (some ⟨w.heap.size, 0, none⟩) n n) (.int .i64 (j : Int))).run Try.prog wx = .ok (.pointer (some ⟨w.heap.size, j * 2, none⟩)) wx := fun wx => by
        have := run_indexAt_slice wx 85 100 2 Try.underlying85 infoII w.heap.size 0 n n j hlt
        rwa [Nat.zero_add] at this
      have HF := hide hf
      have HFI := hide hfill
      have HO := hide hown
      have hsz := hbel.size
      clear hf hfill hown
      go_wp2_with (go_at_call 81; refine (toItem_any f _).mono ?_; unfold ival; rintro e w2 ⟨rfl, hb2⟩; have ho2 := own_below HO.out hb2; obtain ⟨⟨y0, z0⟩, ⟨y1, z1⟩⟩ := own_two ho2 j hlt; have f0 := ho2.frozenAt (j * 2); have f1 := ho2.frozenAt (j * 2 + 1); have HO2 := hide ho2; clear ho2)
      have hst := own_set2 HO2.out j f
      have hb3 := (hbel.trans (hb2.mono hsz)).grown hst.2 (Nat.le_trans hsz hb2.size) (fun k hk => by cases hk; exact Nat.le_refl _)
      go_roundw
      case rel => exact ⟨j + 1, _, by go_num, by omega, filledI_step HFI.out HF.out (by have := HO.out.1; omega), hst.1, hb3⟩
      case measure => simp [intOf]; omega
    · have hjn : j = n := by omega
      subst hjn
      have HO := hide hown
      have HFI := hide hfill
      clear hown hfill
      go_wp2_with fail
      go_ret
      refine ⟨w.heap.size, rfl, ?_, hbel⟩
      rw [← filledI_end HFI.out HN.out HO.out.1]
      exact HO.out

theorem eqItem_same (x : Int × Int) (w : World) :
    Calls Try.prog 80 #[ival x, ival x] w fun e w' => e = .returned (.bool true) ∧ Below w.heap.size w w' := by
  obtain ⟨k, i⟩ := x
  simp only [ival] at *
  have hb := ((Below.refl w.heap.size w).alloc (Nat.le_refl _) (.cells #[.int .i64 k, .int .i64 i] 100)).alloc (by simp) (.cells #[.int .i64 k, .int .i64 i] 100)
  have HB := hide hb
  clear hb
  go_enter Try.func80, Try.ntmps80
  go_wp2_with fail
  go_ret
  exact ⟨rfl, HB.out⟩

theorem eqItemS_same (oa : Option Addr) (n cap : Nat) (s : List (Int × Int)) (ob : Option Addr) (cap' : Nat) (hn20 : n ≤ 1048576) (w : World) (hat : ItemsAt w oa n cap s) (hbt : ItemsAt w ob n cap' s) :
    Calls Try.prog 68 #[.slice oa n cap, .slice ob n cap'] w fun e w' => e = .returned (.bool true) ∧ Below w.heap.size w w' := by
  have HAT := hide hat
  have HBT := hide hbt
  clear hat hbt
  go_enter Try.func68, Try.ntmps68
  go_wp2_with fail
  go_loopw [5] (fun i wr => ∃ (j : Nat), i = .int .i64 (j : Int) ∧ j ≤ n ∧ Below w.heap.size w wr) (fun i _ => n - (intOf i).toNat)
  case atStart => exact ⟨0, rfl, Nat.zero_le _, Below.refl _ _⟩
  case round =>
    obtain ⟨j, rfl, hj, hbel⟩ := hrel
    have hsz := hbel.size
    by_cases hlt : j < n
    · have j0 : (j : Int) < (n : Int) := by omega
      obtain ⟨f, b, q, hf, hidx, hb, c0, c1⟩ := (HAT.out.below hbel).get Try.underlying85 infoII j hlt
      obtain ⟨f', b', q', hf', hidx', hb', c0', c1'⟩ := (HBT.out.below hbel).get Try.underlying85 infoII j hlt
      have hee : f = f' := by rw [hf] at hf'; exact Option.some.inj hf'
      subst hee
      clear hf hf'
      go_wp2_with fail
      refine wp_region_in (F := fun w' => Below wr.heap.size wr w') (by kernel_rfl) (by kernel_rfl) (Below.refl _ _).drew ?_
      have hne : Nonempty (InW (fun w' => Below wr.heap.size wr w')) := ⟨⟨_, Below.refl _ _⟩⟩
      have k0 : ∀ m : InW (fun w' => Below wr.heap.size wr w'), m.w.cell? ⟨b, q, none⟩ = some (.int .i64 f.1) := fun m => (m.h.cell hb).trans c0
      have k1 : ∀ m : InW (fun w' => Below wr.heap.size wr w'), m.w.cell? ⟨b, q + 1, none⟩ = some (.int .i64 f.2) := fun m => (m.h.cell hb).trans c1
      have k3 : ∀ m : InW (fun w' => Below wr.heap.size wr w'), m.w.cell? ⟨b', q', none⟩ = some (.int .i64 f.1) := fun m => (m.h.cell hb').trans c0'
      have k4 : ∀ m : InW (fun w' => Below wr.heap.size wr w'), m.w.cell? ⟨b', q' + 1, none⟩ = some (.int .i64 f.2) := fun m => (m.h.cell hb').trans c1'
      repeat (go_big_quiet_step (first | (go_at_call 80; refine (eqItem_same f _).mono ?_; rintro e w2 ⟨rfl, hb2⟩; exact ⟨rfl, ⟨w2, Below.trans (InW.h _) (hb2.mono (Below.size (InW.h (F := fun w' => Below wr.heap.size wr w') ‹_›)))⟩, rfl⟩)))
      refine wpQuiet_nil ?_
      intro _ hw'
      obtain ⟨nq, hw''⟩ := hw'
      subst hw''
      have hb3 := hbel.trans (nq.h.mono hsz)
      generalize nq.w = w2 at hb3 ⊢
      clear hne k0 k1 k3 k4
      go_wp2_with fail
      go_roundw
      case rel => exact ⟨j + 1, by go_num, by omega, hb3⟩
      case measure => simp [intOf]; omega
    · have hjn : j = n := by omega
      go_wp2_with fail
      go_ret
      exact ⟨rfl, hbel⟩

end Go.Proofs.Ytckkfjmjcknjdaa
