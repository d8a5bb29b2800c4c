/-
  Walks and mathematics of Log1.
-/
import Derived.Test.YtoalbeiinlcgpaaMOpenEntry
import Derived.Test.YtoalbeiinlcgpaaMBox
import Derived.Test.YtoalbeiinlcgpaaMLawStr
import Derived.Test.YtoalbeiinlcgpaaMIntsMark
namespace Go.Proofs.Ytoalbeiinlcgpaa
open Go.RowKit P1 P9 K
set_option linter.unusedVariables false
set_option linter.unusedSimpArgs false

theorem infoIE : (Try.prog.info? 75).map (·.size) = some 3 := by kernel_rfl

theorem infoIEz : (Try.prog.info? 75).map (fun i => (i.zero, i.size, i.bytes)) = some (some (.agg #[.int .i64 0, .int .i64 0, .string ⟨#[]⟩]), 3, 32) := by kernel_rfl

theorem ecells_length (e : EntV) : (ecells e).length = 3 := rfl

theorem ecells_one (e : EntV) : ∀ u ∈ ecells e, u.oneCell' = true := by
  intro u hu
  simp only [ecells, List.mem_cons, List.not_mem_nil, or_false] at hu
  rcases hu with rfl | rfl | rfl <;> rfl

abbrev EntsAt (w : World) (oa : Option Addr) (n cap : Nat) (es : List EntV) : Prop := RowsAt 3 ecells w oa n cap es

theorem RowsAt.get3 {w : World} {oa : Option Addr} {n cap : Nat} {es : List EntV} (h : EntsAt w oa n cap es) {P : Program} {t e : TypeId} (ht : P.underlying t = some (.slice e)) (hi : (P.info? e).map (·.size) = some 3) (i : Nat) (hin : i < n) :
    ∃ f b q, es[i]? = some f ∧ (∀ wx, (Instr.indexAt t (.slice oa n cap) (.int .i64 (i : Int))).run P wx = .ok (.pointer (some ⟨b, q, none⟩)) wx) ∧ b < w.heap.size ∧
      w.cell? ⟨b, q, none⟩ = some (.int .i64 f.term) ∧ w.cell? ⟨b, q + 1, none⟩ = some (.int .i64 f.kind) ∧ w.cell? ⟨b, q + 2, none⟩ = some (.string f.data) := by
  obtain ⟨f, b, q, hf, hx, hb, hc⟩ := h.get ht hi ecells_length (by omega) i hin
  exact ⟨f, b, q, hf, hx, hb, hc 0 _ rfl, hc 1 _ rfl, hc 2 _ rfl⟩

theorem own_lenE {w : World} {base : Nat} {e : TypeId} {v : Value} {n : Nat} {ys : List EntV} (h : w.ownsRow base e 3 v n (ys.flatMap ecells)) : ys.length = n := by
  have := h.1
  rw [flat_length ecells 3 ecells_length] at this
  omega

set_option maxHeartbeats 1000000 in
theorem eqEntryS_same (oa : Option Addr) (n cap : Nat) (ob : Option Addr) (cap' : Nat) (es : List EntV) (hn20 : n ≤ 1048576) (w : World) (hat : EntsAt w oa n cap es) (hbt : EntsAt w ob n cap' es) :
    Calls Try.prog 60 #[.slice oa n cap, .slice ob n cap'] w fun e w' => e = .returned (.bool true) ∧ Below w.heap.size w w' := by
  have HAT := hide hat
  have HBT := hide hbt
  clear hat hbt
  go_enter Try.func60, Try.ntmps60
  go_wp2_with fail
  go_loopw [5] (fun i wr => ∃ (j : Nat), i = .int .i64 (j : Int) ∧ j ≤ n ∧ Below w.heap.size w wr) (fun i _ => n - (intOf i).toNat)
  case atStart => exact ⟨0, rfl, Nat.zero_le _, Below.refl _ _⟩
  case round =>
    obtain ⟨j, rfl, hj, hbel⟩ := hrel
    by_cases hlt : j < n
    · have j0 : (j : Int) < (n : Int) := by omega
      obtain ⟨f, b, q, hf, hidx, hb, c0, c1, c2⟩ := (HAT.out.below hbel).get3 Try.underlying31 infoIE j hlt
      obtain ⟨f', b', q', hf', hidx', hb', c0', c1', c2'⟩ := (HBT.out.below hbel).get3 Try.underlying31 infoIE j hlt
      rw [hf] at hf'
      cases hf'
      have hEQ := hide (eqEntry_any f)
      unfold eval at hEQ
      have hsz := hbel.size
      clear hf
      go_wp2_with fail
      refine wp_region_in (F := fun w' => Below wr.heap.size wr w') (by kernel_rfl) (by kernel_rfl) (Below.refl _ _).drew ?_
      have hne : Nonempty (InW (fun w' => Below wr.heap.size wr w')) := ⟨⟨_, Below.refl _ _⟩⟩
      have k0 : ∀ m : InW (fun w' => Below wr.heap.size wr w'), m.w.cell? ⟨b, q, none⟩ = some (.int .i64 f.term) := fun m => (m.h.cell hb).trans c0
      have k1 : ∀ m : InW (fun w' => Below wr.heap.size wr w'), m.w.cell? ⟨b, q + 1, none⟩ = some (.int .i64 f.kind) := fun m => (m.h.cell hb).trans c1
      have k2 : ∀ m : InW (fun w' => Below wr.heap.size wr w'), m.w.cell? ⟨b, q + 2, none⟩ = some (.string f.data) := fun m => (m.h.cell hb).trans c2
      have k3 : ∀ m : InW (fun w' => Below wr.heap.size wr w'), m.w.cell? ⟨b', q', none⟩ = some (.int .i64 f.term) := fun m => (m.h.cell hb').trans c0'
      have k4 : ∀ m : InW (fun w' => Below wr.heap.size wr w'), m.w.cell? ⟨b', q' + 1, none⟩ = some (.int .i64 f.kind) := fun m => (m.h.cell hb').trans c1'
      have k5 : ∀ m : InW (fun w' => Below wr.heap.size wr w'), m.w.cell? ⟨b', q' + 2, none⟩ = some (.string f.data) := fun m => (m.h.cell hb').trans c2'
      repeat (go_big_quiet_step (first | (go_at_call 78; refine (hEQ.out _).mono ?_; rintro e w2 ⟨rfl, hb2⟩; exact ⟨rfl, ⟨w2, Below.trans (InW.h _) (hb2.mono (Below.size (InW.h (F := fun w' => Below wr.heap.size wr w') ‹_›)))⟩, rfl⟩)))
      refine wpQuiet_nil ?_
      intro _ hw'
      obtain ⟨nq, hw''⟩ := hw'
      subst hw''
      have hb3 := hbel.trans (nq.h.mono hsz)
      generalize nq.w = w2 at hb3 ⊢
      clear hne k0 k1 k2 k3 k4 k5
      go_wp2_with fail
      go_roundw
      case rel => exact ⟨j + 1, by go_num, by omega, hb3⟩
      case measure => simp [intOf]; omega
    · have hjn : j = n := by omega
      go_wp2_with fail
      go_ret
      exact ⟨rfl, hbel⟩

def markE (k i : Nat) : EntV := ⟨((k + 3 * i : Nat) : Int), ((k + 3 * i + 1 : Nat) : Int), ⟨(markB (k + 3 * i + 2)).toArray⟩⟩

def marksE (k n : Nat) : List EntV := (List.range n).map (markE k)

theorem marksE_length (k n : Nat) : (marksE k n).length = n := by simp [marksE]

theorem marksE_at (k n i : Nat) (h : i < n) : (marksE k n)[i]? = some (markE k i) := by simp [marksE, h]

set_option maxHeartbeats 1000000 in
theorem markEntryS_some (g n cap base k : Nat) (hn : n ≤ 1048576) (hk : k ≤ 1000000) (w : World) (es : List EntV) (hown : w.ownsRow base 75 3 (.slice (some ⟨g, 0, none⟩) n cap) n (es.flatMap ecells)) :
    Calls Try.prog 65 #[.slice (some ⟨g, 0, none⟩) n cap, .int .i64 (k : Int)] w fun e w' => e = .returned (.int .i64 ((k + 3 * n : Nat) : Int)) ∧ w'.ownsRow base 75 3 (.slice (some ⟨g, 0, none⟩) n cap) n ((marksE k n).flatMap ecells) ∧ w.grownBy w' (some g) := by
  have HO0 := hide hown
  clear hown
  go_enter Try.func65, Try.ntmps65
  go_wp2_with fail
  go_loopw [1, 5] (fun x i wr => ∃ (j : Nat) (ys : List EntV), i = .int .i64 (j : Int) ∧ x = .int .i64 ((k + 3 * j : Nat) : Int) ∧ j ≤ n ∧ (∀ m, m < j → ys[m]? = (marksE k n)[m]?) ∧ wr.ownsRow base 75 3 (.slice (some ⟨g, 0, none⟩) n cap) n (ys.flatMap ecells) ∧ w.grownBy wr (some g)) (fun _ i _ => n - (intOf i).toNat)
  case atStart => exact ⟨0, es, rfl, rfl, Nat.zero_le _, fun k hk => absurd hk (Nat.not_lt_zero _), HO0.out, grown_below (Below.refl _ _)⟩
  case round =>
    obtain ⟨j, ys, rfl, rfl, hj, hfill, hown, hgr⟩ := hrel
    by_cases hlt : j < n
    · have j0 : (j : Int) < (n : Int) := by omega
      have hidx2 : ∀ wx, (Instr.indexAt 31 (.slice (some ⟨g, 0, none⟩) n cap) (.int .i64 (j : Int))).run Try.prog wx = .ok (.pointer (some ⟨g, j * 3, none⟩)) wx := fun wx => by
        have := run_indexAt_slice wx 31 75 3 Try.underlying31 infoIE g 0 n cap j hlt
        rwa [Nat.zero_add] at this
      have HYL := hide (own_lenE hown)
      have HFI := hide hfill
      obtain ⟨⟨y0, z0⟩, ⟨y1, z1⟩, -⟩ := own_three hown j hlt
      have f0 := hown.frozenAt (j * 3)
      have f1 := hown.frozenAt (j * 3 + 1)
      have st0 := hown.stored (j * 3) (.int .i64 ((k + 3 * j : Nat) : Int))
      have st1 := st0.1.stored (j * 3 + 1) (.int .i64 ((k + 3 * j + 1 : Nat) : Int))
      have HO1 := hide st1.1
      have HG1 := hide (grown_trans hgr (grown_trans st0.2 st1.2))
      clear hfill hown hgr st0 st1
      go_wp2_with fail
      refine (markText_any (k + 3 * j + 2) (by omega) _).mono ?_
      rintro e w3 ⟨rfl, hb3⟩
      have ho3 := own_below HO1.out hb3
      obtain ⟨-, -, ⟨y2, z2⟩⟩ := own_three ho3 j hlt
      have f2 := ho3.frozenAt (j * 3 + 2)
      have st4 := ho3.stored (j * 3 + 2) (.string ⟨(markB (k + 3 * j + 2)).toArray⟩)
      have HG4 := hide (grown_trans HG1.out (grown_trans (grown_below hb3) st4.2))
      have ho4 := st4.1
      have e4 := setAll_flat (cf := ecells) (k := 3) ecells_length ys j (markE k j) (by rw [HYL.out]; exact hlt)
      have e5 : ((((ys.flatMap ecells).set (j * 3) (.int .i64 ((k + 3 * j : Nat) : Int))).set (j * 3 + 1) (.int .i64 ((k + 3 * j + 1 : Nat) : Int))).set (j * 3 + 2) (.string ⟨(markB (k + 3 * j + 2)).toArray⟩)) = (ys.set j (markE k j)).flatMap ecells := e4
      rw [e5] at ho4
      have HO4 := hide ho4
      clear hb3 ho3 st4 ho4 e4 e5 z0 f0 z1 f1
      go_wp2_with fail
      go_roundw
      case rel =>
        refine ⟨j + 1, _, by go_num, by go_num, by omega, ?_, HO4.out, HG4.out⟩
        intro m hm
        by_cases e : m = j
        · subst e
          rw [List.getElem?_set_self (by rw [HYL.out]; exact hlt), marksE_at k n m hlt]
        · rw [List.getElem?_set_ne (by omega)]
          exact HFI.out m (by omega)
      case measure => simp [intOf]; omega
    · have ej : j = n := by omega
      subst ej
      have HE := hide (show ys = marksE k j by
        apply List.ext_getElem?
        intro m
        by_cases hm : m < j
        · exact hfill m hm
        · rw [List.getElem?_eq_none (by rw [own_lenE hown]; omega), List.getElem?_eq_none (by rw [marksE_length]; omega)])
      have HO := hide hown
      clear hown hfill
      go_wp2_with fail
      go_ret
      exact ⟨by go_num, by rw [← HE.out]; exact HO.out, hgr⟩

theorem markEntryS_any (v : Value) (n base k : Nat) (hn : n ≤ 1048576) (hk : k ≤ 1000000) (w : World) (es : List EntV) (hown : w.ownsRow base 75 3 v n (es.flatMap ecells)) :
    Calls Try.prog 65 #[v, .int .i64 (k : Int)] w fun e w' => e = .returned (.int .i64 ((k + 3 * n : Nat) : Int)) ∧ w'.ownsRow base 75 3 v n ((marksE k n).flatMap ecells) ∧ w.grownBy w' v.ownBlock := by
  rcases hown.2 with ⟨rfl, rfl⟩ | ⟨g, cap, cur, rfl, _⟩
  · clear hown
    go_enter Try.func65, Try.ntmps65
    go_wp2_with fail
    go_loopw [1, 5] (fun x i wr => x = .int .i64 (k : Int) ∧ i = .int .i64 0 ∧ wr = w) (fun _ _ _ => 0)
    case atStart => exact ⟨rfl, rfl, rfl⟩
    case round =>
      obtain ⟨rfl, rfl, rfl⟩ := hrel
      go_wp2_with fail
      go_ret
      exact ⟨rfl, World.ownsRow_nil _ _ _ _, grown_below (Below.refl _ _)⟩
  · exact markEntryS_some g n cap base k hn hk w es hown

set_option maxHeartbeats 1000000 in
theorem heldEntryS_any (oa : Option Addr) (n cap k : Nat) (hn : n ≤ 1048576) (hk : k ≤ 1000000) (w : World) (hat : EntsAt w oa n cap (marksE k n)) :
    Calls Try.prog 66 #[.slice oa n cap, .int .i64 (k : Int)] w fun e w' => e = .returned (.int .i64 ((k + 3 * n : Nat) : Int)) ∧ Below w.heap.size w w' := by
  have HAT := hide hat
  clear hat
  go_enter Try.func66, Try.ntmps66
  go_wp2_with fail
  go_loopw [1, 5] (fun x i wr => ∃ (j : Nat), i = .int .i64 (j : Int) ∧ x = .int .i64 ((k + 3 * j : Nat) : Int) ∧ j ≤ n ∧ Below w.heap.size w wr) (fun _ i _ => n - (intOf i).toNat)
  case atStart => exact ⟨0, rfl, rfl, Nat.zero_le _, Below.refl _ _⟩
  case round =>
    obtain ⟨j, rfl, rfl, hj, hbel⟩ := hrel
    by_cases hlt : j < n
    · have j0 : (j : Int) < (n : Int) := by omega
      obtain ⟨f, b, q, hf, hidx, hb, c0, c1, c2⟩ := (HAT.out.below hbel).get3 Try.underlying31 infoIE j hlt
      rw [marksE_at k n j hlt] at hf
      cases hf
      simp only [markE] at c0 c1 c2
      have hsz := hbel.size
      go_wp2_with fail
      refine wp_region_in (F := fun w' => Below wr.heap.size wr w') (by kernel_rfl) (by kernel_rfl) (Below.refl _ _).drew ?_
      have hne : Nonempty (InW (fun w' => Below wr.heap.size wr w')) := ⟨⟨_, Below.refl _ _⟩⟩
      have k0 : ∀ m : InW (fun w' => Below wr.heap.size wr w'), m.w.cell? ⟨b, q + 2, none⟩ = some (.string ⟨(markB (k + 3 * j + 2)).toArray⟩) := fun m => (m.h.cell hb).trans c2
      repeat (go_big_quiet_step (first | (go_at_call 80; refine (markText_any (k + 3 * j + 2) (by omega) _).mono ?_; rintro e w2 ⟨rfl, hb2⟩; exact ⟨rfl, ⟨w2, Below.trans (InW.h _) (hb2.mono (Below.size (InW.h (F := fun w' => Below wr.heap.size wr w') ‹_›)))⟩, rfl⟩)))
      refine wpQuiet_nil ?_
      intro _ hw'
      obtain ⟨nq, hw''⟩ := hw'
      subst hw''
      have hb3 := nq.h
      generalize nq.w = w3 at hb3 ⊢
      have B3 := hide (hbel.trans (hb3.mono hsz))
      clear hne k0 c0 c1 c2 hbel hb3 hb
      go_wp2_with fail
      go_roundw
      case rel => exact ⟨j + 1, by go_num, by go_num, by omega, B3.out⟩
      case measure => simp [intOf]; omega
    · have ej : j = n := by omega
      subst ej
      go_wp2_with fail
      go_ret
      exact ⟨by go_num, hbel⟩

end Go.Proofs.Ytoalbeiinlcgpaa
