/-
  Walks and mathematics of Peer1.
-/
import Derived.Test.YtoalbeiinlcgpaaMLog1
import Derived.Test.YtoalbeiinlcgpaaMFlat
import Derived.Deep.Slices
import Derived.ChangeSame
import Derived.WideShapes
import Derived.Test.YtoalbeiinlcgpaaMIntsMark
import Derived.Deep.RegionHeld3
import Derived.Deep.QuietTactic
import Derived.BigQuiet
namespace Go.Proofs.Ytoalbeiinlcgpaa.P5
end Go.Proofs.Ytoalbeiinlcgpaa.P5
namespace Go.Proofs.Ytoalbeiinlcgpaa
open Go.RowKit Go.Deep Go.ChangeShapes Go.WideShapes P1 P5 P9 K
set_option linter.unusedVariables false
set_option linter.unusedSimpArgs false

structure PeerV where
  id : Int
  nx : Int
  mt : Int
  sn : Int

def pcells (p : PeerV) : List Value := [.int .i64 p.id, .int .i64 p.nx, .int .i64 p.mt, .int .i64 p.sn]

def pval (p : PeerV) : Value := .agg #[.int .i64 p.id, .int .i64 p.nx, .int .i64 p.mt, .int .i64 p.sn]

theorem pcells_length (p : PeerV) : (pcells p).length = 4 := rfl

theorem pcells_one (p : PeerV) : ∀ u ∈ pcells p, u.oneCell' = true := by
  intro u hu
  simp only [pcells, List.mem_cons, List.not_mem_nil, or_false] at hu
  rcases hu with rfl | rfl | rfl | rfl <;> rfl

theorem infoIP : (Try.prog.info? 60).map (·.size) = some 4 := by kernel_rfl

theorem infoIPz : (Try.prog.info? 60).map (fun i => (i.zero, i.size, i.bytes)) = some (some (.agg #[.int .i64 0, .int .i64 0, .int .i64 0, .int .i64 0]), 4, 32) := by kernel_rfl

abbrev PeersAt (w : World) (oa : Option Addr) (n cap : Nat) (ps : List PeerV) : Prop := RowsAt 4 pcells w oa n cap ps

theorem RowsAt.get4 {w : World} {oa : Option Addr} {n cap : Nat} {ps : List PeerV} (h : PeersAt w oa n cap ps) {P : Program} {t e : TypeId} (ht : P.underlying t = some (.slice e)) (hi : (P.info? e).map (·.size) = some 4) (i : Nat) (hin : i < n) :
    ∃ f b q, ps[i]? = some f ∧ (∀ wx, (Instr.indexAt t (.slice oa n cap) (.int .i64 (i : Int))).run P wx = .ok (.pointer (some ⟨b, q, none⟩)) wx) ∧ b < w.heap.size ∧
      w.cell? ⟨b, q, none⟩ = some (.int .i64 f.id) ∧ w.cell? ⟨b, q + 1, none⟩ = some (.int .i64 f.nx) ∧ w.cell? ⟨b, q + 2, none⟩ = some (.int .i64 f.mt) ∧ w.cell? ⟨b, q + 3, none⟩ = some (.int .i64 f.sn) := by
  obtain ⟨f, b, q, hf, hx, hb, hc⟩ := h.get ht hi pcells_length (by omega) i hin
  exact ⟨f, b, q, hf, hx, hb, hc 0 _ rfl, hc 1 _ rfl, hc 2 _ rfl, hc 3 _ rfl⟩

theorem peersAt_own {w : World} {base : Nat} {e : TypeId} {v : Value} {n : Nat} {ps : List PeerV} (h : w.ownsRow base e 4 v n (ps.flatMap pcells)) : ∃ oa cap, v = .slice oa n cap ∧ PeersAt w oa n cap ps := rowsAt_of_own pcells_length (by omega) h

theorem own_four {w : World} {base : Nat} {e : TypeId} {g n cap : Nat} {xs : List Value} (h : w.ownsRow base e 4 (.slice (some ⟨g, 0, none⟩) n cap) n xs) (j : Nat) (hj : j < n) :
    (∃ u, w.cell? ⟨g, j * 4, none⟩ = some u) ∧ (∃ u, w.cell? ⟨g, j * 4 + 1, none⟩ = some u) ∧ (∃ u, w.cell? ⟨g, j * 4 + 2, none⟩ = some u) ∧ (∃ u, w.cell? ⟨g, j * 4 + 3, none⟩ = some u) := by
  have hl := h.1
  exact ⟨⟨_, by rw [h.cellAt (j * 4) (by omega), List.getElem?_eq_getElem (by omega)]⟩, ⟨_, by rw [h.cellAt (j * 4 + 1) (by omega), List.getElem?_eq_getElem (by omega)]⟩, ⟨_, by rw [h.cellAt (j * 4 + 2) (by omega), List.getElem?_eq_getElem (by omega)]⟩, ⟨_, by rw [h.cellAt (j * 4 + 3) (by omega), List.getElem?_eq_getElem (by omega)]⟩⟩

theorem own_setP {w : World} {base : Nat} {e : TypeId} {g n cap : Nat} {ys : List PeerV} (h : w.ownsRow base e 4 (.slice (some ⟨g, 0, none⟩) n cap) n (ys.flatMap pcells)) (j : Nat) (hj : j < ys.length) (f : PeerV) :
    ((((w.setCell ⟨g, j * 4, none⟩ (.int .i64 f.id)).setCell ⟨g, j * 4 + 1, none⟩ (.int .i64 f.nx)).setCell ⟨g, j * 4 + 2, none⟩ (.int .i64 f.mt)).setCell ⟨g, j * 4 + 3, none⟩ (.int .i64 f.sn)).ownsRow base e 4 (.slice (some ⟨g, 0, none⟩) n cap) n ((ys.set j f).flatMap pcells) ∧
      w.grownBy ((((w.setCell ⟨g, j * 4, none⟩ (.int .i64 f.id)).setCell ⟨g, j * 4 + 1, none⟩ (.int .i64 f.nx)).setCell ⟨g, j * 4 + 2, none⟩ (.int .i64 f.mt)).setCell ⟨g, j * 4 + 3, none⟩ (.int .i64 f.sn)) (some g) := by
  have h2 := own_setCells (pcells f) w (j * 4) (ys.flatMap pcells) h
  rw [setAll_flat pcells_length ys j f hj] at h2
  exact h2

theorem own_lenP {w : World} {base : Nat} {e : TypeId} {v : Value} {n : Nat} {ys : List PeerV} (h : w.ownsRow base e 4 v n (ys.flatMap pcells)) : ys.length = n := by
  have := h.1
  rw [flat_length pcells 4 pcells_length] at this
  omega

theorem eqPeer_same (x : PeerV) (w : World) :
    Calls Try.prog 61 #[pval x, pval x] w fun e w' => e = .returned (.bool true) ∧ Below w.heap.size w w' := by
  obtain ⟨a, b, c, d⟩ := x
  simp only [pval] at *
  have hb := ((Below.refl w.heap.size w).alloc (Nat.le_refl _) (.cells #[.int .i64 a, .int .i64 b, .int .i64 c, .int .i64 d] 60)).alloc (by simp) (.cells #[.int .i64 a, .int .i64 b, .int .i64 c, .int .i64 d] 60)
  have HB := hide hb
  clear hb
  go_enter Try.func61, Try.ntmps61
  go_wp2_with fail
  go_ret
  exact ⟨rfl, HB.out⟩

set_option maxHeartbeats 1000000 in
theorem eqPeerS_same (oa : Option Addr) (n cap : Nat) (ob : Option Addr) (cap' : Nat) (ps : List PeerV) (hn20 : n ≤ 1048576) (w : World) (hat : PeersAt w oa n cap ps) (hbt : PeersAt w ob n cap' ps) :
    Calls Try.prog 39 #[.slice oa n cap, .slice ob n cap'] w fun e w' => e = .returned (.bool true) ∧ Below w.heap.size w w' := by
  have HAT := hide hat
  have HBT := hide hbt
  clear hat hbt
  go_enter Try.func39, Try.ntmps39
  go_wp2_with fail
  go_loopw [5] (fun i wr => ∃ (j : Nat), i = .int .i64 (j : Int) ∧ j ≤ n ∧ Below w.heap.size w wr) (fun i _ => n - (intOf i).toNat)
  case atStart => exact ⟨0, rfl, Nat.zero_le _, Below.refl _ _⟩
  case round =>
    obtain ⟨j, rfl, hj, hbel⟩ := hrel
    by_cases hlt : j < n
    · have j0 : (j : Int) < (n : Int) := by omega
      obtain ⟨f, b, q, hf, hidx, hb, c0, c1, c2, c3⟩ := (HAT.out.below hbel).get4 Try.underlying34 infoIP j hlt
      obtain ⟨f', b', q', hf', hidx', hb', c0', c1', c2', c3'⟩ := (HBT.out.below hbel).get4 Try.underlying34 infoIP j hlt
      rw [hf] at hf'
      cases hf'
      have hEQ := hide (eqPeer_same f)
      unfold pval at hEQ
      have hsz := hbel.size
      clear hf
      go_wp2_with fail
      refine wp_region_in (F := fun w' => Below wr.heap.size wr w') (by kernel_rfl) (by kernel_rfl) (Below.refl _ _).drew ?_
      have hne : Nonempty (InW (fun w' => Below wr.heap.size wr w')) := ⟨⟨_, Below.refl _ _⟩⟩
      have k0 : ∀ m : InW (fun w' => Below wr.heap.size wr w'), m.w.cell? ⟨b, q, none⟩ = some (.int .i64 f.id) := fun m => (m.h.cell hb).trans c0
      have k1 : ∀ m : InW (fun w' => Below wr.heap.size wr w'), m.w.cell? ⟨b, q + 1, none⟩ = some (.int .i64 f.nx) := fun m => (m.h.cell hb).trans c1
      have k2 : ∀ m : InW (fun w' => Below wr.heap.size wr w'), m.w.cell? ⟨b, q + 2, none⟩ = some (.int .i64 f.mt) := fun m => (m.h.cell hb).trans c2
      have k3 : ∀ m : InW (fun w' => Below wr.heap.size wr w'), m.w.cell? ⟨b, q + 3, none⟩ = some (.int .i64 f.sn) := fun m => (m.h.cell hb).trans c3
      have l0 : ∀ m : InW (fun w' => Below wr.heap.size wr w'), m.w.cell? ⟨b', q', none⟩ = some (.int .i64 f.id) := fun m => (m.h.cell hb').trans c0'
      have l1 : ∀ m : InW (fun w' => Below wr.heap.size wr w'), m.w.cell? ⟨b', q' + 1, none⟩ = some (.int .i64 f.nx) := fun m => (m.h.cell hb').trans c1'
      have l2 : ∀ m : InW (fun w' => Below wr.heap.size wr w'), m.w.cell? ⟨b', q' + 2, none⟩ = some (.int .i64 f.mt) := fun m => (m.h.cell hb').trans c2'
      have l3 : ∀ m : InW (fun w' => Below wr.heap.size wr w'), m.w.cell? ⟨b', q' + 3, none⟩ = some (.int .i64 f.sn) := fun m => (m.h.cell hb').trans c3'
      repeat (go_big_quiet_step (first | (go_at_call 61; refine (hEQ.out _).mono ?_; rintro e w2 ⟨rfl, hb2⟩; exact ⟨rfl, ⟨w2, Below.trans (InW.h _) (hb2.mono (Below.size (InW.h (F := fun w' => Below wr.heap.size wr w') ‹_›)))⟩, rfl⟩)))
      refine wpQuiet_nil ?_
      intro _ hw'
      obtain ⟨nq, hw''⟩ := hw'
      subst hw''
      have hb3 := hbel.trans (nq.h.mono hsz)
      generalize nq.w = w2 at hb3 ⊢
      clear hne k0 k1 k2 k3 l0 l1 l2 l3
      go_wp2_with fail
      go_roundw
      case rel => exact ⟨j + 1, by go_num, by omega, hb3⟩
      case measure => simp [intOf]; omega
    · have hjn : j = n := by omega
      go_wp2_with fail
      go_ret
      exact ⟨rfl, hbel⟩

def marksPr (k n : Nat) : List PeerV := (List.range n).map fun i => ⟨((k + 4 * i : Nat) : Int), ((k + 4 * i + 1 : Nat) : Int), ((k + 4 * i + 2 : Nat) : Int), ((k + 4 * i + 3 : Nat) : Int)⟩

theorem marksPr_length (k n : Nat) : (marksPr k n).length = n := by simp [marksPr]

theorem marksPr_at (k n i : Nat) (h : i < n) : (marksPr k n)[i]? = some ⟨((k + 4 * i : Nat) : Int), ((k + 4 * i + 1 : Nat) : Int), ((k + 4 * i + 2 : Nat) : Int), ((k + 4 * i + 3 : Nat) : Int)⟩ := by simp [marksPr, h]

set_option maxHeartbeats 1000000 in
theorem markPeerS_some (g n cap base k : Nat) (hn : n ≤ 1048576) (hk : k ≤ 1000000000) (w : World) (ps : List PeerV) (hown : w.ownsRow base 60 4 (.slice (some ⟨g, 0, none⟩) n cap) n (ps.flatMap pcells)) :
    Calls Try.prog 42 #[.slice (some ⟨g, 0, none⟩) n cap, .int .i64 (k : Int)] w fun e w' => e = .returned (.int .i64 ((k + 4 * n : Nat) : Int)) ∧ w'.ownsRow base 60 4 (.slice (some ⟨g, 0, none⟩) n cap) n ((marksPr k n).flatMap pcells) ∧ w.grownBy w' (some g) := by
  have HO0 := hide hown
  clear hown
  go_enter Try.func42, Try.ntmps42
  go_wp2_with fail
  go_loopw [1, 5] (fun x i wr => ∃ (j : Nat) (ys : List PeerV), i = .int .i64 (j : Int) ∧ x = .int .i64 ((k + 4 * j : Nat) : Int) ∧ j ≤ n ∧ (∀ m, m < j → ys[m]? = (marksPr k n)[m]?) ∧ wr.ownsRow base 60 4 (.slice (some ⟨g, 0, none⟩) n cap) n (ys.flatMap pcells) ∧ w.grownBy wr (some g)) (fun _ i _ => n - (intOf i).toNat)
  case atStart => exact ⟨0, ps, rfl, rfl, Nat.zero_le _, fun k hk => absurd hk (Nat.not_lt_zero _), HO0.out, grown_below (Below.refl _ _)⟩
  case round =>
    obtain ⟨j, ys, rfl, rfl, hj, hfill, hown, hgr⟩ := hrel
    by_cases hlt : j < n
    · have j0 : (j : Int) < (n : Int) := by omega
      have hidx2 : ∀ wx, (Instr.indexAt 34 (.slice (some ⟨g, 0, none⟩) n cap) (.int .i64 (j : Int))).run Try.prog wx = .ok (.pointer (some ⟨g, j * 4, none⟩)) wx := fun wx => by
        have := run_indexAt_slice wx 34 60 4 Try.underlying34 infoIP g 0 n cap j hlt
        rwa [Nat.zero_add] at this
      have HYL := hide (own_lenP hown)
      have HFI := hide hfill
      obtain ⟨⟨y0, z0⟩, ⟨y1, z1⟩, ⟨y2, z2⟩, ⟨y3, z3⟩⟩ := own_four hown j hlt
      have f0 := hown.frozenAt (j * 4)
      have f1 := hown.frozenAt (j * 4 + 1)
      have f2 := hown.frozenAt (j * 4 + 2)
      have f3 := hown.frozenAt (j * 4 + 3)
      have hst := own_setP hown j (by rw [HYL.out]; exact hlt) ⟨((k + 4 * j : Nat) : Int), ((k + 4 * j + 1 : Nat) : Int), ((k + 4 * j + 2 : Nat) : Int), ((k + 4 * j + 3 : Nat) : Int)⟩
      have HST := hide hst
      clear hown hst hfill
      go_wp2_with fail
      go_roundw
      case rel =>
        refine ⟨j + 1, _, by go_num, by go_num, by omega, ?_, HST.out.1, grown_trans hgr HST.out.2⟩
        intro m hm
        by_cases e : m = j
        · subst e
          rw [List.getElem?_set_self (by rw [HYL.out]; exact hlt), marksPr_at k n m hlt]
        · rw [List.getElem?_set_ne (by omega)]
          exact HFI.out m (by omega)
      case measure => simp [intOf]; omega
    · have ej : j = n := by omega
      subst ej
      have HE := hide (show ys = marksPr k j by
        apply List.ext_getElem?
        intro m
        by_cases hm : m < j
        · exact hfill m hm
        · rw [List.getElem?_eq_none (by rw [own_lenP hown]; omega), List.getElem?_eq_none (by rw [marksPr_length]; omega)])
      have HO := hide hown
      clear hown hfill
      go_wp2_with fail
      go_ret
      exact ⟨by go_num, by rw [← HE.out]; exact HO.out, hgr⟩

theorem markPeerS_any (v : Value) (n base k : Nat) (hn : n ≤ 1048576) (hk : k ≤ 1000000000) (w : World) (ps : List PeerV) (hown : w.ownsRow base 60 4 v n (ps.flatMap pcells)) :
    Calls Try.prog 42 #[v, .int .i64 (k : Int)] w fun e w' => e = .returned (.int .i64 ((k + 4 * n : Nat) : Int)) ∧ w'.ownsRow base 60 4 v n ((marksPr k n).flatMap pcells) ∧ w.grownBy w' v.ownBlock := by
  rcases hown.2 with ⟨rfl, rfl⟩ | ⟨g, cap, cur, rfl, _⟩
  · clear hown
    go_enter Try.func42, Try.ntmps42
    go_wp2_with fail
    go_loopw [1, 5] (fun x i wr => x = .int .i64 (k : Int) ∧ i = .int .i64 0 ∧ wr = w) (fun _ _ _ => 0)
    case atStart => exact ⟨rfl, rfl, rfl⟩
    case round =>
      obtain ⟨rfl, rfl, rfl⟩ := hrel
      go_wp2_with fail
      go_ret
      exact ⟨rfl, World.ownsRow_nil _ _ _ _, grown_below (Below.refl _ _)⟩
  · exact markPeerS_some g n cap base k hn hk w ps hown

set_option maxHeartbeats 1000000 in
theorem heldPeerS_any (oa : Option Addr) (n cap k : Nat) (hn : n ≤ 1048576) (hk : k ≤ 1000000000) (w : World) (hat : PeersAt w oa n cap (marksPr k n)) :
    Calls Try.prog 45 #[.slice oa n cap, .int .i64 (k : Int)] w fun e w' => e = .returned (.int .i64 ((k + 4 * n : Nat) : Int)) ∧ Below w.heap.size w w' := by
  have HAT := hide hat
  clear hat
  go_enter Try.func45, Try.ntmps45
  go_wp2_with fail
  go_loopw [1, 5] (fun x i wr => ∃ (j q : Nat), i = .int .i64 (j : Int) ∧ x = .int .i64 ((k + 4 * j : Nat) : Int) ∧ j ≤ n ∧ wr = w.drewN q) (fun _ i _ => n - (intOf i).toNat)
  case atStart => exact ⟨0, 0, rfl, rfl, Nat.zero_le _, rfl⟩
  case round =>
    obtain ⟨j, q, rfl, rfl, hj, rfl⟩ := hrel
    by_cases hlt : j < n
    · have j0 : (j : Int) < (n : Int) := by omega
      obtain ⟨z, b, p, hz, hidx, hb, c0, c1, c2, c3⟩ := HAT.out.get4 Try.underlying34 infoIP j hlt
      rw [marksPr_at k n j hlt] at hz
      cases hz
      simp only at c0 c1 c2 c3
      go_wp2_with fail
      try (go_quiet (fail))
      go_wp2_with fail
      try (go_quiet (fail))
      go_wp2_with fail
      try (go_quiet (fail))
      go_wp2_with fail
      try (go_quiet (fail))
      go_wp2_with fail
      go_roundw
      case rel => exact ⟨j + 1, _, by go_num, by go_num, by omega, by first | rfl | (simp; rfl)⟩
      case measure => simp [intOf]; omega
    · have ej : j = n := by omega
      subst ej
      go_wp2_with fail
      go_ret
      exact ⟨by go_num, below_drewN (Below.refl _ _) _⟩

section
variable {H : Type} {enc : TypeId × Value → H} {P : Program} {w : World} {base : Nat} {held : Bool}

end

end Go.Proofs.Ytoalbeiinlcgpaa
