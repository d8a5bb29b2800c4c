/-
  Walks and mathematics of Peer1.
-/
import Derived.Test.YtoalbeiinlcgpaaKOpenLog
import Derived.Test.YtoalbeiinlcgpaaKIntsMark
import Derived.Deep.RegionHeld3
import Derived.Deep.QuietTactic
import Derived.BigQuiet
namespace Go.Proofs.Ytoalbeiinlcgpaa.P5
end Go.Proofs.Ytoalbeiinlcgpaa.P5
namespace Go.Proofs.Ytoalbeiinlcgpaa
open Go.RowKit Go.Deep Go.ChangeShapes Go.WideShapes P1 P5 P9 K
set_option linter.unusedVariables false
set_option linter.unusedSimpArgs false

structure PeerV where
  id : Int
  nx : Int
  mt : Int
  sn : Int

def pcells (p : PeerV) : List Value := [.int .i64 p.id, .int .i64 p.nx, .int .i64 p.mt, .int .i64 p.sn]

def pval (p : PeerV) : Value := .agg #[.int .i64 p.id, .int .i64 p.nx, .int .i64 p.mt, .int .i64 p.sn]

def PeerWide (p : PeerV) : Prop := (Lit.int .i64 p.id).wf = true ∧ (Lit.int .i64 p.nx).wf = true ∧ (Lit.int .i64 p.mt).wf = true ∧ (Lit.int .i64 p.sn).wf = true

theorem pcells_length (p : PeerV) : (pcells p).length = 4 := rfl

theorem pcells_one (p : PeerV) : ∀ u ∈ pcells p, u.oneCell' = true := by
  intro u hu
  simp only [pcells, List.mem_cons, List.not_mem_nil, or_false] at hu
  rcases hu with rfl | rfl | rfl | rfl <;> rfl

theorem infoIP : (Try.prog.info? 60).map (·.size) = some 4 := by kernel_rfl

theorem infoIPz : (Try.prog.info? 60).map (fun i => (i.zero, i.size, i.bytes)) = some (some (.agg #[.int .i64 0, .int .i64 0, .int .i64 0, .int .i64 0]), 4, 32) := by kernel_rfl

theorem infoLP : (Try.prog.info? 78).map (·.size) = some 4 := by kernel_rfl

abbrev PeersAt (w : World) (oa : Option Addr) (n cap : Nat) (ps : List PeerV) : Prop := RowsAt 4 pcells w oa n cap ps

theorem RowsAt.get4 {w : World} {oa : Option Addr} {n cap : Nat} {ps : List PeerV} (h : PeersAt w oa n cap ps) {P : Program} {t e : TypeId} (ht : P.underlying t = some (.slice e)) (hi : (P.info? e).map (·.size) = some 4) (i : Nat) (hin : i < n) :
    ∃ f b q, ps[i]? = some f ∧ (∀ wx, (Instr.indexAt t (.slice oa n cap) (.int .i64 (i : Int))).run P wx = .ok (.pointer (some ⟨b, q, none⟩)) wx) ∧ b < w.heap.size ∧
      w.cell? ⟨b, q, none⟩ = some (.int .i64 f.id) ∧ w.cell? ⟨b, q + 1, none⟩ = some (.int .i64 f.nx) ∧ w.cell? ⟨b, q + 2, none⟩ = some (.int .i64 f.mt) ∧ w.cell? ⟨b, q + 3, none⟩ = some (.int .i64 f.sn) := by
  obtain ⟨f, b, q, hf, hx, hb, hc⟩ := h.get ht hi pcells_length (by omega) i hin
  exact ⟨f, b, q, hf, hx, hb, hc 0 _ rfl, hc 1 _ rfl, hc 2 _ rfl, hc 3 _ rfl⟩

theorem peersAt_own {w : World} {base : Nat} {e : TypeId} {v : Value} {n : Nat} {ps : List PeerV} (h : w.ownsRow base e 4 v n (ps.flatMap pcells)) : ∃ oa cap, v = .slice oa n cap ∧ PeersAt w oa n cap ps := rowsAt_of_own pcells_length (by omega) h

theorem szPeerS_any (oa : Option Addr) (n cap : Nat) (hn : n ≤ maxLen) (left : Int) (h0 : 0 ≤ left) (h1 : left ≤ 1048576) (w : World) :
    Calls Try.prog 22 #[.slice oa n cap, .int .i64 left] w fun e w' => e = .returned (.int .i64 (if left - n < 0 then -1 else left - n)) ∧ w' = w := by
  unfold maxLen at hn
  by_cases c1 : left - n < 0
  · have g1 : decide (left - (n : Int) < 0) = true := by simpa using c1
    rw [if_pos c1]
    go_enter Try.func22, Try.ntmps22
    go_wp2_with fail
    go_ret
    exact ⟨rfl, rfl⟩
  · have g1 : decide (left - (n : Int) < 0) = false := by simpa using c1
    rw [if_neg c1]
    go_enter Try.func22, Try.ntmps22
    go_wp2_with fail
    go_ret
    exact ⟨rfl, rfl⟩

theorem toPeer_any (x : PeerV) (w : World) :
    Calls Try.prog 56 #[pval x] w fun e w' => e = .returned (pval x) ∧ Below w.heap.size w w' := by
  obtain ⟨a, b, c, d⟩ := x
  simp only [pval] at *
  have hb := (Below.refl w.heap.size w).alloc (Nat.le_refl _) (.cells #[.int .i64 a, .int .i64 b, .int .i64 c, .int .i64 d] 78)
  have HB := hide hb
  clear hb
  go_enter Try.func56, Try.ntmps56
  go_wp2_with fail
  refine bodyPost_ret (v := pval ⟨a, b, c, d⟩) (by simp [results, Try.results56, go_sem, pval]) rfl ⟨rfl, ?_⟩
  exact ((HB.out.alloc (by simp) _).alloc (by simp; omega) _)

theorem own_four {w : World} {base : Nat} {e : TypeId} {g n cap : Nat} {xs : List Value} (h : w.ownsRow base e 4 (.slice (some ⟨g, 0, none⟩) n cap) n xs) (j : Nat) (hj : j < n) :
    (∃ u, w.cell? ⟨g, j * 4, none⟩ = some u) ∧ (∃ u, w.cell? ⟨g, j * 4 + 1, none⟩ = some u) ∧ (∃ u, w.cell? ⟨g, j * 4 + 2, none⟩ = some u) ∧ (∃ u, w.cell? ⟨g, j * 4 + 3, none⟩ = some u) := by
  have hl := h.1
  exact ⟨⟨_, by rw [h.cellAt (j * 4) (by omega), List.getElem?_eq_getElem (by omega)]⟩, ⟨_, by rw [h.cellAt (j * 4 + 1) (by omega), List.getElem?_eq_getElem (by omega)]⟩, ⟨_, by rw [h.cellAt (j * 4 + 2) (by omega), List.getElem?_eq_getElem (by omega)]⟩, ⟨_, by rw [h.cellAt (j * 4 + 3) (by omega), List.getElem?_eq_getElem (by omega)]⟩⟩

theorem own_setP {w : World} {base : Nat} {e : TypeId} {g n cap : Nat} {ys : List PeerV} (h : w.ownsRow base e 4 (.slice (some ⟨g, 0, none⟩) n cap) n (ys.flatMap pcells)) (j : Nat) (hj : j < ys.length) (f : PeerV) :
    ((((w.setCell ⟨g, j * 4, none⟩ (.int .i64 f.id)).setCell ⟨g, j * 4 + 1, none⟩ (.int .i64 f.nx)).setCell ⟨g, j * 4 + 2, none⟩ (.int .i64 f.mt)).setCell ⟨g, j * 4 + 3, none⟩ (.int .i64 f.sn)).ownsRow base e 4 (.slice (some ⟨g, 0, none⟩) n cap) n ((ys.set j f).flatMap pcells) ∧
      w.grownBy ((((w.setCell ⟨g, j * 4, none⟩ (.int .i64 f.id)).setCell ⟨g, j * 4 + 1, none⟩ (.int .i64 f.nx)).setCell ⟨g, j * 4 + 2, none⟩ (.int .i64 f.mt)).setCell ⟨g, j * 4 + 3, none⟩ (.int .i64 f.sn)) (some g) := by
  have h2 := own_setCells (pcells f) w (j * 4) (ys.flatMap pcells) h
  rw [setAll_flat pcells_length ys j f hj] at h2
  exact h2

theorem own_lenP {w : World} {base : Nat} {e : TypeId} {v : Value} {n : Nat} {ys : List PeerV} (h : w.ownsRow base e 4 v n (ys.flatMap pcells)) : ys.length = n := by
  have := h.1
  rw [flat_length pcells 4 pcells_length] at this
  omega

set_option maxHeartbeats 1000000 in
theorem toPeerS_any (oa : Option Addr) (n cap : Nat) (ps : List PeerV) (hn20 : n ≤ 1048576) (w : World) (hat : PeersAt w oa n cap ps) :
    Calls Try.prog 31 #[.slice oa n cap] w fun e w' => ∃ g, e = .returned (.slice (some ⟨g, 0, none⟩) n n) ∧ w'.ownsRow w.heap.size 60 4 (.slice (some ⟨g, 0, none⟩) n n) n (ps.flatMap pcells) ∧ Below w.heap.size w w' := by
  have hn := hat.len
  have hc := hat.room
  have hm := hat.most
  unfold maxLen at hm
  obtain ⟨i0, hi, hz0, hz1, hz2⟩ := info_parts infoIPz
  obtain ⟨W0, hmk, hown0, hgr0⟩ := run_make_full (P := Try.prog) w w.heap.size 34 60 i0 _ 4 Try.underlying34 hi hz0 hz1 .i64 .i64 n (by rw [hz2]; omega) (by unfold maxLen; omega) (Nat.le_refl _)
  rw [made_flat (k := 4) (cf := pcells) ⟨0, 0, 0, 0⟩ _ (by rfl) n pcells_length (by omega)] at hown0
  have HOWN := hide hown0
  have HGR := hide hgr0
  have HN := hide hn
  have HAT := hide hat
  clear hown0 hgr0 hn hat hi hz0 hz1 hz2
  go_enter Try.func31, Try.ntmps31
  go_wp2_with fail
  go_loopw [4] (fun i wr => ∃ (j : Nat) (ys : List PeerV), i = .int .i64 (j : Int) ∧ j ≤ n ∧ (∀ k, k < j → ys[k]? = ps[k]?) ∧ wr.ownsRow w.heap.size 60 4 (.slice (some ⟨w.heap.size, 0, none⟩) n n) n (ys.flatMap pcells) ∧ Below w.heap.size w wr) (fun i _ => n - (intOf i).toNat)
  case atStart => exact ⟨0, _, rfl, Nat.zero_le _, fun k hk => absurd hk (Nat.not_lt_zero _), HOWN.out, (Below.refl _ _).grown HGR.out (Nat.le_refl _) (fun k hk => by cases hk)⟩
  case round =>
    obtain ⟨j, ys, rfl, hj, hfill, hown, hbel⟩ := hrel
    by_cases hlt : j < n
    · have j0 : (j : Int) < (n : Int) := by omega
      obtain ⟨f, b, q, hf, hidx, hb, c0, c1', c2, c3⟩ := (HAT.out.below hbel).get4 Try.underlying26 infoLP j hlt
      have hidx2 : ∀ wx, (Instr.indexAt 34 (.slice (some ⟨w.heap.size, 0, none⟩) n n) (.int .i64 (j : Int))).run Try.prog wx = .ok (.pointer (some ⟨w.heap.size, j * 4, none⟩)) wx := fun wx => by
        have := run_indexAt_slice wx 34 60 4 Try.underlying34 infoIP w.heap.size 0 n n j hlt
        rwa [Nat.zero_add] at this
      have hTO := hide (toPeer_any f)
      unfold pval at hTO
      have HF := hide hf
      have HFI := hide hfill
      have HYL := hide (own_lenP hown)
      have HO := hide hown
      have hsz := hbel.size
      clear hf hfill hown
      go_wp2_with (go_at_call 56; refine (hTO.out _).mono ?_; rintro e w2 ⟨rfl, hb2⟩; have ho2 := own_below HO.out hb2; obtain ⟨⟨y0, z0⟩, ⟨y1, z1⟩, ⟨y2, z2⟩, ⟨y3, z3⟩⟩ := own_four ho2 j hlt; have f0 := ho2.frozenAt (j * 4); have f1 := ho2.frozenAt (j * 4 + 1); have f2 := ho2.frozenAt (j * 4 + 2); have f3 := ho2.frozenAt (j * 4 + 3); have HO2 := hide ho2; clear ho2)
      have hst := own_setP HO2.out j (by rw [HYL.out]; exact hlt) f
      have hb3 := (hbel.trans (hb2.mono hsz)).grown hst.2 (Nat.le_trans hsz hb2.size) (fun k hk => by cases hk; exact Nat.le_refl _)
      go_roundw
      case rel =>
        refine ⟨j + 1, _, by go_num, by omega, ?_, hst.1, hb3⟩
        intro k hk
        by_cases e : k = j
        · subst e
          rw [List.getElem?_set_self (by rw [HYL.out]; exact hlt), HF.out]
        · rw [List.getElem?_set_ne (by omega)]
          exact HFI.out k (by omega)
      case measure => simp [intOf]; omega
    · have hjn : j = n := by omega
      subst hjn
      have HE := hide (show ys = ps by
        apply List.ext_getElem?
        intro k
        by_cases hk : k < j
        · exact hfill k hk
        · rw [List.getElem?_eq_none (by rw [own_lenP hown]; omega), List.getElem?_eq_none (by rw [HN.out]; omega)])
      have HO := hide hown
      clear hown hfill
      go_wp2_with fail
      go_ret
      refine ⟨w.heap.size, rfl, ?_, hbel⟩
      rw [← HE.out]
      exact HO.out

theorem eqPeer_same (x : PeerV) (w : World) :
    Calls Try.prog 61 #[pval x, pval x] w fun e w' => e = .returned (.bool true) ∧ Below w.heap.size w w' := by
  obtain ⟨a, b, c, d⟩ := x
  simp only [pval] at *
  have hb := ((Below.refl w.heap.size w).alloc (Nat.le_refl _) (.cells #[.int .i64 a, .int .i64 b, .int .i64 c, .int .i64 d] 60)).alloc (by simp) (.cells #[.int .i64 a, .int .i64 b, .int .i64 c, .int .i64 d] 60)
  have HB := hide hb
  clear hb
  go_enter Try.func61, Try.ntmps61
  go_wp2_with fail
  go_ret
  exact ⟨rfl, HB.out⟩

set_option maxHeartbeats 1000000 in
theorem eqPeerS_same (oa : Option Addr) (n cap : Nat) (ob : Option Addr) (cap' : Nat) (ps : List PeerV) (hn20 : n ≤ 1048576) (w : World) (hat : PeersAt w oa n cap ps) (hbt : PeersAt w ob n cap' ps) :
    Calls Try.prog 39 #[.slice oa n cap, .slice ob n cap'] w fun e w' => e = .returned (.bool true) ∧ Below w.heap.size w w' := by
  have HAT := hide hat
  have HBT := hide hbt
  clear hat hbt
  go_enter Try.func39, Try.ntmps39
  go_wp2_with fail
  go_loopw [5] (fun i wr => ∃ (j : Nat), i = .int .i64 (j : Int) ∧ j ≤ n ∧ Below w.heap.size w wr) (fun i _ => n - (intOf i).toNat)
  case atStart => exact ⟨0, rfl, Nat.zero_le _, Below.refl _ _⟩
  case round =>
    obtain ⟨j, rfl, hj, hbel⟩ := hrel
    by_cases hlt : j < n
    · have j0 : (j : Int) < (n : Int) := by omega
      obtain ⟨f, b, q, hf, hidx, hb, c0, c1, c2, c3⟩ := (HAT.out.below hbel).get4 Try.underlying34 infoIP j hlt
      obtain ⟨f', b', q', hf', hidx', hb', c0', c1', c2', c3'⟩ := (HBT.out.below hbel).get4 Try.underlying34 infoIP j hlt
      rw [hf] at hf'
      cases hf'
      have hEQ := hide (eqPeer_same f)
      unfold pval at hEQ
      have hsz := hbel.size
      clear hf
      go_wp2_with fail
      refine wp_region_in (F := fun w' => Below wr.heap.size wr w') (by kernel_rfl) (by kernel_rfl) (Below.refl _ _).drew ?_
      have hne : Nonempty (InW (fun w' => Below wr.heap.size wr w')) := ⟨⟨_, Below.refl _ _⟩⟩
      have k0 : ∀ m : InW (fun w' => Below wr.heap.size wr w'), m.w.cell? ⟨b, q, none⟩ = some (.int .i64 f.id) := fun m => (m.h.cell hb).trans c0
      have k1 : ∀ m : InW (fun w' => Below wr.heap.size wr w'), m.w.cell? ⟨b, q + 1, none⟩ = some (.int .i64 f.nx) := fun m => (m.h.cell hb).trans c1
      have k2 : ∀ m : InW (fun w' => Below wr.heap.size wr w'), m.w.cell? ⟨b, q + 2, none⟩ = some (.int .i64 f.mt) := fun m => (m.h.cell hb).trans c2
      have k3 : ∀ m : InW (fun w' => Below wr.heap.size wr w'), m.w.cell? ⟨b, q + 3, none⟩ = some (.int .i64 f.sn) := fun m => (m.h.cell hb).trans c3
      have l0 : ∀ m : InW (fun w' => Below wr.heap.size wr w'), m.w.cell? ⟨b', q', none⟩ = some (.int .i64 f.id) := fun m => (m.h.cell hb').trans c0'
      have l1 : ∀ m : InW (fun w' => Below wr.heap.size wr w'), m.w.cell? ⟨b', q' + 1, none⟩ = some (.int .i64 f.nx) := fun m => (m.h.cell hb').trans c1'
      have l2 : ∀ m : InW (fun w' => Below wr.heap.size wr w'), m.w.cell? ⟨b', q' + 2, none⟩ = some (.int .i64 f.mt) := fun m => (m.h.cell hb').trans c2'
      have l3 : ∀ m : InW (fun w' => Below wr.heap.size wr w'), m.w.cell? ⟨b', q' + 3, none⟩ = some (.int .i64 f.sn) := fun m => (m.h.cell hb').trans c3'
      repeat (go_big_quiet_step (first | (go_at_call 61; refine (hEQ.out _).mono ?_; rintro e w2 ⟨rfl, hb2⟩; exact ⟨rfl, ⟨w2, Below.trans (InW.h _) (hb2.mono (Below.size (InW.h (F := fun w' => Below wr.heap.size wr w') ‹_›)))⟩, rfl⟩)))
      refine wpQuiet_nil ?_
      intro _ hw'
      obtain ⟨nq, hw''⟩ := hw'
      subst hw''
      have hb3 := hbel.trans (nq.h.mono hsz)
      generalize nq.w = w2 at hb3 ⊢
      clear hne k0 k1 k2 k3 l0 l1 l2 l3
      go_wp2_with fail
      go_roundw
      case rel => exact ⟨j + 1, by go_num, by omega, hb3⟩
      case measure => simp [intOf]; omega
    · have hjn : j = n := by omega
      go_wp2_with fail
      go_ret
      exact ⟨rfl, hbel⟩

def marksPr (k n : Nat) : List PeerV := (List.range n).map fun i => ⟨((k + 4 * i : Nat) : Int), ((k + 4 * i + 1 : Nat) : Int), ((k + 4 * i + 2 : Nat) : Int), ((k + 4 * i + 3 : Nat) : Int)⟩

theorem marksPr_length (k n : Nat) : (marksPr k n).length = n := by simp [marksPr]

theorem marksPr_at (k n i : Nat) (h : i < n) : (marksPr k n)[i]? = some ⟨((k + 4 * i : Nat) : Int), ((k + 4 * i + 1 : Nat) : Int), ((k + 4 * i + 2 : Nat) : Int), ((k + 4 * i + 3 : Nat) : Int)⟩ := by simp [marksPr, h]

set_option maxHeartbeats 1000000 in
theorem markPeerS_some (g n cap base k : Nat) (hn : n ≤ 1048576) (hk : k ≤ 1000000000) (w : World) (ps : List PeerV) (hown : w.ownsRow base 60 4 (.slice (some ⟨g, 0, none⟩) n cap) n (ps.flatMap pcells)) :
    Calls Try.prog 42 #[.slice (some ⟨g, 0, none⟩) n cap, .int .i64 (k : Int)] w fun e w' => e = .returned (.int .i64 ((k + 4 * n : Nat) : Int)) ∧ w'.ownsRow base 60 4 (.slice (some ⟨g, 0, none⟩) n cap) n ((marksPr k n).flatMap pcells) ∧ w.grownBy w' (some g) := by
  have HO0 := hide hown
  clear hown
  go_enter Try.func42, Try.ntmps42
  go_wp2_with fail
  go_loopw [1, 5] (fun x i wr => ∃ (j : Nat) (ys : List PeerV), i = .int .i64 (j : Int) ∧ x = .int .i64 ((k + 4 * j : Nat) : Int) ∧ j ≤ n ∧ (∀ m, m < j → ys[m]? = (marksPr k n)[m]?) ∧ wr.ownsRow base 60 4 (.slice (some ⟨g, 0, none⟩) n cap) n (ys.flatMap pcells) ∧ w.grownBy wr (some g)) (fun _ i _ => n - (intOf i).toNat)
  case atStart => exact ⟨0, ps, rfl, rfl, Nat.zero_le _, fun k hk => absurd hk (Nat.not_lt_zero _), HO0.out, grown_below (Below.refl _ _)⟩
  case round =>
    obtain ⟨j, ys, rfl, rfl, hj, hfill, hown, hgr⟩ := hrel
    by_cases hlt : j < n
    · have j0 : (j : Int) < (n : Int) := by omega
      have hidx2 : ∀ wx, (Instr.indexAt 34 (.slice (some ⟨g, 0, none⟩) n cap) (.int .i64 (j : Int))).run Try.prog wx = .ok (.pointer (some ⟨g, j * 4, none⟩)) wx := fun wx => by
        have := run_indexAt_slice wx 34 60 4 Try.underlying34 infoIP g 0 n cap j hlt
        rwa [Nat.zero_add] at this
      have HYL := hide (own_lenP hown)
      have HFI := hide hfill
      obtain ⟨⟨y0, z0⟩, ⟨y1, z1⟩, ⟨y2, z2⟩, ⟨y3, z3⟩⟩ := own_four hown j hlt
      have f0 := hown.frozenAt (j * 4)
      have f1 := hown.frozenAt (j * 4 + 1)
      have f2 := hown.frozenAt (j * 4 + 2)
      have f3 := hown.frozenAt (j * 4 + 3)
      have hst := own_setP hown j (by rw [HYL.out]; exact hlt) ⟨((k + 4 * j : Nat) : Int), ((k + 4 * j + 1 : Nat) : Int), ((k + 4 * j + 2 : Nat) : Int), ((k + 4 * j + 3 : Nat) : Int)⟩
      have HST := hide hst
      clear hown hst hfill
      go_wp2_with fail
      go_roundw
      case rel =>
        refine ⟨j + 1, _, by go_num, by go_num, by omega, ?_, HST.out.1, grown_trans hgr HST.out.2⟩
        intro m hm
        by_cases e : m = j
        · subst e
          rw [List.getElem?_set_self (by rw [HYL.out]; exact hlt), marksPr_at k n m hlt]
        · rw [List.getElem?_set_ne (by omega)]
          exact HFI.out m (by omega)
      case measure => simp [intOf]; omega
    · have ej : j = n := by omega
      subst ej
      have HE := hide (show ys = marksPr k j by
        apply List.ext_getElem?
        intro m
        by_cases hm : m < j
        · exact hfill m hm
        · rw [List.getElem?_eq_none (by rw [own_lenP hown]; omega), List.getElem?_eq_none (by rw [marksPr_length]; omega)])
      have HO := hide hown
      clear hown hfill
      go_wp2_with fail
      go_ret
      exact ⟨by go_num, by rw [← HE.out]; exact HO.out, hgr⟩

theorem markPeerS_any (v : Value) (n base k : Nat) (hn : n ≤ 1048576) (hk : k ≤ 1000000000) (w : World) (ps : List PeerV) (hown : w.ownsRow base 60 4 v n (ps.flatMap pcells)) :
    Calls Try.prog 42 #[v, .int .i64 (k : Int)] w fun e w' => e = .returned (.int .i64 ((k + 4 * n : Nat) : Int)) ∧ w'.ownsRow base 60 4 v n ((marksPr k n).flatMap pcells) ∧ w.grownBy w' v.ownBlock := by
  rcases hown.2 with ⟨rfl, rfl⟩ | ⟨g, cap, cur, rfl, _⟩
  · clear hown
    go_enter Try.func42, Try.ntmps42
    go_wp2_with fail
    go_loopw [1, 5] (fun x i wr => x = .int .i64 (k : Int) ∧ i = .int .i64 0 ∧ wr = w) (fun _ _ _ => 0)
    case atStart => exact ⟨rfl, rfl, rfl⟩
    case round =>
      obtain ⟨rfl, rfl, rfl⟩ := hrel
      go_wp2_with fail
      go_ret
      exact ⟨rfl, World.ownsRow_nil _ _ _ _, grown_below (Below.refl _ _)⟩
  · exact markPeerS_some g n cap base k hn hk w ps hown

set_option maxHeartbeats 1000000 in
theorem heldPeerS_any (oa : Option Addr) (n cap k : Nat) (hn : n ≤ 1048576) (hk : k ≤ 1000000000) (w : World) (hat : PeersAt w oa n cap (marksPr k n)) :
    Calls Try.prog 45 #[.slice oa n cap, .int .i64 (k : Int)] w fun e w' => e = .returned (.int .i64 ((k + 4 * n : Nat) : Int)) ∧ Below w.heap.size w w' := by
  have HAT := hide hat
  clear hat
  go_enter Try.func45, Try.ntmps45
  go_wp2_with fail
  go_loopw [1, 5] (fun x i wr => ∃ (j q : Nat), i = .int .i64 (j : Int) ∧ x = .int .i64 ((k + 4 * j : Nat) : Int) ∧ j ≤ n ∧ wr = w.drewN q) (fun _ i _ => n - (intOf i).toNat)
  case atStart => exact ⟨0, 0, rfl, rfl, Nat.zero_le _, rfl⟩
  case round =>
    obtain ⟨j, q, rfl, rfl, hj, rfl⟩ := hrel
    by_cases hlt : j < n
    · have j0 : (j : Int) < (n : Int) := by omega
      obtain ⟨z, b, p, hz, hidx, hb, c0, c1, c2, c3⟩ := HAT.out.get4 Try.underlying34 infoIP j hlt
      rw [marksPr_at k n j hlt] at hz
      cases hz
      simp only at c0 c1 c2 c3
      go_wp2_with fail
      try (go_quiet (fail))
      go_wp2_with fail
      try (go_quiet (fail))
      go_wp2_with fail
      try (go_quiet (fail))
      go_wp2_with fail
      try (go_quiet (fail))
      go_wp2_with fail
      go_roundw
      case rel => exact ⟨j + 1, _, by go_num, by go_num, by omega, by first | rfl | (simp; rfl)⟩
      case measure => simp [intOf]; omega
    · have ej : j = n := by omega
      subst ej
      go_wp2_with fail
      go_ret
      exact ⟨by go_num, below_drewN (Below.refl _ _) _⟩

section
variable {H : Type} {enc : TypeId × Value → H} {P : Program} {w : World} {base : Nat} {held : Bool}

theorem peer_of_trod {e tI : TypeId} {f0 f1 f2 f3 : Field} {fuel : Nat} {cs : List Value} {x : DataW H × List MemPlace} (he : P.underlying e = some (.struct #[f0, f1, f2, f3]))
    (hI : P.underlying tI = some (.int .i64)) (t0 : f0.type = tI) (t1 : f1.type = tI) (t2 : f2.type = tI) (t3 : f3.type = tI) (o0 : f0.offset = 0) (o1 : f1.offset = 1) (o2 : f2.offset = 2) (o3 : f3.offset = 3)
    (ce : P.cellsOf e = 4) (cI : P.cellsOf tI = 1) (h : DataW.trod enc P w base (fun _ => true) held fuel e cs = some x) :
    ∃ y : PeerV, cs = pcells y ∧ PeerWide y := by
  obtain ⟨xs, n, _, _, hlen, hxl, hf⟩ := DataW.trod_struct he h
  rw [ce] at hlen
  match xs, hxl, cs, hlen with
  | [y0, y1, y2, y3], _, [v0, v1, v2, v3], _ =>
    have g0 := hf 0 f0 rfl
    have g1 := hf 1 f1 rfl
    have g2 := hf 2 f2 rfl
    have g3 := hf 3 f3 rfl
    simp [o0, o1, o2, o3, t0, t1, t2, t3, cI] at g0 g1 g2 g3
    obtain ⟨k0, e0, _, m0⟩ := DataW.trod_int hI g0
    obtain ⟨k1, e1, _, m1⟩ := DataW.trod_int hI g1
    obtain ⟨k2, e2, _, m2⟩ := DataW.trod_int hI g2
    obtain ⟨k3, e3, _, m3⟩ := DataW.trod_int hI g3
    cases e0; cases e1; cases e2; cases e3
    exact ⟨⟨k0, k1, k2, k3⟩, rfl, m0, m1, m2, m3⟩

theorem open_peers {t e tI : TypeId} {f0 f1 f2 f3 : Field} {fuel : Nat} {cs : List Value} {x : DataW H × List MemPlace} (ht : P.underlying t = some (.slice e)) (he : P.underlying e = some (.struct #[f0, f1, f2, f3]))
    (hI : P.underlying tI = some (.int .i64)) (t0 : f0.type = tI) (t1 : f1.type = tI) (t2 : f2.type = tI) (t3 : f3.type = tI) (o0 : f0.offset = 0) (o1 : f1.offset = 1) (o2 : f2.offset = 2) (o3 : f3.offset = 3)
    (ce : P.cellsOf e = 4) (cI : P.cellsOf tI = 1) (h : DataW.trod enc P w base (fun _ => true) held fuel t cs = some x) :
    ∃ (oa : Option Addr) (n cap : Nat) (s : List PeerV), cs = [.slice oa n cap] ∧ PeersAt w oa n cap s ∧ ∀ y ∈ s, PeerWide y := by
  rcases open_slice ht h with h0 | ⟨a, len, cap, m, n, D, Pl, rfl, hb, hl, hm, hmm, _, hx⟩
  · exact ⟨none, 0, 0, [], h0.1, RowsAt.nil _ _ _ (by unfold maxLen; omega), fun y hy => by simp at hy⟩
  · have each : ∀ i, i < len → ∃ q : PeerV, (∀ j, j < 4 → w.cell? (a.add (i * 4 + j)) = (pcells q)[j]?) ∧ PeerWide q := by
      intro i hi
      obtain ⟨cs', h1, h2⟩ := hx i (by rw [hmm]; simp; omega)
      rw [ce] at h1
      obtain ⟨_, _, hcell⟩ := World.cells?_some h1
      obtain ⟨y, rfl, hy⟩ := peer_of_trod he hI t0 t1 t2 t3 o0 o1 o2 o3 ce cI h2
      exact ⟨y, fun j hj => by rw [← add_add]; exact hcell j hj, hy⟩
    have : Inhabited PeerV := ⟨⟨0, 0, 0, 0⟩⟩
    obtain ⟨F, hF⟩ := choose_lt each
    refine ⟨some a, len, cap, (List.range len).map F, rfl, ⟨by simp, hl, hm, fun i x hx => ?_⟩, fun y hy => ?_⟩
    · have hi : i < len := by simpa using (List.getElem?_eq_some_iff.1 hx).1
      have hfe : F i = x := by simpa [hi] using hx
      have k1 := (hF i hi).1
      have hsp : a.spot = none := by
        have q1 := (hF 0 (by omega)).1 0 (by omega)
        have q2 : w.cell? a = some (.int .i64 (F 0).id) := by simpa [Addr.add, pcells] using q1
        exact cell_spot q2
      obtain ⟨b, o, sp⟩ := a
      simp only at hsp
      subst hsp
      subst hfe
      refine ⟨b, o, rfl, fun j u hu => ?_⟩
      have hj : j < 4 := by simpa [pcells] using (List.getElem?_eq_some_iff.1 hu).1
      have q1 := k1 j hj
      rw [Addr.add_mid, hu] at q1
      rw [Nat.add_assoc]
      exact q1
    · obtain ⟨i, hi, rfl⟩ := List.mem_map.1 hy
      exact (hF i (by simpa using hi)).2
end

end Go.Proofs.Ytoalbeiinlcgpaa
