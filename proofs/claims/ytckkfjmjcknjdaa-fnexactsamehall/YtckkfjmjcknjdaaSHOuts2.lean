/-
  Walks and mathematics of Outs2.
-/
import Derived.Test.YtckkfjmjcknjdaaSHOuts1
namespace Go.Proofs.Ytckkfjmjcknjdaa.P1
end Go.Proofs.Ytckkfjmjcknjdaa.P1
namespace Go.Proofs.Ytckkfjmjcknjdaa.P11
end Go.Proofs.Ytckkfjmjcknjdaa.P11
namespace Go.Proofs.Ytckkfjmjcknjdaa.P14
end Go.Proofs.Ytckkfjmjcknjdaa.P14
namespace Go.Proofs.Ytckkfjmjcknjdaa.P3
end Go.Proofs.Ytckkfjmjcknjdaa.P3
namespace Go.Proofs.Ytckkfjmjcknjdaa.P5
end Go.Proofs.Ytckkfjmjcknjdaa.P5
namespace Go.Proofs.Ytckkfjmjcknjdaa
open Go.RowKit P1 P3 P5 P9 P11 P12 P14 K
set_option linter.unusedVariables false
set_option linter.unusedSimpArgs false

structure OutSh (w : World) (lo hi g : Nat) (os : List OutX) (k : Nat) (rs : List OutR) : Prop where
  len : rs.length = os.length
  own : w.ownsRow lo 48 3 (.slice (some ⟨g, 0, none⟩) os.length os.length) os.length (rs.flatMap ocells)
  top : g < hi
  each : ∀ i x, i < k → os[i]? = some x → ∃ q, rs[i]? = some ⟨x.d, x.a, some ⟨q, 0, none⟩, x.ids.length, x.ids.length⟩ ∧ q < hi ∧ w.ownsRow lo 3 1 (.slice (some ⟨q, 0, none⟩) x.ids.length x.ids.length) x.ids.length (x.ids.map icell)

theorem OutSh.on {w w' : World} {lo hi hi' g k : Nat} {os : List OutX} {rs : List OutR} (h : OutSh w lo hi g os k rs) (hb : Below w.heap.size w w') (hh : hi ≤ hi') : OutSh w' lo hi' g os k rs :=
  ⟨h.len, own_below h.own hb, Nat.lt_of_lt_of_le h.top hh, fun i s hi hs => by
    obtain ⟨q, q1, q2, q3⟩ := h.each i s hi hs
    exact ⟨q, q1, Nat.lt_of_lt_of_le q2 hh, own_below q3 hb⟩⟩

theorem own_setO {w : World} {base : Nat} {e : TypeId} {g n cap : Nat} {ys : List OutR} (h : w.ownsRow base e 3 (.slice (some ⟨g, 0, none⟩) n cap) n (ys.flatMap ocells)) (j : Nat) (hj : j < ys.length) (f : OutR) :
    (((w.setCell ⟨g, j * 3, none⟩ (.int .i64 f.d)).setCell ⟨g, j * 3 + 1, none⟩ (.int .i64 f.a)).setCell ⟨g, j * 3 + 2, none⟩ (.slice f.oa f.n f.cap)).ownsRow base e 3 (.slice (some ⟨g, 0, none⟩) n cap) n ((ys.set j f).flatMap ocells) ∧
      w.grownBy (((w.setCell ⟨g, j * 3, none⟩ (.int .i64 f.d)).setCell ⟨g, j * 3 + 1, none⟩ (.int .i64 f.a)).setCell ⟨g, j * 3 + 2, none⟩ (.slice f.oa f.n f.cap)) (some g) := by
  have h2 := own_setCells (ocells f) w (j * 3) (ys.flatMap ocells) h
  rw [setAll_flat ocells_length ys j f hj] at h2
  exact h2

theorem OutSh.outs {w : World} {lo hi g : Nat} {os : List OutX} {rs : List OutR} (h : OutSh w lo hi g os os.length rs) (hf : ∀ x ∈ os, ∀ z ∈ x.ids, (Lit.int .i64 z).wf = true) : OutsAt w (some ⟨g, 0, none⟩) os.length os.length os := by
  obtain ⟨oa, cap, he, hat⟩ := rowsAt_of_own ocells_length (by omega) h.own
  cases he
  refine ⟨rfl, rs, hat, fun i r x hr hx => ?_⟩
  have hi := (List.getElem?_eq_some_iff.1 hx).1
  obtain ⟨q, q1, q2, q3⟩ := h.each i x hi hx
  rw [hr] at q1
  cases q1
  obtain ⟨oa', c', e, hia⟩ := intsAt_of_own q3 (hf x (List.mem_of_getElem? hx))
  cases e
  exact ⟨rfl, rfl, rfl, hia⟩

def ToOuts (w : World) (os : List OutX) (e : Ending) (w' : World) : Prop := ∃ g rs, e = .returned (.slice (some ⟨g, 0, none⟩) os.length os.length) ∧ OutSh w' w.heap.size w'.heap.size g os os.length rs ∧ Below w.heap.size w w'

set_option maxHeartbeats 4000000 in
theorem toOutS_any (oa : Option Addr) (n cap : Nat) (os : List OutX) (hn20 : os.length ≤ 1048576) (hs20 : idW os ≤ 1048576) (w : World) (hat : OutsAt w oa n cap os) :
    Calls Try.prog 30 #[.slice oa n cap] w (ToOuts w os) := by
  have hn := hat.len
  subst hn
  obtain ⟨i0, hi, hz0, hz1, hz2⟩ := info_parts infoOIz
  obtain ⟨W0, hmk, hown0, hgr0⟩ := run_make_full (P := Try.prog) w w.heap.size 28 48 i0 _ 3 Try.underlying28 hi hz0 hz1 .i64 .i64 os.length (by rw [hz2]; omega) (by unfold maxLen; omega) (Nat.le_refl _)
  rw [made_flat (k := 3) (cf := ocells) ⟨0, 0, none, 0, 0⟩ _ (by rfl) os.length ocells_length (by omega)] at hown0
  have hb0 : Below w.heap.size w W0 := (Below.refl _ _).grown hgr0 (Nat.le_refl _) (fun k hk => by cases hk)
  have HB0 := hide hb0
  have HOWN := hide hown0
  have HAT := hide hat
  have HS20 := hide hs20
  clear hown0 hgr0 hat hi hz0 hz1 hz2 hb0
  go_enter Try.func30, Try.ntmps30
  go_wp2_with fail
  go_loopw [4] (fun i wr => ∃ (j : Nat) (rs : List OutR), i = .int .i64 (j : Int) ∧ j ≤ os.length ∧ OutSh wr w.heap.size wr.heap.size w.heap.size os j rs ∧ Below w.heap.size w wr) (fun i _ => os.length - (intOf i).toNat)
  case atStart => exact ⟨0, _, rfl, Nat.zero_le _, ⟨by simp, HOWN.out, (HOWN.out.lt _ rfl).2, fun i s hi => by omega⟩, HB0.out⟩
  case round =>
    obtain ⟨j, rs, rfl, hj, hsh, hbel⟩ := hrel
    by_cases hlt : j < os.length
    · have j0 : (j : Int) < (os.length : Int) := by omega
      obtain ⟨s, xa, xc, b, q, hs, hidx, hb, k0, k1, k2, hits⟩ := (HAT.out.below hbel).get Try.underlying40 infoOL j hlt
      have hsl : s.ids.length ≤ 1048576 := Nat.le_trans (idW_mem (List.mem_of_getElem? hs)) HS20.out
      have HC := hide (toOut_any s.d s.a xa s.ids.length xc s.ids hsl wr hits)
      unfold ToOut at HC
      have hidx2 : ∀ wx, (Instr.indexAt 28 (.slice (some ⟨w.heap.size, 0, none⟩) os.length os.length) (.int .i64 (j : Int))).run Try.prog wx = .ok (.pointer (some ⟨w.heap.size, j * 3, none⟩)) wx := fun wx => by
        have := run_indexAt_slice wx 28 48 3 Try.underlying28 infoOI w.heap.size 0 os.length os.length j hlt
        rwa [Nat.zero_add] at this
      have HSH := hide hsh
      have HS := hide hs
      have hsz := hbel.size
      clear hsh hs hits
      go_wp2_with (go_at_call 60; (with_reducible refine HC.out.mono ?_); rintro e' w2 ⟨g2, rfl, ho2, hb2⟩; have hsh2 := HSH.out.on hb2 (Nat.le_refl _); have ho3 := hsh2.own; obtain ⟨⟨y0, z0⟩, ⟨y1, z1⟩, ⟨y2, z2⟩⟩ := own_three ho3 j hlt; have f0 := ho3.frozenAt (j * 3); have f1 := ho3.frozenAt (j * 3 + 1); have f2 := ho3.frozenAt (j * 3 + 2); have HSH2 := hide hsh2; have HO2 := hide ho2; have HB2 := hide hb2; clear hsh2 ho2 hb2 ho3)
      have hst := own_setO HSH2.out.own j (by rw [HSH2.out.len]; exact hlt) ⟨s.d, s.a, some ⟨g2, 0, none⟩, s.ids.length, s.ids.length⟩
      simp only at hst
      obtain ⟨w3, hw3⟩ : ∃ w3, (((w2.setCell ⟨w.heap.size, j * 3, none⟩ (.int .i64 s.d)).setCell ⟨w.heap.size, j * 3 + 1, none⟩ (.int .i64 s.a)).setCell ⟨w.heap.size, j * 3 + 2, none⟩ (.slice (some ⟨g2, 0, none⟩) s.ids.length s.ids.length)) = w3 := ⟨_, rfl⟩
      rw [hw3] at hst ⊢
      have hg2 := HO2.out.lt g2 rfl
      have hszz := HB2.out.size
      have hs3 := hst.2.size
      have hb3 : Below w.heap.size w w3 := (hbel.trans (HB2.out.mono hsz)).grown hst.2 (Nat.le_trans hsz hszz) (fun k hk => by cases hk; exact Nat.le_refl _)
      have hsh3 : OutSh w3 w.heap.size w3.heap.size w.heap.size os (j + 1) (rs.set j ⟨s.d, s.a, some ⟨g2, 0, none⟩, s.ids.length, s.ids.length⟩) := by
        refine ⟨by rw [List.length_set]; exact HSH2.out.len, hst.1, ?_, fun i t hi ht => ?_⟩
        · have := HSH2.out.top
          omega
        · by_cases e : i = j
          · subst e
            rw [HS.out] at ht
            cases ht
            refine ⟨g2, by rw [List.getElem?_set_self (by rw [HSH2.out.len]; exact hlt)], by omega, ?_⟩
            exact (own_base HO2.out hsz).kept hst.2 (.inr (fun e => by have e1 : g2 = w.heap.size := Option.some.inj e; have := HSH.out.top; omega))
          · obtain ⟨q, q1, q2, q3⟩ := HSH2.out.each i t (by omega) ht
            refine ⟨q, by rw [List.getElem?_set_ne (Ne.symm e)]; exact q1, by omega, q3.kept hst.2 (.inr (fun e => own_apart q3 HSH2.out.own (by decide) _ e rfl))⟩
      clear hst hw3 z0 z1 z2 f0 f1 f2
      go_roundw
      case rel => exact ⟨j + 1, _, by go_num, by omega, hsh3, hb3⟩
      case measure => simp [intOf]; omega
    · have hjn : j = os.length := by omega
      subst hjn
      have HSH := hide hsh
      clear hsh
      go_wp2_with fail
      go_ret
      exact ⟨w.heap.size, rs, rfl, HSH.out, hbel⟩

set_option maxHeartbeats 2000000 in
theorem eqOutS_same (oa : Option Addr) (n cap : Nat) (os : List OutX) (ob : Option Addr) (cap' : Nat) (hn20 : n ≤ 1048576) (hs20 : idW os ≤ 1048576) (w : World) (hat : OutsAt w oa n cap os) (hbt : OutsAt w ob n cap' os) :
    Calls Try.prog 16 #[.slice oa n cap, .slice ob n cap'] w fun e w' => e = .returned (.bool true) ∧ Below w.heap.size w w' := by
  have HAT := hide hat
  have HBT := hide hbt
  have HS20 := hide hs20
  clear hat hbt hs20
  go_enter Try.func16, Try.ntmps16
  go_wp2_with fail
  go_loopw [5] (fun i wr => ∃ (j : Nat), i = .int .i64 (j : Int) ∧ j ≤ n ∧ Below w.heap.size w wr) (fun i _ => n - (intOf i).toNat)
  case atStart => exact ⟨0, rfl, Nat.zero_le _, Below.refl _ _⟩
  case round =>
    obtain ⟨j, rfl, hj, hbel⟩ := hrel
    have hsz := hbel.size
    by_cases hlt : j < n
    · have j0 : (j : Int) < (n : Int) := by omega
      obtain ⟨s, xa, xc, b, q, hs, hidx, hb, c0, c1, c2, hit⟩ := (HAT.out.below hbel).get Try.underlying28 infoOI j hlt
      obtain ⟨s', xa', xc', b', q', hs', hidx', hb', c0', c1', c2', hit'⟩ := (HBT.out.below hbel).get Try.underlying28 infoOI j hlt
      have hee : s = s' := by rw [hs] at hs'; exact Option.some.inj hs'
      subst hee
      have hsl : s.ids.length ≤ 1048576 := Nat.le_trans (idW_mem (List.mem_of_getElem? hs)) HS20.out
      have HC := hide (fun (w2 : World) (hb2 : Below wr.heap.size wr w2) => eqOut_same s.d s.a xa s.ids.length xc xa' xc' s.ids hsl w2 (hit.below hb2) (hit'.below hb2))
      clear hs hs' hit hit'
      go_wp2_with fail
      refine wp_region_in (F := fun w' => Below wr.heap.size wr w') (by kernel_rfl) (by kernel_rfl) (Below.refl _ _).drew ?_
      have hne : Nonempty (InW (fun w' => Below wr.heap.size wr w')) := ⟨⟨_, Below.refl _ _⟩⟩
      have m0 : ∀ m : InW (fun w' => Below wr.heap.size wr w'), m.w.cell? ⟨b, q, none⟩ = some (.int .i64 s.d) := fun m => (m.h.cell hb).trans c0
      have m1 : ∀ m : InW (fun w' => Below wr.heap.size wr w'), m.w.cell? ⟨b, q + 1, none⟩ = some (.int .i64 s.a) := fun m => (m.h.cell hb).trans c1
      have m2 : ∀ m : InW (fun w' => Below wr.heap.size wr w'), m.w.cell? ⟨b, q + 2, none⟩ = some (.slice xa s.ids.length xc) := fun m => (m.h.cell hb).trans c2
      have n0 : ∀ m : InW (fun w' => Below wr.heap.size wr w'), m.w.cell? ⟨b', q', none⟩ = some (.int .i64 s.d) := fun m => (m.h.cell hb').trans c0'
      have n1 : ∀ m : InW (fun w' => Below wr.heap.size wr w'), m.w.cell? ⟨b', q' + 1, none⟩ = some (.int .i64 s.a) := fun m => (m.h.cell hb').trans c1'
      have n2 : ∀ m : InW (fun w' => Below wr.heap.size wr w'), m.w.cell? ⟨b', q' + 2, none⟩ = some (.slice xa' s.ids.length xc') := fun m => (m.h.cell hb').trans c2'
      repeat (go_big_quiet_step (first | (go_at_call 39; refine (HC.out _ (InW.h _)).mono ?_; rintro e' w2 ⟨rfl, hb2⟩; exact ⟨rfl, ⟨w2, Below.trans (InW.h _) (hb2.mono (Below.size (InW.h (F := fun w' => Below wr.heap.size wr w') ‹_›)))⟩, rfl⟩)))
      refine wpQuiet_nil ?_
      intro _ hw'
      obtain ⟨nq, hw''⟩ := hw'
      subst hw''
      have hb3 := hbel.trans (nq.h.mono hsz)
      generalize nq.w = w2 at hb3 ⊢
      clear hne m0 m1 m2 n0 n1 n2 c0 c1 c2 c0' c1' c2'
      go_wp2_with fail
      go_roundw
      case rel => exact ⟨j + 1, by go_num, by omega, hb3⟩
      case measure => simp [intOf]; omega
    · have hjn : j = n := by omega
      go_wp2_with fail
      go_ret
      exact ⟨rfl, hbel⟩

end Go.Proofs.Ytckkfjmjcknjdaa
