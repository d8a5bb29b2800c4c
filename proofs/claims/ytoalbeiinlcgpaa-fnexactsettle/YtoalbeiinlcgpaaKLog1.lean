/-
  Walks and mathematics of Log1.
-/
import Derived.Test.YtoalbeiinlcgpaaKOpenEntry
import Derived.Test.YtoalbeiinlcgpaaKBox
import Derived.Test.YtoalbeiinlcgpaaKLawStr
import Derived.Test.YtoalbeiinlcgpaaKIntsMark
namespace Go.Proofs.Ytoalbeiinlcgpaa
open Go.RowKit P1 P9 K
set_option linter.unusedVariables false
set_option linter.unusedSimpArgs false

theorem infoIE : (Try.prog.info? 75).map (·.size) = some 3 := by kernel_rfl

theorem infoIEz : (Try.prog.info? 75).map (fun i => (i.zero, i.size, i.bytes)) = some (some (.agg #[.int .i64 0, .int .i64 0, .string ⟨#[]⟩]), 3, 32) := by kernel_rfl

theorem infoLE : (Try.prog.info? 93).map (·.size) = some 3 := by kernel_rfl

theorem ecells_length (e : EntV) : (ecells e).length = 3 := rfl

theorem ecells_one (e : EntV) : ∀ u ∈ ecells e, u.oneCell' = true := by
  intro u hu
  simp only [ecells, List.mem_cons, List.not_mem_nil, or_false] at hu
  rcases hu with rfl | rfl | rfl <;> rfl

abbrev EntsAt (w : World) (oa : Option Addr) (n cap : Nat) (es : List EntV) : Prop := RowsAt 3 ecells w oa n cap es

theorem RowsAt.get3 {w : World} {oa : Option Addr} {n cap : Nat} {es : List EntV} (h : EntsAt w oa n cap es) {P : Program} {t e : TypeId} (ht : P.underlying t = some (.slice e)) (hi : (P.info? e).map (·.size) = some 3) (i : Nat) (hin : i < n) :
    ∃ f b q, es[i]? = some f ∧ (∀ wx, (Instr.indexAt t (.slice oa n cap) (.int .i64 (i : Int))).run P wx = .ok (.pointer (some ⟨b, q, none⟩)) wx) ∧ b < w.heap.size ∧
      w.cell? ⟨b, q, none⟩ = some (.int .i64 f.term) ∧ w.cell? ⟨b, q + 1, none⟩ = some (.int .i64 f.kind) ∧ w.cell? ⟨b, q + 2, none⟩ = some (.string f.data) := by
  obtain ⟨f, b, q, hf, hx, hb, hc⟩ := h.get ht hi ecells_length (by omega) i hin
  exact ⟨f, b, q, hf, hx, hb, hc 0 _ rfl, hc 1 _ rfl, hc 2 _ rfl⟩

def szEsGo : List EntV → Int → Int
  | [], left => left
  | f :: r, left => if szE f left < 0 then -1 else szEsGo r (szE f left)

def szEs (es : List EntV) (left : Int) : Int := if left - es.length < 0 then -1 else szEsGo es (left - es.length)

theorem szEsGo_cons (f : EntV) (r : List EntV) (left : Int) : szEsGo (f :: r) left = if szE f left < 0 then -1 else szEsGo r (szE f left) := rfl

theorem szE_le (e : EntV) (left : Int) (h : 0 ≤ left) : szE e left ≤ left := by
  unfold szE
  split <;> omega

theorem szE_fine {e : EntV} {left : Int} (h : 0 ≤ szE e left) (hl : left ≤ 1048576) : e.data.size ≤ 1048576 := by
  unfold szE at h
  split at h <;> omega

theorem szEsGo_fine : ∀ (es : List EntV) (left : Int), left ≤ 1048576 → 0 ≤ left → 0 ≤ szEsGo es left → szEsGo es left ≤ left ∧ ∀ f ∈ es, f.data.size ≤ 1048576
  | [], left, _, _, h => ⟨Int.le_refl _, fun f hf => by simp at hf⟩
  | a :: r, left, h1, h0, h => by
    rw [szEsGo_cons] at h ⊢
    by_cases c : szE a left < 0
    · rw [if_pos c] at h; omega
    · rw [if_neg c] at h ⊢
      have hl := szE_le a left h0
      have ih := szEsGo_fine r (szE a left) (by omega) (by omega) h
      refine ⟨by omega, fun f hf => ?_⟩
      rcases List.mem_cons.1 hf with rfl | hf
      · exact szE_fine (by omega) h1
      · exact ih.2 f hf

theorem szEs_fine {es : List EntV} {left : Int} (h1 : left ≤ 1048576) (h0 : 0 ≤ left) (h : 0 ≤ szEs es left) : szEs es left ≤ left ∧ es.length ≤ 1048576 ∧ ∀ f ∈ es, f.data.size ≤ 1048576 := by
  unfold szEs at h ⊢
  by_cases c : left - es.length < 0
  · rw [if_pos c] at h; omega
  · rw [if_neg c] at h ⊢
    have := szEsGo_fine es _ (by omega) (by omega) h
    exact ⟨by omega, by omega, this.2⟩

theorem szEs_ge {es : List EntV} {left : Int} (h : ¬ szEs es left < 0) : 0 ≤ szEs es left := by omega

set_option maxHeartbeats 1000000 in
theorem szEntryS_any (oa : Option Addr) (n cap : Nat) (es : List EntV) (left : Int) (h0 : 0 ≤ left) (h1 : left ≤ 1048576) (w : World) (hat : EntsAt w oa n cap es) (hw : ∀ f ∈ es, EntWide f) :
    Calls Try.prog 53 #[.slice oa n cap, .int .i64 left] w fun e w' => e = .returned (.int .i64 (szEs es left)) ∧ Below w.heap.size w w' := by
  have hn := hat.len
  have hc := hat.room
  have hm := hat.most
  unfold maxLen at hm
  unfold szEs
  rw [hn]
  by_cases c1 : left - n < 0
  · have g1 : decide (left - (n : Int) < 0) = true := by simpa using c1
    rw [if_pos c1]
    go_enter Try.func53, Try.ntmps53
    go_wp2_with fail
    go_ret
    exact ⟨rfl, Below.refl _ _⟩
  · have g1 : decide (left - (n : Int) < 0) = false := by simpa using c1
    rw [if_neg c1]
    have HN := hide hn
    have HAT := hide hat
    have HW := hide hw
    clear hn hat hw
    go_enter Try.func53, Try.ntmps53
    go_wp2_with fail
    go_loopw [5, 1] (fun i l wr => ∃ (j : Nat) (x : Int), i = .int .i64 (j : Int) ∧ l = .int .i64 x ∧ j ≤ n ∧ 0 ≤ x ∧ x ≤ 1048576 ∧ szEsGo (es.drop j) x = szEsGo es (left - n) ∧ Below w.heap.size w wr) (fun i _ _ => n - (intOf i).toNat)
    case atStart => exact ⟨0, left - n, rfl, rfl, Nat.zero_le _, by omega, by omega, by simp, Below.refl _ _⟩
    case round =>
      obtain ⟨j, x, rfl, rfl, hj, hx0, hx1, hrest, hbel⟩ := hrel
      by_cases hlt : j < n
      · have j0 : (j : Int) < (n : Int) := by omega
        obtain ⟨f, b, q, hf, hidx, hb, c0, c1', c2⟩ := (HAT.out.below hbel).get3 Try.underlying23 infoLE j hlt
        have hwf := HW.out f (List.mem_of_getElem? hf)
        have hSZ := hide (szEntry_any f x hx0 hx1 hwf.1)
        unfold eval at hSZ
        have hd : es.drop j = f :: es.drop (j + 1) := by
          rw [List.drop_eq_getElem_cons (by rw [HN.out]; exact hlt)]
          congr 1
          rw [List.getElem?_eq_getElem (by rw [HN.out]; exact hlt)] at hf
          exact Option.some.inj hf
        rw [hd, szEsGo_cons] at hrest
        have HR := hide hrest
        clear hrest hd
        by_cases c2 : szE f x < 0
        · have g2 : decide (szE f x < 0) = true := by simpa using c2
          have HR2 := HR.out
          rw [if_pos c2] at HR2
          have HR2 := hide HR2
          go_wp2_with (go_at_call 72; refine (hSZ.out _).mono ?_; rintro e w2 ⟨rfl, hb2⟩)
          go_ret
          exact ⟨by rw [← HR2.out]; rfl, hbel.trans (hb2.mono hbel.size)⟩
        · have g2 : decide (szE f x < 0) = false := by simpa using c2
          have HR2 := HR.out
          rw [if_neg c2] at HR2
          have HR2 := hide HR2
          have hle := szE_le f x hx0
          go_wp2_with (go_at_call 72; refine (hSZ.out _).mono ?_; rintro e w2 ⟨rfl, hb2⟩)
          go_roundw
          case rel => exact ⟨j + 1, szE f x, by go_num, rfl, by omega, by omega, by omega, HR2.out, hbel.trans (hb2.mono hbel.size)⟩
          case measure => simp [intOf]; omega
      · have hjn : j = n := by omega
        have HR := hide hrest
        go_wp2_with fail
        go_ret
        refine ⟨?_, hbel⟩
        rw [← HR.out, hjn, ← HN.out, List.drop_length]
        rfl

theorem own_setE {w : World} {base : Nat} {e : TypeId} {g n cap : Nat} {ys : List EntV} (h : w.ownsRow base e 3 (.slice (some ⟨g, 0, none⟩) n cap) n (ys.flatMap ecells)) (j : Nat) (hj : j < ys.length) (f : EntV) :
    (((w.setCell ⟨g, j * 3, none⟩ (.int .i64 f.term)).setCell ⟨g, j * 3 + 1, none⟩ (.int .i64 f.kind)).setCell ⟨g, j * 3 + 2, none⟩ (.string f.data)).ownsRow base e 3 (.slice (some ⟨g, 0, none⟩) n cap) n ((ys.set j f).flatMap ecells) ∧
      w.grownBy (((w.setCell ⟨g, j * 3, none⟩ (.int .i64 f.term)).setCell ⟨g, j * 3 + 1, none⟩ (.int .i64 f.kind)).setCell ⟨g, j * 3 + 2, none⟩ (.string f.data)) (some g) := by
  have h2 := own_setCells (ecells f) w (j * 3) (ys.flatMap ecells) h
  rw [setAll_flat ecells_length ys j f hj] at h2
  exact h2

theorem own_lenE {w : World} {base : Nat} {e : TypeId} {v : Value} {n : Nat} {ys : List EntV} (h : w.ownsRow base e 3 v n (ys.flatMap ecells)) : ys.length = n := by
  have := h.1
  rw [flat_length ecells 3 ecells_length] at this
  omega

set_option maxHeartbeats 1000000 in
theorem toEntryS_any (oa : Option Addr) (n cap : Nat) (es : List EntV) (hn20 : n ≤ 1048576) (w : World) (hat : EntsAt w oa n cap es) :
    Calls Try.prog 55 #[.slice oa n cap] w fun e w' => ∃ g, e = .returned (.slice (some ⟨g, 0, none⟩) n n) ∧ w'.ownsRow w.heap.size 75 3 (.slice (some ⟨g, 0, none⟩) n n) n (es.flatMap ecells) ∧ Below w.heap.size w w' := by
  have hn := hat.len
  have hc := hat.room
  have hm := hat.most
  unfold maxLen at hm
  obtain ⟨i0, hi, hz0, hz1, hz2⟩ := info_parts infoIEz
  obtain ⟨W0, hmk, hown0, hgr0⟩ := run_make_full (P := Try.prog) w w.heap.size 31 75 i0 _ 3 Try.underlying31 hi hz0 hz1 .i64 .i64 n (by rw [hz2]; omega) (by unfold maxLen; omega) (Nat.le_refl _)
  rw [made_flat (k := 3) (cf := ecells) ⟨0, 0, ⟨#[]⟩⟩ _ (by rfl) n ecells_length (by omega)] at hown0
  have HOWN := hide hown0
  have HGR := hide hgr0
  have HN := hide hn
  have HAT := hide hat
  clear hown0 hgr0 hn hat hi hz0 hz1 hz2
  go_enter Try.func55, Try.ntmps55
  go_wp2_with fail
  go_loopw [4] (fun i wr => ∃ (j : Nat) (ys : List EntV), i = .int .i64 (j : Int) ∧ j ≤ n ∧ (∀ k, k < j → ys[k]? = es[k]?) ∧ wr.ownsRow w.heap.size 75 3 (.slice (some ⟨w.heap.size, 0, none⟩) n n) n (ys.flatMap ecells) ∧ Below w.heap.size w wr) (fun i _ => n - (intOf i).toNat)
  case atStart => exact ⟨0, _, rfl, Nat.zero_le _, fun k hk => absurd hk (Nat.not_lt_zero _), HOWN.out, (Below.refl _ _).grown HGR.out (Nat.le_refl _) (fun k hk => by cases hk)⟩
  case round =>
    obtain ⟨j, ys, rfl, hj, hfill, hown, hbel⟩ := hrel
    by_cases hlt : j < n
    · have j0 : (j : Int) < (n : Int) := by omega
      obtain ⟨f, b, q, hf, hidx, hb, c0, c1', c2⟩ := (HAT.out.below hbel).get3 Try.underlying23 infoLE j hlt
      have hidx2 : ∀ wx, (Instr.indexAt 31 (.slice (some ⟨w.heap.size, 0, none⟩) n n) (.int .i64 (j : Int))).run Try.prog wx = .ok (.pointer (some ⟨w.heap.size, j * 3, none⟩)) wx := fun wx => by
        have := run_indexAt_slice wx 31 75 3 Try.underlying31 infoIE w.heap.size 0 n n j hlt
        rwa [Nat.zero_add] at this
      have hTO := hide (toEntry_any f)
      unfold eval at hTO
      have HF := hide hf
      have HFI := hide hfill
      have HYL := hide (own_lenE hown)
      have HO := hide hown
      have hsz := hbel.size
      clear hf hfill hown
      go_wp2_with (go_at_call 73; refine (hTO.out _).mono ?_; rintro e w2 ⟨rfl, hb2⟩; have ho2 := own_below HO.out hb2; obtain ⟨⟨y0, z0⟩, ⟨y1, z1⟩, ⟨y2, z2⟩⟩ := own_three ho2 j hlt; have f0 := ho2.frozenAt (j * 3); have f1 := ho2.frozenAt (j * 3 + 1); have f2 := ho2.frozenAt (j * 3 + 2); have HO2 := hide ho2; clear ho2)
      have hst := own_setE HO2.out j (by rw [HYL.out]; exact hlt) f
      have hb3 := (hbel.trans (hb2.mono hsz)).grown hst.2 (Nat.le_trans hsz hb2.size) (fun k hk => by cases hk; exact Nat.le_refl _)
      go_roundw
      case rel =>
        refine ⟨j + 1, _, by go_num, by omega, ?_, hst.1, hb3⟩
        intro k hk
        by_cases e : k = j
        · subst e
          rw [List.getElem?_set_self (by rw [HYL.out]; exact hlt), HF.out]
        · rw [List.getElem?_set_ne (by omega)]
          exact HFI.out k (by omega)
      case measure => simp [intOf]; omega
    · have hjn : j = n := by omega
      subst hjn
      have HE := hide (show ys = es by
        apply List.ext_getElem?
        intro k
        by_cases hk : k < j
        · exact hfill k hk
        · rw [List.getElem?_eq_none (by rw [own_lenE hown]; omega), List.getElem?_eq_none (by rw [HN.out]; omega)])
      have HO := hide hown
      clear hown hfill
      go_wp2_with fail
      go_ret
      refine ⟨w.heap.size, rfl, ?_, hbel⟩
      rw [← HE.out]
      exact HO.out

set_option maxHeartbeats 1000000 in
theorem eqEntryS_same (oa : Option Addr) (n cap : Nat) (ob : Option Addr) (cap' : Nat) (es : List EntV) (hn20 : n ≤ 1048576) (w : World) (hat : EntsAt w oa n cap es) (hbt : EntsAt w ob n cap' es) :
    Calls Try.prog 60 #[.slice oa n cap, .slice ob n cap'] w fun e w' => e = .returned (.bool true) ∧ Below w.heap.size w w' := by
  have HAT := hide hat
  have HBT := hide hbt
  clear hat hbt
  go_enter Try.func60, Try.ntmps60
  go_wp2_with fail
  go_loopw [5] (fun i wr => ∃ (j : Nat), i = .int .i64 (j : Int) ∧ j ≤ n ∧ Below w.heap.size w wr) (fun i _ => n - (intOf i).toNat)
  case atStart => exact ⟨0, rfl, Nat.zero_le _, Below.refl _ _⟩
  case round =>
    obtain ⟨j, rfl, hj, hbel⟩ := hrel
    by_cases hlt : j < n
    · have j0 : (j : Int) < (n : Int) := by omega
      obtain ⟨f, b, q, hf, hidx, hb, c0, c1, c2⟩ := (HAT.out.below hbel).get3 Try.underlying31 infoIE j hlt
      obtain ⟨f', b', q', hf', hidx', hb', c0', c1', c2'⟩ := (HBT.out.below hbel).get3 Try.underlying31 infoIE j hlt
      rw [hf] at hf'
      cases hf'
      have hEQ := hide (eqEntry_any f)
      unfold eval at hEQ
      have hsz := hbel.size
      clear hf
      go_wp2_with fail
      refine wp_region_in (F := fun w' => Below wr.heap.size wr w') (by kernel_rfl) (by kernel_rfl) (Below.refl _ _).drew ?_
      have hne : Nonempty (InW (fun w' => Below wr.heap.size wr w')) := ⟨⟨_, Below.refl _ _⟩⟩
      have k0 : ∀ m : InW (fun w' => Below wr.heap.size wr w'), m.w.cell? ⟨b, q, none⟩ = some (.int .i64 f.term) := fun m => (m.h.cell hb).trans c0
      have k1 : ∀ m : InW (fun w' => Below wr.heap.size wr w'), m.w.cell? ⟨b, q + 1, none⟩ = some (.int .i64 f.kind) := fun m => (m.h.cell hb).trans c1
      have k2 : ∀ m : InW (fun w' => Below wr.heap.size wr w'), m.w.cell? ⟨b, q + 2, none⟩ = some (.string f.data) := fun m => (m.h.cell hb).trans c2
      have k3 : ∀ m : InW (fun w' => Below wr.heap.size wr w'), m.w.cell? ⟨b', q', none⟩ = some (.int .i64 f.term) := fun m => (m.h.cell hb').trans c0'
      have k4 : ∀ m : InW (fun w' => Below wr.heap.size wr w'), m.w.cell? ⟨b', q' + 1, none⟩ = some (.int .i64 f.kind) := fun m => (m.h.cell hb').trans c1'
      have k5 : ∀ m : InW (fun w' => Below wr.heap.size wr w'), m.w.cell? ⟨b', q' + 2, none⟩ = some (.string f.data) := fun m => (m.h.cell hb').trans c2'
      repeat (go_big_quiet_step (first | (go_at_call 78; refine (hEQ.out _).mono ?_; rintro e w2 ⟨rfl, hb2⟩; exact ⟨rfl, ⟨w2, Below.trans (InW.h _) (hb2.mono (Below.size (InW.h (F := fun w' => Below wr.heap.size wr w') ‹_›)))⟩, rfl⟩)))
      refine wpQuiet_nil ?_
      intro _ hw'
      obtain ⟨nq, hw''⟩ := hw'
      subst hw''
      have hb3 := hbel.trans (nq.h.mono hsz)
      generalize nq.w = w2 at hb3 ⊢
      clear hne k0 k1 k2 k3 k4 k5
      go_wp2_with fail
      go_roundw
      case rel => exact ⟨j + 1, by go_num, by omega, hb3⟩
      case measure => simp [intOf]; omega
    · have hjn : j = n := by omega
      go_wp2_with fail
      go_ret
      exact ⟨rfl, hbel⟩

def markE (k i : Nat) : EntV := ⟨((k + 3 * i : Nat) : Int), ((k + 3 * i + 1 : Nat) : Int), ⟨(markB (k + 3 * i + 2)).toArray⟩⟩

def marksE (k n : Nat) : List EntV := (List.range n).map (markE k)

theorem marksE_length (k n : Nat) : (marksE k n).length = n := by simp [marksE]

theorem marksE_at (k n i : Nat) (h : i < n) : (marksE k n)[i]? = some (markE k i) := by simp [marksE, h]

set_option maxHeartbeats 1000000 in
theorem heldEntryS_any (oa : Option Addr) (n cap k : Nat) (hn : n ≤ 1048576) (hk : k ≤ 1000000) (w : World) (hat : EntsAt w oa n cap (marksE k n)) :
    Calls Try.prog 66 #[.slice oa n cap, .int .i64 (k : Int)] w fun e w' => e = .returned (.int .i64 ((k + 3 * n : Nat) : Int)) ∧ Below w.heap.size w w' := by
  have HAT := hide hat
  clear hat
  go_enter Try.func66, Try.ntmps66
  go_wp2_with fail
  go_loopw [1, 5] (fun x i wr => ∃ (j : Nat), i = .int .i64 (j : Int) ∧ x = .int .i64 ((k + 3 * j : Nat) : Int) ∧ j ≤ n ∧ Below w.heap.size w wr) (fun _ i _ => n - (intOf i).toNat)
  case atStart => exact ⟨0, rfl, rfl, Nat.zero_le _, Below.refl _ _⟩
  case round =>
    obtain ⟨j, rfl, rfl, hj, hbel⟩ := hrel
    by_cases hlt : j < n
    · have j0 : (j : Int) < (n : Int) := by omega
      obtain ⟨f, b, q, hf, hidx, hb, c0, c1, c2⟩ := (HAT.out.below hbel).get3 Try.underlying31 infoIE j hlt
      rw [marksE_at k n j hlt] at hf
      cases hf
      simp only [markE] at c0 c1 c2
      have hsz := hbel.size
      go_wp2_with fail
      refine wp_region_in (F := fun w' => Below wr.heap.size wr w') (by kernel_rfl) (by kernel_rfl) (Below.refl _ _).drew ?_
      have hne : Nonempty (InW (fun w' => Below wr.heap.size wr w')) := ⟨⟨_, Below.refl _ _⟩⟩
      have k0 : ∀ m : InW (fun w' => Below wr.heap.size wr w'), m.w.cell? ⟨b, q + 2, none⟩ = some (.string ⟨(markB (k + 3 * j + 2)).toArray⟩) := fun m => (m.h.cell hb).trans c2
      repeat (go_big_quiet_step (first | (go_at_call 80; refine (markText_any (k + 3 * j + 2) (by omega) _).mono ?_; rintro e w2 ⟨rfl, hb2⟩; exact ⟨rfl, ⟨w2, Below.trans (InW.h _) (hb2.mono (Below.size (InW.h (F := fun w' => Below wr.heap.size wr w') ‹_›)))⟩, rfl⟩)))
      refine wpQuiet_nil ?_
      intro _ hw'
      obtain ⟨nq, hw''⟩ := hw'
      subst hw''
      have hb3 := nq.h
      generalize nq.w = w3 at hb3 ⊢
      have B3 := hide (hbel.trans (hb3.mono hsz))
      clear hne k0 c0 c1 c2 hbel hb3 hb
      go_wp2_with fail
      go_roundw
      case rel => exact ⟨j + 1, by go_num, by go_num, by omega, B3.out⟩
      case measure => simp [intOf]; omega
    · have ej : j = n := by omega
      subst ej
      go_wp2_with fail
      go_ret
      exact ⟨by go_num, hbel⟩

end Go.Proofs.Ytoalbeiinlcgpaa
