/-
  Walks and mathematics of RoomW2.
-/
import Derived.Test.YtckkfjmjcknjdaaSHRoomW1
import Derived.Test.YtckkfjmjcknjdaaSHApart
namespace Go.Proofs.Ytckkfjmjcknjdaa.P1
end Go.Proofs.Ytckkfjmjcknjdaa.P1
namespace Go.Proofs.Ytckkfjmjcknjdaa.P11
end Go.Proofs.Ytckkfjmjcknjdaa.P11
namespace Go.Proofs.Ytckkfjmjcknjdaa.P14
end Go.Proofs.Ytckkfjmjcknjdaa.P14
namespace Go.Proofs.Ytckkfjmjcknjdaa.P3
end Go.Proofs.Ytckkfjmjcknjdaa.P3
namespace Go.Proofs.Ytckkfjmjcknjdaa.P5
end Go.Proofs.Ytckkfjmjcknjdaa.P5
namespace Go.Proofs.Ytckkfjmjcknjdaa
open Go.RowKit P1 P3 P5 P9 P11 P12 P14 K
set_option linter.unusedVariables false
set_option linter.unusedSimpArgs false

abbrev bcell (z : Bool) : Value := .bool z

theorem infoSSz : (Try.prog.info? 85).map (fun i => (i.zero, i.size, i.bytes)) = some (some (.slice none 0 0), 1, 24) := by kernel_rfl

theorem infoB1z : (Try.prog.info? 4).map (fun i => (i.zero, i.size, i.bytes)) = some (some (.bool false), 1, 1) := by kernel_rfl

theorem infoSS1 : (Try.prog.info? 85).map (·.size) = some 1 := by kernel_rfl

structure StSh (w : World) (lo hi g : Nat) (ss : List (List (Int × Int))) (k : Nat) (xs : List Value) : Prop where
  own : w.ownsRow lo 85 1 (.slice (some ⟨g, 0, none⟩) xs.length xs.length) xs.length xs
  top : g < hi
  each : ∀ i s, i < k → ss[i]? = some s → ∃ q, xs[i]? = some (.slice (some ⟨q, 0, none⟩) s.length s.length) ∧ q < hi ∧ w.ownsRow lo 100 2 (.slice (some ⟨q, 0, none⟩) s.length s.length) s.length (s.flatMap icells)

theorem StSh.on {w w' : World} {lo hi hi' g k : Nat} {ss : List (List (Int × Int))} {xs : List Value} (h : StSh w lo hi g ss k xs) (hb : Below w.heap.size w w') (hh : hi ≤ hi') : StSh w' lo hi' g ss k xs :=
  ⟨own_below h.own hb, Nat.lt_of_lt_of_le h.top hh, fun i s hi hs => by
    obtain ⟨q, q1, q2, q3⟩ := h.each i s hi hs
    exact ⟨q, q1, Nat.lt_of_lt_of_le q2 hh, own_below q3 hb⟩⟩

theorem StSh.sts {w : World} {lo hi g : Nat} {ss : List (List (Int × Int))} {xs : List Value} (h : StSh w lo hi g ss ss.length xs) (hl : xs.length = ss.length) : StsAt w (some ⟨g, 0, none⟩) ss.length ss.length ss := by
  have hmx : ss.length ≤ maxLen := by
    rcases h.own.2 with ⟨q, _⟩ | ⟨g', cap, cur, q, _, _, h3, h4, _⟩
    · cases q
    · omega
  refine ⟨rfl, Nat.le_refl _, hmx, fun i s hs => ?_⟩
  have hi := (List.getElem?_eq_some_iff.1 hs).1
  obtain ⟨q, q1, q2, q3⟩ := h.each i s hi hs
  refine ⟨g, 0, some ⟨q, 0, none⟩, s.length, rfl, ?_, ?_⟩
  · rw [Nat.zero_add, h.own.cellAt i (by omega)]
    exact q1
  · obtain ⟨oa', c', e, hat⟩ := itemsAt_of_own q3
    cases e
    exact hat

def ToSts (w : World) (ss : List (List (Int × Int))) (e : Ending) (w' : World) : Prop := ∃ g xs, xs.length = ss.length ∧ e = .returned (.slice (some ⟨g, 0, none⟩) ss.length ss.length) ∧ StSh w' w.heap.size w'.heap.size g ss ss.length xs ∧ Below w.heap.size w w'

set_option maxHeartbeats 4000000 in
theorem toItemSS_any (oa : Option Addr) (n cap : Nat) (ss : List (List (Int × Int))) (hn20 : ss.length ≤ 1048576) (hs20 : stW ss ≤ 1048576) (w : World) (hat : StsAt w oa n cap ss) :
    Calls Try.prog 58 #[.slice oa n cap] w (ToSts w ss) := by
  have hn := hat.len
  subst hn
  obtain ⟨i0, hi, hz0, hz1, hz2⟩ := info_parts infoSSz
  obtain ⟨W0, hmk, hown0, hgr0⟩ := run_make_full (P := Try.prog) w w.heap.size 24 85 i0 _ 1 Try.underlying24 hi hz0 hz1 .i64 .i64 ss.length (by rw [hz2]; omega) (by unfold maxLen; omega) (Nat.le_refl _)
  have hb0 : Below w.heap.size w W0 := (Below.refl _ _).grown hgr0 (Nat.le_refl _) (fun k hk => by cases hk)
  have HB0 := hide hb0
  have HOWN := hide hown0
  have HAT := hide hat
  have HS20 := hide hs20
  have hxs : ∃ xs : List Value, xs.length = ss.length ∧ W0.ownsRow w.heap.size 85 1 (.slice (some ⟨w.heap.size, 0, none⟩) ss.length ss.length) ss.length xs := ⟨_, hown0.1.trans (Nat.mul_one _), hown0⟩
  obtain ⟨xs0, hx0, hxo⟩ := hxs
  have HX0 := hide hx0
  have HXO := hide hxo
  clear hown0 hgr0 hat hi hz0 hz1 hz2 hb0 hx0 hxo
  go_enter Try.func58, Try.ntmps58
  go_wp2_with fail
  go_loopw [4] (fun i wr => ∃ (j : Nat) (xs : List Value), i = .int .i64 (j : Int) ∧ j ≤ ss.length ∧ xs.length = ss.length ∧ StSh wr w.heap.size wr.heap.size w.heap.size ss j xs ∧ Below w.heap.size w wr) (fun i _ => ss.length - (intOf i).toNat)
  case atStart => exact ⟨0, xs0, rfl, Nat.zero_le _, HX0.out, ⟨by rw [HX0.out]; exact HXO.out, (HXO.out.lt _ rfl).2, fun i s hi => by omega⟩, HB0.out⟩
  case round =>
    obtain ⟨j, xs, rfl, hj, hxl, hsh, hbel⟩ := hrel
    by_cases hlt : j < ss.length
    · have j0 : (j : Int) < (ss.length : Int) := by omega
      obtain ⟨s, b, q, xa, xc, hs, hidx, hc, hits⟩ := (HAT.out.below hbel).get Try.underlying37 infoLS j hlt
      have hsl : s.length ≤ 1048576 := Nat.le_trans (stW_mem (List.mem_of_getElem? hs)) HS20.out
      have HC := hide (toItemS_any xa s.length xc s hsl wr hits)
      have hidx2 : ∀ wx, (Instr.indexAt 24 (.slice (some ⟨w.heap.size, 0, none⟩) ss.length ss.length) (.int .i64 (j : Int))).run Try.prog wx = .ok (.pointer (some ⟨w.heap.size, j, none⟩)) wx := fun wx => by
        have := run_indexAt_slice wx 24 85 1 Try.underlying24 infoSS1 w.heap.size 0 ss.length ss.length j hlt
        rwa [Nat.zero_add, Nat.mul_one] at this
      have HSH := hide hsh
      have HS := hide hs
      have hsz := hbel.size
      clear hsh hs hits
      go_wp2_with (go_at_call 76; (with_reducible refine HC.out.mono ?_); rintro e' w2 ⟨g2, rfl, ho2, hb2⟩; have hsh2 := HSH.out.on hb2 (Nat.le_refl _); have hx2 := hsh2.own.1; obtain ⟨u, hu⟩ : ∃ u, w2.cell? ⟨w.heap.size, j, none⟩ = some u := ⟨_, by rw [hsh2.own.cellAt j (by omega), List.getElem?_eq_getElem (by omega)]⟩; have hfz := hsh2.own.frozenAt j; have HSH2 := hide hsh2; clear hsh2 hx2)
      have hst := HSH2.out.own.stored j (.slice (some ⟨g2, 0, none⟩) s.length s.length)
      have hg2 := (ho2.lt g2 rfl)
      have hszz := hb2.size
      have hst2 := hst.2
      have hb3 : Below w.heap.size w (w2.setCell ⟨w.heap.size, j, none⟩ (.slice (some ⟨g2, 0, none⟩) s.length s.length)) := (hbel.trans (hb2.mono hsz)).setCell (Nat.le_refl _) _
      have hsz3 : w2.heap.size ≤ (w2.setCell ⟨w.heap.size, j, none⟩ (.slice (some ⟨g2, 0, none⟩) s.length s.length)).heap.size := hst2.size
      have hsh3 : StSh (w2.setCell ⟨w.heap.size, j, none⟩ (.slice (some ⟨g2, 0, none⟩) s.length s.length)) w.heap.size (w2.setCell ⟨w.heap.size, j, none⟩ (.slice (some ⟨g2, 0, none⟩) s.length s.length)).heap.size w.heap.size ss (j + 1) (xs.set j (.slice (some ⟨g2, 0, none⟩) s.length s.length)) := by
        refine ⟨?_, ?_, fun i t hi ht => ?_⟩
        · rw [List.length_set]; exact hst.1
        · have := HSH2.out.top
          omega
        · by_cases e : i = j
          · subst e
            rw [HS.out] at ht
            cases ht
            refine ⟨g2, by rw [List.getElem?_set_self (by omega)], by omega, ?_⟩
            exact (own_base ho2 hsz).kept hst2 (.inr (fun e => by have e1 : g2 = w.heap.size := Option.some.inj e; have := HSH.out.top; omega))
          · obtain ⟨q, q1, q2, q3⟩ := HSH2.out.each i t (by omega) ht
            refine ⟨q, by rw [List.getElem?_set_ne (Ne.symm e)]; exact q1, by omega, q3.kept hst2 (.inr (fun e => own_apart q3 HSH2.out.own (by decide) _ e rfl))⟩
      go_roundw
      case rel => exact ⟨j + 1, _, by go_num, by omega, by rw [List.length_set]; exact hxl, hsh3, hb3⟩
      case measure => simp [intOf]; omega
    · have hjn : j = ss.length := by omega
      subst hjn
      have HSH := hide hsh
      clear hsh
      go_wp2_with fail
      go_ret
      exact ⟨w.heap.size, xs, hxl, rfl, HSH.out, hbel⟩

set_option maxHeartbeats 1000000 in
theorem toBoolS_any (oa : Option Addr) (n cap : Nat) (zs : List Bool) (hn20 : zs.length ≤ 1048576) (w : World) (hat : BoolsAt w oa n cap zs) :
    Calls Try.prog 59 #[.slice oa n cap] w fun e w' => ∃ g, e = .returned (.slice (some ⟨g, 0, none⟩) n n) ∧ w'.ownsRow w.heap.size 4 1 (.slice (some ⟨g, 0, none⟩) n n) n (zs.map bcell) ∧ Below w.heap.size w w' := by
  have hn := hat.len
  subst hn
  obtain ⟨i0, hi, hz0, hz1, hz2⟩ := info_parts infoB1z
  obtain ⟨W0, hmk, hown0, hgr0⟩ := run_make_full (P := Try.prog) w w.heap.size 25 4 i0 _ 1 Try.underlying25 hi hz0 hz1 .i64 .i64 zs.length (by rw [hz2]; omega) (by unfold maxLen; omega) (Nat.le_refl _)
  have HOWN := hide hown0
  have HGR := hide hgr0
  have HAT := hide hat
  clear hown0 hgr0 hat hi hz0 hz1 hz2
  go_enter Try.func59, Try.ntmps59
  go_wp2_with fail
  go_loopw [4] (fun i wr => ∃ (j : Nat) (xs : List Value), i = .int .i64 (j : Int) ∧ j ≤ zs.length ∧ xs.take j = (zs.take j).map bcell ∧ wr.ownsRow w.heap.size 4 1 (.slice (some ⟨w.heap.size, 0, none⟩) zs.length zs.length) zs.length xs ∧ Below w.heap.size w wr) (fun i _ => zs.length - (intOf i).toNat)
  case atStart => exact ⟨0, _, rfl, Nat.zero_le _, by simp, HOWN.out, (Below.refl _ _).grown HGR.out (Nat.le_refl _) (fun k hk => by cases hk)⟩
  case round =>
    obtain ⟨j, xs, rfl, hj, hfill, hown, hbel⟩ := hrel
    by_cases hlt : j < zs.length
    · have j0 : (j : Int) < (zs.length : Int) := by omega
      obtain ⟨z, b, q, hz, hidx, c0⟩ := (HAT.out.below hbel).get Try.underlying25 infoB1 j hlt
      have hidx2 : ∀ wx, (Instr.indexAt 25 (.slice (some ⟨w.heap.size, 0, none⟩) zs.length zs.length) (.int .i64 (j : Int))).run Try.prog wx = .ok (.pointer (some ⟨w.heap.size, j, none⟩)) wx := fun wx => by
        have := run_indexAt_slice wx 25 4 1 Try.underlying25 infoB1 w.heap.size 0 zs.length zs.length j hlt
        rwa [Nat.zero_add, Nat.mul_one] at this
      have hl := hown.1
      obtain ⟨u, hu⟩ : ∃ u, wr.cell? ⟨w.heap.size, j, none⟩ = some u := ⟨_, by rw [hown.cellAt j (by omega), List.getElem?_eq_getElem (by omega)]⟩
      have hfz := hown.frozenAt j
      have HST := hide (hown.stored j (.bool z))
      have HFI := hide (show (xs.set j (.bool z)).take (j + 1) = (zs.take (j + 1)).map bcell by
        rw [List.take_add_one, List.take_set, List.set_eq_of_length_le (by simp; omega), hfill, List.getElem?_set_self (by omega), List.take_add_one, hz]
        simp [bcell])
      have hsz := hbel.size
      clear hown hfill hz hl
      go_wp2_with fail
      go_roundw
      case rel => exact ⟨j + 1, _, by go_num, by omega, HFI.out, HST.out.1, hbel.setCell (Nat.le_refl _) _⟩
      case measure => simp [intOf]; omega
    · have hjn : j = zs.length := by omega
      have HE := hide (show xs = zs.map bcell by
        have h1 := hfill
        have h2 := hown.1
        rw [hjn] at h1
        rw [List.take_of_length_le (by omega), List.take_of_length_le (by omega)] at h1
        exact h1)
      have HO := hide hown
      clear hown hfill
      go_wp2_with fail
      go_ret
      refine ⟨w.heap.size, rfl, ?_, hbel⟩
      rw [← HE.out]
      exact HO.out

theorem bools_own {w : World} {base g n : Nat} {zs : List Bool} (h : w.ownsRow base 4 1 (.slice (some ⟨g, 0, none⟩) n n) n (zs.map bcell)) : BoolsAt w (some ⟨g, 0, none⟩) n n zs := by
  have hl := h.1
  rw [List.length_map, Nat.mul_one] at hl
  have hmx : n ≤ maxLen := by
    rcases h.2 with ⟨q, _⟩ | ⟨g', cap, cur, q, _, _, h3, h4, _⟩
    · cases q
    · omega
  refine ⟨hl, Nat.le_refl _, hmx, fun i z hz => ?_⟩
  have hi := (List.getElem?_eq_some_iff.1 hz).1
  refine ⟨g, 0, rfl, ?_⟩
  rw [Nat.zero_add, h.cellAt i (by omega), List.getElem?_map, hz]
  rfl

set_option maxHeartbeats 1000000 in
theorem eqBoolS_same (oa : Option Addr) (n cap : Nat) (ob : Option Addr) (cap' : Nat) (zs : List Bool) (hn20 : n ≤ 1048576) (w : World) (hat : BoolsAt w oa n cap zs) (hbt : BoolsAt w ob n cap' zs) :
    Calls Try.prog 38 #[.slice oa n cap, .slice ob n cap'] w fun e w' => e = .returned (.bool true) ∧ Below w.heap.size w w' := by
  have HAT := hide hat
  have HBT := hide hbt
  clear hat hbt
  go_enter Try.func38, Try.ntmps38
  go_wp2_with fail
  go_loopw [5] (fun i wr => ∃ (j : Nat), i = .int .i64 (j : Int) ∧ j ≤ n ∧ Below w.heap.size w wr) (fun i _ => n - (intOf i).toNat)
  case atStart => exact ⟨0, rfl, Nat.zero_le _, Below.refl _ _⟩
  case round =>
    obtain ⟨j, rfl, hj, hbel⟩ := hrel
    have hsz := hbel.size
    by_cases hlt : j < n
    · have j0 : (j : Int) < (n : Int) := by omega
      obtain ⟨z, b, q, hz, hidx, c0⟩ := (HAT.out.below hbel).get Try.underlying25 infoB1 j hlt
      obtain ⟨z', b', q', hz', hidx', c0'⟩ := (HBT.out.below hbel).get Try.underlying25 infoB1 j hlt
      have hee : z = z' := by rw [hz] at hz'; exact Option.some.inj hz'
      subst hee
      clear hz hz'
      cases z
      · go_wp2_with fail
        go_quiet (fail)
        go_wp2_with fail
        go_roundw
        case rel => exact ⟨j + 1, by go_num, by omega, below_drewN hbel _⟩
        case measure => simp [intOf]; omega
      · go_wp2_with fail
        go_quiet (fail)
        go_wp2_with fail
        go_roundw
        case rel => exact ⟨j + 1, by go_num, by omega, below_drewN hbel _⟩
        case measure => simp [intOf]; omega
    · have hjn : j = n := by omega
      go_wp2_with fail
      go_ret
      exact ⟨rfl, hbel⟩

set_option maxHeartbeats 2000000 in
theorem eqItemSS_same (oa : Option Addr) (n cap : Nat) (ss : List (List (Int × Int))) (ob : Option Addr) (cap' : Nat) (hn20 : n ≤ 1048576) (hs20 : stW ss ≤ 1048576) (w : World) (hat : StsAt w oa n cap ss) (hbt : StsAt w ob n cap' ss) :
    Calls Try.prog 37 #[.slice oa n cap, .slice ob n cap'] w fun e w' => e = .returned (.bool true) ∧ Below w.heap.size w w' := by
  have HAT := hide hat
  have HBT := hide hbt
  have HS20 := hide hs20
  clear hat hbt hs20
  go_enter Try.func37, Try.ntmps37
  go_wp2_with fail
  go_loopw [5] (fun i wr => ∃ (j : Nat), i = .int .i64 (j : Int) ∧ j ≤ n ∧ Below w.heap.size w wr) (fun i _ => n - (intOf i).toNat)
  case atStart => exact ⟨0, rfl, Nat.zero_le _, Below.refl _ _⟩
  case round =>
    obtain ⟨j, rfl, hj, hbel⟩ := hrel
    have hsz := hbel.size
    by_cases hlt : j < n
    · have j0 : (j : Int) < (n : Int) := by omega
      obtain ⟨s, b, q, xa, xc, hs, hidx, hc, hit⟩ := (HAT.out.below hbel).get Try.underlying24 infoSS1 j hlt
      obtain ⟨s', b', q', xa', xc', hs', hidx', hc', hit'⟩ := (HBT.out.below hbel).get Try.underlying24 infoSS1 j hlt
      have hee : s = s' := by rw [hs] at hs'; exact Option.some.inj hs'
      subst hee
      have hsl : s.length ≤ 1048576 := Nat.le_trans (stW_mem (List.mem_of_getElem? hs)) HS20.out
      have hb := cell_lt hc
      have hb' := cell_lt hc'
      have HC := hide (fun (w2 : World) (hb2 : Below wr.heap.size wr w2) => eqItemS_same xa s.length xc s xa' xc' hsl w2 (hit.below hb2) (hit'.below hb2))
      clear hs hs' hit hit'
      go_wp2_with fail
      refine wp_region_in (F := fun w' => Below wr.heap.size wr w') (by kernel_rfl) (by kernel_rfl) (Below.refl _ _).drew ?_
      have hne : Nonempty (InW (fun w' => Below wr.heap.size wr w')) := ⟨⟨_, Below.refl _ _⟩⟩
      have k0 : ∀ m : InW (fun w' => Below wr.heap.size wr w'), m.w.cell? ⟨b, q, none⟩ = some (.slice xa s.length xc) := fun m => (m.h.cell hb).trans hc
      have k1 : ∀ m : InW (fun w' => Below wr.heap.size wr w'), m.w.cell? ⟨b', q', none⟩ = some (.slice xa' s.length xc') := fun m => (m.h.cell hb').trans hc'
      repeat (go_big_quiet_step (first | (go_at_call 68; refine (HC.out _ (InW.h _)).mono ?_; rintro e' w2 ⟨rfl, hb2⟩; exact ⟨rfl, ⟨w2, Below.trans (InW.h _) (hb2.mono (Below.size (InW.h (F := fun w' => Below wr.heap.size wr w') ‹_›)))⟩, rfl⟩)))
      refine wpQuiet_nil ?_
      intro _ hw'
      obtain ⟨nq, hw''⟩ := hw'
      subst hw''
      have hb3 := hbel.trans (nq.h.mono hsz)
      generalize nq.w = w2 at hb3 ⊢
      clear hne k0 k1 hc hc'
      go_wp2_with fail
      go_roundw
      case rel => exact ⟨j + 1, by go_num, by omega, hb3⟩
      case measure => simp [intOf]; omega
    · have hjn : j = n := by omega
      go_wp2_with fail
      go_ret
      exact ⟨rfl, hbel⟩

end Go.Proofs.Ytckkfjmjcknjdaa
