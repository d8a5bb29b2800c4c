/-
  Logs: sized, copied, compared, marked by the laws.
  Walks of chapter 6: LogOk, LogLast of the program and of the specification.
-/
import Derived.Test.YthbgklmnmoclhaaGreatDoorLog1
namespace Go.Proofs.YthbgklmnmoclhaaGreatDoor
open Go.RowKit P1 P9 K
set_option linter.unusedVariables false
set_option linter.unusedSimpArgs false

/-- A log as a value. -/
abbrev lval (s u : Int) (v : Value) : Value := .agg #[.int .i64 s, .int .i64 u, v]

/-- What is made of a log's copy: the row is the call's own. -/
def ToLog (w : World) (s u : Int) (n : Nat) (es : List EntV) (e : Ending) (w' : World) : Prop :=
  ∃ g, e = .returned (lval s u (.slice (some ⟨g, 0, none⟩) n n)) ∧ w'.ownsRow w.heap.size 111 3 (.slice (some ⟨g, 0, none⟩) n n) n (es.flatMap ecells) ∧ Below w.heap.size w w'

set_option maxHeartbeats 1000000 in
theorem eqLog_same (s u : Int) (oa : Option Addr) (n cap : Nat) (ob : Option Addr) (cap' : Nat) (es : List EntV) (hn20 : n ≤ 1048576) (w : World) (hat : EntsAt w oa n cap es) (hbt : EntsAt w ob n cap' es) :
    Calls Tryz.prog 28 #[lval s u (.slice oa n cap), lval s u (.slice ob n cap')] w fun e w' => e = .returned (.bool true) ∧ Below w.heap.size w w' := by
  have hb0 := ((Below.refl w.heap.size w).alloc (Nat.le_refl _) (.cells #[.int .i64 s, .int .i64 u, .slice oa n cap] 28)).alloc (by simp) (.cells #[.int .i64 s, .int .i64 u, .slice ob n cap'] 28)
  have HE := hide (eqEntryS_same oa n cap ob cap' es hn20 _ (hat.below hb0) (hbt.below hb0))
  have HB0 := hide hb0
  clear hat hbt hb0
  go_enter Tryz.func28, Tryz.ntmps28
  go_wp2_with fail
  refine HE.out.mono ?_
  rintro e w1 ⟨rfl, hb1⟩
  go_wp2_with fail
  go_ret
  exact ⟨rfl, HB0.out.trans (hb1.mono (by simp; omega))⟩

theorem own_oneCell6 {w : World} {base : Nat} {e : TypeId} {size : Nat} {v : Value} {n : Nat} {xs : List Value} (h : w.ownsRow base e size v n xs) : v.oneCell' = true := by
  rcases h.2 with ⟨rfl, rfl⟩ | ⟨g, cap, cur, rfl, _⟩ <;> simp [Value.oneCell']

set_option maxHeartbeats 1000000 in
theorem markLog_any (s u : Int) (v : Value) (n base k : Nat) (hn : n ≤ 1048576) (hk : k ≤ 1000000) (w : World) (es : List EntV) (hown : w.ownsRow base 111 3 v n (es.flatMap ecells)) :
    Calls Tryz.prog 32 #[lval s u v, .int .i64 (k : Int)] w fun e w' => e = .returned (.int .i64 ((k + 3 * n : Nat) : Int)) ∧ w'.ownsRow base 111 3 v n ((marksE k n).flatMap ecells) ∧ w.grownBy w' v.ownBlock := by
  have hv := own_oneCell6 hown
  have HM := hide (markEntryS_any v n base k hn hk _ es (hown.alloc (.cells #[.int .i64 s, .int .i64 u, v] 28)))
  clear hown
  go_enter Tryz.func32, Tryz.ntmps32
  go_wp2_with fail
  refine HM.out.mono ?_
  rintro e w2 ⟨rfl, ho2, hg2⟩
  have HO2 := hide ho2
  have HG2 := hide hg2
  clear ho2 hg2
  go_wp2_with fail
  go_ret
  exact ⟨by go_num, HO2.out, grown_trans (World.grownBy_alloc _ _ _) HG2.out⟩

set_option maxHeartbeats 1000000 in
theorem heldLog_any (s u : Int) (oa : Option Addr) (n cap k : Nat) (hn : n ≤ 1048576) (hk : k ≤ 1000000) (w : World) (hat : EntsAt w oa n cap (marksE k n)) :
    Calls Tryz.prog 34 #[lval s u (.slice oa n cap), .int .i64 (k : Int)] w fun e w' => e = .returned (.int .i64 ((k + 3 * n : Nat) : Int)) ∧ Below w.heap.size w w' := by
  have hb0 := (Below.refl w.heap.size w).alloc (Nat.le_refl _) (.cells #[.int .i64 s, .int .i64 u, .slice oa n cap] 28)
  have HH := hide (heldEntryS_any oa n cap k hn hk _ (hat.below hb0))
  have HB0 := hide hb0
  clear hat hb0
  have g : ¬ ((k + 3 * n : Nat) : Int) < 0 := by omega
  go_enter Tryz.func34, Tryz.ntmps34
  go_wp2_with fail
  refine HH.out.mono ?_
  rintro e w1 ⟨rfl, hb1⟩
  go_wp2_with fail
  go_ret
  exact ⟨by go_num, HB0.out.trans (hb1.mono (by simp))⟩

end Go.Proofs.YthbgklmnmoclhaaGreatDoor

namespace Go.Proofs.YthbgklmnmoclhaaGreatDoor
open Go.RowKit P1 P9 K
set_option linter.unusedVariables false
set_option linter.unusedSimpArgs false

/-- A log as a value. -/
abbrev lgv (s u : Int) (v : Value) : Value := .agg #[.int .i64 s, .int .i64 u, v]

/-- Entries that are right, their terms never falling. -/
def upE : Int → List EntV → Bool
  | _, [] => true
  | t, e :: r => e.ok && (!decide (e.term < t) && upE e.term r)
theorem upE_cons (t : Int) (e : EntV) (r : List EntV) : upE t (e :: r) = (e.ok && (!decide (e.term < t) && upE e.term r)) := rfl

def lgHd (s u : Int) (n : Nat) : Bool := decide (0 ≤ s ∧ s ≤ 1000000 ∧ 0 ≤ u ∧ u ≤ 100000 ∧ n ≤ 60 ∧ s + n ≤ 1000000)
def lgOk (s u : Int) (es : List EntV) : Bool := lgHd s u es.length && upE u es

theorem drop_at6 {es : List EntV} {j : Nat} {f : EntV} (h : es[j]? = some f) : es.drop j = f :: es.drop (j + 1) := by
  obtain ⟨hlt, he⟩ := List.getElem?_eq_some_iff.1 h
  rw [List.drop_eq_getElem_cons hlt, he]

set_option maxHeartbeats 2000000 in
theorem implLogOk_any (s u : Int) (oa : Option Addr) (n cap : Nat) (es : List EntV) (w : World) (hat : EntsAt w oa n cap es) (hw : ∀ f ∈ es, f.data.size ≤ 1048576) :
    Calls Tryz.prog 116 #[lgv s u (.slice oa n cap)] w fun e w' => e = .returned (.bool (lgOk s u es)) ∧ Below w.heap.size w w' := by
  have hb0 := (Below.refl w.heap.size w).alloc (Nat.le_refl _) (.cells #[.int .i64 s, .int .i64 u, .slice oa n cap] 28)
  have HAT := hide hat
  have HW := hide hw
  have HB0 := hide hb0
  have hn := hat.len
  clear hat hw hb0
  unfold lgOk
  rw [hn]
  have HN := hide hn
  clear hn
  by_cases c1 : 0 ≤ s ∧ s ≤ 1000000
  · obtain ⟨s0, s1⟩ := c1
    by_cases c2 : 0 ≤ u ∧ u ≤ 100000
    · obtain ⟨u0, u1⟩ := c2
      by_cases c3 : n ≤ 60
      · have n0 : (n : Int) ≤ 60 := by omega
        by_cases c4 : s + n ≤ 1000000
        · have hv : lgHd s u n = true := by simp [lgHd]; omega
          rw [hv, Bool.true_and]
          clear hv
          go_enter Tryz.func116, Tryz.ntmps116
          go_wp2_with (go_at_call 75; refine (within_yes _ _ _ (by omega) (by omega) _).mono ?_; rintro e w1 ⟨rfl, rfl⟩)
          go_loopw [34, 3] (fun i l wr => ∃ (j : Nat) (t : Int), i = .int .i64 (j : Int) ∧ l = .int .i64 t ∧ j ≤ n ∧ upE t (es.drop j) = upE u es ∧ Below w.heap.size w wr) (fun i _ _ => n - (intOf i).toNat)
          case atStart => exact ⟨0, u, rfl, rfl, Nat.zero_le _, by simp, HB0.out⟩
          case round =>
            obtain ⟨j, t, rfl, rfl, hj, hup, hbel⟩ := hrel
            by_cases hlt : j < n
            · have j0 : (j : Int) < (n : Int) := by omega
              obtain ⟨f, b, q, hf, hidx, hb, d0, d1, d2⟩ := (HAT.out.below hbel).get3 Tryz.underlying26 infoIE j hlt
              have hEO := hide (implEntryOk_any f (HW.out f (List.mem_of_getElem? hf)))
              unfold eval at hEO
              rw [drop_at6 hf, upE_cons] at hup
              have hbA := hbel.alloc hbel.size (.cells #[.int .i64 f.term, .int .i64 f.kind, .string f.data] 111)
              have HBA := hide hbA
              have hsz := hbel.size
              clear hf hbel hbA
              cases hok : f.ok with
              | false =>
                rw [hok, Bool.false_and] at hup
                have HU := hide hup
                have HK := hide hok
                clear hup hok
                go_wp2_with (go_at_call 130; refine (hEO.out _).mono ?_; rw [HK.out]; rintro e w2 ⟨rfl, hb2⟩)
                go_ret
                exact ⟨by rw [← HU.out]; rfl, HBA.out.trans (hb2.mono (by simp; omega))⟩
              | true =>
                rw [hok, Bool.true_and] at hup
                have HK := hide hok
                clear hok
                by_cases ct : f.term < t
                · have gt : decide (f.term < t) = true := by simpa using ct
                  rw [gt, Bool.not_true, Bool.false_and] at hup
                  have HU := hide hup
                  clear hup gt
                  go_wp2_with (go_at_call 130; refine (hEO.out _).mono ?_; rw [HK.out]; rintro e w2 ⟨rfl, hb2⟩; have y0 : w2.cell? ⟨wr.heap.size, 0, none⟩ = some (.int .i64 f.term) := (hb2.cell (by simp)).trans (by simp); have HB2 := hide hb2; clear hb2)
                  go_ret
                  exact ⟨by rw [← HU.out]; rfl, HBA.out.trans (HB2.out.mono (by simp; omega))⟩
                · have gt : decide (f.term < t) = false := by simpa using ct
                  rw [gt, Bool.not_false, Bool.true_and] at hup
                  have HU := hide hup
                  clear hup
                  go_wp2_with (go_at_call 130; refine (hEO.out _).mono ?_; rw [HK.out]; rintro e w2 ⟨rfl, hb2⟩; have y0 : w2.cell? ⟨wr.heap.size, 0, none⟩ = some (.int .i64 f.term) := (hb2.cell (by simp)).trans (by simp); have HB2 := hide hb2; clear hb2)
                  go_roundw
                  case rel => exact ⟨j + 1, f.term, by go_num, rfl, by omega, HU.out, HBA.out.trans (HB2.out.mono (by simp; omega))⟩
                  case measure => simp [intOf]; omega
            · have hjn : j = n := by omega
              have HU := hide (show upE u es = true by
                rw [← hup, hjn, ← HN.out, List.drop_length]
                rfl)
              clear hup
              go_wp2_with fail
              go_ret
              exact ⟨by rw [HU.out]; rfl, hbel⟩
        · have hv : lgHd s u n = false := by simp [lgHd]; omega
          rw [hv, Bool.false_and]
          clear hv
          go_enter Tryz.func116, Tryz.ntmps116
          go_wp2_with (go_at_call 75; refine (within_yes _ _ _ (by omega) (by omega) _).mono ?_; rintro e w1 ⟨rfl, rfl⟩)
          go_ret
          exact ⟨rfl, HB0.out⟩
      · have hv : lgHd s u n = false := by simp [lgHd]; omega
        have g3 : ¬ (n : Int) ≤ 60 := by omega
        rw [hv, Bool.false_and]
        clear hv
        go_enter Tryz.func116, Tryz.ntmps116
        go_wp2_with (go_at_call 75; refine (within_yes _ _ _ (by omega) (by omega) _).mono ?_; rintro e w1 ⟨rfl, rfl⟩)
        go_ret
        exact ⟨rfl, HB0.out⟩
    · have hv : lgHd s u n = false := by simp [lgHd]; omega
      rw [hv, Bool.false_and]
      clear hv
      go_enter Tryz.func116, Tryz.ntmps116
      go_wp2_with (go_at_call 75; first | (refine (within_yes _ _ _ (by omega) (by omega) _).mono ?_; rintro e w1 ⟨rfl, rfl⟩) | (refine (within_no _ _ _ (by omega) _).mono ?_; rintro e w1 ⟨rfl, rfl⟩))
      go_ret
      exact ⟨rfl, HB0.out⟩
  · have hv : lgHd s u n = false := by simp [lgHd]; omega
    rw [hv, Bool.false_and]
    clear hv
    go_enter Tryz.func116, Tryz.ntmps116
    go_wp2_with (go_at_call 75; refine (within_no _ _ _ (by omega) _).mono ?_; rintro e w1 ⟨rfl, rfl⟩)
    go_ret
    exact ⟨rfl, HB0.out⟩

set_option maxHeartbeats 2000000 in
theorem specLogOk_any (s u : Int) (oa : Option Addr) (n cap : Nat) (es : List EntV) (w : World) (hat : EntsAt w oa n cap es) (hw : ∀ f ∈ es, f.data.size ≤ 1048576) :
    Calls Tryz.prog 42 #[lgv s u (.slice oa n cap)] w fun e w' => e = .returned (.bool (lgOk s u es)) ∧ Below w.heap.size w w' := by
  have hb0 := (Below.refl w.heap.size w).alloc (Nat.le_refl _) (.cells #[.int .i64 s, .int .i64 u, .slice oa n cap] 28)
  have HAT := hide hat
  have HW := hide hw
  have HB0 := hide hb0
  have hn := hat.len
  clear hat hw hb0
  unfold lgOk
  rw [hn]
  have HN := hide hn
  clear hn
  by_cases c1 : 0 ≤ s ∧ s ≤ 1000000
  · obtain ⟨s0, s1⟩ := c1
    by_cases c2 : 0 ≤ u ∧ u ≤ 100000
    · obtain ⟨u0, u1⟩ := c2
      by_cases c3 : n ≤ 60
      · have n0 : (n : Int) ≤ 60 := by omega
        by_cases c4 : s + n ≤ 1000000
        · have hv : lgHd s u n = true := by simp [lgHd]; omega
          rw [hv, Bool.true_and]
          clear hv
          go_enter Tryz.func42, Tryz.ntmps42
          go_wp2_with (go_at_call 37; refine (l01In_yes _ _ _ (by omega) (by omega) _).mono ?_; rintro e w1 ⟨rfl, rfl⟩)
          go_loopw [4, 3] (fun i l wr => ∃ (j : Nat) (t : Int), i = .int .i64 (j : Int) ∧ l = .int .i64 t ∧ j ≤ n ∧ upE t (es.drop j) = upE u es ∧ wr.cell? ⟨w.heap.size, 2, none⟩ = some (.slice oa n cap) ∧ w.heap.size < wr.heap.size ∧ Below w.heap.size w wr) (fun i _ _ => n - (intOf i).toNat)
          case atStart => exact ⟨0, u, rfl, rfl, Nat.zero_le _, by simp, by simp, by simp, HB0.out⟩
          case round =>
            obtain ⟨j, t, rfl, rfl, hj, hup, hce, hlt0, hbel⟩ := hrel
            by_cases hlt : j < n
            · have j0 : (j : Int) < (n : Int) := by omega
              obtain ⟨f, b, q, hf, hidx, hb, d0, d1, d2⟩ := (HAT.out.below hbel).get3 Tryz.underlying26 infoIE j hlt
              have hEO := hide (specEntryOk_any f (HW.out f (List.mem_of_getElem? hf)))
              unfold eval at hEO
              rw [drop_at6 hf, upE_cons] at hup
              have HBL := hide hbel
              have hsz := hbel.size
              clear hf hbel
              cases hok : f.ok with
              | false =>
                rw [hok, Bool.false_and] at hup
                have HU := hide hup
                have HK := hide hok
                clear hup hok
                go_wp2_with (go_at_call 64; refine (hEO.out _).mono ?_; rw [HK.out]; rintro e w2 ⟨rfl, hb2⟩)
                go_ret
                exact ⟨by rw [← HU.out]; rfl, HBL.out.trans (hb2.mono (by omega))⟩
              | true =>
                rw [hok, Bool.true_and] at hup
                have HK := hide hok
                clear hok
                by_cases ct : f.term < t
                · have gt : decide (f.term < t) = true := by simpa using ct
                  rw [gt, Bool.not_true, Bool.false_and] at hup
                  have HU := hide hup
                  clear hup gt
                  go_wp2_with (go_at_call 64; refine (hEO.out _).mono ?_; rw [HK.out]; rintro e w2 ⟨rfl, hb2⟩; have y0 := (hb2.cell hb).trans d0; have y1 := (hb2.cell hlt0).trans hce; have HB2 := hide hb2; clear hb2)
                  go_ret
                  exact ⟨by rw [← HU.out]; rfl, HBL.out.trans (HB2.out.mono (by omega))⟩
                · have gt : decide (f.term < t) = false := by simpa using ct
                  rw [gt, Bool.not_false, Bool.true_and] at hup
                  have HU := hide hup
                  clear hup
                  go_wp2_with (go_at_call 64; refine (hEO.out _).mono ?_; rw [HK.out]; rintro e w2 ⟨rfl, hb2⟩; have y0 := (hb2.cell hb).trans d0; have y1 := (hb2.cell hlt0).trans hce; have z1 := Nat.lt_of_lt_of_le hlt0 hb2.size; have HB2 := hide hb2; clear hb2)
                  go_roundw
                  case rel => exact ⟨j + 1, f.term, by go_num, rfl, by omega, HU.out, y1, z1, HBL.out.trans (HB2.out.mono (by omega))⟩
                  case measure => simp [intOf]; omega
            · have hjn : j = n := by omega
              have HU := hide (show upE u es = true by
                rw [← hup, hjn, ← HN.out, List.drop_length]
                rfl)
              clear hup
              go_wp2_with fail
              go_ret
              exact ⟨by rw [HU.out]; rfl, hbel⟩
        · have hv : lgHd s u n = false := by simp [lgHd]; omega
          rw [hv, Bool.false_and]
          clear hv
          go_enter Tryz.func42, Tryz.ntmps42
          go_wp2_with (go_at_call 37; refine (l01In_yes _ _ _ (by omega) (by omega) _).mono ?_; rintro e w1 ⟨rfl, rfl⟩)
          go_ret
          exact ⟨rfl, HB0.out⟩
      · have hv : lgHd s u n = false := by simp [lgHd]; omega
        have g3 : ¬ (n : Int) ≤ 60 := by omega
        rw [hv, Bool.false_and]
        clear hv
        go_enter Tryz.func42, Tryz.ntmps42
        go_wp2_with (go_at_call 37; refine (l01In_yes _ _ _ (by omega) (by omega) _).mono ?_; rintro e w1 ⟨rfl, rfl⟩)
        go_ret
        exact ⟨rfl, HB0.out⟩
    · have hv : lgHd s u n = false := by simp [lgHd]; omega
      rw [hv, Bool.false_and]
      clear hv
      go_enter Tryz.func42, Tryz.ntmps42
      go_wp2_with (go_at_call 37; first | (refine (l01In_yes _ _ _ (by omega) (by omega) _).mono ?_; rintro e w1 ⟨rfl, rfl⟩) | (refine (l01In_no _ _ _ (by omega) _).mono ?_; rintro e w1 ⟨rfl, rfl⟩))
      go_ret
      exact ⟨rfl, HB0.out⟩
  · have hv : lgHd s u n = false := by simp [lgHd]; omega
    rw [hv, Bool.false_and]
    clear hv
    go_enter Tryz.func42, Tryz.ntmps42
    go_wp2_with (go_at_call 37; refine (l01In_no _ _ _ (by omega) _).mono ?_; rintro e w1 ⟨rfl, rfl⟩)
    go_ret
    exact ⟨rfl, HB0.out⟩

/-- The last index and its term. -/
def lastI (s : Int) (n : Nat) : Int := if n = 0 then s else wrap64 (s + n)
def lastT : Int → List EntV → Int
  | u, [] => u
  | _, e :: r => lastT e.term r

theorem lastT_at : ∀ (es : List EntV) (u : Int) (m : Nat) (f : EntV), es.length = m + 1 → es[m]? = some f → lastT u es = f.term
  | [], _, _, _, h, _ => by simp at h
  | [e], _, m, f, h, hf => by
    obtain rfl : m = 0 := by simpa using h.symm
    cases hf
    rfl
  | e :: e' :: r, u, m, f, h, hf => by
    obtain ⟨k, rfl⟩ : ∃ k, m = k + 1 := ⟨m - 1, by simp at h; omega⟩
    rw [List.getElem?_cons_succ] at hf
    exact lastT_at (e' :: r) e.term k f (by simpa using h) hf

set_option maxHeartbeats 1000000 in
theorem implLogLast_any (s u : Int) (oa : Option Addr) (n cap : Nat) (es : List EntV) (w : World) (hat : EntsAt w oa n cap es) :
    Calls Tryz.prog 115 #[lgv s u (.slice oa n cap)] w fun e w' => e = .returned (.tuple #[.int .i64 (lastI s n), .int .i64 (lastT u es)]) ∧ Below w.heap.size w w' := by
  have hb0 := (Below.refl w.heap.size w).alloc (Nat.le_refl _) (.cells #[.int .i64 s, .int .i64 u, .slice oa n cap] 28)
  have hn := hat.len
  have hr := hat.room
  have hm := hat.most
  unfold maxLen at hm
  match n, hn, hat with
  | 0, hn, hat =>
    obtain rfl := List.eq_nil_of_length_eq_zero hn
    have HB0 := hide hb0
    clear hb0 hat hn
    rw [show lastI s 0 = s from rfl, show lastT u [] = u from rfl]
    go_enter Tryz.func115, Tryz.ntmps115
    go_wp2_with fail
    go_quiet (fail)
    go_wp2_with fail
    go_ret2
    exact ⟨rfl, by first | exact HB0.out | exact below_drewN HB0.out _ | exact HB0.out.drew⟩
  | m + 1, hn, hat =>
    obtain ⟨f, b, q, hf, hidx, hb, d0, d1, d2⟩ := (hat.below hb0).get3 Tryz.underlying26 infoIE m (Nat.lt_succ_self m)
    have e1 : (((m + 1 : Nat) : Int)) = (m : Int) + 1 := by omega
    have hT := lastT_at es u m f hn hf
    have hI : lastI s (m + 1) = wrap64 (s + ((m : Int) + 1)) := by rw [← e1]; rfl
    rw [hT, hI]
    have HB0 := hide hb0
    clear hb0 hat hn hT hI hf hb
    go_enter Tryz.func115, Tryz.ntmps115
    go_wp2_with fail
    go_quiet (fail)
    go_wp2_with fail
    go_ret2
    exact ⟨rfl, by first | exact HB0.out | exact below_drewN HB0.out _ | exact HB0.out.drew⟩

end Go.Proofs.YthbgklmnmoclhaaGreatDoor
