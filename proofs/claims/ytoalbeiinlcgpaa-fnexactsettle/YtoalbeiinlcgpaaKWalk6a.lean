/-
  Walks and mathematics of Walk6a.
-/
import Derived.Test.YtoalbeiinlcgpaaKLog1
namespace Go.Proofs.Ytoalbeiinlcgpaa
open Go.RowKit P1 P9 K
set_option linter.unusedVariables false
set_option linter.unusedSimpArgs false

abbrev lgv (s u : Int) (v : Value) : Value := .agg #[.int .i64 s, .int .i64 u, v]

def upE : Int → List EntV → Bool
  | _, [] => true
  | t, e :: r => e.ok && (!decide (e.term < t) && upE e.term r)

theorem upE_cons (t : Int) (e : EntV) (r : List EntV) : upE t (e :: r) = (e.ok && (!decide (e.term < t) && upE e.term r)) := rfl

def lgHd (s u : Int) (n : Nat) : Bool := decide (0 ≤ s ∧ s ≤ 1000000 ∧ 0 ≤ u ∧ u ≤ 100000 ∧ n ≤ 60 ∧ s + n ≤ 1000000)

def lgOk (s u : Int) (es : List EntV) : Bool := lgHd s u es.length && upE u es

theorem drop_at6 {es : List EntV} {j : Nat} {f : EntV} (h : es[j]? = some f) : es.drop j = f :: es.drop (j + 1) := by
  obtain ⟨hlt, he⟩ := List.getElem?_eq_some_iff.1 h
  rw [List.drop_eq_getElem_cons hlt, he]

set_option maxHeartbeats 2000000 in
theorem implLogOk_any (s u : Int) (oa : Option Addr) (n cap : Nat) (es : List EntV) (w : World) (hat : EntsAt w oa n cap es) (hw : ∀ f ∈ es, f.data.size ≤ 1048576) :
    Calls Try.prog 34 #[lgv s u (.slice oa n cap)] w fun e w' => e = .returned (.bool (lgOk s u es)) ∧ Below w.heap.size w w' := by
  have hb0 := (Below.refl w.heap.size w).alloc (Nat.le_refl _) (.cells #[.int .i64 s, .int .i64 u, .slice oa n cap] 33)
  have HAT := hide hat
  have HW := hide hw
  have HB0 := hide hb0
  have hn := hat.len
  clear hat hw hb0
  unfold lgOk
  rw [hn]
  have HN := hide hn
  clear hn
  by_cases c1 : 0 ≤ s ∧ s ≤ 1000000
  · obtain ⟨s0, s1⟩ := c1
    by_cases c2 : 0 ≤ u ∧ u ≤ 100000
    · obtain ⟨u0, u1⟩ := c2
      by_cases c3 : n ≤ 60
      · have n0 : (n : Int) ≤ 60 := by omega
        by_cases c4 : s + n ≤ 1000000
        · have hv : lgHd s u n = true := by simp [lgHd]; omega
          rw [hv, Bool.true_and]
          clear hv
          go_enter Try.func34, Try.ntmps34
          go_wp2_with (go_at_call 32; refine (within_yes _ _ _ (by omega) (by omega) _).mono ?_; rintro e w1 ⟨rfl, rfl⟩)
          go_loopw [34, 3] (fun i l wr => ∃ (j : Nat) (t : Int), i = .int .i64 (j : Int) ∧ l = .int .i64 t ∧ j ≤ n ∧ upE t (es.drop j) = upE u es ∧ Below w.heap.size w wr) (fun i _ _ => n - (intOf i).toNat)
          case atStart => exact ⟨0, u, rfl, rfl, Nat.zero_le _, by simp, HB0.out⟩
          case round =>
            obtain ⟨j, t, rfl, rfl, hj, hup, hbel⟩ := hrel
            by_cases hlt : j < n
            · have j0 : (j : Int) < (n : Int) := by omega
              obtain ⟨f, b, q, hf, hidx, hb, d0, d1, d2⟩ := (HAT.out.below hbel).get3 Try.underlying31 infoIE j hlt
              have hEO := hide (implEntryOk_any f (HW.out f (List.mem_of_getElem? hf)))
              unfold eval at hEO
              rw [drop_at6 hf, upE_cons] at hup
              have hbA := hbel.alloc hbel.size (.cells #[.int .i64 f.term, .int .i64 f.kind, .string f.data] 75)
              have HBA := hide hbA
              have hsz := hbel.size
              clear hf hbel hbA
              cases hok : f.ok with
              | false =>
                rw [hok, Bool.false_and] at hup
                have HU := hide hup
                have HK := hide hok
                clear hup hok
                go_wp2_with (go_at_call 57; refine (hEO.out _).mono ?_; rw [HK.out]; rintro e w2 ⟨rfl, hb2⟩)
                go_ret
                exact ⟨by rw [← HU.out]; rfl, HBA.out.trans (hb2.mono (by simp; omega))⟩
              | true =>
                rw [hok, Bool.true_and] at hup
                have HK := hide hok
                clear hok
                by_cases ct : f.term < t
                · have gt : decide (f.term < t) = true := by simpa using ct
                  rw [gt, Bool.not_true, Bool.false_and] at hup
                  have HU := hide hup
                  clear hup gt
                  go_wp2_with (go_at_call 57; refine (hEO.out _).mono ?_; rw [HK.out]; rintro e w2 ⟨rfl, hb2⟩; have y0 : w2.cell? ⟨wr.heap.size, 0, none⟩ = some (.int .i64 f.term) := (hb2.cell (by simp)).trans (by simp); have HB2 := hide hb2; clear hb2)
                  go_ret
                  exact ⟨by rw [← HU.out]; rfl, HBA.out.trans (HB2.out.mono (by simp; omega))⟩
                · have gt : decide (f.term < t) = false := by simpa using ct
                  rw [gt, Bool.not_false, Bool.true_and] at hup
                  have HU := hide hup
                  clear hup
                  go_wp2_with (go_at_call 57; refine (hEO.out _).mono ?_; rw [HK.out]; rintro e w2 ⟨rfl, hb2⟩; have y0 : w2.cell? ⟨wr.heap.size, 0, none⟩ = some (.int .i64 f.term) := (hb2.cell (by simp)).trans (by simp); have HB2 := hide hb2; clear hb2)
                  go_roundw
                  case rel => exact ⟨j + 1, f.term, by go_num, rfl, by omega, HU.out, HBA.out.trans (HB2.out.mono (by simp; omega))⟩
                  case measure => simp [intOf]; omega
            · have hjn : j = n := by omega
              have HU := hide (show upE u es = true by
                rw [← hup, hjn, ← HN.out, List.drop_length]
                rfl)
              clear hup
              go_wp2_with fail
              go_ret
              exact ⟨by rw [HU.out]; rfl, hbel⟩
        · have hv : lgHd s u n = false := by simp [lgHd]; omega
          rw [hv, Bool.false_and]
          clear hv
          go_enter Try.func34, Try.ntmps34
          go_wp2_with (go_at_call 32; refine (within_yes _ _ _ (by omega) (by omega) _).mono ?_; rintro e w1 ⟨rfl, rfl⟩)
          go_ret
          exact ⟨rfl, HB0.out⟩
      · have hv : lgHd s u n = false := by simp [lgHd]; omega
        have g3 : ¬ (n : Int) ≤ 60 := by omega
        rw [hv, Bool.false_and]
        clear hv
        go_enter Try.func34, Try.ntmps34
        go_wp2_with (go_at_call 32; refine (within_yes _ _ _ (by omega) (by omega) _).mono ?_; rintro e w1 ⟨rfl, rfl⟩)
        go_ret
        exact ⟨rfl, HB0.out⟩
    · have hv : lgHd s u n = false := by simp [lgHd]; omega
      rw [hv, Bool.false_and]
      clear hv
      go_enter Try.func34, Try.ntmps34
      go_wp2_with (go_at_call 32; first | (refine (within_yes _ _ _ (by omega) (by omega) _).mono ?_; rintro e w1 ⟨rfl, rfl⟩) | (refine (within_no _ _ _ (by omega) _).mono ?_; rintro e w1 ⟨rfl, rfl⟩))
      go_ret
      exact ⟨rfl, HB0.out⟩
  · have hv : lgHd s u n = false := by simp [lgHd]; omega
    rw [hv, Bool.false_and]
    clear hv
    go_enter Try.func34, Try.ntmps34
    go_wp2_with (go_at_call 32; refine (within_no _ _ _ (by omega) _).mono ?_; rintro e w1 ⟨rfl, rfl⟩)
    go_ret
    exact ⟨rfl, HB0.out⟩

set_option maxHeartbeats 2000000 in
theorem specLogOk_any (s u : Int) (oa : Option Addr) (n cap : Nat) (es : List EntV) (w : World) (hat : EntsAt w oa n cap es) (hw : ∀ f ∈ es, f.data.size ≤ 1048576) :
    Calls Try.prog 25 #[lgv s u (.slice oa n cap)] w fun e w' => e = .returned (.bool (lgOk s u es)) ∧ Below w.heap.size w w' := by
  have hb0 := (Below.refl w.heap.size w).alloc (Nat.le_refl _) (.cells #[.int .i64 s, .int .i64 u, .slice oa n cap] 33)
  have HAT := hide hat
  have HW := hide hw
  have HB0 := hide hb0
  have hn := hat.len
  clear hat hw hb0
  unfold lgOk
  rw [hn]
  have HN := hide hn
  clear hn
  by_cases c1 : 0 ≤ s ∧ s ≤ 1000000
  · obtain ⟨s0, s1⟩ := c1
    by_cases c2 : 0 ≤ u ∧ u ≤ 100000
    · obtain ⟨u0, u1⟩ := c2
      by_cases c3 : n ≤ 60
      · have n0 : (n : Int) ≤ 60 := by omega
        by_cases c4 : s + n ≤ 1000000
        · have hv : lgHd s u n = true := by simp [lgHd]; omega
          rw [hv, Bool.true_and]
          clear hv
          go_enter Try.func25, Try.ntmps25
          go_wp2_with (go_at_call 23; refine (l01In_yes _ _ _ (by omega) (by omega) _).mono ?_; rintro e w1 ⟨rfl, rfl⟩)
          go_loopw [4, 3] (fun i l wr => ∃ (j : Nat) (t : Int), i = .int .i64 (j : Int) ∧ l = .int .i64 t ∧ j ≤ n ∧ upE t (es.drop j) = upE u es ∧ wr.cell? ⟨w.heap.size, 2, none⟩ = some (.slice oa n cap) ∧ w.heap.size < wr.heap.size ∧ Below w.heap.size w wr) (fun i _ _ => n - (intOf i).toNat)
          case atStart => exact ⟨0, u, rfl, rfl, Nat.zero_le _, by simp, by simp, by simp, HB0.out⟩
          case round =>
            obtain ⟨j, t, rfl, rfl, hj, hup, hce, hlt0, hbel⟩ := hrel
            by_cases hlt : j < n
            · have j0 : (j : Int) < (n : Int) := by omega
              obtain ⟨f, b, q, hf, hidx, hb, d0, d1, d2⟩ := (HAT.out.below hbel).get3 Try.underlying31 infoIE j hlt
              have hEO := hide (specEntryOk_any f (HW.out f (List.mem_of_getElem? hf)))
              unfold eval at hEO
              rw [drop_at6 hf, upE_cons] at hup
              have HBL := hide hbel
              have hsz := hbel.size
              clear hf hbel
              cases hok : f.ok with
              | false =>
                rw [hok, Bool.false_and] at hup
                have HU := hide hup
                have HK := hide hok
                clear hup hok
                go_wp2_with (go_at_call 54; refine (hEO.out _).mono ?_; rw [HK.out]; rintro e w2 ⟨rfl, hb2⟩)
                go_ret
                exact ⟨by rw [← HU.out]; rfl, HBL.out.trans (hb2.mono (by omega))⟩
              | true =>
                rw [hok, Bool.true_and] at hup
                have HK := hide hok
                clear hok
                by_cases ct : f.term < t
                · have gt : decide (f.term < t) = true := by simpa using ct
                  rw [gt, Bool.not_true, Bool.false_and] at hup
                  have HU := hide hup
                  clear hup gt
                  go_wp2_with (go_at_call 54; refine (hEO.out _).mono ?_; rw [HK.out]; rintro e w2 ⟨rfl, hb2⟩; have y0 := (hb2.cell hb).trans d0; have y1 := (hb2.cell hlt0).trans hce; have HB2 := hide hb2; clear hb2)
                  go_ret
                  exact ⟨by rw [← HU.out]; rfl, HBL.out.trans (HB2.out.mono (by omega))⟩
                · have gt : decide (f.term < t) = false := by simpa using ct
                  rw [gt, Bool.not_false, Bool.true_and] at hup
                  have HU := hide hup
                  clear hup
                  go_wp2_with (go_at_call 54; refine (hEO.out _).mono ?_; rw [HK.out]; rintro e w2 ⟨rfl, hb2⟩; have y0 := (hb2.cell hb).trans d0; have y1 := (hb2.cell hlt0).trans hce; have z1 := Nat.lt_of_lt_of_le hlt0 hb2.size; have HB2 := hide hb2; clear hb2)
                  go_roundw
                  case rel => exact ⟨j + 1, f.term, by go_num, rfl, by omega, HU.out, y1, z1, HBL.out.trans (HB2.out.mono (by omega))⟩
                  case measure => simp [intOf]; omega
            · have hjn : j = n := by omega
              have HU := hide (show upE u es = true by
                rw [← hup, hjn, ← HN.out, List.drop_length]
                rfl)
              clear hup
              go_wp2_with fail
              go_ret
              exact ⟨by rw [HU.out]; rfl, hbel⟩
        · have hv : lgHd s u n = false := by simp [lgHd]; omega
          rw [hv, Bool.false_and]
          clear hv
          go_enter Try.func25, Try.ntmps25
          go_wp2_with (go_at_call 23; refine (l01In_yes _ _ _ (by omega) (by omega) _).mono ?_; rintro e w1 ⟨rfl, rfl⟩)
          go_ret
          exact ⟨rfl, HB0.out⟩
      · have hv : lgHd s u n = false := by simp [lgHd]; omega
        have g3 : ¬ (n : Int) ≤ 60 := by omega
        rw [hv, Bool.false_and]
        clear hv
        go_enter Try.func25, Try.ntmps25
        go_wp2_with (go_at_call 23; refine (l01In_yes _ _ _ (by omega) (by omega) _).mono ?_; rintro e w1 ⟨rfl, rfl⟩)
        go_ret
        exact ⟨rfl, HB0.out⟩
    · have hv : lgHd s u n = false := by simp [lgHd]; omega
      rw [hv, Bool.false_and]
      clear hv
      go_enter Try.func25, Try.ntmps25
      go_wp2_with (go_at_call 23; first | (refine (l01In_yes _ _ _ (by omega) (by omega) _).mono ?_; rintro e w1 ⟨rfl, rfl⟩) | (refine (l01In_no _ _ _ (by omega) _).mono ?_; rintro e w1 ⟨rfl, rfl⟩))
      go_ret
      exact ⟨rfl, HB0.out⟩
  · have hv : lgHd s u n = false := by simp [lgHd]; omega
    rw [hv, Bool.false_and]
    clear hv
    go_enter Try.func25, Try.ntmps25
    go_wp2_with (go_at_call 23; refine (l01In_no _ _ _ (by omega) _).mono ?_; rintro e w1 ⟨rfl, rfl⟩)
    go_ret
    exact ⟨rfl, HB0.out⟩

def lastI (s : Int) (n : Nat) : Int := if n = 0 then s else wrap64 (s + n)

def lastT : Int → List EntV → Int
  | u, [] => u
  | _, e :: r => lastT e.term r

theorem lastT_at : ∀ (es : List EntV) (u : Int) (m : Nat) (f : EntV), es.length = m + 1 → es[m]? = some f → lastT u es = f.term
  | [], _, _, _, h, _ => by simp at h
  | [e], _, m, f, h, hf => by
    obtain rfl : m = 0 := by simpa using h.symm
    cases hf
    rfl
  | e :: e' :: r, u, m, f, h, hf => by
    obtain ⟨k, rfl⟩ : ∃ k, m = k + 1 := ⟨m - 1, by simp at h; omega⟩
    rw [List.getElem?_cons_succ] at hf
    exact lastT_at (e' :: r) e.term k f (by simpa using h) hf

set_option maxHeartbeats 1000000 in
theorem implLogLast_any (s u : Int) (oa : Option Addr) (n cap : Nat) (es : List EntV) (w : World) (hat : EntsAt w oa n cap es) :
    Calls Try.prog 58 #[lgv s u (.slice oa n cap)] w fun e w' => e = .returned (.tuple #[.int .i64 (lastI s n), .int .i64 (lastT u es)]) ∧ Below w.heap.size w w' := by
  have hb0 := (Below.refl w.heap.size w).alloc (Nat.le_refl _) (.cells #[.int .i64 s, .int .i64 u, .slice oa n cap] 33)
  have hn := hat.len
  have hr := hat.room
  have hm := hat.most
  unfold maxLen at hm
  match n, hn, hat with
  | 0, hn, hat =>
    obtain rfl := List.eq_nil_of_length_eq_zero hn
    have HB0 := hide hb0
    clear hb0 hat hn
    rw [show lastI s 0 = s from rfl, show lastT u [] = u from rfl]
    go_enter Try.func58, Try.ntmps58
    go_wp2_with fail
    go_quiet (fail)
    go_wp2_with fail
    go_ret2
    exact ⟨rfl, by first | exact HB0.out | exact below_drewN HB0.out _ | exact HB0.out.drew⟩
  | m + 1, hn, hat =>
    obtain ⟨f, b, q, hf, hidx, hb, d0, d1, d2⟩ := (hat.below hb0).get3 Try.underlying31 infoIE m (Nat.lt_succ_self m)
    have e1 : (((m + 1 : Nat) : Int)) = (m : Int) + 1 := by omega
    have hT := lastT_at es u m f hn hf
    have hI : lastI s (m + 1) = wrap64 (s + ((m : Int) + 1)) := by rw [← e1]; rfl
    rw [hT, hI]
    have HB0 := hide hb0
    clear hb0 hat hn hT hI hf hb
    go_enter Try.func58, Try.ntmps58
    go_wp2_with fail
    go_quiet (fail)
    go_wp2_with fail
    go_ret2
    exact ⟨rfl, by first | exact HB0.out | exact below_drewN HB0.out _ | exact HB0.out.drew⟩

set_option maxHeartbeats 1000000 in
theorem specLogLast_any (s u : Int) (oa : Option Addr) (n cap : Nat) (es : List EntV) (w : World) (hat : EntsAt w oa n cap es) :
    Calls Try.prog 26 #[lgv s u (.slice oa n cap)] w fun e w' => e = .returned (.tuple #[.int .i64 (lastI s n), .int .i64 (lastT u es)]) ∧ Below w.heap.size w w' := by
  have hb0 := (Below.refl w.heap.size w).alloc (Nat.le_refl _) (.cells #[.int .i64 s, .int .i64 u, .slice oa n cap] 33)
  have hn := hat.len
  have hr := hat.room
  have hm := hat.most
  unfold maxLen at hm
  match n, hn, hat with
  | 0, hn, hat =>
    obtain rfl := List.eq_nil_of_length_eq_zero hn
    have HB0 := hide hb0
    clear hb0 hat hn
    rw [show lastI s 0 = s from rfl, show lastT u [] = u from rfl]
    go_enter Try.func26, Try.ntmps26
    go_wp2_with fail
    go_quiet (fail)
    go_wp2_with fail
    go_ret2
    exact ⟨rfl, by first | exact HB0.out | exact below_drewN HB0.out _ | exact HB0.out.drew⟩
  | m + 1, hn, hat =>
    obtain ⟨f, b, q, hf, hidx, hb, d0, d1, d2⟩ := (hat.below hb0).get3 Try.underlying31 infoIE m (Nat.lt_succ_self m)
    have e1 : (((m + 1 : Nat) : Int)) = (m : Int) + 1 := by omega
    have hT := lastT_at es u m f hn hf
    have hI : lastI s (m + 1) = wrap64 (s + ((m : Int) + 1)) := by rw [← e1]; rfl
    rw [hT, hI]
    have HB0 := hide hb0
    clear hb0 hat hn hT hI hf hb
    go_enter Try.func26, Try.ntmps26
    go_wp2_with fail
    go_quiet (fail)
    go_wp2_with fail
    go_ret2
    exact ⟨rfl, by first | exact HB0.out | exact below_drewN HB0.out _ | exact HB0.out.drew⟩

end Go.Proofs.Ytoalbeiinlcgpaa
