/-
  Walks of chapter 7: names, numbers, right journals, the frame of a term and a vote, of the specification.
-/
import Derived.Test.YthbgklmnmoclhaaDoorJour1
import Derived.Test.YthbgklmnmoclhaaDoorPack29
import Derived.Test.YthbgklmnmoclhaaDoorWalk1d
namespace Go.Proofs.YthbgklmnmoclhaaDoor
open Go.RowKit P1 P3 P9 K
set_option linter.unusedVariables false
set_option linter.unusedSimpArgs false

theorem cat_name (d : List UInt8) : (⟨#[106]⟩ : ByteArray) ++ ⟨d.toArray⟩ = ⟨(106 :: d).toArray⟩ := by
  apply ByteArray.ext
  simp

set_option maxHeartbeats 1000000 in
theorem specJournalName_any (n : Int) (h0 : -9223372036854775808 ≤ n) (h1 : n ≤ 9223372036854775807) (w : World) :
    Calls Tryd.prog 6 #[.int .i64 n] w fun e w' => e = .returned (.string ⟨(jnName n).toArray⟩) ∧ Below w.heap.size w w' := by
  by_cases hi : 0 ≤ n ∧ n ≤ 999
  · obtain ⟨i0, i1⟩ := hi
    obtain ⟨N, rfl⟩ := Int.eq_ofNat_of_zero_le i0
    have R := hide (show jnName (N : Int) = 106 :: Lib.decDigits N by unfold jnName; rw [if_pos (jnIn_iff.2 ⟨i0, i1⟩)]; rfl)
    have hr := dec_room N (by omega)
    have C := cat_name (Lib.decDigits N)
    go_enter Tryd.func6, Tryd.ntmps6
    go_wp2_with (first
      | (go_at_call 17; refine (l01In_yes _ _ _ (by omega) (by omega) _).mono ?_; rintro e w1 ⟨rfl, rfl⟩)
      | (go_at_call 18; refine (specDecimal_any (N : Int) (by omega) (by omega) _).mono ?_; rw [Lib.itoa_nonneg]; rintro e w1 ⟨rfl, hb1⟩))
    go_ret
    exact ⟨by rw [R.out]; rfl, hb1⟩
  · have R := hide (show jnName n = [] by unfold jnName; rw [if_neg (fun h => hi (jnIn_iff.1 h))])
    go_enter Tryd.func6, Tryd.ntmps6
    go_wp2_with (go_at_call 17; refine (l01In_no _ _ _ (by omega) _).mono ?_; rintro e w1 ⟨rfl, rfl⟩)
    go_ret
    exact ⟨by rw [R.out]; rfl, Below.refl _ _⟩

theorem bl_rest (l : List UInt8) : bl ((⟨l.toArray⟩ : ByteArray).extract 1 (⟨l.toArray⟩ : ByteArray).size) = l.drop 1 := by
  unfold bl
  rw [ByteArray.data_extract, Array.toList_extract, List.extract_eq_take_drop]
  show List.take (l.length - 1) (l.drop 1) = l.drop 1
  exact List.take_of_length_le (by simp)

/-- A journal as a value. -/
abbrev jval (n t v s u : Int) (x : Value) : Value := .agg #[.int .i64 n, .int .i64 t, .int .i64 v, .int .i64 s, .int .i64 u, x]

theorem ok_false_n {j : JnV} (h : j.number < 0 ∨ 999 < j.number) : j.ok = false := by
  unfold JnV.ok
  rw [show jnIn j.number = false by simp [jnIn]; omega, Bool.false_and]
theorem ok_false_h {j : JnV} (h : j.term < 0 ∨ 100000 < j.term ∨ j.vote < 0 ∨ 4 < j.vote) : j.ok = false := by
  unfold JnV.ok
  rw [show jnHd j.term j.vote = false by simp [jnHd]; omega, Bool.false_and, Bool.and_false]
theorem ok_log {j : JnV} (h : 0 ≤ j.number ∧ j.number ≤ 999) (h2 : 0 ≤ j.term ∧ j.term ≤ 100000 ∧ 0 ≤ j.vote ∧ j.vote ≤ 4) : j.ok = lgOk j.s j.u j.es := by
  unfold JnV.ok
  rw [jnIn_iff.2 h, jnHd_iff.2 h2, Bool.true_and, Bool.true_and]

set_option maxHeartbeats 2000000 in
theorem specJournalOk_any (j : JnV) (oa : Option Addr) (n cap : Nat) (w : World) (hat : EntsAt w oa n cap j.es) (hw : ∀ f ∈ j.es, f.data.size ≤ 1048576) :
    Calls Tryd.prog 22 #[jval j.number j.term j.vote j.s j.u (.slice oa n cap)] w fun e w' => e = .returned (.bool j.ok) ∧ Below w.heap.size w w' := by
  have hb0 := (Below.refl w.heap.size w).alloc (Nat.le_refl _) (.cells #[.int .i64 j.number, .int .i64 j.term, .int .i64 j.vote, .int .i64 j.s, .int .i64 j.u, .slice oa n cap] 36)
  have HLO := hide (specLogOk_any j.s j.u oa n cap j.es _ (hat.below hb0) hw)
  have HB0 := hide hb0
  clear hat hw hb0
  by_cases c1 : 0 ≤ j.number ∧ j.number ≤ 999
  · by_cases c2 : 0 ≤ j.term ∧ j.term ≤ 100000
    · by_cases c3 : 0 ≤ j.vote ∧ j.vote ≤ 4
      · have R := hide (ok_log c1 ⟨c2.1, c2.2, c3⟩)
        go_enter Tryd.func22, Tryd.ntmps22
        go_wp2_with (go_at_call 17; refine (l01In_yes _ _ _ (by omega) (by omega) _).mono ?_; rintro e w1 ⟨rfl, rfl⟩)
        refine HLO.out.mono ?_
        rintro e w1 ⟨rfl, hb1⟩
        go_wp2_with fail
        go_ret
        exact ⟨by rw [R.out]; rfl, HB0.out.trans (hb1.mono (by simp))⟩
      · have R := hide (ok_false_h (j := j) (by omega))
        go_enter Tryd.func22, Tryd.ntmps22
        go_wp2_with (go_at_call 17; first | (refine (l01In_yes _ _ _ (by omega) (by omega) _).mono ?_; rintro e w1 ⟨rfl, rfl⟩) | (refine (l01In_no _ _ _ (by omega) _).mono ?_; rintro e w1 ⟨rfl, rfl⟩))
        go_ret
        exact ⟨by rw [R.out]; rfl, HB0.out⟩
    · have R := hide (ok_false_h (j := j) (by omega))
      go_enter Tryd.func22, Tryd.ntmps22
      go_wp2_with (go_at_call 17; first | (refine (l01In_yes _ _ _ (by omega) (by omega) _).mono ?_; rintro e w1 ⟨rfl, rfl⟩) | (refine (l01In_no _ _ _ (by omega) _).mono ?_; rintro e w1 ⟨rfl, rfl⟩))
      go_ret
      exact ⟨by rw [R.out]; rfl, HB0.out⟩
  · have R := hide (ok_false_n (j := j) (by omega))
    go_enter Tryd.func22, Tryd.ntmps22
    go_wp2_with (go_at_call 17; refine (l01In_no _ _ _ (by omega) _).mono ?_; rintro e w1 ⟨rfl, rfl⟩)
    go_ret
    exact ⟨by rw [R.out]; rfl, HB0.out⟩

theorem cat_hard (x : UInt8) (a b : Nat) : (⟨#[x]⟩ : ByteArray) ++ ⟨(varB a).toArray⟩ ++ ⟨(varB b).toArray⟩ = ⟨(twoB x a b).toArray⟩ := by
  apply ByteArray.ext
  simp [twoB]

theorem bl_mk7 (l : List UInt8) : bl ⟨l.toArray⟩ = l := rfl
theorem size_mk7 (l : List UInt8) : (⟨l.toArray⟩ : ByteArray).size = l.length := rfl

theorem specFrame_in (l : List UInt8) (h1 : 1 ≤ l.length) (h2 : l.length ≤ 9000) (w : World) :
    Calls Tryd.prog 23 #[.string ⟨l.toArray⟩] w fun e w' => e = .returned (.tuple #[.string ⟨(frameL l).toArray⟩, .bool true]) ∧ Below w.heap.size w w' := by
  have h := specFrame_any ⟨l.toArray⟩ (by rw [size_mk7]; omega) w
  rw [bl_mk7, frameVal_yes h1 h2] at h
  exact h

set_option maxHeartbeats 1000000 in
theorem l07Hard_any (t v : Int) (h : 0 ≤ t ∧ t ≤ 100000 ∧ 0 ≤ v ∧ v ≤ 4) (w : World) :
    Calls Tryd.prog 25 #[.int .i64 t, .int .i64 v] w fun e w' => e = .returned (.string ⟨(hardB t v).toArray⟩) ∧ Below w.heap.size w w' := by
  obtain ⟨t0, t1, v0, v1⟩ := h
  obtain ⟨T, rfl⟩ := Int.eq_ofNat_of_zero_le t0
  obtain ⟨V, rfl⟩ := Int.eq_ofNat_of_zero_le v0
  have C := cat_hard 72 T V
  have R := hide (show hardB (T : Int) (V : Int) = frameL (twoB 72 T V) from rfl)
  have h1 := varB_room T
  have h2 := varB_room V
  have hl := twoB_length 72 T V
  have HF := hide (specFrame_in (twoB 72 T V) hl.1 (by omega))
  generalize twoB 72 T V = L at C R hl HF
  go_enter Tryd.func25, Tryd.ntmps25
  go_wp2_with fail
  refine (l01Var_any T (by omega) _).mono ?_
  rintro e w1 ⟨rfl, hb1⟩
  go_wp2_with fail
  refine (l01Var_any V (by omega) _).mono ?_
  rintro e w2 ⟨rfl, hb2⟩
  go_wp2_with fail
  refine (HF.out _).mono ?_
  rintro e w3 ⟨rfl, hb3⟩
  go_wp2_with fail
  go_ret
  exact ⟨by rw [R.out]; rfl, (hb1.trans (hb2.mono hb1.size)).trans (hb3.mono (Nat.le_trans hb1.size hb2.size))⟩

end Go.Proofs.YthbgklmnmoclhaaDoor
