/-
  Walks of chapter 8: names of snapshots, and the number that a name tells, of the specification and of the program.
-/
import Derived.Test.YtpenpbopehbncaaDoorSnap1
import Derived.Test.YtpenpbopehbncaaDoorWalk1i
import Derived.Test.YtpenpbopehbncaaDoorWalk1j
import Derived.Test.YtpenpbopehbncaaDoorWalk5a
namespace Go.Proofs.YtpenpbopehbncaaDoor
open Go.RowKit P1 P3 P9 P11 K
set_option linter.unusedVariables false
set_option linter.unusedSimpArgs false

theorem cat_nameS (d : List UInt8) : (⟨#[115]⟩ : ByteArray) ++ ⟨d.toArray⟩ = ⟨(115 :: d).toArray⟩ := by
  apply ByteArray.ext
  simp

set_option maxHeartbeats 1000000 in
theorem specSnapName_any (n : Int) (h0 : -9223372036854775808 ≤ n) (h1 : n ≤ 9223372036854775807) (w : World) :
    Calls Tryd.prog 9 #[.int .i64 n] w fun e w' => e = .returned (.string ⟨(snName n).toArray⟩) ∧ Below w.heap.size w w' := by
  by_cases hi : 0 ≤ n ∧ n ≤ 1000000
  · obtain ⟨i0, i1⟩ := hi
    obtain ⟨N, rfl⟩ := Int.eq_ofNat_of_zero_le i0
    have R := hide (show snName (N : Int) = 115 :: Lib.decDigits N by unfold snName; rw [if_pos (snIn_iff.2 ⟨i0, i1⟩)]; rfl)
    have hr := dec_roomS N (by omega)
    have C := cat_nameS (Lib.decDigits N)
    go_enter Tryd.func9, Tryd.ntmps9
    go_wp2_with (first
      | (go_at_call 33; refine (l01In_yes _ _ _ (by omega) (by omega) _).mono ?_; rintro e w1 ⟨rfl, rfl⟩)
      | (go_at_call 34; refine (specDecimal_any (N : Int) (by omega) (by omega) _).mono ?_; rw [Lib.itoa_nonneg]; rintro e w1 ⟨rfl, hb1⟩))
    go_ret
    exact ⟨by rw [R.out]; rfl, hb1⟩
  · have R := hide (show snName n = [] by unfold snName; rw [if_neg (fun h => hi (snIn_iff.1 h))])
    go_enter Tryd.func9, Tryd.ntmps9
    go_wp2_with (go_at_call 33; refine (l01In_no _ _ _ (by omega) _).mono ?_; rintro e w1 ⟨rfl, rfl⟩)
    go_ret
    exact ⟨by rw [R.out]; rfl, Below.refl _ _⟩

set_option maxHeartbeats 1000000 in
theorem implSnapName_any (n : Int) (h0 : -9223372036854775808 ≤ n) (h1 : n ≤ 9223372036854775807) (w : World) (ht : Lib.TabIs Tryd.prog w "internal/strconv.uint64pow10" .u64 Lib.pow10Tab) :
    Calls Tryd.prog 10 #[.int .i64 n] w fun e w' => e = .returned (.string ⟨(snName n).toArray⟩) ∧ Below w.heap.size w w' := by
  have HT := hide ht
  clear ht
  by_cases hi : 0 ≤ n ∧ n ≤ 1000000
  · obtain ⟨i0, i1⟩ := hi
    obtain ⟨N, rfl⟩ := Int.eq_ofNat_of_zero_le i0
    have R := hide (show snName (N : Int) = 115 :: Lib.decDigits N by unfold snName; rw [if_pos (snIn_iff.2 ⟨i0, i1⟩)]; rfl)
    have hr := dec_roomS N (by omega)
    have C := cat_nameS (Lib.decDigits N)
    go_enter Tryd.func10, Tryd.ntmps10
    go_wp2_with (first
      | (go_at_call 35; refine (within_yes _ _ _ (by omega) (by omega) _).mono ?_; rintro e w1 ⟨rfl, rfl⟩)
      | (go_at_call 36; refine (implDecimal_any (N : Int) (by omega) (by omega) _ HT.out).mono ?_; rw [Lib.itoa_nonneg]; rintro e w1 ⟨rfl, hb1⟩))
    go_ret
    exact ⟨by rw [R.out]; rfl, hb1⟩
  · have R := hide (show snName n = [] by unfold snName; rw [if_neg (fun h => hi (snIn_iff.1 h))])
    go_enter Tryd.func10, Tryd.ntmps10
    go_wp2_with (go_at_call 35; refine (within_no _ _ _ (by omega) _).mono ?_; rintro e w1 ⟨rfl, rfl⟩)
    go_ret
    exact ⟨by rw [R.out]; rfl, Below.refl _ _⟩

theorem bl_restS (l : List UInt8) : bl ((⟨l.toArray⟩ : ByteArray).extract 1 (⟨l.toArray⟩ : ByteArray).size) = l.drop 1 := by
  unfold bl
  rw [ByteArray.data_extract, Array.toList_extract, List.extract_eq_take_drop]
  show List.take (l.length - 1) (l.drop 1) = l.drop 1
  exact List.take_of_length_le (by simp)

set_option maxHeartbeats 1000000 in
theorem l08Index_any (l : List UInt8) (hl : l.length ≤ 1048576) (w : World) :
    Calls Tryd.prog 69 #[.string ⟨l.toArray⟩] w fun e w' => e = .returned (.int .i64 (snNumber l)) ∧ Below w.heap.size w w' := by
  have hsz : (⟨l.toArray⟩ : ByteArray).size = l.length := rfl
  by_cases h2 : l.length < 2
  · have R := hide (show snNumber l = -1 by unfold snNumber; rw [if_pos h2])
    have g0 : (l.length : Int) < 2 := by omega
    go_enter Tryd.func69, Tryd.ntmps69
    go_wp2_with fail
    go_ret
    exact ⟨by rw [R.out]; rfl, Below.refl _ _⟩
  · have g0 : ¬ (l.length : Int) < 2 := by omega
    have HRD := hide (specReadDecimal_any ((⟨l.toArray⟩ : ByteArray).extract 1 (⟨l.toArray⟩ : ByteArray).size) (by rw [ByteArray.size_extract, hsz]; omega))
    rw [bl_restS] at HRD
    cases hrd : rdDec (l.drop 1) with
    | none =>
      have R := hide (show snNumber l = -1 by unfold snNumber; rw [if_neg h2, hrd])
      rw [hrd] at HRD
      go_enter Tryd.func69, Tryd.ntmps69
      go_wp2_with (go_at_call 90; refine (HRD.out _).mono ?_; unfold rdVal; rintro e w1 ⟨rfl, hb1⟩)
      go_ret
      exact ⟨by rw [R.out]; rfl, hb1⟩
    | some n =>
      rw [hrd] at HRD
      have hn := rdDec_some hrd
      have HJN := hide (specSnapName_any (n : Int) (by omega) (by omega))
      by_cases he : snName n = l
      · have R := hide (show snNumber l = (n : Int) by unfold snNumber; rw [if_neg h2, hrd]; simp only; rw [if_pos he])
        rw [he] at HJN
        clear hrd he
        go_enter Tryd.func69, Tryd.ntmps69
        go_wp2_with (first
          | (go_at_call 90; refine (HRD.out _).mono ?_; unfold rdVal; rintro e w1 ⟨rfl, hb1⟩)
          | (go_at_call 9; refine (HJN.out _).mono ?_; rintro e w2 ⟨rfl, hb2⟩))
        go_ret
        exact ⟨by rw [R.out]; rfl, hb1.trans (hb2.mono hb1.size)⟩
      · have R := hide (show snNumber l = -1 by unfold snNumber; rw [if_neg h2, hrd]; simp only; rw [if_neg he])
        have hne : (snName n == l) = false := by rw [beq_eq_false_iff_ne]; exact he
        clear hrd he
        go_enter Tryd.func69, Tryd.ntmps69
        go_wp2_with (first
          | (go_at_call 90; refine (HRD.out _).mono ?_; unfold rdVal; rintro e w1 ⟨rfl, hb1⟩)
          | (go_at_call 9; refine (HJN.out _).mono ?_; rintro e w2 ⟨rfl, hb2⟩))
        go_ret
        exact ⟨by rw [R.out]; rfl, hb1.trans (hb2.mono hb1.size)⟩

end Go.Proofs.YtpenpbopehbncaaDoor
