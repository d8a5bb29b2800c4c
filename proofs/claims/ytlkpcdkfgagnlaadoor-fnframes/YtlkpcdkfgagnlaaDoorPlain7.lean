/-
  Frames one behind the other, cut anywhere: just the whole ones come back.
-/
import Derived.Test.YtlkpcdkfgagnlaaDoorPlain6
namespace Go.Proofs.YtlkpcdkfgagnlaaDoor
open P1 P3

/-- The frames of records, one behind the other. -/
def framesL (rs : List (List UInt8)) : List UInt8 := rs.flatMap frameL

theorem framesL_cons (r : List UInt8) (rs : List (List UInt8)) : framesL (r :: rs) = frameL r ++ framesL rs := by simp [framesL]
theorem framesL_snoc (rs : List (List UInt8)) (r : List UInt8) : framesL (rs ++ [r]) = framesL rs ++ frameL r := by simp [framesL]
theorem framesL_take_le (rs : List (List UInt8)) (m : Nat) : (framesL (rs.take m)).length ≤ (framesL rs).length := by
  have e : framesL rs = framesL (rs.take m) ++ framesL (rs.drop m) := by
    unfold framesL; rw [← List.flatMap_append, List.take_append_drop]
  rw [e, List.length_append]
  omega

theorem unframe_cut : ∀ (rs : List (List UInt8)), (∀ r ∈ rs, 1 ≤ r.length ∧ r.length ≤ 9000) → ∀ (P : List UInt8) (xs : List (List UInt8)) (k : Nat), k ≤ (framesL rs).length → UnfRel (P ++ (framesL rs).take k) P.length xs →
    ∃ m, m ≤ rs.length ∧ unframeL (P ++ (framesL rs).take k) = (xs ++ rs.take m, P.length + (framesL (rs.take m)).length) ∧ (framesL (rs.take m)).length ≤ k ∧ (m = rs.length ∨ k < (framesL (rs.take (m + 1))).length)
  | [], _, P, xs, k, hk, hu => by
    have hk0 : k = 0 := by simpa [framesL] using hk
    subst hk0
    refine ⟨0, Nat.le_refl _, ?_, Nat.zero_le _, .inl rfl⟩
    rw [hu.ended (frameAt_end (by simp))]
    simp [framesL]
  | r :: rs, h, P, xs, k, hk, hu => by
    rw [framesL_cons, List.length_append] at hk
    rw [framesL_cons] at hu ⊢
    by_cases hf : (frameL r).length ≤ k
    · have e1 : (frameL r ++ framesL rs).take k = frameL r ++ (framesL rs).take (k - (frameL r).length) := by
        rw [List.take_append, List.take_of_length_le hf]
      rw [e1, ← List.append_assoc] at hu ⊢
      have hw := frameAt_whole P r ((framesL rs).take (k - (frameL r).length)) (h r (by simp)).1 (h r (by simp)).2
      have hn := hu.next hw
      obtain ⟨m, m1, m2, m3, m4⟩ := unframe_cut rs (fun x hx => h x (by simp [hx])) (P ++ frameL r) (xs ++ [r]) (k - (frameL r).length) (by omega) hn
      refine ⟨m + 1, by simp; omega, ?_, ?_, ?_⟩
      · rw [m2, List.take_succ_cons, framesL_cons]
        simp
        omega
      · rw [List.take_succ_cons, framesL_cons, List.length_append]; omega
      · rcases m4 with m4 | m4
        · left; simp [m4]
        · right; rw [List.take_succ_cons, framesL_cons, List.length_append]; omega
    · have e1 : (frameL r ++ framesL rs).take k = (frameL r).take k := List.take_append_of_le_length (by omega)
      rw [e1] at hu ⊢
      have hc := frameAt_cut P r ((frameL r).take k) (h r (by simp)).2 (List.take_prefix _ _) (by rw [List.length_take]; omega)
      refine ⟨0, Nat.zero_le _, ?_, Nat.zero_le _, .inr ?_⟩
      · rw [hu.ended hc]; simp [framesL]
      · simp [framesL]; omega

/-- Of frames cut at k just the whole ones come back. -/
theorem unframe_some (rs : List (List UInt8)) (h : ∀ r ∈ rs, 1 ≤ r.length ∧ r.length ≤ 9000) (hl : (framesL rs).length ≤ 20000) (k : Nat) (hk : k ≤ (framesL rs).length) :
    ∃ m, m ≤ rs.length ∧ unframeL ((framesL rs).take k) = (rs.take m, (framesL (rs.take m)).length) ∧ (framesL (rs.take m)).length ≤ k ∧ (m = rs.length ∨ k < (framesL (rs.take (m + 1))).length) := by
  have hu : UnfRel ([] ++ (framesL rs).take k) ([] : List UInt8).length [] := UnfRel.start (by simp [List.length_take]; omega)
  obtain ⟨m, m1, m2, m3, m4⟩ := unframe_cut rs h [] [] k hk hu
  exact ⟨m, m1, by simpa using m2, m3, m4⟩

/-- All come back. -/
theorem unframe_back (rs : List (List UInt8)) (h : ∀ r ∈ rs, 1 ≤ r.length ∧ r.length ≤ 9000) (hl : (framesL rs).length ≤ 20000) : unframeL (framesL rs) = (rs, (framesL rs).length) := by
  obtain ⟨m, m1, m2, m3, m4⟩ := unframe_some rs h hl (framesL rs).length (Nat.le_refl _)
  rw [List.take_length] at m2
  have hm : m = rs.length := by
    rcases m4 with m4 | m4
    · exact m4
    · have := framesL_take_le rs (m + 1); omega
  rw [m2, hm, List.take_length]

end Go.Proofs.YtlkpcdkfgagnlaaDoor
