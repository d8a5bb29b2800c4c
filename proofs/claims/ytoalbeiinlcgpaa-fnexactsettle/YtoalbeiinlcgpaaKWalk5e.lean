/-
  Walks and mathematics of Walk5e.
-/
import Derived.Test.YtoalbeiinlcgpaaKWalk5d
import Derived.Test.YtoalbeiinlcgpaaKWalk5c
import Derived.Lib.Strings
namespace Go.Proofs.Ytoalbeiinlcgpaa
open Go.RowKit P1 P9 K
set_option linter.unusedVariables false
set_option linter.unusedSimpArgs false

structure EntV where
  term : Int
  kind : Int
  data : ByteArray

def eval (e : EntV) : Value := .agg #[.int .i64 e.term, .int .i64 e.kind, .string e.data]

def EntV.ok (e : EntV) : Bool := entryOk e.term e.kind (bl e.data)

def CoPost (w : World) (k : Int) (s : ByteArray) (c : Bool) (e : Ending) (w' : World) : Prop :=
  ∃ v, e = .returned (.tuple #[v, .bool c]) ∧ (c = true → ContAt w' k s v) ∧ Below w.heap.size w w'

theorem bl_nil {s : ByteArray} : (bl s).length = 0 ↔ s = ⟨#[]⟩ := by
  constructor
  · intro h
    apply ByteArray.ext
    have := List.eq_nil_of_length_eq_zero h
    simpa using this
  · rintro rfl; rfl

theorem isEmpty_no {s : ByteArray} (h : ¬ s = ⟨#[]⟩) : s.toList.isEmpty = false := by
  cases hl : s.toList.isEmpty with
  | false => rfl
  | true =>
    exfalso
    apply h
    apply bl_nil.1
    rw [Lib.toList_data s] at hl
    exact List.length_eq_zero_iff.2 (List.isEmpty_iff.1 hl)

theorem contentOf_any (k : Int) (s : ByteArray) (hs : s.size ≤ 1048576) (w : World) :
    Calls Try.prog 74 #[.int .i64 k, .string s] w fun e w' => CoPost w k s (contOk k (bl s)) e w' := by
  obtain ⟨c, hc⟩ : ∃ c, contOk k (bl s) = c := ⟨_, rfl⟩
  rw [hc]
  have HC := hide hc
  clear hc
  by_cases k1 : k = 1
  · subst k1
    have hcv : c = decide (s = ⟨#[]⟩) := by
      rw [← HC.out]
      simp only [contOk, if_pos, ← bl_nil]
    by_cases h0 : s = ⟨#[]⟩
    · subst h0
      obtain rfl : c = true := by rw [hcv]; simp
      clear hcv
      go_enter Try.func74, Try.ntmps74
      go_wp2_with fail
      refine bodyPost_ret (v := .tuple #[.iface 108 (.agg #[]), .bool true]) (by simp [results, Try.results74, go_sem]) rfl ?_
      exact ⟨_, rfl, fun _ => Or.inl ⟨rfl, rfl, rfl⟩, Below.refl _ _⟩
    · obtain rfl : c = false := by rw [hcv]; simp [h0]
      have h1 : s.toList.isEmpty = false := isEmpty_no h0
      clear hcv
      go_enter Try.func74, Try.ntmps74
      go_wp2_with fail
      refine bodyPost_ret (v := .tuple #[.iface 108 (.agg #[]), .bool false]) (by simp [results, Try.results74, go_sem]) rfl ?_
      exact ⟨_, rfl, (fun h => by cases h), Below.refl _ _⟩
  · have g1 : (k == 1) = false := by simpa using k1
    by_cases k2 : k = 2
    · subst k2
      have hcv : confOk (confZ (bl s)) = c := by rw [← HC.out]; simp [contOk]
      have HCV := hide hcv
      have hlen : c = true → (bl s).length = s.size := fun _ => bl_length s
      clear hcv
      go_enter Try.func74, Try.ntmps74
      go_wp2_with fail
      refine (implReadConf_any s hs _).mono ?_
      rintro e w1 ⟨g, cap, rfl, ho, hb⟩
      cases c with
      | false =>
        rw [rdConf_no HCV.out]
        clear ho
        go_wp2_with fail
        refine bodyPost_ret (v := .tuple #[.iface 109 (.slice (some ⟨g, 0, none⟩) 0 cap), .bool false]) (by simp [results, Try.results74, go_sem]) rfl ?_
        exact ⟨_, rfl, (fun h => by cases h), hb⟩
      | true =>
        rw [rdConf_yes HCV.out] at ho ⊢
        obtain ⟨_, _, he, hat⟩ := intsAt_of_own ho (confZ_wf _)
        cases he
        have HAT := hide hat
        clear ho hat
        go_wp2_with fail
        refine bodyPost_ret (v := .tuple #[.iface 109 (.slice (some ⟨g, 0, none⟩) (confZ (bl s)).length cap), .bool true]) (by simp [results, Try.results74, go_sem]) rfl ?_
        refine ⟨_, rfl, fun _ => Or.inr (Or.inl ⟨rfl, HCV.out, g, cap, ?_, ?_⟩), hb⟩
        · simp [confZ_length]
        · have := HAT.out
          simpa [confZ_length] using this
    · have g2 : (k == 2) = false := by simpa using k2
      by_cases k3 : k = 3
      · subst k3
        have hcv : c = decide (s.size ≤ 120) := by
          rw [← HC.out]
          simp [contOk]
        by_cases h0 : s.size ≤ 120
        · obtain rfl : c = true := by rw [hcv]; simpa using h0
          have h1 : (s.size : Int) ≤ 120 := by omega
          clear hcv
          go_enter Try.func74, Try.ntmps74
          go_wp2_with fail
          refine bodyPost_ret (v := .tuple #[.iface 110 (.string s), .bool true]) (by simp [results, Try.results74, go_sem]) rfl ?_
          exact ⟨_, rfl, fun _ => Or.inr (Or.inr ⟨rfl, h0, rfl⟩), Below.refl _ _⟩
        · obtain rfl : c = false := by rw [hcv]; simpa using h0
          have h1 : decide ((s.size : Int) ≤ 120) = false := by simp; omega
          clear hcv
          go_enter Try.func74, Try.ntmps74
          go_wp2_with fail
          refine bodyPost_ret (v := .tuple #[.iface 110 (.string s), .bool false]) (by simp [results, Try.results74, go_sem]) rfl ?_
          exact ⟨_, rfl, (fun h => by cases h), Below.refl _ _⟩
      · have g3 : (k == 3) = false := by simpa using k3
        obtain rfl : c = false := by rw [← HC.out]; simp [contOk, k1, k2, k3]
        go_enter Try.func74, Try.ntmps74
        go_wp2_with fail
        refine bodyPost_ret (v := .tuple #[.iface 108 (.agg #[]), .bool false]) (by simp [results, Try.results74, go_sem]) rfl ?_
        exact ⟨_, rfl, (fun h => by cases h), Below.refl _ _⟩

set_option maxHeartbeats 1000000 in
theorem implEntryOk_any (e : EntV) (hs : e.data.size ≤ 1048576) (w : World) :
    Calls Try.prog 57 #[eval e] w fun r w' => r = .returned (.bool e.ok) ∧ Below w.heap.size w w' := by
  obtain ⟨t, k, s⟩ := e
  simp only [eval, EntV.ok, entryOk] at *
  have HB0 := hide ((Below.refl w.heap.size w).alloc (Nat.le_refl _) (.cells #[.int .i64 t, .int .i64 k, .string s] 75))
  obtain ⟨c, hc⟩ : ∃ c, contOk k (bl s) = c := ⟨_, rfl⟩
  rw [hc]
  have HC := hide hc
  clear hc
  go_enter Try.func57, Try.ntmps57
  go_wp2_with fail
  refine (contentOf_any k s hs _).mono ?_
  rw [HC.out]
  rintro r w1 ⟨v, rfl, -, hb1⟩
  have c0 : w1.cell? ⟨w.heap.size, 0, none⟩ = some (.int .i64 t) := (hb1.cell (by simp)).trans (by simp)
  have HB1 := hide (HB0.out.trans (hb1.mono (by simp)))
  clear hb1
  cases c with
  | false =>
    go_wp2_with fail
    go_ret
    exact ⟨rfl, HB1.out⟩
  | true =>
    go_wp2_with fail
    refine (within_any _ _ _ _).mono ?_
    rintro r w2 ⟨rfl, rfl⟩
    go_wp2_with fail
    go_ret
    exact ⟨by rw [Bool.true_and]; rfl, HB1.out⟩

set_option maxHeartbeats 1000000 in
theorem specEntryOk_any (e : EntV) (hs : e.data.size ≤ 1048576) (w : World) :
    Calls Try.prog 54 #[eval e] w fun r w' => r = .returned (.bool e.ok) ∧ Below w.heap.size w w' := by
  obtain ⟨t, k, s⟩ := e
  simp only [eval, EntV.ok, entryOk] at *
  have HB0 := hide ((Below.refl w.heap.size w).alloc (Nat.le_refl _) (.cells #[.int .i64 t, .int .i64 k, .string s] 75))
  obtain ⟨c, hc⟩ : ∃ c, contOk k (bl s) = c := ⟨_, rfl⟩
  rw [hc]
  have HC := hide hc
  clear hc
  by_cases ht : 0 ≤ t ∧ t ≤ 100000
  · have hT : termOk t = true := by simp [termOk, ht]
    obtain ⟨ht0, ht1⟩ := ht
    rw [hT, Bool.and_true]
    clear hT
    by_cases k1 : k = 1
    · subst k1
      have hcv : c = decide (s = ⟨#[]⟩) := by
        rw [← HC.out]
        simp only [contOk, if_pos, ← bl_nil]
      by_cases h0 : s = ⟨#[]⟩
      · subst h0
        obtain rfl : c = true := by rw [hcv]; simp
        clear hcv
        go_enter Try.func54, Try.ntmps54
        go_wp2_with (go_at_call 23; refine (l01In_yes _ _ _ ht0 ht1 _).mono ?_; rintro e w' ⟨rfl, rfl⟩)
        go_ret
        exact ⟨rfl, HB0.out⟩
      · obtain rfl : c = false := by rw [hcv]; simp [h0]
        have h1 : s.toList.isEmpty = false := isEmpty_no h0
        clear hcv
        go_enter Try.func54, Try.ntmps54
        go_wp2_with (go_at_call 23; refine (l01In_yes _ _ _ ht0 ht1 _).mono ?_; rintro e w' ⟨rfl, rfl⟩)
        go_ret
        exact ⟨rfl, HB0.out⟩
    · have g1 : (k == 1) = false := by simpa using k1
      by_cases k2 : k = 2
      · subst k2
        have hcv : confOk (confZ (bl s)) = c := by rw [← HC.out]; simp [contOk]
        have HCV := hide (show (rdConf (bl s)).2 = c by unfold rdConf; rw [hcv]; cases c <;> rfl)
        clear hcv
        go_enter Try.func54, Try.ntmps54
        go_wp2_with (go_at_call 23; refine (l01In_yes _ _ _ ht0 ht1 _).mono ?_; rintro e w' ⟨rfl, rfl⟩)
        refine (specReadConf_any s hs _).mono ?_
        unfold RcPost
        rw [HCV.out]
        rintro e w1 ⟨g, cap, rfl, ho, hb⟩
        clear ho
        go_wp2_with fail
        go_ret
        exact ⟨rfl, HB0.out.trans (hb.mono (by simp))⟩
      · have g2 : (k == 2) = false := by simpa using k2
        by_cases k3 : k = 3
        · subst k3
          have hcv : c = decide (s.size ≤ 120) := by
            rw [← HC.out]
            simp [contOk]
          by_cases h0 : s.size ≤ 120
          · obtain rfl : c = true := by rw [hcv]; simpa using h0
            have h1 : (s.size : Int) ≤ 120 := by omega
            clear hcv
            go_enter Try.func54, Try.ntmps54
            go_wp2_with (go_at_call 23; refine (l01In_yes _ _ _ ht0 ht1 _).mono ?_; rintro e w' ⟨rfl, rfl⟩)
            go_ret
            exact ⟨rfl, HB0.out⟩
          · obtain rfl : c = false := by rw [hcv]; simpa using h0
            have h1 : decide ((s.size : Int) ≤ 120) = false := by simp; omega
            clear hcv
            go_enter Try.func54, Try.ntmps54
            go_wp2_with (go_at_call 23; refine (l01In_yes _ _ _ ht0 ht1 _).mono ?_; rintro e w' ⟨rfl, rfl⟩)
            go_ret
            exact ⟨rfl, HB0.out⟩
        · have g3 : (k == 3) = false := by simpa using k3
          obtain rfl : c = false := by rw [← HC.out]; simp [contOk, k1, k2, k3]
          go_enter Try.func54, Try.ntmps54
          go_wp2_with (go_at_call 23; refine (l01In_yes _ _ _ ht0 ht1 _).mono ?_; rintro e w' ⟨rfl, rfl⟩)
          go_ret
          exact ⟨rfl, HB0.out⟩
  · have hT : termOk t = false := by simp [termOk]; omega
    rw [hT, Bool.and_false]
    go_enter Try.func54, Try.ntmps54
    go_wp2_with (go_at_call 23; refine (l01In_no _ _ _ (by omega) _).mono ?_; rintro e w' ⟨rfl, rfl⟩)
    go_ret
    exact ⟨rfl, HB0.out⟩

end Go.Proofs.Ytoalbeiinlcgpaa
