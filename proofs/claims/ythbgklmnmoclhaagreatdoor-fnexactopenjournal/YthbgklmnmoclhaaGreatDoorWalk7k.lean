/-
  Walks of chapter 7: a letter and two numbers, of the specification.
-/
import Derived.Test.YthbgklmnmoclhaaGreatDoorPack14
import Derived.Test.YthbgklmnmoclhaaGreatDoorPack22
import Derived.Test.YthbgklmnmoclhaaGreatDoorPack25
namespace Go.Proofs.YthbgklmnmoclhaaGreatDoor
open Go.RowKit P1 P3 P9 K
attribute [local go_sem ↓] Go.wp_at_zero Go.wp_at_succ
set_option linter.unusedVariables false
set_option linter.unusedSimpArgs false

theorem two_bad {x : UInt8} {s : ByteArray} {x1 : ByteArray} {a1 : Nat} {b1 : Bool} {i a2 : Nat} {b2 : Bool} {t a3 : Nat}
    (h1 : takeV s 0 false 1 = (x1, a1, b1)) (h2 : varV s a1 b1 = (i, a2, b2)) (h3 : varV s a2 b2 = (t, a3, true)) : rdTwo x (bl s) = none := by
  have hlen : (bl s).length = s.size := bl_length s
  by_cases hs0 : 1 ≤ s.size
  · have e1 : takeV s 0 false 1 = (s.extract 0 1, 1, false) := by simp [takeV, hs0]
    rw [e1] at h1
    cases h1
    cases hr1 : rdGo 5 [] ((bl s).drop 1) with
    | none => exact rdTwo_one hr1
    | some p =>
      obtain ⟨i', c1⟩ := p
      have e2 : varV s 1 false = (i', 1 + c1, false) := by unfold varV; rw [hr1]
      rw [e2] at h2
      cases h2
      cases hr2 : rdGo 5 [] ((bl s).drop (1 + c1)) with
      | none => exact rdTwo_two hr1 hr2
      | some q =>
        obtain ⟨t', c2⟩ := q
        have e3 : varV s (1 + c1) false = (t', 1 + c1 + c2, false) := by unfold varV; rw [hr2]
        rw [e3] at h3
        cases h3
  · have : bl s = [] := List.eq_nil_of_length_eq_zero (by omega)
    rw [this]
    exact rdTwo_head (by simp)

theorem two_good {x : UInt8} {s : ByteArray} {x1 : ByteArray} {a1 : Nat} {b1 : Bool} {i a2 : Nat} {b2 : Bool} {t a3 : Nat}
    (h1 : takeV s 0 false 1 = (x1, a1, b1)) (h2 : varV s a1 b1 = (i, a2, b2)) (h3 : varV s a2 b2 = (t, a3, false)) :
    rdTwo x (bl s) = (if twoB x i t = bl s then some (i, t) else none) ∧ i ≤ 1000000000 ∧ t ≤ 1000000000 := by
  have hb2 : b2 = false := by
    cases b2 with
    | false => rfl
    | true => unfold varV at h3; cases h3
  subst hb2
  have hb1 : b1 = false := by
    cases b1 with
    | false => rfl
    | true => unfold varV at h2; cases h2
  subst hb1
  have ha1 : a1 = 1 := by
    unfold takeV at h1
    split at h1
    · cases h1; rfl
    · cases h1
  subst ha1
  cases hr1 : rdGo 5 [] ((bl s).drop 1) with
  | none => unfold varV at h2; rw [hr1] at h2; cases h2
  | some p =>
    obtain ⟨i', c1⟩ := p
    unfold varV at h2
    rw [hr1] at h2
    cases h2
    cases hr2 : rdGo 5 [] ((bl s).drop (1 + c1)) with
    | none => unfold varV at h3; rw [hr2] at h3; cases h3
    | some q =>
      obtain ⟨t', c2⟩ := q
      unfold varV at h3
      rw [hr2] at h3
      cases h3
      refine ⟨?_, (rdGo_some 5 [] _ _ _ hr1).1, (rdGo_some 5 [] _ _ _ hr2).1⟩
      unfold rdTwo
      rw [hr1]
      simp only
      rw [hr2]

theorem bl_of {l : List UInt8} {s : ByteArray} (h : l = bl s) : (⟨l.toArray⟩ : ByteArray) = s := by
  subst h
  rfl

set_option maxHeartbeats 2000000 in
theorem l07Two_any (x : UInt8) (s : ByteArray) (hs : s.size ≤ 1048576) (w : World) :
    Calls Tryz.prog 41 #[.string s, .string ⟨#[x]⟩] w fun r w' => r = .returned (rpVal (rdTwo x (bl s))) ∧ Below w.heap.size w w' := by
  obtain ⟨x1, a1, b1, h1⟩ : ∃ x1 a1 b1, takeV s 0 false 1 = (x1, a1, b1) := ⟨_, _, _, rfl⟩
  obtain ⟨i, a2, b2, h2⟩ : ∃ i a2 b2, varV s a1 b1 = (i, a2, b2) := ⟨_, _, _, rfl⟩
  obtain ⟨t, a3, b3, h3⟩ : ∃ t a3 b3, varV s a2 b2 = (t, a3, b3) := ⟨_, _, _, rfl⟩
  obtain ⟨R, hR⟩ : ∃ R, rdTwo x (bl s) = R := ⟨_, rfl⟩
  rw [hR]
  have HR := hide hR
  have H1 := hide h1
  have H2 := hide h2
  have H3 := hide h3
  clear h1 h2 h3 hR
  have HT1 := hide (fun g w => l05Take_one g s hs 0 false w)
  have HV2 := hide (fun g w => l05Var_any g s hs a1 b1 w)
  have HV3 := hide (fun g w => l05Var_any g s hs a2 b2 w)
  go_enter Tryz.func41, Tryz.ntmps41
  go_wp2_with fail
  have B0 := hide ((Below.refl w.heap.size w).alloc (Nat.le_refl _) (.cells #[.string s, .int .i64 0, .bool false] 106))
  have hC0 : RdC (w.alloc (.cells #[.string s, .int .i64 0, .bool false] 106)) w.heap.size s 0 false := ⟨Nat.zero_le _, heap_alloc_new _ _⟩
  refine (HT1.out _ _ hC0).mono ?_
  rw [H1.out]
  rintro r w1 ⟨rfl, hC1, hg1⟩
  have s1 : w.heap.size + 1 ≤ w1.heap.size := by have := hg1.size; simpa using this
  have B1 := hide (B0.out.grown hg1 (by simp) (fun k hk => by cases hk; omega))
  clear hC0 hg1
  go_wp2_with fail
  refine (HV2.out _ _ hC1).mono ?_
  rw [H2.out]
  rintro r w2 ⟨rfl, hC2, hg2⟩
  have s2 : w.heap.size + 1 ≤ w2.heap.size := by have := hg2.size; omega
  have B2 := hide (B1.out.grown hg2 (by omega) (fun k hk => by cases hk; omega))
  clear hC1 hg2
  go_wp2_with fail
  refine (HV3.out _ _ hC2).mono ?_
  rw [H3.out]
  rintro r w3 ⟨rfl, hC3, hg3⟩
  have s3 : w.heap.size + 1 ≤ w3.heap.size := by have := hg3.size; omega
  have B3 := hide (B2.out.grown hg3 (by omega) (fun k hk => by cases hk; omega))
  clear hC2 hg3
  obtain ⟨c0, c1, c2, z0, z1, z2⟩ := rdc_cells hC3.2
  clear hC3
  cases b3 with
  | true =>
    obtain rfl : R = none := HR.out.symm.trans (two_bad H1.out H2.out H3.out)
    go_wp2_with fail
    refine bodyPost_ret (v := .tuple #[.int .i64 0, .int .i64 0, .bool false]) (by simp [results, Tryz.results41, go_sem]) rfl ⟨rfl, B3.out⟩
  | false =>
    obtain ⟨hg, hi, ht⟩ := two_good (x := x) H1.out H2.out H3.out
    have HG := hide (HR.out.symm.trans hg)
    have v1 := varB_room i
    have v2 := varB_room t
    obtain ⟨A1, f1, f2⟩ := cat3_facts Tryz.prog ⟨#[x]⟩ ⟨(varB i).toArray⟩ ⟨(varB t).toArray⟩ _ (by show 1 + (varB i).length + (varB t).length ≤ 1048576; omega) (cat_hard x i t)
    have HVI := hide (l01Var_any i hi)
    have HVT := hide (l01Var_any t ht)
    clear hg hi ht v1 v2
    by_cases he : twoB x i t = bl s
    · have hh := HG.out
      rw [if_pos he] at hh
      subst hh
      rw [bl_of he] at f2
      generalize (⟨(varB i).toArray⟩ : ByteArray) = VI at HVI f1
      generalize (⟨(varB t).toArray⟩ : ByteArray) = VT at HVT f2
      clear he
      go_wp2_with fail
      refine (HVI.out _).mono ?_
      rintro r w4 ⟨rfl, hb4⟩
      go_wp2_with fail
      refine (HVT.out _).mono ?_
      rintro r w5 ⟨rfl, hb5⟩
      go_wp2_with fail
      refine bodyPost_ret (v := .tuple #[.int .i64 (i : Int), .int .i64 (t : Int), .bool true]) (by simp [results, Tryz.results41, go_sem]) rfl ⟨rfl, (B3.out.trans (hb4.mono B3.out.size)).trans (hb5.mono (Nat.le_trans B3.out.size hb4.size))⟩
    · have hh := HG.out
      rw [if_neg he] at hh
      subst hh
      have hne : (⟨(twoB x i t).toArray⟩ : ByteArray) ≠ s := fun e => he (by rw [← e, bl_mk7])
      generalize (⟨(twoB x i t).toArray⟩ : ByteArray) = TX at f2 hne
      have q1 : (TX.toList == s.toList) = false := by
        rw [Lib.toList_data, Lib.toList_data, beq_eq_false_iff_ne]
        intro e
        exact hne (ByteArray.ext (Array.ext' e))
      generalize (⟨(varB i).toArray⟩ : ByteArray) = VI at HVI f1
      generalize (⟨(varB t).toArray⟩ : ByteArray) = VT at HVT f2
      clear he hne
      go_wp2_with fail
      refine (HVI.out _).mono ?_
      rintro r w4 ⟨rfl, hb4⟩
      go_wp2_with fail
      refine (HVT.out _).mono ?_
      rintro r w5 ⟨rfl, hb5⟩
      go_wp2_with fail
      refine bodyPost_ret (v := .tuple #[.int .i64 0, .int .i64 0, .bool false]) (by simp [results, Tryz.results41, go_sem]) rfl ⟨rfl, (B3.out.trans (hb4.mono B3.out.size)).trans (hb5.mono (Nat.le_trans B3.out.size hb4.size))⟩

end Go.Proofs.YthbgklmnmoclhaaGreatDoor
