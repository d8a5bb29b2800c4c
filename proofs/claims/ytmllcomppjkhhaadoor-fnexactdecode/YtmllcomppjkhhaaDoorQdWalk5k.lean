/-
  Walks and mathematics of Walk5k.
-/
import Derived.Test.YtmllcomppjkhhaaDoorQdWalk5j
import Derived.Test.YtmllcomppjkhhaaDoorQdWalk1c
namespace Go.Proofs.YtmllcomppjkhhaaDoor
open Go.RowKit P1 P9 K
set_option linter.unusedVariables false
set_option linter.unusedSimpArgs false

theorem hasPrefix_E (l : List UInt8) : Lib.hasPrefix l [69] = decide (l.head? = some 69) := by
  cases l with
  | nil => rfl
  | cons b r =>
    simp only [Lib.hasPrefix, List.isPrefixOf, List.head?_cons, Bool.and_true]
    by_cases h : b = 69
    · subst h; rfl
    · have h1 : ((69 : UInt8) == b) = false := by rw [beq_eq_false_iff_ne]; exact fun e => h e.symm
      rw [h1]
      simp [h]

theorem implReadVar_at (s : ByteArray) (hs : s.size ≤ 1048576) (a : Nat) (x : Int) (hx : x = (a : Int)) (ha : a ≤ s.size) (w : World) :
    Calls Tryd.prog 88 #[.string s, .int .i64 x] w fun e w' => e = .returned (rvVal a (rdGo 5 [] ((bl s).drop a))) ∧ w = w' := by
  subst hx
  exact implReadVar_any s hs a ha w

theorem rvVal_some (a v c : Nat) : rvVal a (some (v, c)) = .tuple #[.int .i64 v, .int .i64 (a + c : Nat), .bool true] := rfl

theorem rvVal_none (a : Nat) : rvVal a none = .tuple #[.int .i64 0, .int .i64 0, .bool false] := rfl

theorem re_yes (i t k : Nat) (D : ByteArray) : Ending.returned (.tuple #[.int .i64 (i : Int), .agg #[.int .i64 (t : Int), .int .i64 (k : Int), .string D], .bool true]) = .returned (reVal (some (i, t, k, bl D))) := by
  simp only [reVal]

set_option maxHeartbeats 4000000 in
theorem implReadEntry_any (s : ByteArray) (hs : s.size ≤ 1048576) (w : World) :
    Calls Tryd.prog 80 #[.string s] w fun r w' => r = .returned (reVal (rdEntry (bl s))) ∧ Below w.heap.size w w' := by
  obtain ⟨R, hR⟩ : ∃ R, rdEntry (bl s) = R := ⟨_, rfl⟩
  rw [hR]
  have HR := hide hR
  clear hR
  have B0 := hide ((Below.refl w.heap.size w).alloc (Nat.le_refl _) (.cells #[.int .i64 0, .int .i64 0, .string ⟨#[]⟩] 45))
  have hlen : (bl s).length = s.size := bl_length s
  have HLEN := hide hlen
  clear hlen
  by_cases hh : (bl s).head? = some 69
  · have hpre : Lib.hasPrefix (bl s) [69] = true := by rw [hasPrefix_E]; simpa using hh
    have HPRE := hide hpre
    have h1s : 1 ≤ s.size := by
      rw [← HLEN.out]
      cases hb : bl s with
      | nil => rw [hb] at hh; cases hh
      | cons b r => simp
    clear hpre
    have HH := hide hh
    clear hh
    cases hr1 : rdGo 5 [] ((bl s).drop 1) with
    | none =>
      have HR1 := hide hr1
      have HNO := rdEntry_one hr1
      obtain rfl : R = none := HR.out.symm.trans HNO
      clear hr1 HNO
      go_enter Tryd.func80, Tryd.ntmps80
      go_wp2_with fail
      refine (Tryd.strings_HasPrefix _ _ _).mono ?_
      rw [show Lib.hasPrefix s.data.toList (⟨#[69]⟩ : ByteArray).data.toList = true from HPRE.out]
      rintro r w' ⟨rfl, rfl⟩
      go_wp2_with fail
      refine (implReadVar_at s hs 1 1 rfl h1s _).mono ?_
      rw [HR1.out, rvVal_none]
      rintro r w' ⟨rfl, rfl⟩
      go_wp2_with fail
      refine bodyPost_ret (v := .tuple #[.int .i64 0, .agg #[.int .i64 0, .int .i64 0, .string ⟨#[]⟩], .bool false]) (by simp [results, Tryd.results80, go_sem]) rfl ⟨rfl, B0.out⟩
    | some p =>
      obtain ⟨i, c1⟩ := p
      have hbd := rdGo_some 5 [] _ i c1 hr1
      rw [List.length_drop, HLEN.out] at hbd
      simp only [List.length_nil] at hbd
      obtain ⟨i1, i2, i3, i4⟩ := hbd
      have HR1 := hide hr1
      obtain ⟨p1, hp1⟩ : ∃ p1, 1 + c1 = p1 := ⟨_, rfl⟩
      have HP1 := hide hp1
      have hp1s : p1 ≤ s.size := by omega
      clear hr1 hp1
      by_cases hix : 1 ≤ i ∧ i ≤ 1000000
      · have HIX := hide (show indexOk (i : Int) = true by simp [indexOk]; omega)
        obtain ⟨hix1, hix2⟩ := hix
        cases hr2 : rdGo 5 [] ((bl s).drop p1) with
        | none =>
          have HR2 := hide hr2
          have HNO : R = none := HR.out.symm.trans (rdEntry_two HR1.out (by rw [HP1.out]; exact hr2))
          subst HNO
          clear hr2
          go_enter Tryd.func80, Tryd.ntmps80
          go_wp2_with fail
          refine (Tryd.strings_HasPrefix _ _ _).mono ?_
          rw [show Lib.hasPrefix s.data.toList (⟨#[69]⟩ : ByteArray).data.toList = true from HPRE.out]
          rintro r w' ⟨rfl, rfl⟩
          go_wp2_with fail
          refine (implReadVar_at s hs 1 1 rfl h1s _).mono ?_
          rw [HR1.out, rvVal_some, HP1.out]
          rintro r w' ⟨rfl, rfl⟩
          go_wp2_with fail
          refine (within_yes (i : Int) 1 1000000 (by omega) (by omega) _).mono ?_
          rintro e w' ⟨rfl, rfl⟩
          go_wp2_with fail
          refine (implReadVar_at s hs p1 _ rfl hp1s _).mono ?_
          rw [HR2.out, rvVal_none]
          rintro r w' ⟨rfl, rfl⟩
          go_wp2_with fail
          refine bodyPost_ret (v := .tuple #[.int .i64 0, .agg #[.int .i64 0, .int .i64 0, .string ⟨#[]⟩], .bool false]) (by simp [results, Tryd.results80, go_sem]) rfl ⟨rfl, B0.out⟩
        | some q =>
          obtain ⟨t, c2⟩ := q
          have hbd := rdGo_some 5 [] _ t c2 hr2
          rw [List.length_drop, HLEN.out] at hbd
          simp only [List.length_nil] at hbd
          obtain ⟨j1, j2, j3, j4⟩ := hbd
          have HR2 := hide hr2
          obtain ⟨p2, hp2⟩ : ∃ p2, p1 + c2 = p2 := ⟨_, rfl⟩
          have HP2 := hide hp2
          have HP12 := hide (show 1 + c1 + c2 = p2 by rw [HP1.out]; exact hp2)
          have HR2' := hide (show rdGo 5 [] ((bl s).drop (1 + c1)) = some (t, c2) by rw [HP1.out]; exact hr2)
          have hp2s : p2 ≤ s.size := by omega
          clear hr2 hp2
          by_cases hend : p2 = s.size
          · have HNO : R = none := HR.out.symm.trans (rdEntry_short HR1.out HR2'.out (List.drop_eq_nil_of_le (by rw [HP12.out, HLEN.out]; omega)))
            subst HNO
            have ge : ((p2 : Int) == (s.size : Int)) = true := by simp [hend]
            have HE := hide hend
            clear hend
            by_cases htk : t ≤ 100000
            · go_enter Tryd.func80, Tryd.ntmps80
              go_wp2_with fail
              refine (Tryd.strings_HasPrefix _ _ _).mono ?_
              rw [show Lib.hasPrefix s.data.toList (⟨#[69]⟩ : ByteArray).data.toList = true from HPRE.out]
              rintro r w' ⟨rfl, rfl⟩
              go_wp2_with fail
              refine (implReadVar_at s hs 1 1 rfl h1s _).mono ?_
              rw [HR1.out, rvVal_some, HP1.out]
              rintro r w' ⟨rfl, rfl⟩
              go_wp2_with fail
              refine (within_yes (i : Int) 1 1000000 (by omega) (by omega) _).mono ?_
              rintro e w' ⟨rfl, rfl⟩
              go_wp2_with fail
              refine (implReadVar_at s hs p1 _ rfl hp1s _).mono ?_
              rw [HR2.out, rvVal_some, HP2.out]
              rintro r w' ⟨rfl, rfl⟩
              go_wp2_with fail
              refine (within_yes (t : Int) 0 100000 (by omega) (by omega) _).mono ?_
              rintro e w' ⟨rfl, rfl⟩
              go_wp2_with fail
              refine bodyPost_ret (v := .tuple #[.int .i64 0, .agg #[.int .i64 0, .int .i64 0, .string ⟨#[]⟩], .bool false]) (by simp [results, Tryd.results80, go_sem]) rfl ⟨rfl, B0.out⟩
            · go_enter Tryd.func80, Tryd.ntmps80
              go_wp2_with fail
              refine (Tryd.strings_HasPrefix _ _ _).mono ?_
              rw [show Lib.hasPrefix s.data.toList (⟨#[69]⟩ : ByteArray).data.toList = true from HPRE.out]
              rintro r w' ⟨rfl, rfl⟩
              go_wp2_with fail
              refine (implReadVar_at s hs 1 1 rfl h1s _).mono ?_
              rw [HR1.out, rvVal_some, HP1.out]
              rintro r w' ⟨rfl, rfl⟩
              go_wp2_with fail
              refine (within_yes (i : Int) 1 1000000 (by omega) (by omega) _).mono ?_
              rintro e w' ⟨rfl, rfl⟩
              go_wp2_with fail
              refine (implReadVar_at s hs p1 _ rfl hp1s _).mono ?_
              rw [HR2.out, rvVal_some, HP2.out]
              rintro r w' ⟨rfl, rfl⟩
              go_wp2_with fail
              refine (within_no (t : Int) 0 100000 (by omega) _).mono ?_
              rintro e w' ⟨rfl, rfl⟩
              go_wp2_with fail
              refine bodyPost_ret (v := .tuple #[.int .i64 0, .agg #[.int .i64 0, .int .i64 0, .string ⟨#[]⟩], .bool false]) (by simp [results, Tryd.results80, go_sem]) rfl ⟨rfl, B0.out⟩
          · have ge : ((p2 : Int) == (s.size : Int)) = false := by simp; omega
            have hlt : p2 < s.size := by omega
            have HDR := hide (show (bl s).drop (1 + c1 + c2) = s[p2] :: (bl s).drop (p2 + 1) by rw [HP12.out]; exact bl_drop s p2 hlt)
            have HALL := hide (rdEntry_all HR1.out HR2'.out HDR.out)
            clear hend
            by_cases htk : t ≤ 100000
            · have HTK := hide (show termOk (t : Int) = true by simp [termOk]; omega)
              have hidx : ∀ wx, (Instr.index 9 (.string s) (.int .i64 (p2 : Int))).run Tryd.prog wx = .ok (.int .u8 (s[p2].toNat : Int)) wx := fun wx => idx_any s .i64 p2 hlt wx
              have hkl := s[p2].toNat_lt
              obtain ⟨kn, hkn⟩ : ∃ kn, s[p2].toNat = kn := ⟨_, rfl⟩
              have hw1 : IntKind.i64.wrap ((p2 : Int) + 1) = (p2 : Int) + 1 := by rw [IntKind.wrap_i64]; omega
              have hw2 : IntKind.i64.wrap (kn : Int) = (kn : Int) := by rw [IntKind.wrap_i64]; omega
              have hxd : s.extract (p2 + 1) s.size = ⟨((bl s).drop (p2 + 1)).toArray⟩ := by
                apply ByteArray.ext
                rw [ByteArray.data_extract]
                apply Array.ext'
                rw [Array.toList_extract, List.extract_eq_take_drop]
                show List.take (s.size - (p2 + 1)) ((bl s).drop (p2 + 1)) = _
                rw [List.take_of_length_le (by rw [List.length_drop, bl_length]; exact Nat.le_refl _)]
              obtain ⟨D, hD⟩ : ∃ D, (⟨((bl s).drop (p2 + 1)).toArray⟩ : ByteArray) = D := ⟨_, rfl⟩
              have hDs : D.size ≤ 1048576 := by rw [← hD, ← hxd, ByteArray.size_extract]; omega
              have HDL := hide (show (bl s).drop (p2 + 1) = bl D by rw [← hD])
              have hsl : ∀ wx, (Instr.slice 9 (.string s) (some (.int .i64 ((p2 : Int) + 1))) none none).run Tryd.prog wx = .ok (.string D) wx := fun wx => by
                rw [← hD, ← hxd]
                have hu := Tryd.underlying9
                have g0 : (0 : Int) ≤ (p2 : Int) + 1 := by omega
                have g1 : (p2 : Int) + 1 ≤ (s.size : Int) := by omega
                have g2 : ((p2 : Int) + 1).toNat = p2 + 1 := by omega
                simp [go_sem, hu, g0, g1, g2]
              have HHH := HH.out
              have HALL2 := hide (show rdEntry (bl s) = if contOk (kn : Int) (bl D) = true then some (i, t, kn, bl D) else none by
                rw [HALL.out, hkn, HDL.out]
                simp only [HHH, HIX.out, entryOk, HTK.out, Bool.and_true, true_and])
              rw [hkn] at hidx hkl
              clear hkn hxd hD HHH HALL
              cases hck : contOk (kn : Int) (bl D) with
              | false =>
                have HNO : R = none := HR.out.symm.trans (by rw [HALL2.out, hck]; simp)
                subst HNO
                have HCK := hide hck
                clear hck
                go_enter Tryd.func80, Tryd.ntmps80
                go_wp2_with fail
                refine (Tryd.strings_HasPrefix _ _ _).mono ?_
                rw [show Lib.hasPrefix s.data.toList (⟨#[69]⟩ : ByteArray).data.toList = true from HPRE.out]
                rintro r w' ⟨rfl, rfl⟩
                go_wp2_with fail
                refine (implReadVar_at s hs 1 1 rfl h1s _).mono ?_
                rw [HR1.out, rvVal_some, HP1.out]
                rintro r w' ⟨rfl, rfl⟩
                go_wp2_with fail
                refine (within_yes (i : Int) 1 1000000 (by omega) (by omega) _).mono ?_
                rintro e w' ⟨rfl, rfl⟩
                go_wp2_with fail
                refine (implReadVar_at s hs p1 _ rfl hp1s _).mono ?_
                rw [HR2.out, rvVal_some, HP2.out]
                rintro r w' ⟨rfl, rfl⟩
                go_wp2_with fail
                refine (within_yes (t : Int) 0 100000 (by omega) (by omega) _).mono ?_
                rintro e w' ⟨rfl, rfl⟩
                go_wp2_with fail
                go_region_held3 (fun _ => True) (trivial) (first
                  | (go_at_call 72; refine (contentOf_any (kn : Int) D hDs _).mono ?_; rw [HCK.out]; rintro r w2 ⟨v, rfl, -, hb2⟩))
                have hR2 : w2.heap[w.heap.size]? = some (.cells #[.int .i64 0, .int .i64 0, .string ⟨#[]⟩] 45 (0, 0)) := (hb2.block w.heap.size (by simp)).trans (heap_alloc_new _ _)
                have B2 := hide (B0.out.drew.trans (hb2.mono (by simp)))
                have s2 : w.heap.size < w2.heap.size := by have := hb2.size; simp at this; omega
                obtain ⟨q0, q1, q2, z0, z1, z2⟩ := rdc_cells hR2
                have HR2B := hide hR2
                clear hb2 hR2
                go_wp2_with fail
                obtain ⟨w9, hw9, hR9, hg9⟩ := store3 HR2B.out (.int .i64 0) (.int .i64 0) (.string ⟨#[]⟩)
                rw [hw9]
                obtain ⟨q0, q1, q2, -, -, -⟩ := rdc_cells hR9
                refine bodyPost_ret (v := .tuple #[.int .i64 0, .agg #[.int .i64 0, .int .i64 0, .string ⟨#[]⟩], .bool false]) (by simp [results, Tryd.results80, go_sem, q0, q1, q2]) rfl ⟨rfl, ?_⟩
                exact B2.out.grown hg9 (by omega) (fun k hk => by cases hk; omega)
              | true =>
                have HYES : R = some (i, t, kn, bl D) := HR.out.symm.trans (by rw [HALL2.out, hck, if_pos rfl])
                subst HYES
                have HCK := hide hck
                clear hck
                go_enter Tryd.func80, Tryd.ntmps80
                go_wp2_with fail
                refine (Tryd.strings_HasPrefix _ _ _).mono ?_
                rw [show Lib.hasPrefix s.data.toList (⟨#[69]⟩ : ByteArray).data.toList = true from HPRE.out]
                rintro r w' ⟨rfl, rfl⟩
                go_wp2_with fail
                refine (implReadVar_at s hs 1 1 rfl h1s _).mono ?_
                rw [HR1.out, rvVal_some, HP1.out]
                rintro r w' ⟨rfl, rfl⟩
                go_wp2_with fail
                refine (within_yes (i : Int) 1 1000000 (by omega) (by omega) _).mono ?_
                rintro e w' ⟨rfl, rfl⟩
                go_wp2_with fail
                refine (implReadVar_at s hs p1 _ rfl hp1s _).mono ?_
                rw [HR2.out, rvVal_some, HP2.out]
                rintro r w' ⟨rfl, rfl⟩
                go_wp2_with fail
                refine (within_yes (t : Int) 0 100000 (by omega) (by omega) _).mono ?_
                rintro e w' ⟨rfl, rfl⟩
                go_wp2_with fail
                go_region_held3 (fun _ => True) (trivial) (first
                  | (go_at_call 72; refine (contentOf_any (kn : Int) D hDs _).mono ?_; rw [HCK.out]; rintro r w2 ⟨v, rfl, hv0, hb2⟩; have hv := hide (hv0 rfl); clear hv0))
                have hvk := hv.out
                clear hv
                have hR2 : w2.heap[w.heap.size]? = some (.cells #[.int .i64 0, .int .i64 0, .string ⟨#[]⟩] 45 (0, 0)) := (hb2.block w.heap.size (by simp)).trans (heap_alloc_new _ _)
                have B2 := hide (B0.out.drew.trans (hb2.mono (by simp)))
                have s2 : w.heap.size < w2.heap.size := by have := hb2.size; simp at this; omega
                obtain ⟨q0, q1, q2, z0, z1, z2⟩ := rdc_cells hR2
                have HR2B := hide hR2
                clear hb2 hR2
                have hvc := hvk
                rcases hvc with ⟨hk, rfl, rfl⟩ | ⟨hk, hcf, g, cap, rfl, hat⟩ | ⟨hk, h120, rfl⟩
                · obtain rfl : kn = 1 := by omega
                  have HVK := hide hvk
                  have fm := m_no
                  clear hvk hk
                  go_wp2_with fail
                  refine (kindOf_any _ _ _ _ HVK.out).mono ?_
                  rintro r w3 ⟨rfl, rfl⟩
                  go_wp2_with fail
                  refine (noData_any _).mono ?_
                  rintro r w4 ⟨rfl, hb4⟩
                  have hR4 := (hb4.block w.heap.size s2).trans HR2B.out
                  have B4 := hide (B2.out.trans (hb4.mono (by omega)))
                  have s4 := hb4.size
                  clear q0 q1 q2 z0 z1 z2 hb4
                  obtain ⟨q0, q1, q2, z0, z1, z2⟩ := rdc_cells hR4
                  have HR4 := hide hR4
                  clear hR4
                  go_wp2_with fail
                  obtain ⟨w9, hw9, hR9, hg9⟩ := store3 HR4.out (.int .i64 (t : Int)) (.int .i64 1) (.string ⟨#[]⟩)
                  rw [hw9]
                  obtain ⟨q0, q1, q2, -, -, -⟩ := rdc_cells hR9
                  refine bodyPost_ret (v := .tuple #[.int .i64 (i : Int), .agg #[.int .i64 (t : Int), .int .i64 1, .string ⟨#[]⟩], .bool true]) (by simp [results, Tryd.results80, go_sem, q0, q1, q2]) rfl ⟨re_yes i t 1 ⟨#[]⟩, ?_⟩
                  exact B4.out.grown hg9 (by omega) (fun k hk => by cases hk; omega)
                · obtain rfl : kn = 2 := by omega
                  have HVK := hide hvk
                  have fm := m_conf g D.size cap
                  clear hvk hk
                  have HAT := hide hat
                  clear hat
                  go_wp2_with fail
                  refine (kindOf_any _ _ _ _ HVK.out).mono ?_
                  rintro r w3 ⟨rfl, rfl⟩
                  go_wp2_with fail
                  refine (confData_bl g cap D _ HAT.out hcf).mono ?_
                  rintro r w4 ⟨rfl, hb4⟩
                  have hR4 := (hb4.block w.heap.size s2).trans HR2B.out
                  have B4 := hide (B2.out.trans (hb4.mono (by omega)))
                  have s4 := hb4.size
                  clear q0 q1 q2 z0 z1 z2 hb4
                  obtain ⟨q0, q1, q2, z0, z1, z2⟩ := rdc_cells hR4
                  have HR4 := hide hR4
                  clear hR4
                  go_wp2_with fail
                  obtain ⟨w9, hw9, hR9, hg9⟩ := store3 HR4.out (.int .i64 (t : Int)) (.int .i64 2) (.string D)
                  rw [hw9]
                  obtain ⟨q0, q1, q2, -, -, -⟩ := rdc_cells hR9
                  refine bodyPost_ret (v := .tuple #[.int .i64 (i : Int), .agg #[.int .i64 (t : Int), .int .i64 2, .string D], .bool true]) (by simp [results, Tryd.results80, go_sem, q0, q1, q2]) rfl ⟨re_yes i t 2 D, ?_⟩
                  exact B4.out.grown hg9 (by omega) (fun k hk => by cases hk; omega)
                · obtain rfl : kn = 3 := by omega
                  have HVK := hide hvk
                  have fm := m_command D
                  clear hvk hk
                  go_wp2_with fail
                  refine (kindOf_any _ _ _ _ HVK.out).mono ?_
                  rintro r w3 ⟨rfl, rfl⟩
                  go_wp2_with fail
                  refine (commandData_any D hDs _).mono ?_
                  rintro r w4 ⟨rfl, hb4⟩
                  have hR4 := (hb4.block w.heap.size s2).trans HR2B.out
                  have B4 := hide (B2.out.trans (hb4.mono (by omega)))
                  have s4 := hb4.size
                  clear q0 q1 q2 z0 z1 z2 hb4
                  obtain ⟨q0, q1, q2, z0, z1, z2⟩ := rdc_cells hR4
                  have HR4 := hide hR4
                  clear hR4
                  go_wp2_with fail
                  obtain ⟨w9, hw9, hR9, hg9⟩ := store3 HR4.out (.int .i64 (t : Int)) (.int .i64 3) (.string D)
                  rw [hw9]
                  obtain ⟨q0, q1, q2, -, -, -⟩ := rdc_cells hR9
                  refine bodyPost_ret (v := .tuple #[.int .i64 (i : Int), .agg #[.int .i64 (t : Int), .int .i64 3, .string D], .bool true]) (by simp [results, Tryd.results80, go_sem, q0, q1, q2]) rfl ⟨re_yes i t 3 D, ?_⟩
                  exact B4.out.grown hg9 (by omega) (fun k hk => by cases hk; omega)
            · have HNO : R = none := HR.out.symm.trans (by
                rw [HALL.out, if_neg]
                rintro ⟨_, _, q⟩
                simp [entryOk, termOk] at q
                omega)
              subst HNO
              go_enter Tryd.func80, Tryd.ntmps80
              go_wp2_with fail
              refine (Tryd.strings_HasPrefix _ _ _).mono ?_
              rw [show Lib.hasPrefix s.data.toList (⟨#[69]⟩ : ByteArray).data.toList = true from HPRE.out]
              rintro r w' ⟨rfl, rfl⟩
              go_wp2_with fail
              refine (implReadVar_at s hs 1 1 rfl h1s _).mono ?_
              rw [HR1.out, rvVal_some, HP1.out]
              rintro r w' ⟨rfl, rfl⟩
              go_wp2_with fail
              refine (within_yes (i : Int) 1 1000000 (by omega) (by omega) _).mono ?_
              rintro e w' ⟨rfl, rfl⟩
              go_wp2_with fail
              refine (implReadVar_at s hs p1 _ rfl hp1s _).mono ?_
              rw [HR2.out, rvVal_some, HP2.out]
              rintro r w' ⟨rfl, rfl⟩
              go_wp2_with fail
              refine (within_no (t : Int) 0 100000 (by omega) _).mono ?_
              rintro e w' ⟨rfl, rfl⟩
              go_wp2_with fail
              refine bodyPost_ret (v := .tuple #[.int .i64 0, .agg #[.int .i64 0, .int .i64 0, .string ⟨#[]⟩], .bool false]) (by simp [results, Tryd.results80, go_sem]) rfl ⟨rfl, B0.out⟩
      · have HNO : R = none := by
          rw [← HR.out]
          cases hr2 : rdGo 5 [] ((bl s).drop (1 + c1)) with
          | none => exact rdEntry_two HR1.out hr2
          | some q =>
            obtain ⟨t, c2⟩ := q
            cases hd : (bl s).drop (1 + c1 + c2) with
            | nil => exact rdEntry_short HR1.out hr2 hd
            | cons k d =>
              rw [rdEntry_all HR1.out hr2 hd, if_neg]
              rintro ⟨_, q, _⟩
              simp [indexOk] at q
              omega
        subst HNO
        go_enter Tryd.func80, Tryd.ntmps80
        go_wp2_with fail
        refine (Tryd.strings_HasPrefix _ _ _).mono ?_
        rw [show Lib.hasPrefix s.data.toList (⟨#[69]⟩ : ByteArray).data.toList = true from HPRE.out]
        rintro r w' ⟨rfl, rfl⟩
        go_wp2_with fail
        refine (implReadVar_at s hs 1 1 rfl h1s _).mono ?_
        rw [HR1.out, rvVal_some, HP1.out]
        rintro r w' ⟨rfl, rfl⟩
        go_wp2_with fail
        refine (within_no (i : Int) 1 1000000 (by omega) _).mono ?_
        rintro e w' ⟨rfl, rfl⟩
        go_wp2_with fail
        refine bodyPost_ret (v := .tuple #[.int .i64 0, .agg #[.int .i64 0, .int .i64 0, .string ⟨#[]⟩], .bool false]) (by simp [results, Tryd.results80, go_sem]) rfl ⟨rfl, B0.out⟩
  · have hpre : Lib.hasPrefix (bl s) [69] = false := by rw [hasPrefix_E]; simpa using hh
    have HPRE := hide hpre
    have HNO := rdEntry_head hh
    obtain rfl : R = none := HR.out.symm.trans HNO
    clear hpre hh HNO
    go_enter Tryd.func80, Tryd.ntmps80
    go_wp2_with (go_at_call 89; refine (Tryd.strings_HasPrefix _ _ _).mono ?_; rw [show Lib.hasPrefix s.data.toList (⟨#[69]⟩ : ByteArray).data.toList = false from HPRE.out]; rintro r w1 ⟨rfl, rfl⟩)
    refine bodyPost_ret (v := .tuple #[.int .i64 0, .agg #[.int .i64 0, .int .i64 0, .string ⟨#[]⟩], .bool false]) (by simp [results, Tryd.results80, go_sem]) rfl ⟨rfl, B0.out⟩

end Go.Proofs.YtmllcomppjkhhaaDoor
