/-
  Walks and mathematics of Msg23, Msg24.
-/
import Derived.Test.YtmllcomppjkhhaaGreatDoorRMsg22
import Derived.Test.YtmllcomppjkhhaaGreatDoorRMsg10
import Derived.Test.YtmllcomppjkhhaaGreatDoorRDraw1
import Derived.Test.YtmllcomppjkhhaaGreatDoorRMsgA
namespace Go.Proofs.YtmllcomppjkhhaaGreatDoor.P18
end Go.Proofs.YtmllcomppjkhhaaGreatDoor.P18
namespace Go.Proofs.YtmllcomppjkhhaaGreatDoor.P3
end Go.Proofs.YtmllcomppjkhhaaGreatDoor.P3
namespace Go.Proofs.YtmllcomppjkhhaaGreatDoor
open Go.RowKit P1 P3 P9 P11 P12 P18 K
set_option linter.unusedVariables false
set_option linter.unusedSimpArgs false

theorem run_to9 (s : List UInt8) (k : Nat) (hk : k ≤ s.length) (wx : World) :
    (Instr.slice 9 (.string ⟨s.toArray⟩) none (some (.int .i64 (k : Int))) none).run Tryz.prog wx = .ok (.string ⟨(s.take k).toArray⟩) wx := by
  have e : (⟨s.toArray⟩ : ByteArray).extract 0 k = ⟨(s.take k).toArray⟩ := by
    apply ByteArray.ext
    simp [ByteArray.data_extract]
  have hs : (⟨s.toArray⟩ : ByteArray).size = s.length := by simp [ByteArray.size]
  have h1 : (k : Int) ≤ (s.length : Int) := by omega
  rw [← e]
  simp [Instr.slice, run_underlying Tryz.underlying9, Instr.sliceBounds, go_sem, hs, h1, hk]

theorem run_from9 (s : List UInt8) (k : Nat) (hk : k ≤ s.length) (wx : World) :
    (Instr.slice 9 (.string ⟨s.toArray⟩) (some (.int .i64 (k : Int))) none none).run Tryz.prog wx = .ok (.string ⟨(s.drop k).toArray⟩) wx := by
  have e : (⟨s.toArray⟩ : ByteArray).extract k s.length = ⟨(s.drop k).toArray⟩ := by
    apply ByteArray.ext
    simp [ByteArray.data_extract]
    exact List.take_of_length_le (by rw [List.length_drop]; exact Nat.le_refl _)
  have hs : (⟨s.toArray⟩ : ByteArray).size = s.length := by simp [ByteArray.size]
  have h1 : (k : Int) ≤ (s.length : Int) := by omega
  rw [← e]
  simp [Instr.slice, run_underlying Tryz.underlying9, Instr.sliceBounds, go_sem, hs, h1, hk]

def SpD (N : Nat) (B p : Nat) (a : Option Addr) (len cap : Nat) (w : World) (e : Ending) (w' : World) : Prop :=
  ∃ t : List UInt8, t.length ≤ N ∧ e = .returned (.string ⟨t.toArray⟩) ∧ CurAt B w' p a len cap ∧ w.grownBy w' (some p)

set_option maxHeartbeats 4000000 in
theorem l02Spoilt_any (B p : Nat) (a : Option Addr) (len cap : Nat) (s : List UInt8) (hs : s.length ≤ 1000000) (w : World) (hB : B ≤ w.heap.size) (hc : CurAt B w p a len cap) :
    Calls Tryz.prog 30 #[.pointer (some ⟨p, 0, none⟩), .string ⟨s.toArray⟩] w fun e w' => SpD (s.length + 1) B p a len cap w e w' := by
  have hsz : (⟨s.toArray⟩ : ByteArray).size = s.length := by simp [ByteArray.size]
  have HC := hide hc
  clear hc
  go_enter Tryz.func30, Tryz.ntmps30
  go_wp2_with fail
  refine (l01Below_any B p a len cap 12 (by omega) (by omega) _ HC.out).mono ?_
  rintro e x1 ⟨xs, hxs, rfl, hc1, hg1⟩
  have hs1 : B ≤ x1.heap.size := Nat.le_trans hB hg1.size
  have HC1 := hide hc1
  have HG1 := hide hg1
  clear hc1 hg1 HC
  obtain ⟨X, hX⟩ : ∃ X : Int, (xs : Int) = X := ⟨_, rfl⟩
  rw [hX]
  have hXb : 0 ≤ X ∧ X < 12 := by omega
  clear hX hxs
  rcases (show X = 0 ∨ X = 1 ∨ (X = 2 ∨ X = 3) ∨ 4 ≤ X by omega) with rfl | rfl | hX | hX
  · go_wp2_with fail
    refine (l01Text_any B p a len cap 1 (by omega) _ hs1 HC1.out).mono ?_
    rintro e x2 ⟨l, hl, rfl, hc2, hg2⟩
    have HC2 := hide hc2
    have HG2 := hide (grown_trans HG1.out hg2)
    have hadd := add_fact15 Tryz.prog s l (by omega)
    have hlen : (s ++ l).length ≤ s.length + 1 := by rw [List.length_append]; omega
    generalize s ++ l = t at hadd hlen
    generalize (⟨s.toArray⟩ : ByteArray) = SS at hadd hsz ⊢
    generalize (⟨l.toArray⟩ : ByteArray) = LL at hadd ⊢
    clear hc2 hg2
    go_wp2_with fail
    go_ret
    exact ⟨t, hlen, rfl, HC2.out, HG2.out⟩
  · have hw : ((s.length + 1 : Nat) : Int) = (s.length : Int) + 1 := by omega
    have HBL := hide (l01Below_any B p a len cap (s.length + 1) (by omega) (by omega) x1 HC1.out)
    rw [hw] at HBL
    clear hw
    go_wp2_with fail
    refine HBL.out.mono ?_
    rintro e x2 ⟨k, hk, rfl, hc2, hg2⟩
    have hsl := run_to9 s k (by omega)
    have HC2 := hide hc2
    have HG2 := hide (grown_trans HG1.out hg2)
    have hlen : (s.take k).length ≤ s.length + 1 := by rw [List.length_take]; omega
    generalize s.take k = t at hsl hlen
    clear hc2 hg2
    go_wp2_with fail
    go_ret
    exact ⟨t, hlen, rfl, HC2.out, HG2.out⟩
  · by_cases h0 : 0 < s.length
    · have g0 : (0 : Int) < (s.length : Int) := by omega
      have key : ∀ (Q : Exit → Act → World → Prop), True := fun _ => trivial
      have HBL := hide (l01Below_any B p a len cap s.length h0 (by omega) x1 HC1.out)
      rcases hX with rfl | rfl
      · go_wp2_with fail
        refine HBL.out.mono ?_
        rintro e x2 ⟨k, hk, rfl, hc2, hg2⟩
        have hs2 : B ≤ x2.heap.size := Nat.le_trans hs1 hg2.size
        have HC2 := hide hc2
        have HG2 := hide (grown_trans HG1.out hg2)
        have hsl1 := run_to9 s k (by omega)
        have hsl2 := run_from9 s (k + 1) (by omega)
        rw [show ((k + 1 : Nat) : Int) = (k : Int) + 1 by omega] at hsl2
        have hwk : IntKind.i64.wrap ((k : Int) + 1) = (k : Int) + 1 := by rw [IntKind.wrap_i64]; omega
        obtain ⟨T1, hT1⟩ : ∃ T1, s.take k = T1 := ⟨_, rfl⟩
        obtain ⟨T2, hT2⟩ : ∃ T2, s.drop (k + 1) = T2 := ⟨_, rfl⟩
        have hl1 : T1.length = k := by rw [← hT1, List.length_take]; omega
        have hl2 : T2.length = s.length - (k + 1) := by rw [← hT2, List.length_drop]
        rw [hT1] at hsl1
        rw [hT2] at hsl2
        clear hc2 hg2 hT1 hT2 HBL
        have HTX := hide (l01Text_any B p a len cap 1 (by omega) x2.drew hs2 (HC2.out.kept (Below.refl _ _).drew rfl))
        have HL1 := hide hl1
        have HL2 := hide hl2
        clear hl1 hl2
        go_wp2_with fail
        refine wp_region_held_drew (S := fun _ => True) (by kernel_rfl) trivial (fun hHeld => ?_)
        refine wpAnyH_take (i := 0) (v := ?_) rfl (by kernel_rfl) (by kernel_rfl) (by kernel_rfl) (fun _ _ _ h => h) (Or.inl ⟨by rfl, ?_⟩) (by assumption) ?_; rotate_left
        · (intro w hSw; (try dsimp only at hSw); go_simp; first | done | with_reducible rfl)
        try simp only [Act.put, List.getElem_toArray, List.getElem_cons_zero, List.getElem_cons_succ, List.setIfInBounds_toArray, List.set_cons_zero, List.set_cons_succ]
        refine wpAnyH_take (i := 1) (v := ?_) rfl (by kernel_rfl) (by kernel_rfl) (by kernel_rfl) (fun _ _ _ h => h) (Or.inl ⟨by rfl, ?_⟩) (by assumption) ?_; rotate_left
        · (intro w hSw; (try dsimp only at hSw); go_simp; first | done | with_reducible rfl)
        try simp only [Act.put, List.getElem_toArray, List.getElem_cons_zero, List.getElem_cons_succ, List.setIfInBounds_toArray, List.set_cons_zero, List.set_cons_succ]
        refine wpAnyH_take (i := 2) (v := ?_) rfl (by kernel_rfl) (by kernel_rfl) (by kernel_rfl) (fun _ _ _ h => h) (Or.inl ⟨by rfl, ?_⟩) (by assumption) ?_; rotate_left
        · (intro w hSw; (try dsimp only at hSw); go_simp; first | done | with_reducible rfl)
        try simp only [Act.put, List.getElem_toArray, List.getElem_cons_zero, List.getElem_cons_succ, List.setIfInBounds_toArray, List.set_cons_zero, List.set_cons_succ]
        refine wpAnyH_take (i := 3) (v := ?_) rfl (by kernel_rfl) (by kernel_rfl) (by kernel_rfl) (fun _ _ _ h => h) (Or.inl ⟨by rfl, ?_⟩) (by assumption) ?_; rotate_left
        · (intro w hSw; (try dsimp only at hSw); go_simp; first | done | with_reducible rfl)
        try simp only [Act.put, List.getElem_toArray, List.getElem_cons_zero, List.getElem_cons_succ, List.setIfInBounds_toArray, List.set_cons_zero, List.set_cons_succ]
        refine wpAnyH_take (i := 6) (v := ?_) rfl (by kernel_rfl) (by kernel_rfl) (by kernel_rfl) (fun _ _ _ h => h) (Or.inl ⟨by rfl, ?_⟩) (by assumption) ?_; rotate_left
        · (intro w hSw; (try dsimp only at hSw); go_simp; first | done | with_reducible rfl)
        try simp only [Act.put, List.getElem_toArray, List.getElem_cons_zero, List.getElem_cons_succ, List.setIfInBounds_toArray, List.set_cons_zero, List.set_cons_succ]
        refine wpAnyH_take (i := 7) (v := ?_) rfl (by kernel_rfl) (by kernel_rfl) (by kernel_rfl) (fun _ _ _ h => h) (Or.inl ⟨by rfl, ?_⟩) (by assumption) ?_; rotate_left
        · (intro w hSw; (try dsimp only at hSw); go_simp; first | done | with_reducible rfl)
        try simp only [Act.put, List.getElem_toArray, List.getElem_cons_zero, List.getElem_cons_succ, List.setIfInBounds_toArray, List.set_cons_zero, List.set_cons_succ]
        refine wpAnyH_take (i := 8) (v := ?_) rfl (by kernel_rfl) (by kernel_rfl) (by kernel_rfl) (fun _ _ _ h => h) (Or.inl ⟨by rfl, ?_⟩) (by assumption) ?_; rotate_left
        · (intro w hSw; (try dsimp only at hSw); go_simp; first | done | with_reducible rfl)
        try simp only [Act.put, List.getElem_toArray, List.getElem_cons_zero, List.getElem_cons_succ, List.setIfInBounds_toArray, List.set_cons_zero, List.set_cons_succ]
        refine wpAnyH_take (i := 9) (v := ?_) rfl (by kernel_rfl) (by kernel_rfl) (by kernel_rfl) (fun _ _ _ h => h) (Or.inl ⟨by rfl, ?_⟩) (by assumption) ?_; rotate_left
        · (intro w hSw; (try dsimp only at hSw); go_simp; first | done | with_reducible rfl)
        try simp only [Act.put, List.getElem_toArray, List.getElem_cons_zero, List.getElem_cons_succ, List.setIfInBounds_toArray, List.set_cons_zero, List.set_cons_succ]
        refine wpAnyH_ready (rs := [4]) (by kernel_rfl) (by simp) ?_
        refine AllReadyH.cons rfl (fun K hK => ?_) ?_
        · rw [if_pos (by rfl)]
          go_simp
          go_at_call 64
          refine HTX.out.mono ?_
          rintro r x3 ⟨l, hl, rfl, hc3, hg3⟩
          have HC3 := hide hc3
          have HG3 := hide (grown_trans HG2.out (grown_trans (grown_below (Below.refl _ _).drew) hg3))
          have hadd1 := add_fact15 Tryz.prog T1 l (by have := HL1.out; omega)
          have hadd2 := add_fact15 Tryz.prog (T1 ++ l) T2 (by have := HL1.out; have := HL2.out; rw [List.length_append]; omega)
          have HLN := hide (show ((T1 ++ l) ++ T2).length ≤ s.length + 1 by have := HL1.out; have := HL2.out; rw [List.length_append, List.length_append]; omega)
          generalize (T1 ++ l) ++ T2 = t at hadd2 HLN
          generalize (⟨(T1 ++ l).toArray⟩ : ByteArray) = S1 at hadd1 hadd2
          clear hc3 hg3
          try go_simp
          refine hK.out _ _ ?_ (fun hHeld => ?_)
          · trivial
          clear hK K
          try simp only [Act.put, List.getElem_toArray, List.getElem_cons_zero, List.getElem_cons_succ, List.setIfInBounds_toArray, List.set_cons_zero, List.set_cons_succ]
          refine wpAnyH_take (i := 5) (v := ?_) rfl (by kernel_rfl) (by kernel_rfl) (by kernel_rfl) (fun _ _ _ h => h) (Or.inl ⟨by rfl, ?_⟩) (by assumption) ?_; rotate_left
          · (intro w hSw; (try dsimp only at hSw); go_simp; first | done | with_reducible rfl)
          try simp only [Act.put, List.getElem_toArray, List.getElem_cons_zero, List.getElem_cons_succ, List.setIfInBounds_toArray, List.set_cons_zero, List.set_cons_succ]
          refine wpAnyH_take (i := 10) (v := ?_) rfl (by kernel_rfl) (by kernel_rfl) (by kernel_rfl) (fun _ _ _ h => h) (Or.inl ⟨by rfl, ?_⟩) (by assumption) ?_; rotate_left
          · (intro w hSw; (try dsimp only at hSw); go_simp; first | done | with_reducible rfl)
          try simp only [Act.put, List.getElem_toArray, List.getElem_cons_zero, List.getElem_cons_succ, List.setIfInBounds_toArray, List.set_cons_zero, List.set_cons_succ]
          refine wpAnyH_take (i := 11) (v := ?_) rfl (by kernel_rfl) (by kernel_rfl) (by kernel_rfl) (fun _ _ _ h => h) (Or.inl ⟨by rfl, ?_⟩) (by assumption) ?_; rotate_left
          · (intro w hSw; (try dsimp only at hSw); go_simp; first | done | with_reducible rfl)
          try simp only [Act.put, List.getElem_toArray, List.getElem_cons_zero, List.getElem_cons_succ, List.setIfInBounds_toArray, List.set_cons_zero, List.set_cons_succ]
          refine wpAnyH_done (by kernel_rfl) ?_ _
          go_wp2_with fail
          go_ret
          exact ⟨t, HLN.out, rfl, HC3.out, HG3.out⟩
        exact AllReadyH.nil
      · go_wp2_with fail
        refine HBL.out.mono ?_
        rintro e x2 ⟨k, hk, rfl, hc2, hg2⟩
        have hs2 : B ≤ x2.heap.size := Nat.le_trans hs1 hg2.size
        have HC2 := hide hc2
        have HG2 := hide (grown_trans HG1.out hg2)
        have hsl1 := run_to9 s k (by omega)
        have hsl2 := run_from9 s (k + 1) (by omega)
        rw [show ((k + 1 : Nat) : Int) = (k : Int) + 1 by omega] at hsl2
        have hwk : IntKind.i64.wrap ((k : Int) + 1) = (k : Int) + 1 := by rw [IntKind.wrap_i64]; omega
        obtain ⟨T1, hT1⟩ : ∃ T1, s.take k = T1 := ⟨_, rfl⟩
        obtain ⟨T2, hT2⟩ : ∃ T2, s.drop (k + 1) = T2 := ⟨_, rfl⟩
        have hl1 : T1.length = k := by rw [← hT1, List.length_take]; omega
        have hl2 : T2.length = s.length - (k + 1) := by rw [← hT2, List.length_drop]
        rw [hT1] at hsl1
        rw [hT2] at hsl2
        clear hc2 hg2 hT1 hT2 HBL
        have HTX := hide (l01Text_any B p a len cap 1 (by omega) x2.drew hs2 (HC2.out.kept (Below.refl _ _).drew rfl))
        have HL1 := hide hl1
        have HL2 := hide hl2
        clear hl1 hl2
        go_wp2_with fail
        refine wp_region_held_drew (S := fun _ => True) (by kernel_rfl) trivial (fun hHeld => ?_)
        refine wpAnyH_take (i := 0) (v := ?_) rfl (by kernel_rfl) (by kernel_rfl) (by kernel_rfl) (fun _ _ _ h => h) (Or.inl ⟨by rfl, ?_⟩) (by assumption) ?_; rotate_left
        · (intro w hSw; (try dsimp only at hSw); go_simp; first | done | with_reducible rfl)
        try simp only [Act.put, List.getElem_toArray, List.getElem_cons_zero, List.getElem_cons_succ, List.setIfInBounds_toArray, List.set_cons_zero, List.set_cons_succ]
        refine wpAnyH_take (i := 1) (v := ?_) rfl (by kernel_rfl) (by kernel_rfl) (by kernel_rfl) (fun _ _ _ h => h) (Or.inl ⟨by rfl, ?_⟩) (by assumption) ?_; rotate_left
        · (intro w hSw; (try dsimp only at hSw); go_simp; first | done | with_reducible rfl)
        try simp only [Act.put, List.getElem_toArray, List.getElem_cons_zero, List.getElem_cons_succ, List.setIfInBounds_toArray, List.set_cons_zero, List.set_cons_succ]
        refine wpAnyH_take (i := 2) (v := ?_) rfl (by kernel_rfl) (by kernel_rfl) (by kernel_rfl) (fun _ _ _ h => h) (Or.inl ⟨by rfl, ?_⟩) (by assumption) ?_; rotate_left
        · (intro w hSw; (try dsimp only at hSw); go_simp; first | done | with_reducible rfl)
        try simp only [Act.put, List.getElem_toArray, List.getElem_cons_zero, List.getElem_cons_succ, List.setIfInBounds_toArray, List.set_cons_zero, List.set_cons_succ]
        refine wpAnyH_take (i := 3) (v := ?_) rfl (by kernel_rfl) (by kernel_rfl) (by kernel_rfl) (fun _ _ _ h => h) (Or.inl ⟨by rfl, ?_⟩) (by assumption) ?_; rotate_left
        · (intro w hSw; (try dsimp only at hSw); go_simp; first | done | with_reducible rfl)
        try simp only [Act.put, List.getElem_toArray, List.getElem_cons_zero, List.getElem_cons_succ, List.setIfInBounds_toArray, List.set_cons_zero, List.set_cons_succ]
        refine wpAnyH_take (i := 6) (v := ?_) rfl (by kernel_rfl) (by kernel_rfl) (by kernel_rfl) (fun _ _ _ h => h) (Or.inl ⟨by rfl, ?_⟩) (by assumption) ?_; rotate_left
        · (intro w hSw; (try dsimp only at hSw); go_simp; first | done | with_reducible rfl)
        try simp only [Act.put, List.getElem_toArray, List.getElem_cons_zero, List.getElem_cons_succ, List.setIfInBounds_toArray, List.set_cons_zero, List.set_cons_succ]
        refine wpAnyH_take (i := 7) (v := ?_) rfl (by kernel_rfl) (by kernel_rfl) (by kernel_rfl) (fun _ _ _ h => h) (Or.inl ⟨by rfl, ?_⟩) (by assumption) ?_; rotate_left
        · (intro w hSw; (try dsimp only at hSw); go_simp; first | done | with_reducible rfl)
        try simp only [Act.put, List.getElem_toArray, List.getElem_cons_zero, List.getElem_cons_succ, List.setIfInBounds_toArray, List.set_cons_zero, List.set_cons_succ]
        refine wpAnyH_take (i := 8) (v := ?_) rfl (by kernel_rfl) (by kernel_rfl) (by kernel_rfl) (fun _ _ _ h => h) (Or.inl ⟨by rfl, ?_⟩) (by assumption) ?_; rotate_left
        · (intro w hSw; (try dsimp only at hSw); go_simp; first | done | with_reducible rfl)
        try simp only [Act.put, List.getElem_toArray, List.getElem_cons_zero, List.getElem_cons_succ, List.setIfInBounds_toArray, List.set_cons_zero, List.set_cons_succ]
        refine wpAnyH_take (i := 9) (v := ?_) rfl (by kernel_rfl) (by kernel_rfl) (by kernel_rfl) (fun _ _ _ h => h) (Or.inl ⟨by rfl, ?_⟩) (by assumption) ?_; rotate_left
        · (intro w hSw; (try dsimp only at hSw); go_simp; first | done | with_reducible rfl)
        try simp only [Act.put, List.getElem_toArray, List.getElem_cons_zero, List.getElem_cons_succ, List.setIfInBounds_toArray, List.set_cons_zero, List.set_cons_succ]
        refine wpAnyH_ready (rs := [4]) (by kernel_rfl) (by simp) ?_
        refine AllReadyH.cons rfl (fun K hK => ?_) ?_
        · rw [if_pos (by rfl)]
          go_simp
          go_at_call 64
          refine HTX.out.mono ?_
          rintro r x3 ⟨l, hl, rfl, hc3, hg3⟩
          have HC3 := hide hc3
          have HG3 := hide (grown_trans HG2.out (grown_trans (grown_below (Below.refl _ _).drew) hg3))
          have hadd1 := add_fact15 Tryz.prog T1 l (by have := HL1.out; omega)
          have hadd2 := add_fact15 Tryz.prog (T1 ++ l) T2 (by have := HL1.out; have := HL2.out; rw [List.length_append]; omega)
          have HLN := hide (show ((T1 ++ l) ++ T2).length ≤ s.length + 1 by have := HL1.out; have := HL2.out; rw [List.length_append, List.length_append]; omega)
          generalize (T1 ++ l) ++ T2 = t at hadd2 HLN
          generalize (⟨(T1 ++ l).toArray⟩ : ByteArray) = S1 at hadd1 hadd2
          clear hc3 hg3
          try go_simp
          refine hK.out _ _ ?_ (fun hHeld => ?_)
          · trivial
          clear hK K
          try simp only [Act.put, List.getElem_toArray, List.getElem_cons_zero, List.getElem_cons_succ, List.setIfInBounds_toArray, List.set_cons_zero, List.set_cons_succ]
          refine wpAnyH_take (i := 5) (v := ?_) rfl (by kernel_rfl) (by kernel_rfl) (by kernel_rfl) (fun _ _ _ h => h) (Or.inl ⟨by rfl, ?_⟩) (by assumption) ?_; rotate_left
          · (intro w hSw; (try dsimp only at hSw); go_simp; first | done | with_reducible rfl)
          try simp only [Act.put, List.getElem_toArray, List.getElem_cons_zero, List.getElem_cons_succ, List.setIfInBounds_toArray, List.set_cons_zero, List.set_cons_succ]
          refine wpAnyH_take (i := 10) (v := ?_) rfl (by kernel_rfl) (by kernel_rfl) (by kernel_rfl) (fun _ _ _ h => h) (Or.inl ⟨by rfl, ?_⟩) (by assumption) ?_; rotate_left
          · (intro w hSw; (try dsimp only at hSw); go_simp; first | done | with_reducible rfl)
          try simp only [Act.put, List.getElem_toArray, List.getElem_cons_zero, List.getElem_cons_succ, List.setIfInBounds_toArray, List.set_cons_zero, List.set_cons_succ]
          refine wpAnyH_take (i := 11) (v := ?_) rfl (by kernel_rfl) (by kernel_rfl) (by kernel_rfl) (fun _ _ _ h => h) (Or.inl ⟨by rfl, ?_⟩) (by assumption) ?_; rotate_left
          · (intro w hSw; (try dsimp only at hSw); go_simp; first | done | with_reducible rfl)
          try simp only [Act.put, List.getElem_toArray, List.getElem_cons_zero, List.getElem_cons_succ, List.setIfInBounds_toArray, List.set_cons_zero, List.set_cons_succ]
          refine wpAnyH_done (by kernel_rfl) ?_ _
          go_wp2_with fail
          go_ret
          exact ⟨t, HLN.out, rfl, HC3.out, HG3.out⟩
        exact AllReadyH.nil
    · have g0 : ¬ (0 : Int) < (s.length : Int) := by omega
      rcases hX with rfl | rfl
      · go_wp2_with fail
        go_ret
        exact ⟨s, by omega, rfl, HC1.out, HG1.out⟩
      · go_wp2_with fail
        go_ret
        exact ⟨s, by omega, rfl, HC1.out, HG1.out⟩
  · have n0 : (X == 0) = false := by simp; omega
    have n1 : (X == 1) = false := by simp; omega
    have n2 : (X == 2) = false := by simp; omega
    have n3 : (X == 3) = false := by simp; omega
    go_wp2_with fail
    go_ret
    exact ⟨s, by omega, rfl, HC1.out, HG1.out⟩

theorem XS.nest {h : Nat} {w1 : World} (v0 v1 v2 v3 v4 v5 v6 v7 v8 v9 v10 v11 : Value) (k : XS h ZM15 27 w1) (w9 : World) (hw : w9 = w1.setCells h 0 [v0, v1, v2, v3, v4, v5, v6, v7, v8, v9, v10, v11]) : XS h #[v0, v1, v2, v3, v4, v5, v6, v7, v8, v9, v10, v11] 27 w9 ∧ w1.grownBy w9 (some h) := by
  subst hw
  obtain ⟨hx, hg⟩ := blk_setAll [v0, v1, v2, v3, v4, v5, v6, v7, v8, v9, v10, v11] w1 ZM15 0 k
  rw [setM15] at hx
  exact ⟨hx, hg⟩

theorem msgB_len {m : MsgV} (h : msgOk m = true) : (msgB m).length ≤ 5000 := by
  have hi := msg_in h
  have h1 := entsT_len m.es hi.es.2
  have h2 := hi.conf.1
  have h3 := hi.da
  have h4 := hi.es.1
  have v0 := var_len15 m.es.length
  have v1 := var_len15 m.tm.toNat
  have v2 := var_len15 m.ix.toNat
  have v3 := var_len15 m.lt.toNat
  have v4 := var_len15 m.cm.toNat
  have s1 := (shortB_length (confB m.cf)).1
  have s2 := (shortB_length m.da).1
  rw [confB_length] at s1
  unfold msgB tlB
  simp only [List.length_cons, List.length_append, varZ]
  omega

theorem wf15 {z : Int} (h : 0 ≤ z ∧ z ≤ 5) : (Lit.int .i64 z).wf = true := by
  have : z = 0 ∨ z = 1 ∨ z = 2 ∨ z = 3 ∨ z = 4 ∨ z = 5 := by omega
  rcases this with rfl | rfl | rfl | rfl | rfl | rfl <;> rfl

theorem mtV_small (m : MsgV) : ∃ (t : List UInt8) (b : Bool), t.length ≤ 5000 ∧ mtV (msgText m) = .tuple #[.string ⟨t.toArray⟩, .bool b] := by
  unfold msgText
  by_cases h : msgOk m = true
  · rw [if_pos h]
    exact ⟨_, _, msgB_len h, rfl⟩
  · rw [if_neg h]
    exact ⟨[], _, by simp, rfl⟩

set_option maxHeartbeats 4000000 in
theorem drawEncode_any (B : Nat) (a : Option Addr) (len cap : Nat) (w : World) (hlen : len ≤ 1048576) (hB : B ≤ w.heap.size) (hcode : CodeAt B w a len) :
    Calls Tryz.prog 5 #[.slice a len cap] w fun e w' => ∃ (kd fr to tm ix lt cm : Int) (ok : Bool) (v vp : Value) (da : List UInt8) (la : Bool) (es : List EntV) (zs : List Int), es.length ≤ 5 ∧ (∀ f ∈ es, f.data.size ≤ 1000) ∧ ConfIn 5 0 5 zs ∧ da.length ≤ 100 ∧ e = .returned (mgval kd fr to tm ix lt cm ok v vp da la) ∧ MgOwn w' w.heap.size v vp es.length zs.length es zs ∧ Below w.heap.size w w' := by
  have k1 := (Below.refl w.heap.size w).alloc (Nat.le_refl _) (.cells ZM15 27)
  have HN := hide (l01New_any B a len cap (w.alloc (.cells ZM15 27)) hlen (by simp; omega) (hcode.below (k1.mono hB)))
  have HR0 := hide (XS.new w ZM15 27)
  have HB0 := hide k1
  clear k1 hcode
  rw [World.size_alloc] at HN
  go_enter Tryz.func5, Tryz.ntmps5
  go_wp2_with fail
  refine HN.out.mono ?_
  rintro e x1 ⟨rfl, hc1, hb1⟩
  have hs1 : w.heap.size + 1 < x1.heap.size := hc1.lt
  have HR1 := hide (HR0.out.low hb1 (by simp))
  have HB1 := hide (HB0.out.trans (hb1.mono (by simp)))
  have HC1 := hide hc1
  clear hc1 hb1 HN HR0 HB0
  go_wp2_with fail
  refine (l15Any_any B (w.heap.size + 1) a len cap x1 (by omega) HC1.out).mono ?_
  rintro e x2 ⟨kd, fr, to, tm, ix, lt, cm, ok, v, vp, da, la, es, zs, hel, hew, hzs, hda, rfl, hc2, hg2, ho2, hp2⟩
  obtain ⟨ov, cv, rfl⟩ := own_form3 ho2
  obtain ⟨oc, cc, rfl⟩ := row_form hp2
  have HR2 := hide (HR1.out.kept hg2 (fun q => by have := Option.some.inj q; omega))
  have HB2 := hide (HB1.out.grown hg2 HB1.out.size (fun j hj => by cases hj; omega))
  have HO := hide ho2
  have HP := hide hp2
  have HEW := hide hew
  have HZS := hide hzs
  clear hc2 hg2 ho2 hp2 hew hzs HR1 HB1 HC1
  obtain ⟨r0, r1, r2, r3, r4, r5, r6, r7, r8, r9, r10, r11⟩ := xs12 (T := 27) HR2.out
  have t0 := HR2.out.free 0
  have t1 := HR2.out.free 1
  have t2 := HR2.out.free 2
  have t3 := HR2.out.free 3
  have t4 := HR2.out.free 4
  have t5 := HR2.out.free 5
  have t6 := HR2.out.free 6
  have t7 := HR2.out.free 7
  have t8 := HR2.out.free 8
  have t9 := HR2.out.free 9
  have t10 := HR2.out.free 10
  have t11 := HR2.out.free 11
  go_wp2_with fail
  clear r0 r1 r2 r3 r4 r5 r6 r7 r8 r9 r10 r11 t0 t1 t2 t3 t4 t5 t6 t7 t8 t9 t10 t11
  obtain ⟨W9, hW9⟩ : ∃ W9, W9 = ((((((((((((x2.setCell ⟨w.heap.size, 0, none⟩ (Value.int IntKind.i64 kd)).setCell ⟨w.heap.size, 1, none⟩ (Value.int IntKind.i64 fr)).setCell ⟨w.heap.size, 2, none⟩ (Value.int IntKind.i64 to)).setCell ⟨w.heap.size, 3, none⟩ (Value.int IntKind.i64 tm)).setCell ⟨w.heap.size, 4, none⟩ (Value.int IntKind.i64 ix)).setCell ⟨w.heap.size, 5, none⟩ (Value.int IntKind.i64 lt)).setCell ⟨w.heap.size, 6, none⟩ (Value.int IntKind.i64 cm)).setCell ⟨w.heap.size, 7, none⟩ (Value.bool ok)).setCell ⟨w.heap.size, 8, none⟩ (Value.slice ov es.length cv)).setCell ⟨w.heap.size, 9, none⟩ (Value.slice oc zs.length cc)).setCell ⟨w.heap.size, 10, none⟩ (Value.string ⟨da.toArray⟩)).setCell ⟨w.heap.size, 11, none⟩ (Value.bool la)) := ⟨_, rfl⟩
  have hW8 : W9 = x2.setCells w.heap.size 0 [(Value.int IntKind.i64 kd), (Value.int IntKind.i64 fr), (Value.int IntKind.i64 to), (Value.int IntKind.i64 tm), (Value.int IntKind.i64 ix), (Value.int IntKind.i64 lt), (Value.int IntKind.i64 cm), (Value.bool ok), (Value.slice ov es.length cv), (Value.slice oc zs.length cc), (Value.string ⟨da.toArray⟩), (Value.bool la)] := by rw [hW9]; simp only [World.setCells, Nat.zero_add, Nat.reduceAdd]
  rw [← hW9]
  clear hW9
  obtain ⟨hr, hg9⟩ := XS.nest (Value.int IntKind.i64 kd) (Value.int IntKind.i64 fr) (Value.int IntKind.i64 to) (Value.int IntKind.i64 tm) (Value.int IntKind.i64 ix) (Value.int IntKind.i64 lt) (Value.int IntKind.i64 cm) (Value.bool ok) (Value.slice ov es.length cv) (Value.slice oc zs.length cc) (Value.string ⟨da.toArray⟩) (Value.bool la) HR2.out W9 hW8
  have ho9 := own_setAll15 (w := x1) (q := w.heap.size) (fun g hg e1 => by have := (HO.out.lt g hg).1; omega) [(Value.int IntKind.i64 kd), (Value.int IntKind.i64 fr), (Value.int IntKind.i64 to), (Value.int IntKind.i64 tm), (Value.int IntKind.i64 ix), (Value.int IntKind.i64 lt), (Value.int IntKind.i64 cm), (Value.bool ok), (Value.slice ov es.length cv), (Value.slice oc zs.length cc), (Value.string ⟨da.toArray⟩), (Value.bool la)] 0 x2 HO.out
  have hp9 := own_setAll15 (w := x1) (q := w.heap.size) (fun g hg e1 => by have := (HP.out.lt g hg).1; omega) [(Value.int IntKind.i64 kd), (Value.int IntKind.i64 fr), (Value.int IntKind.i64 to), (Value.int IntKind.i64 tm), (Value.int IntKind.i64 ix), (Value.int IntKind.i64 lt), (Value.int IntKind.i64 cm), (Value.bool ok), (Value.slice ov es.length cv), (Value.slice oc zs.length cc), (Value.string ⟨da.toArray⟩), (Value.bool la)] 0 x2 HP.out
  rw [← hW8] at ho9 hp9
  have HB9 := HB2.out.grown hg9 HB2.out.size (fun j hj => by cases hj; exact Nat.le_refl _)
  clear hW8
  obtain ⟨q0, q1, q2, q3, q4, q5, q6, q7, q8, q9, q10, q11⟩ := xs12 (T := 27) hr
  exact bodyPost_ret (v := .agg #[.int .i64 kd, .int .i64 fr, .int .i64 to, .int .i64 tm, .int .i64 ix, .int .i64 lt, .int .i64 cm, .bool ok, (.slice ov es.length cv), (.slice oc zs.length cc), .string ⟨da.toArray⟩, .bool la]) (by simp [results, Tryz.results5, go_sem, q0, q1, q2, q3, q4, q5, q6, q7, q8, q9, q10, q11]) rfl ⟨_, _, _, _, _, _, _, _, _, _, da, _, es, zs, hel, HEW.out, HZS.out, hda, rfl, ⟨own_base ho9 (by omega), own_base hp9 (by omega)⟩, HB9⟩

set_option maxHeartbeats 4000000 in
theorem drawDecode_any (B : Nat) (a : Option Addr) (len cap : Nat) (w : World) (hlen : len ≤ 1048576) (hB : B ≤ w.heap.size) (hcode : CodeAt B w a len) :
    Calls Tryz.prog 11 #[.slice a len cap] w fun e w' => ∃ t : List UInt8, t.length ≤ 5001 ∧ e = .returned (.string ⟨t.toArray⟩) ∧ Below w.heap.size w w' := by
  have HN := hide (l01New_any B a len cap w hlen hB hcode)
  clear hcode
  go_enter Tryz.func11, Tryz.ntmps11
  go_wp2_with fail
  refine HN.out.mono ?_
  rintro e x1 ⟨rfl, hc1, hb1⟩
  have hs1 : w.heap.size < x1.heap.size := hc1.lt
  have HB1 := hide hb1
  have HC1 := hide hc1
  clear hc1 hb1 HN
  go_wp2_with fail
  refine (l15Any_any B w.heap.size a len cap x1 (by omega) HC1.out).mono ?_
  rintro e x2 ⟨kd, fr, to, tm, ix, lt, cm, ok, v, vp, da, la, es, zs, hel, hew, hzs, hda, rfl, hc2, hg2, ho2, hp2⟩
  obtain ⟨_, _, heX, hat⟩ := entsAt_own ho2
  cases heX
  obtain ⟨_, _, heX, hbt⟩ := intsAt_of_own hp2 (fun z hz => wf15 (hzs.2 z hz))
  cases heX
  have hzl := hzs.1
  have HET := hide (specEncode_any kd fr to tm ix lt cm ok _ es.length _ _ zs.length _ da la es zs (by omega) x2 hat hbt (fun f hf => by have := hew f hf; omega) (by omega) (by omega))
  obtain ⟨t, bb, htl, hte⟩ := mtV_small ⟨kd, fr, to, tm, ix, lt, cm, ok, es, zs, da, la⟩
  rw [hte] at HET
  have hs2 := hg2.size
  have HB2 := hide (HB1.out.grown hg2 HB1.out.size (fun j hj => by cases hj; exact Nat.le_refl _))
  have HC2 := hide hc2
  clear hc2 hg2 ho2 hp2 hat hbt hte HB1 HC1
  go_wp2_with fail
  refine HET.out.mono ?_
  rintro e x3 ⟨rfl, hb3⟩
  have hs3 := hb3.size
  have HB3 := hide (HB2.out.trans (hb3.mono HB2.out.size))
  have HC3 := hide (HC2.out.kept (hb3.mono (by omega)) (hb3.block _ HC2.out.lt))
  clear hb3 HB2 HC2 HET
  go_wp2_with fail
  refine (l02Spoilt_any B w.heap.size a len cap t (by omega) x3 (by omega) HC3.out).mono ?_
  rintro e x4 ⟨t2, ht2, rfl, hc4, hg4⟩
  have HB4 := hide (HB3.out.grown hg4 HB3.out.size (fun j hj => by cases hj; exact Nat.le_refl _))
  clear hc4 hg4
  go_wp2_with fail
  go_ret
  exact ⟨t2, by omega, rfl, HB4.out⟩

end Go.Proofs.YtmllcomppjkhhaaGreatDoor

namespace Go.Proofs.YtmllcomppjkhhaaGreatDoor
open Go.RowKit P1 P3 P9 P11 P12 P18 K
set_option linter.unusedVariables false
set_option linter.unusedSimpArgs false

set_option maxHeartbeats 1000000 in
theorem sameInts_15 (oa : Option Addr) (n cap : Nat) (ob : Option Addr) (cap' : Nat) (zs : List Int) (hn20 : n ≤ 1048576) (w : World) (hat : IntsAt w oa n cap zs) (hbt : IntsAt w ob n cap' zs) :
    Calls Tryz.prog 28 #[.slice oa n cap, .slice ob n cap'] w fun e w' => e = .returned (.bool true) ∧ Below w.heap.size w w' := by
  have HAT := hide hat
  have HBT := hide hbt
  clear hat hbt
  go_enter Tryz.func28, Tryz.ntmps28
  go_wp2_with fail
  go_loopw [5] (fun i wr => ∃ (j q : Nat), i = .int .i64 (j : Int) ∧ j ≤ n ∧ wr = w.drewN q) (fun i _ => n - (intOf i).toNat)
  case atStart => exact ⟨0, 0, rfl, Nat.zero_le _, rfl⟩
  case round =>
    obtain ⟨j, q, rfl, hj, rfl⟩ := hrel
    by_cases hlt : j < n
    · have j0 : (j : Int) < (n : Int) := by omega
      obtain ⟨z, b, p, hz, hidx, hb, c0, hwf⟩ := HAT.out.get Tryz.underlying25 infoI j hlt
      obtain ⟨z', b', p', hz', hidx', hb', c0', hwf'⟩ := HBT.out.get Tryz.underlying25 infoI j hlt
      rw [hz] at hz'
      cases hz'
      clear hz
      go_wp2_with fail
      go_quiet (fail)
      go_wp2_with fail
      go_roundw
      case rel => exact ⟨j + 1, q + nq, by go_num, by omega, by simp⟩
      case measure => simp [intOf]; omega
    · go_wp2_with fail
      go_ret
      exact ⟨rfl, below_drewN (Below.refl _ _) _⟩

set_option maxHeartbeats 4000000 in
theorem sameMessage_same (kd fr to tm ix lt cm : Int) (ok : Bool) (oa : Option Addr) (n cl : Nat) (ob : Option Addr) (m cp : Nat) (da : List UInt8) (la : Bool) (es : List EntV) (zs : List Int) (oc od : Option Addr) (cl2 cp2 : Nat) (hn20 : n ≤ 1048576) (hm20 : m ≤ 1048576) (w : World) (h1 : EntsAt w oa n cl es) (h2 : EntsAt w oc n cl2 es) (h3 : IntsAt w ob m cp zs) (h4 : IntsAt w od m cp2 zs) :
    Calls Tryz.prog 10 #[mgval kd fr to tm ix lt cm ok (.slice oa n cl) (.slice ob m cp) da la, mgval kd fr to tm ix lt cm ok (.slice oc n cl2) (.slice od m cp2) da la] w fun e w' => e = .returned (.bool true) ∧ Below w.heap.size w w' := by
  have hb0 := ((Below.refl w.heap.size w).alloc (Nat.le_refl _) (.cells #[.int .i64 kd, .int .i64 fr, .int .i64 to, .int .i64 tm, .int .i64 ix, .int .i64 lt, .int .i64 cm, .bool ok, .slice oa n cl, .slice ob m cp, .string ⟨da.toArray⟩, .bool la] 27)).alloc (by simp) (.cells #[.int .i64 kd, .int .i64 fr, .int .i64 to, .int .i64 tm, .int .i64 ix, .int .i64 lt, .int .i64 cm, .bool ok, .slice oc n cl2, .slice od m cp2, .string ⟨da.toArray⟩, .bool la] 27)
  have HI := hide (fun w h3 h4 => sameInts_15 ob m cp od cp2 zs hm20 w h3 h4)
  have L1 := hide ((XS.new w #[.int .i64 kd, .int .i64 fr, .int .i64 to, .int .i64 tm, .int .i64 ix, .int .i64 lt, .int .i64 cm, .bool ok, .slice oa n cl, .slice ob m cp, .string ⟨da.toArray⟩, .bool la] 27).alloc (.cells #[.int .i64 kd, .int .i64 fr, .int .i64 to, .int .i64 tm, .int .i64 ix, .int .i64 lt, .int .i64 cm, .bool ok, .slice oc n cl2, .slice od m cp2, .string ⟨da.toArray⟩, .bool la] 27))
  have hL2 := XS.new (w.alloc (.cells #[.int .i64 kd, .int .i64 fr, .int .i64 to, .int .i64 tm, .int .i64 ix, .int .i64 lt, .int .i64 cm, .bool ok, .slice oa n cl, .slice ob m cp, .string ⟨da.toArray⟩, .bool la] 27)) #[.int .i64 kd, .int .i64 fr, .int .i64 to, .int .i64 tm, .int .i64 ix, .int .i64 lt, .int .i64 cm, .bool ok, .slice oc n cl2, .slice od m cp2, .string ⟨da.toArray⟩, .bool la] 27
  rw [World.size_alloc] at hL2
  have L2 := hide hL2
  have HB0 := hide hb0
  have H1 := hide (h1.below hb0)
  have H2 := hide (h2.below hb0)
  have H3 := hide (h3.below hb0)
  have H4 := hide (h4.below hb0)
  have hs : (da.toArray.toList == da.toArray.toList) = true := by simp
  clear h1 h2 h3 h4 hb0 hL2
  go_enter Tryz.func10, Tryz.ntmps10
  go_wp2_with fail
  refine (HI.out _ H3.out H4.out).mono ?_
  rintro e w1 ⟨rfl, hb1⟩
  have HB1 := hide (HB0.out.trans (hb1.mono HB0.out.size))
  have L1b := hide (L1.out.on hb1)
  have L2b := hide (L2.out.on hb1)
  have H1b := hide (H1.out.below hb1)
  have H2b := hide (H2.out.below hb1)
  clear hb1 L1 L2 H3 H4 H1 H2 HB0
  go_wp2_with fail
  go_loopw [5] (fun i wr => ∃ (j : Nat), i = .int .i64 (j : Int) ∧ j ≤ n ∧ Below w1.heap.size w1 wr) (fun i _ => n - (intOf i).toNat)
  case atStart => exact ⟨0, rfl, Nat.zero_le _, Below.refl _ _⟩
  case round =>
    obtain ⟨j, rfl, hj, hbel⟩ := hrel
    obtain ⟨k0, k1, k2, k3, k4, k5, k6, k7, k8, k9, k10, k11⟩ := xs12 (L1b.out.on hbel)
    obtain ⟨l0, l1, l2, l3, l4, l5, l6, l7, l8, l9, l10, l11⟩ := xs12 (L2b.out.on hbel)
    have hsz := hbel.size
    have HB2 := hide (HB1.out.trans (hbel.mono HB1.out.size))
    by_cases hlt : j < n
    · have j0 : (j : Int) < (n : Int) := by omega
      obtain ⟨f, b, q, hf, hidx, hb, c0, c1, c2⟩ := (H1b.out.below hbel).get3 Tryz.underlying24 infoIE j hlt
      obtain ⟨f', b', q', hf', hidx', hb', c0', c1', c2'⟩ := (H2b.out.below hbel).get3 Tryz.underlying24 infoIE j hlt
      rw [hf] at hf'
      cases hf'
      have hq : (f.data.data.toList == f.data.data.toList) = true := by simp
      clear hf
      go_wp2_with fail
      go_quiet (fail)
      go_wp2_with fail
      go_roundw
      case rel => exact ⟨j + 1, by go_num, by omega, below_drewN hbel _⟩
      case measure => simp [intOf]; omega
    · have j0 : ¬ (j : Int) < (n : Int) := by omega
      go_wp2_with fail
      go_ret
      exact ⟨rfl, HB2.out⟩

end Go.Proofs.YtmllcomppjkhhaaGreatDoor
