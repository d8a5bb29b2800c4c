/-
  Walks and mathematics of Short1.
-/
import Derived.Test.YtckkfjmjcknjdaaGreatDoorRCPlain1
import Derived.Test.YtckkfjmjcknjdaaGreatDoorRCWalk5h
import Derived.Test.YtckkfjmjcknjdaaGreatDoorRCBase
import Derived.Lib.SmallJoins
namespace Go.Proofs.YtckkfjmjcknjdaaGreatDoor.P3
end Go.Proofs.YtckkfjmjcknjdaaGreatDoor.P3
namespace Go.Proofs.YtckkfjmjcknjdaaGreatDoor
open Go.RowKit P1 P3 P9 P11 K
set_option linter.unusedVariables false
set_option linter.unusedSimpArgs false

theorem cat_two8 (x y : List UInt8) : (⟨x.toArray⟩ : ByteArray) ++ ⟨y.toArray⟩ = ⟨(x ++ y).toArray⟩ := by
  apply ByteArray.ext
  simp

theorem size_mk8 (l : List UInt8) : (⟨l.toArray⟩ : ByteArray).size = l.length := rfl

theorem bl_mk8 (l : List UInt8) : bl ⟨l.toArray⟩ = l := rfl

theorem shortB_length (l : List UInt8) : (shortB l).length ≤ l.length + 10 ∧ l.length ≤ (shortB l).length := by
  have := varB_length l.length
  simp only [shortB, List.length_append]
  omega

theorem l05Short_any (l : List UInt8) (hl : l.length ≤ 1048576) (w : World) :
    Calls Tryz.prog 30 #[.string ⟨l.toArray⟩] w fun e w' => e = .returned (.string ⟨(shortB l).toArray⟩) ∧ Below w.heap.size w w' := by
  have hv := varB_length l.length
  have C := cat_two8 (varB l.length) l
  have HV := hide (l01Var_any l.length (by omega))
  go_enter Tryz.func30, Tryz.ntmps30
  go_wp2_with (go_at_call 27; refine (HV.out _).mono ?_; rintro e w1 ⟨rfl, hb1⟩)
  go_ret
  exact ⟨rfl, hb1⟩

theorem drop_add8 (s : ByteArray) (a c : Nat) : ((bl s).drop a).drop c = (bl s).drop (a + c) := by rw [List.drop_drop]

theorem extract_list (s : ByteArray) (a n : Nat) (h : a + n ≤ s.size) : s.extract a (a + n) = ⟨(((bl s).drop a).take n).toArray⟩ := by
  apply ByteArray.ext
  rw [ByteArray.data_extract]
  apply Array.ext'
  rw [Array.toList_extract, List.extract_eq_take_drop]
  show List.take (a + n - a) ((bl s).drop a) = _
  rw [show a + n - a = n by omega]

def shortV (s : ByteArray) (a : Nat) (b : Bool) : List UInt8 × Nat × Bool :=
  (bl (takeV s (varV s a b).2.1 (varV s a b).2.2 (varV s a b).1).1, (takeV s (varV s a b).2.1 (varV s a b).2.2 (varV s a b).1).2)

theorem varV_le (s : ByteArray) (a : Nat) (b : Bool) : (varV s a b).1 ≤ 1000000000 := by
  unfold varV
  split
  · rename_i v c h
    exact (rdGo_some 5 [] _ v c h).1
  · exact Nat.zero_le _

set_option maxHeartbeats 1000000 in
theorem l05ReadShort_any (g : Nat) (s : ByteArray) (hs : s.size ≤ 1048576) (a : Nat) (b : Bool) (w : World) (hc : RdC w g s a b) :
    Calls Tryz.prog 37 #[.pointer (some ⟨g, 0, none⟩)] w fun e w' =>
      e = .returned (.string ⟨(shortV s a b).1.toArray⟩) ∧ RdC w' g s (shortV s a b).2.1 (shortV s a b).2.2 ∧ w.grownBy w' (some g) := by
  have hle := varV_le s a b
  have HV := hide (l05Var_any g s hs a b w hc)
  unfold shortV
  generalize varV s a b = q at HV hle ⊢
  obtain ⟨n, a1, b1⟩ := q
  simp only at HV hle ⊢
  have HT := hide (fun w hc => l05Take_any g s hs a1 b1 n hle w hc)
  clear hc
  generalize takeV s a1 b1 n = q at HT ⊢
  obtain ⟨x, a2, b2⟩ := q
  simp only at HT ⊢
  go_enter Tryz.func37, Tryz.ntmps37
  go_wp2_with fail
  refine HV.out.mono ?_
  rintro e w1 ⟨rfl, hc1, hg1⟩
  have HC1 := hide hc1
  have HG1 := hide hg1
  clear hc1 hg1
  go_wp2_with fail
  refine (HT.out _ HC1.out).mono ?_
  rintro e w2 ⟨rfl, hc2, hg2⟩
  have HC2 := hide hc2
  have HG2 := hide (grown_trans HG1.out hg2)
  clear hc2 hg2
  go_wp2_with fail
  go_ret
  exact ⟨rfl, HC2.out, HG2.out⟩

theorem varV_rd {s : ByteArray} {a : Nat} {b : Bool} {v a' : Nat} {b' : Bool} (h : varV s a b = (v, a', b')) :
    (b' = false → b = false ∧ rdV ((bl s).drop a) = some (v, (bl s).drop a')) ∧ (b' = true → b = false → rdV ((bl s).drop a) = none) := by
  unfold varV at h
  unfold rdV
  cases b with
  | true =>
    simp only [Prod.mk.injEq] at h
    obtain ⟨rfl, rfl, rfl⟩ := h
    exact ⟨fun q => (by cases q), fun _ q => (by cases q)⟩
  | false =>
    cases hr : rdGo 5 [] ((bl s).drop a) with
    | none =>
      rw [hr] at h
      simp only [Prod.mk.injEq] at h
      obtain ⟨rfl, rfl, rfl⟩ := h
      exact ⟨fun q => (by cases q), fun _ _ => rfl⟩
    | some p =>
      obtain ⟨n, c⟩ := p
      rw [hr] at h
      simp only [Prod.mk.injEq] at h
      obtain ⟨rfl, rfl, rfl⟩ := h
      exact ⟨fun _ => ⟨rfl, by simp only; rw [drop_add8]⟩, fun q => by cases q⟩

theorem varV_in {s : ByteArray} {a : Nat} {b : Bool} (ha : a ≤ s.size) : (varV s a b).2.1 ≤ s.size := by
  unfold varV
  split
  · rename_i v c h
    have := (rdGo_some 5 [] _ v c h).2.2
    rw [List.length_drop, bl_length, List.length_nil] at this
    simp only
    omega
  · exact ha

theorem shortV_rd {s : ByteArray} {a : Nat} (ha : a ≤ s.size) {b : Bool} {x : List UInt8} {a' : Nat} {b' : Bool} (h : shortV s a b = (x, a', b')) :
    (b' = false → b = false ∧ rdS ((bl s).drop a) = some (x, (bl s).drop a')) ∧ (b' = true → b = false → rdS ((bl s).drop a) = none) := by
  unfold shortV at h
  have hin := varV_in (b := b) ha
  obtain ⟨n, a1, b1, h1⟩ : ∃ n a1 b1, varV s a b = (n, a1, b1) := ⟨_, _, _, rfl⟩
  rw [h1] at h hin
  simp only at h hin
  obtain ⟨g1, g2⟩ := varV_rd h1
  unfold takeV at h
  cases b1 with
  | true =>
    simp only [Bool.true_eq_false, false_and, if_false, Prod.mk.injEq] at h
    obtain ⟨rfl, rfl, rfl⟩ := h
    refine ⟨fun q => (by cases q), fun _ q => ?_⟩
    unfold rdS
    rw [g2 rfl q]
  | false =>
    obtain ⟨hb, hr⟩ := g1 rfl
    by_cases hf : a1 + n ≤ s.size
    · rw [if_pos ⟨rfl, hf⟩] at h
      simp only [Prod.mk.injEq] at h
      obtain ⟨rfl, rfl, rfl⟩ := h
      refine ⟨fun _ => ⟨hb, ?_⟩, fun q => (by cases q)⟩
      unfold rdS
      rw [hr]
      simp only
      rw [if_pos (by rw [List.length_drop, bl_length]; omega), extract_list s a1 n hf, drop_add8, bl_mk8]
    · rw [if_neg (fun q => hf q.2)] at h
      simp only [Prod.mk.injEq] at h
      obtain ⟨rfl, rfl, rfl⟩ := h
      refine ⟨fun q => (by cases q), fun _ _ => ?_⟩
      unfold rdS
      rw [hr]
      simp only
      rw [if_neg (by rw [List.length_drop, bl_length]; omega)]

theorem shortV_len (s : ByteArray) (a : Nat) (b : Bool) : (shortV s a b).1.length ≤ s.size := by
  unfold shortV
  simp only
  unfold takeV
  split
  · rw [bl_length, ByteArray.size_extract]; omega
  · exact Nat.zero_le _

end Go.Proofs.YtckkfjmjcknjdaaGreatDoor
