/-
  Walks and mathematics of Msg2.
-/
import Derived.Test.YtmllcomppjkhhaaGreatDoorRMsg1
namespace Go.Proofs.YtmllcomppjkhhaaGreatDoor.P18
end Go.Proofs.YtmllcomppjkhhaaGreatDoor.P18
namespace Go.Proofs.YtmllcomppjkhhaaGreatDoor.P3
end Go.Proofs.YtmllcomppjkhhaaGreatDoor.P3
namespace Go.Proofs.YtmllcomppjkhhaaGreatDoor
open P1 P3 P9 P11 P12 P18
set_option linter.unusedVariables false
set_option linter.unusedSimpArgs false

def flagS (r : Lf) : Bool × Lf := (decide ((byteL r).1 = 1), (byteL r).2)

def entS (r : Lf) : EntV × Lf := ((reE (shL 1048576 r).1).2.1, (shL 1048576 r).2)

def itS : Nat → Lf → List EntV × Lf
  | 0, r => ([], r)
  | j + 1, r => ((itS j r).1 ++ [(entS (itS j r).2).1], (entS (itS j r).2).2)

theorem itS_len : ∀ (j : Nat) (r : Lf), (itS j r).1.length = j
  | 0, _ => rfl
  | j + 1, r => by simp [itS, itS_len j r]

def confR (x : List UInt8) : List Int := if confOk (confZ x) = true then confZ x else []

def confS (r : Lf) : List Int × Lf := (confR (shL 1048576 r).1, (shL 1048576 r).2)

def Stop15 (n : Nat) (r : Lf) (J : Nat) : Prop := (n ≤ J ∨ (itS J r).2 = none ∨ 4 < J) ∧ ∀ j, j < J → j < n

theorem flagS_of (b : Bool) (q : List UInt8) : flagS (some (flB b :: q)) = (b, some q) := by
  unfold flagS
  rw [byteL_cons]
  cases b <;> rfl

theorem entS_of {e : EntV} (h : e.ok = true) (q : List UInt8) : entS (some (shortB (entT e) ++ q)) = (e, some q) := by
  have := entT_len h
  unfold entS
  rw [shL_short (by omega) (by omega) q]
  simp only
  rw [reE_of h]

theorem itS_of : ∀ (j : Nat) (es : List EntV) (q : List UInt8), j ≤ es.length → (∀ e ∈ es, e.ok = true) → itS j (some (entsT es ++ q)) = (es.take j, some (entsT (es.drop j) ++ q))
  | 0, es, q, _, _ => by simp [itS]
  | j + 1, es, q, hj, h => by
    have ih := itS_of j es q (by omega) h
    have hlt : j < es.length := by omega
    have hz := h es[j] (List.getElem_mem _)
    simp only [itS]
    rw [ih]
    simp only
    have hd : entsT (es.drop j) ++ q = shortB (entT es[j]) ++ (entsT (es.drop (j + 1)) ++ q) := by
      rw [List.drop_eq_getElem_cons hlt]
      simp only [entsT, List.flatMap_cons, List.append_assoc]
    rw [hd, entS_of hz]
    simp only [Prod.mk.injEq, and_true]
    rw [List.take_succ_eq_append_getElem hlt]

theorem confS_of {zs : List Int} (h : zs = [] ∨ confOk zs = true) (q : List UInt8) : confS (some (shortB (confB zs) ++ q)) = (zs, some q) := by
  rcases h with rfl | h
  · unfold confS confR
    rw [shL_short (by simp [confB]) (by omega) q]
    simp [confB, confZ, confOk]
  · have hl := confOk_len h
    unfold confS confR
    rw [shL_short (by rw [confB_length]; omega) (by omega) q]
    simp only
    rw [confZ_confB (confOk_mem h), if_pos h]

structure SpM (l : List UInt8) (J : Nat) (k f t tm ix lt cm n : Nat) (ok la : Bool) (r : Lf) : Prop where
  h : ∃ r1 r2 r3 r4 r5 r6 r7 r8 r9, byteL (some l) = (k, r1) ∧ byteL r1 = (f, r2) ∧ byteL r2 = (t, r3) ∧ numL r3 = (tm, r4) ∧ numL r4 = (ix, r5) ∧ numL r5 = (lt, r6) ∧ numL r6 = (cm, r7) ∧ flagS r7 = (ok, r8) ∧ flagS r8 = (la, r9) ∧ numL r9 = (n, r)

theorem SpM.fwd {m : MsgV} (hm : msgOk m = true) {J : Nat} {k f t tm ix lt cm n : Nat} {ok la : Bool} {r : Lf} (h : SpM (msgB m) J k f t tm ix lt cm n ok la r) (hs : Stop15 n r J) :
    (⟨k, f, t, tm, ix, lt, cm, ok, (itS J r).1, (confS (itS J r).2).1, (shL 1048576 (confS (itS J r).2).2).1, la⟩ : MsgV) = m ∧ (shL 1048576 (confS (itS J r).2).2).2 = some [] := by
  obtain ⟨r1, r2, r3, r4, r5, r6, r7, r8, r9, g1, g2, g3, g4, g5, g6, g7, g8, g9, g10⟩ := h.h
  obtain ⟨h1, h2, h3, h4, h5, h6, h7, h8, h9, h10⟩ := msg_in hm
  obtain ⟨kd, fr, to, tm', ix', lt', cm', ok', es, cf, da, la'⟩ := m
  simp only at h1 h2 h3 h4 h5 h6 h7 h8 h9 h10
  unfold msgB tlB at g1
  simp only at g1
  rw [byL15 (by omega)] at g1; cases g1
  rw [byL15 (by omega)] at g2; cases g2
  rw [byL15 (by omega)] at g3; cases g3
  rw [nuL15 (by omega)] at g4; cases g4
  rw [nuL15 (by omega)] at g5; cases g5
  rw [nuL15 (by omega)] at g6; cases g6
  rw [nuL15 (by omega)] at g7; cases g7
  rw [flagS_of] at g8; cases g8
  rw [flagS_of] at g9; cases g9
  rw [numL_var (by omega)] at g10; cases g10
  have hJ : J = es.length := by
    obtain ⟨s1, s2⟩ := hs
    have hle : J ≤ es.length := by
      by_cases c : J = 0
      · omega
      · have := s2 (J - 1) (by omega); omega
    rcases s1 with s1 | s1 | s1
    · omega
    · rw [itS_of J es _ hle h8.2] at s1; cases s1
    · omega
  subst hJ
  rw [itS_of _ es _ (Nat.le_refl _) h8.2]
  have e0 : entsT (es.drop es.length) = [] := by rw [List.drop_length]; rfl
  have q := shL_short (most := 1048576) (x := da) (by omega) (by omega) []
  rw [List.append_nil] at q
  simp only [e0, List.nil_append, List.take_length, confS_of h9, q]
  simp only [Int.toNat_of_nonneg (show 0 ≤ kd by omega), Int.toNat_of_nonneg (show 0 ≤ fr by omega), Int.toNat_of_nonneg (show 0 ≤ to by omega), Int.toNat_of_nonneg h4.1, Int.toNat_of_nonneg h5.1, Int.toNat_of_nonneg h6.1, Int.toNat_of_nonneg h7.1, and_self]

theorem mdR_short {l : List UInt8} (h : l.length < 3) : mdR l = (zeroMsg, false) := mdR_no fun m _ e => by
  rw [← e] at h
  simp [msgB] at h
  omega

theorem sp_yes {l : List UInt8} {x : MsgV} (h : msgText x = some l) : mdR l = (x, true) := by
  unfold msgText at h
  split at h
  · rename_i hok
    cases h
    exact mdR_of hok
  · cases h

theorem sp_no {l : List UInt8} {J k f t tm ix lt cm n : Nat} {ok la : Bool} {r : Lf} (h : SpM l J k f t tm ix lt cm n ok la r) (hs : Stop15 n r J)
    (hn : ¬ ((shL 1048576 (confS (itS J r).2).2).2 ≠ none ∧ msgText ⟨k, f, t, tm, ix, lt, cm, ok, (itS J r).1, (confS (itS J r).2).1, (shL 1048576 (confS (itS J r).2).2).1, la⟩ = some l)) : mdR l = (zeroMsg, false) := mdR_no fun m hm e => by
  subst e
  obtain ⟨h1, h2⟩ := h.fwd hm hs
  apply hn
  rw [h1, h2]
  refine ⟨by simp, ?_⟩
  unfold msgText
  rw [if_pos hm]

end Go.Proofs.YtmllcomppjkhhaaGreatDoor
