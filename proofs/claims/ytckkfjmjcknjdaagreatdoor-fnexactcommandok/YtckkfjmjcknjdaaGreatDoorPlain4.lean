/-
  What is written is read back: numbers in bytes, figures, short texts.
-/
import Derived.Test.YtckkfjmjcknjdaaGreatDoorPlain1
import Derived.Test.YtckkfjmjcknjdaaGreatDoorPlain2
namespace Go.Proofs.YtckkfjmjcknjdaaGreatDoor
open P1

theorem rdGo_var (n : Nat) (hn : n ≤ 1000000000) (rest : List UInt8) : ∀ (f g m : Nat) (pre : List UInt8), m < 128 ^ f → 0 < f → f ≤ g + 1 → (pre = [] ∨ m ≠ 0) → rawV pre + m * 128 ^ pre.length = n →
    rdGo f pre (varF g m ++ rest) = some (n, pre.length + (varF g m).length)
  | 0, _, _, _, _, h, _, _, _ => by omega
  | f + 1, g, m, pre, hm, _, hg, hp, hv => by
    by_cases h : m ≤ 127
    · rw [varF_lo g m h]
      have hb : (UInt8.ofNat m).toNat = m := by simp [UInt8.toNat_ofNat']; omega
      have := rdGo_yes f pre (UInt8.ofNat m) rest (by rw [hb]; omega) (by rw [hb]; exact hp) (by rw [hb, hv]; exact hn)
      rw [hb, hv] at this
      exact this
    · have hf : 0 < f := by
        rcases Nat.eq_zero_or_pos f with e | e
        · subst e; simp at hm; omega
        · exact e
      obtain ⟨g', rfl⟩ : ∃ g', g = g' + 1 := ⟨g - 1, by omega⟩
      rw [varF_hi g' m (by omega), List.cons_append]
      have hb : (UInt8.ofNat (m % 128 + 128)).toNat = m % 128 + 128 := by simp [UInt8.toNat_ofNat']; omega
      rw [rdGo_on f pre _ _ (by rw [hb]; omega)]
      have hd : m / 128 < 128 ^ f := by
        rw [Nat.pow_succ] at hm
        exact Nat.div_lt_of_lt_mul (by rw [Nat.mul_comm]; exact hm)
      rw [rdGo_var n hn rest f g' (m / 128) (pre ++ [UInt8.ofNat (m % 128 + 128)]) hd hf (by omega) (Or.inr (by omega)) ?_]
      · simp; omega
      · rw [rawV_snoc, hb, List.length_append, List.length_singleton, Nat.pow_succ, ← hv]
        have e : m = m % 128 + 128 * (m / 128) := (Nat.mod_add_div m 128).symm
        have e2 : m * 128 ^ pre.length = (m % 128) * 128 ^ pre.length + (m / 128) * (128 ^ pre.length * 128) := by
          conv => lhs; rw [e]
          rw [Nat.add_mul, Nat.mul_comm 128 (m / 128), Nat.mul_assoc, Nat.mul_comm 128]
        rw [e2, show m % 128 + 128 - 128 = m % 128 by omega]
        omega

theorem rdGo_varB (n : Nat) (hn : n ≤ 1000000000) (rest : List UInt8) : rdGo 5 [] (varB n ++ rest) = some (n, (varB n).length) := by
  have := rdGo_var n hn rest 5 9 n [] (by have : (128 : Nat) ^ 5 = 34359738368 := by decide
                                          omega) (by decide) (by decide) (Or.inl rfl) (by simp [rawV])
  simp only [List.length_nil, Nat.zero_add] at this
  exact this

theorem rdDec_dec (n : Nat) (hn : n ≤ 1000000000) : rdDec (Lib.decDigits n) = some n := by
  rw [rdDec_yes _ (by rw [valD_dec]; exact hn) (by rw [valD_dec]), valD_dec]

theorem hexV_figB (v : Nat) (h : v < 16) : hexV (figB v).toNat = some v := (hexV_fig h).1 rfl

theorem hexL_at : ∀ (l : List UInt8) (i : Nat) (h : i < l.length), (hexL l).getD (2 * i) 0 = figB (l[i].toNat / 16) ∧ (hexL l).getD (2 * i + 1) 0 = figB (l[i].toNat % 16)
  | b :: l, 0, _ => ⟨rfl, rfl⟩
  | b :: l, i + 1, h => by
    have := hexL_at l i (by simpa using h)
    exact this

theorem hexTo_hexL (l : List UInt8) : hexTo (hexL l) (hexL l).length := by
  intro j hj
  rw [hexL_length] at hj
  have hb : (l[j / 2]'(by omega)).toNat < 256 := (l[j / 2]'(by omega)).toNat_lt
  obtain ⟨h1, h2⟩ := hexL_at l (j / 2) (by omega)
  rcases Nat.mod_two_eq_zero_or_one j with e | e
  · rw [show 2 * (j / 2) = j by omega] at h1
    rw [h1, hexV_figB _ (by omega)]
    simp
  · rw [show 2 * (j / 2) + 1 = j by omega] at h2
    rw [h2, hexV_figB _ (by omega)]
    simp

theorem uhL_hexL (l : List UInt8) : uhL (hexL l) l.length = l := by
  apply List.ext_getElem
  · rw [uhL_length]
  · intro i h1 h2
    obtain ⟨a, b⟩ := hexL_at l i h2
    have hb := l[i].toNat_lt
    have e1 : uhv (hexL l) (2 * i) = l[i].toNat / 16 := uhv_eq (by rw [a]; exact hexV_figB _ (by omega))
    have e2 : uhv (hexL l) (2 * i + 1) = l[i].toNat % 16 := uhv_eq (by rw [b]; exact hexV_figB _ (by omega))
    simp only [uhL, List.getElem_map, List.getElem_range, uhF, e1, e2]
    rw [show 16 * (l[i].toNat / 16) + l[i].toNat % 16 = l[i].toNat by omega]
    simp

end Go.Proofs.YtckkfjmjcknjdaaGreatDoor
