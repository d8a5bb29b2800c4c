/-
  Plain mathematics of chapter 1: decimal figures.
-/
import Derived.Lib.ItoaNum
import Derived.Lib.ItoaMem
import Derived.Lib.ItoaLen
import Derived.Test.YtckkfjmjcknjdaaGreatDoorPlain1
namespace Go.Proofs.YtckkfjmjcknjdaaGreatDoor.P1
open Go

theorem dec_small (m : Nat) (h : m < 10) : Lib.decDigits m = [UInt8.ofNat (48 + m)] := Lib.decDigits_one h
theorem dec_big (m : Nat) (h : ¬ m < 10) : Lib.decDigits m = Lib.decDigits (m / 10) ++ [UInt8.ofNat (48 + m % 10)] := by rw [Lib.decDigits, dif_neg h]

theorem figB_dec (d : Nat) (h : d < 10) : figB d = UInt8.ofNat (48 + d) := by unfold figB; rw [if_pos h]

/-- What the loop of Decimal carries: 'm' is still to be told, 't' is told. -/
def DecRel (N m : Nat) (t : List UInt8) : Prop := (m = 0 → Lib.decDigits N = t) ∧ (m ≠ 0 → Lib.decDigits N = Lib.decDigits m ++ t)

theorem DecRel.start (N : Nat) (h : N ≠ 0) : DecRel N N [] := ⟨fun e => absurd e h, fun _ => by simp⟩

theorem DecRel.step {N m : Nat} {t : List UInt8} (h : DecRel N m t) (hm : m ≠ 0) : DecRel N (m / 10) (figB (m % 10) :: t) := by
  have h2 := h.2 hm
  rw [figB_dec _ (by omega)]
  constructor
  · intro e
    rw [h2, dec_small m (by omega)]
    have : m % 10 = m := by omega
    rw [this]; rfl
  · intro e
    rw [h2, dec_big m (by omega)]
    simp

theorem DecRel.length {N m : Nat} {t : List UInt8} (h : DecRel N m t) : t.length ≤ (Lib.decDigits N).length := by
  by_cases e : m = 0
  · rw [h.1 e]; exact Nat.le_refl _
  · rw [h.2 e]; simp

theorem dec_length (N : Nat) (h : N ≤ 9223372036854775808) : (Lib.decDigits N).length ≤ 20 := by
  by_cases e : N = 0
  · subst e; rw [dec_small 0 (by decide)]; simp
  · have := Lib.itoa_length_le (-(N : Int)) (by omega) (by omega)
    rw [Lib.itoa_neg N (by omega)] at this
    simp at this; omega

/-- The number that figures tell. -/
def valD (l : List UInt8) : Nat := l.foldl (fun n b => n * 10 + (b.toNat - 48)) 0

theorem valD_snoc (l : List UInt8) (b : UInt8) : valD (l ++ [b]) = valD l * 10 + (b.toNat - 48) := by simp [valD]

theorem valD_le (l k : List UInt8) : valD l ≤ valD (l ++ k) := by
  induction k generalizing l with
  | nil => simp
  | cons b k ih =>
    have h1 := ih (l ++ [b])
    rw [valD_snoc] at h1
    have e : l ++ b :: k = l ++ [b] ++ k := by simp
    rw [e]; omega

theorem valD_take (l : List UInt8) (p : Nat) : valD (l.take p) ≤ valD l := by
  have := valD_le (l.take p) (l.drop p)
  rwa [List.take_append_drop] at this

theorem toNat_dec (d : Nat) (h : d < 10) : (UInt8.ofNat (48 + d)).toNat = 48 + d := by simp [UInt8.toNat_ofNat']; omega

theorem valD_dec (n : Nat) : valD (Lib.decDigits n) = n := by
  induction n using Nat.strongRecOn with
  | _ n ih =>
    by_cases h : n < 10
    · rw [dec_small n h]
      simp only [valD, List.foldl_cons, List.foldl_nil, toNat_dec n h]
      omega
    · rw [dec_big n h, valD_snoc, ih (n / 10) (by omega), toNat_dec _ (by omega)]
      omega

theorem dec_figures (n : Nat) : ∀ b ∈ Lib.decDigits n, 48 ≤ b.toNat ∧ b.toNat ≤ 57 := by
  induction n using Nat.strongRecOn with
  | _ n ih =>
    by_cases h : n < 10
    · rw [dec_small n h]
      intro b hb
      rw [List.mem_singleton.1 hb, toNat_dec n h]; omega
    · rw [dec_big n h]
      intro b hb
      rcases List.mem_append.1 hb with hb | hb
      · exact ih (n / 10) (by omega) b hb
      · rw [List.mem_singleton.1 hb, toNat_dec (n % 10) (by omega)]; omega

theorem dec_len10 : ∀ (k n : Nat), n < 10 ^ (k + 1) → (Lib.decDigits n).length ≤ k + 1
  | 0, n, h => by rw [dec_small n (by omega)]; simp
  | k + 1, n, h => by
    by_cases e : n < 10
    · rw [dec_small n e]; simp
    · rw [dec_big n e]
      have := dec_len10 k (n / 10) (by rw [Nat.div_lt_iff_lt_mul (by decide)]; rw [Nat.pow_succ] at h; exact h)
      simp; exact this

/-- What ReadDecimal finds. -/
def rdDec (l : List UInt8) : Option Nat := if valD l ≤ 1000000000 ∧ Lib.decDigits (valD l) = l then some (valD l) else none

theorem rdDec_bad (l : List UInt8) (b : UInt8) (hb : b ∈ l) (h : b.toNat < 48 ∨ 57 < b.toNat) : rdDec l = none := by
  unfold rdDec
  rw [if_neg]
  rintro ⟨_, e⟩
  rw [← e] at hb
  have := dec_figures _ b hb
  omega

theorem rdDec_great (l : List UInt8) (h : 1000000000 < valD l) : rdDec l = none := by
  unfold rdDec; rw [if_neg]; rintro ⟨h1, _⟩; omega

theorem rdDec_long (l : List UInt8) (h : 10 < l.length) : rdDec l = none := by
  unfold rdDec
  rw [if_neg]
  rintro ⟨h1, e⟩
  have := dec_len10 9 (valD l) (by omega)
  rw [e] at this; omega

theorem rdDec_yes (l : List UInt8) (h : valD l ≤ 1000000000) (e : Lib.decDigits (valD l) = l) : rdDec l = some (valD l) := by
  unfold rdDec; rw [if_pos ⟨h, e⟩]
theorem rdDec_no (l : List UInt8) (e : Lib.decDigits (valD l) ≠ l) : rdDec l = none := by
  unfold rdDec; rw [if_neg]; rintro ⟨_, h⟩; exact e h
theorem rdDec_some {l : List UInt8} {n : Nat} (h : rdDec l = some n) : n ≤ 1000000000 := by
  unfold rdDec at h
  split at h
  · rename_i c; simp at h; omega
  · cases h

end Go.Proofs.YtckkfjmjcknjdaaGreatDoor.P1
