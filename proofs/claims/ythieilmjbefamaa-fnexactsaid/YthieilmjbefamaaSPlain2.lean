/-
  Walks and mathematics of Plain2.
-/
import Derived.Lib.ItoaNum
import Derived.Lib.ItoaMem
import Derived.Lib.ItoaLen
import Derived.Test.YthieilmjbefamaaSPlain1
namespace Go.Proofs.Ythieilmjbefamaa.P1
open Go

theorem dec_small (m : Nat) (h : m < 10) : Lib.decDigits m = [UInt8.ofNat (48 + m)] := Lib.decDigits_one h
theorem dec_big (m : Nat) (h : ¬ m < 10) : Lib.decDigits m = Lib.decDigits (m / 10) ++ [UInt8.ofNat (48 + m % 10)] := by rw [Lib.decDigits, dif_neg h]

theorem figB_dec (d : Nat) (h : d < 10) : figB d = UInt8.ofNat (48 + d) := by unfold figB; rw [if_pos h]

def DecRel (N m : Nat) (t : List UInt8) : Prop := (m = 0 → Lib.decDigits N = t) ∧ (m ≠ 0 → Lib.decDigits N = Lib.decDigits m ++ t)

theorem DecRel.start (N : Nat) (h : N ≠ 0) : DecRel N N [] := ⟨fun e => absurd e h, fun _ => by simp⟩

theorem DecRel.step {N m : Nat} {t : List UInt8} (h : DecRel N m t) (hm : m ≠ 0) : DecRel N (m / 10) (figB (m % 10) :: t) := by
  have h2 := h.2 hm
  rw [figB_dec _ (by omega)]
  constructor
  · intro e
    rw [h2, dec_small m (by omega)]
    have : m % 10 = m := by omega
    rw [this]; rfl
  · intro e
    rw [h2, dec_big m (by omega)]
    simp

theorem DecRel.length {N m : Nat} {t : List UInt8} (h : DecRel N m t) : t.length ≤ (Lib.decDigits N).length := by
  by_cases e : m = 0
  · rw [h.1 e]; exact Nat.le_refl _
  · rw [h.2 e]; simp

theorem dec_length (N : Nat) (h : N ≤ 9223372036854775808) : (Lib.decDigits N).length ≤ 20 := by
  by_cases e : N = 0
  · subst e; rw [dec_small 0 (by decide)]; simp
  · have := Lib.itoa_length_le (-(N : Int)) (by omega) (by omega)
    rw [Lib.itoa_neg N (by omega)] at this
    simp at this; omega

end Go.Proofs.Ythieilmjbefamaa.P1
