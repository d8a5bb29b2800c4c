/-
  Plain mathematics of chapter 1 (numbers in bytes, figures): lists and numbers alone, nothing of the program.
-/
namespace Go.Proofs.Ytfplnopcccjclaa.P1

/-- The bytes of a number, seven bits a byte, the lowest first; 'f': how many bytes may still go on. -/
def varF : Nat → Nat → List UInt8
  | 0, n => [UInt8.ofNat n]
  | f + 1, n => if 127 < n then UInt8.ofNat (n % 128 + 128) :: varF f (n / 128) else [UInt8.ofNat n]

def varB (n : Nat) : List UInt8 := varF 9 n

theorem varF_hi (f n : Nat) (h : 127 < n) : varF (f + 1) n = UInt8.ofNat (n % 128 + 128) :: varF f (n / 128) := by
  simp [varF, h]

theorem varF_lo (f n : Nat) (h : n ≤ 127) : varF f n = [UInt8.ofNat n] := by
  cases f <;> simp [varF]; omega

theorem varF_length (f n : Nat) : (varF f n).length ≤ f + 1 := by
  induction f generalizing n with
  | zero => simp [varF]
  | succ f ih => unfold varF; split <;> simp; exact ih _

theorem varB_length (n : Nat) : (varB n).length ≤ 10 := varF_length 9 n

/-- One step of the loop: what is written so far, and what is still to come. -/
theorem var_step (f n m : Nat) (xs : List UInt8) (hm : m < 128 ^ (f + 1)) (h : xs ++ varF f m = varB n) (hi : 127 < m) :
    ∃ f', f = f' + 1 ∧ m / 128 < 128 ^ (f' + 1) ∧ (xs ++ [UInt8.ofNat (m % 128 + 128)]) ++ varF f' (m / 128) = varB n := by
  cases f with
  | zero => simp at hm; omega
  | succ f' =>
    refine ⟨f', rfl, ?_, ?_⟩
    · rw [Nat.div_lt_iff_lt_mul (by decide)]
      rw [Nat.pow_succ] at hm
      exact hm
    · rw [varF_hi f' m hi] at h
      simpa using h

theorem var_end (f n m : Nat) (xs : List UInt8) (h : xs ++ varF f m = varB n) (lo : m ≤ 127) : xs ++ [UInt8.ofNat m] = varB n := by
  rw [varF_lo f m lo] at h
  exact h

end Go.Proofs.Ytfplnopcccjclaa.P1
