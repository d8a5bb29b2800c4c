/-
  Check sums in plain words: one step over a bit, a byte in two halves, and what a turned byte does.
-/
namespace Go.Proofs.YtckkfjmjcknjdaaGreatDoor.P3

/-- One step: half of it (down), and the figure when it was odd. -/
def half (s : Nat) : Nat := if s % 2 = 1 then s / 2 ^^^ 3558460437 else s / 2

def halfs : Nat → Nat → Nat
  | 0, s => s
  | n + 1, s => halfs n (half s)

def sumB (s : Nat) (b : UInt8) : Nat := halfs 8 (s ^^^ b.toNat)

def sumL (s : Nat) (l : List UInt8) : Nat := l.foldl sumB s

theorem sumL_nil (s : Nat) : sumL s [] = s := rfl
theorem sumL_cons (s : Nat) (b : UInt8) (l : List UInt8) : sumL s (b :: l) = sumL (sumB s b) l := rfl
theorem sumL_append (s : Nat) (l k : List UInt8) : sumL s (l ++ k) = sumL (sumL s l) k := by simp [sumL]
theorem sumL_snoc (s : Nat) (l : List UInt8) (b : UInt8) : sumL s (l ++ [b]) = sumB (sumL s l) b := by simp [sumL]

theorem xor_div2 (a b : Nat) : (a ^^^ b) / 2 = a / 2 ^^^ b / 2 := by
  apply Nat.eq_of_testBit_eq
  intro i
  rw [Nat.testBit_xor, ← Nat.testBit_succ, ← Nat.testBit_succ, ← Nat.testBit_succ, Nat.testBit_xor]

theorem xor_mod2 (a b : Nat) : (a ^^^ b) % 2 = (a + b) % 2 := by
  have h := Nat.xor_mod_two_pow (a := a) (b := b) (n := 1)
  rw [show (2 ^ 1 : Nat) = 2 from rfl] at h
  rw [h]
  rcases Nat.mod_two_eq_zero_or_one a with ha | ha <;> rcases Nat.mod_two_eq_zero_or_one b with hb | hb <;> rw [ha, hb]
  · show 0 = _; omega
  · show 1 = _; omega
  · show 1 = _; omega
  · show 0 = _; omega

theorem half_xor (a b : Nat) : half (a ^^^ b) = half a ^^^ half b := by
  unfold half
  rw [xor_mod2, xor_div2]
  rcases Nat.mod_two_eq_zero_or_one a with ha | ha <;> rcases Nat.mod_two_eq_zero_or_one b with hb | hb
  · rw [if_neg (by omega), if_neg (by omega), if_neg (by omega)]
  · rw [if_pos (by omega), if_neg (by omega), if_pos (by omega), Nat.xor_assoc]
  · rw [if_pos (by omega), if_pos (by omega), if_neg (by omega), Nat.xor_assoc, Nat.xor_assoc, Nat.xor_comm (b / 2)]
  · rw [if_neg (by omega), if_pos (by omega), if_pos (by omega)]
    rw [Nat.xor_assoc, Nat.xor_comm 3558460437, Nat.xor_assoc, Nat.xor_self, Nat.xor_zero]

theorem halfs_xor (n : Nat) : ∀ a b, halfs n (a ^^^ b) = halfs n a ^^^ halfs n b := by
  induction n with
  | zero => intro a b; rfl
  | succ n ih => intro a b; show halfs n (half (a ^^^ b)) = _; rw [half_xor, ih]; rfl

theorem half_lt (s : Nat) (h : s < 4294967296) : half s < 4294967296 := by
  unfold half
  split
  · exact Nat.xor_lt_two_pow (n := 32) (by omega) (by decide)
  · omega

theorem halfs_lt (n : Nat) : ∀ s, s < 4294967296 → halfs n s < 4294967296 := by
  induction n with
  | zero => intro s h; exact h
  | succ n ih => intro s h; exact ih _ (half_lt s h)

theorem halfs_add (m n s : Nat) : halfs (m + n) s = halfs n (halfs m s) := by
  induction m generalizing s with
  | zero => rw [Nat.zero_add]; rfl
  | succ m ih => rw [Nat.succ_add]; exact ih _

theorem halfs_one (n s : Nat) : halfs (n + 1) s = half (halfs n s) := by rw [halfs_add]; rfl

theorem half_even (q : Nat) : half (2 * q) = q := by unfold half; rw [if_neg (by omega)]; omega

theorem xor_byte_lt (s : Nat) (b : UInt8) (h : s < 4294967296) : s ^^^ b.toNat < 4294967296 :=
  Nat.xor_lt_two_pow (n := 32) h (Nat.lt_trans b.toNat_lt (by decide))

theorem sumB_lt (s : Nat) (b : UInt8) (h : s < 4294967296) : sumB s b < 4294967296 := halfs_lt 8 _ (xor_byte_lt s b h)

theorem sumL_lt (l : List UInt8) : ∀ s, s < 4294967296 → sumL s l < 4294967296 := by
  induction l with
  | nil => intro s h; exact h
  | cons b l ih => intro s h; exact ih _ (sumB_lt s b h)

/-- Four steps at once: the rest goes down, the lowest four bits by a table. -/
theorem split16 (s : Nat) : s = (16 * (s / 16)) ^^^ (s % 16) := by
  have e : 16 * (s / 16) ^^^ s % 16 = 16 * (s / 16) + s % 16 := by
    have h := Nat.two_pow_add_eq_or_of_lt (i := 4) (b := s % 16) (by omega) (s / 16)
    rw [show (2 ^ 4 : Nat) = 16 from rfl] at h
    rw [h]
    apply Nat.eq_of_testBit_eq
    intro i
    rw [Nat.testBit_xor, Nat.testBit_or]
    by_cases hi : i < 4
    · have : (16 * (s / 16)).testBit i = false := by
        rw [show (16 : Nat) = 2 ^ 4 from rfl, Nat.testBit_two_pow_mul]; simp; omega
      rw [this]; simp
    · have : (s % 16).testBit i = false := by
        rw [show (16 : Nat) = 2 ^ 4 from rfl, Nat.testBit_mod_two_pow]; simp; omega
      rw [this]; simp
  omega

theorem four_up (q : Nat) : halfs 4 (16 * q) = q := by
  show half (half (half (half (16 * q)))) = q
  rw [show 16 * q = 2 * (2 * (2 * (2 * q))) by omega, half_even, half_even, half_even, half_even]

theorem four_split (s : Nat) : halfs 4 s = s / 16 ^^^ halfs 4 (s % 16) := by
  conv => lhs; rw [split16 s]
  rw [halfs_xor, four_up]

theorem eight_four (s : Nat) : halfs 8 s = halfs 4 (halfs 4 s) := halfs_add 4 4 s

/-- A step turns different sums into different ones. -/
theorem half_zero (s : Nat) (h : s < 4294967296) (hz : half s = 0) : s = 0 := by
  unfold half at hz
  split at hz
  · have : s / 2 = 3558460437 := by
      have h1 : (s / 2 ^^^ 3558460437) ^^^ 3558460437 = 3558460437 := by rw [hz, Nat.zero_xor]
      rw [Nat.xor_assoc, Nat.xor_self, Nat.xor_zero] at h1
      exact h1
    omega
  · omega

theorem halfs_zero (n : Nat) : ∀ s, s < 4294967296 → halfs n s = 0 → s = 0 := by
  induction n with
  | zero => intro s _ h; exact h
  | succ n ih => intro s h hz; exact half_zero s h (ih _ (half_lt s h) hz)

theorem xor_zero_eq (a b : Nat) (h : a ^^^ b = 0) : a = b := by
  have h1 : (a ^^^ b) ^^^ b = b := by rw [h, Nat.zero_xor]
  rw [Nat.xor_assoc, Nat.xor_self, Nat.xor_zero] at h1
  exact h1

theorem halfs_inj (n a b : Nat) (ha : a < 4294967296) (hb : b < 4294967296) (h : halfs n a = halfs n b) : a = b := by
  apply xor_zero_eq
  apply halfs_zero n _ (Nat.xor_lt_two_pow (n := 32) ha hb)
  rw [halfs_xor, h, Nat.xor_self]

theorem xor_right_inj (a b c : Nat) (h : a ^^^ c = b ^^^ c) : a = b := by
  have h1 : (a ^^^ c) ^^^ c = (b ^^^ c) ^^^ c := by rw [h]
  rw [Nat.xor_assoc, Nat.xor_assoc, Nat.xor_self, Nat.xor_zero, Nat.xor_zero] at h1
  exact h1

theorem sumB_inj (s t : Nat) (b : UInt8) (hs : s < 4294967296) (ht : t < 4294967296) (h : sumB s b = sumB t b) : s = t :=
  xor_right_inj s t b.toNat (halfs_inj 8 _ _ (xor_byte_lt s b hs) (xor_byte_lt t b ht) h)

theorem sumB_byte (s : Nat) (b c : UInt8) (hs : s < 4294967296) (h : sumB s b = sumB s c) : b = c := by
  have h1 := halfs_inj 8 _ _ (xor_byte_lt s b hs) (xor_byte_lt s c hs) h
  rw [Nat.xor_comm s, Nat.xor_comm s] at h1
  exact UInt8.toNat_inj.1 (xor_right_inj _ _ s h1)

theorem sumL_inj (l : List UInt8) : ∀ s t, s < 4294967296 → t < 4294967296 → sumL s l = sumL t l → s = t := by
  induction l with
  | nil => intro s t _ _ h; exact h
  | cons b l ih => intro s t hs ht h; exact sumB_inj s t b hs ht (ih _ _ (sumB_lt s b hs) (sumB_lt t b ht) h)

/-- One byte turned turns the sum. -/
theorem sumL_turned (s : Nat) (hs : s < 4294967296) (l : List UInt8) (i : Nat) (hi : i < l.length) (c : UInt8) (hc : c ≠ l[i]) : sumL s (l.set i c) ≠ sumL s l := by
  intro h
  have e1 : l.set i c = l.take i ++ c :: l.drop (i + 1) := by rw [List.set_eq_take_append_cons_drop, if_pos hi]
  have e2 : l = l.take i ++ l[i] :: l.drop (i + 1) := by simp
  rw [e1] at h
  conv at h => rhs; rw [e2]
  rw [sumL_append, sumL_append, sumL_cons, sumL_cons] at h
  have h0 := sumL_lt (l.take i) s hs
  have h1 := sumL_inj _ _ _ (sumB_lt _ _ h0) (sumB_lt _ _ h0) h
  exact hc (sumB_byte _ _ _ h0 h1)

/-- A sum in four bytes, the highest first. -/
def be32 (x : Nat) : List UInt8 := [UInt8.ofNat (x / 16777216), UInt8.ofNat (x / 65536), UInt8.ofNat (x / 256), UInt8.ofNat x]

theorem be32_length (x : Nat) : (be32 x).length = 4 := rfl

theorem be32_inj (x y : Nat) (hx : x < 4294967296) (hy : y < 4294967296) (h : be32 x = be32 y) : x = y := by
  unfold be32 at h
  simp only [List.cons.injEq, and_true] at h
  obtain ⟨h1, h2, h3, h4⟩ := h
  have f : ∀ a b : Nat, UInt8.ofNat a = UInt8.ofNat b → a % 256 = b % 256 := fun a b e => by
    have := congrArg UInt8.toNat e
    simpa [UInt8.toNat_ofNat'] using this
  have := f _ _ h1; have := f _ _ h2; have := f _ _ h3; have := f _ _ h4
  omega

abbrev sumOfL (l : List UInt8) : Nat := sumL 4294967295 l

theorem sumOfL_lt (l : List UInt8) : sumOfL l < 4294967296 := sumL_lt l _ (by decide)

def sealL (l : List UInt8) : List UInt8 := l ++ be32 (sumOfL l)

theorem sealL_length (l : List UInt8) : (sealL l).length = l.length + 4 := by simp [sealL, be32_length]

/-- The text whose seal this is. -/
def unsealL (t : List UInt8) : Option (List UInt8) :=
  if 4 ≤ t.length ∧ t.length ≤ 20004 ∧ t.drop (t.length - 4) = be32 (sumOfL (t.take (t.length - 4))) then some (t.take (t.length - 4)) else none

theorem unseal_seal (l : List UInt8) (h : l.length ≤ 20000) : unsealL (sealL l) = some l := by
  unfold unsealL
  rw [sealL_length, show l.length + 4 - 4 = l.length by omega]
  have e1 : (sealL l).take l.length = l := by simp [sealL]
  have e2 : (sealL l).drop l.length = be32 (sumOfL l) := by simp [sealL]
  rw [e1, e2, if_pos ⟨by omega, by omega, rfl⟩]

theorem unseal_turned (l : List UInt8) (i : Nat) (hi : i < (sealL l).length) (c : UInt8) (hc : c ≠ (sealL l)[i]) : unsealL ((sealL l).set i c) = none := by
  unfold unsealL
  rw [List.length_set, sealL_length, show l.length + 4 - 4 = l.length by omega]
  rw [if_neg]
  rintro ⟨-, -, h⟩
  have hlen := sealL_length l
  by_cases hl : i < l.length
  · have e1 : ((sealL l).set i c).take l.length = l.set i c := by
      rw [List.take_set]; simp [sealL]
    have e2 : ((sealL l).set i c).drop l.length = be32 (sumOfL l) := by
      rw [List.drop_set, if_pos hl]; simp [sealL]
    rw [e1, e2] at h
    have h1 := be32_inj _ _ (sumOfL_lt _) (sumOfL_lt _) h
    have h2 : (sealL l)[i] = l[i] := by simp [sealL, List.getElem_append_left hl]
    exact sumL_turned _ (by decide) l i hl c (by rw [← h2]; exact hc) h1.symm
  · have e1 : ((sealL l).set i c).take l.length = l := by
      rw [List.take_set_of_le (by omega)]; simp [sealL]
    rw [e1] at h
    have e2 : ((sealL l).set i c).drop l.length = (be32 (sumOfL l)).set (i - l.length) c := by
      rw [List.drop_set, if_neg (by omega)]; simp [sealL]
    rw [e2] at h
    have hi' : i - l.length < (be32 (sumOfL l)).length := by rw [be32_length]; omega
    have h3 := List.getElem_set_self (l := be32 (sumOfL l)) (i := i - l.length) (a := c) (by simpa using hi')
    have h4 : (sealL l)[i] = (be32 (sumOfL l))[i - l.length] := by simp only [sealL]; rw [List.getElem_append_right (by omega)]
    apply hc
    rw [h4, ← h3]
    simp only [h]

theorem unseal_length (t l : List UInt8) (h : unsealL t = some l) : l.length ≤ t.length := by
  unfold unsealL at h
  split at h
  · cases h; simp
  · cases h

end Go.Proofs.YtckkfjmjcknjdaaGreatDoor.P3
