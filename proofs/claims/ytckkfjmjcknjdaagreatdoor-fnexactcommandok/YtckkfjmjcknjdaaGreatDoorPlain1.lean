/-
  Plain mathematics of chapter 1 (numbers in bytes, figures): lists and numbers alone, nothing of the program.
-/
namespace Go.Proofs.YtckkfjmjcknjdaaGreatDoor.P1

/-- The bytes of a number, seven bits a byte, the lowest first; 'f': how many bytes may still go on. -/
def varF : Nat → Nat → List UInt8
  | 0, n => [UInt8.ofNat n]
  | f + 1, n => if 127 < n then UInt8.ofNat (n % 128 + 128) :: varF f (n / 128) else [UInt8.ofNat n]

def varB (n : Nat) : List UInt8 := varF 9 n

theorem varF_hi (f n : Nat) (h : 127 < n) : varF (f + 1) n = UInt8.ofNat (n % 128 + 128) :: varF f (n / 128) := by
  simp [varF, h]

theorem varF_lo (f n : Nat) (h : n ≤ 127) : varF f n = [UInt8.ofNat n] := by
  cases f <;> simp [varF]; omega

theorem varF_length (f n : Nat) : (varF f n).length ≤ f + 1 := by
  induction f generalizing n with
  | zero => simp [varF]
  | succ f ih => unfold varF; split <;> simp; exact ih _

theorem varB_length (n : Nat) : (varB n).length ≤ 10 := varF_length 9 n

/-- One step of the loop: what is written so far, and what is still to come. -/
theorem var_step (f n m : Nat) (xs : List UInt8) (hm : m < 128 ^ (f + 1)) (h : xs ++ varF f m = varB n) (hi : 127 < m) :
    ∃ f', f = f' + 1 ∧ m / 128 < 128 ^ (f' + 1) ∧ (xs ++ [UInt8.ofNat (m % 128 + 128)]) ++ varF f' (m / 128) = varB n := by
  cases f with
  | zero => simp at hm; omega
  | succ f' =>
    refine ⟨f', rfl, ?_, ?_⟩
    · rw [Nat.div_lt_iff_lt_mul (by decide)]
      rw [Nat.pow_succ] at hm
      exact hm
    · rw [varF_hi f' m hi] at h
      simpa using h

theorem var_end (f n m : Nat) (xs : List UInt8) (h : xs ++ varF f m = varB n) (lo : m ≤ 127) : xs ++ [UInt8.ofNat m] = varB n := by
  rw [varF_lo f m lo] at h
  exact h

/-- The number that bytes of 128 and above tell so far, the lowest first. -/
def rawV : List UInt8 → Nat
  | [] => 0
  | b :: r => (b.toNat - 128) + 128 * rawV r

theorem rawV_snoc (l : List UInt8) (b : UInt8) : rawV (l ++ [b]) = rawV l + (b.toNat - 128) * 128 ^ l.length := by
  induction l with
  | nil => simp [rawV]
  | cons c l ih =>
    simp only [List.cons_append, rawV, ih, List.length_cons, Nat.pow_succ]
    rw [Nat.mul_add, Nat.add_assoc, Nat.mul_comm (128 ^ l.length) 128, Nat.mul_left_comm]

theorem rawV_lt (l : List UInt8) : rawV l < 128 ^ l.length := by
  induction l with
  | nil => simp [rawV]
  | cons c l ih =>
    simp only [rawV, List.length_cons, Nat.pow_succ]
    have := c.toNat_lt
    omega

theorem varF_raw (pre : List UInt8) (b : UInt8) (hb : b.toNat < 128) (hpre : ∀ c ∈ pre, 128 ≤ c.toNat) (hne : pre = [] ∨ b.toNat ≠ 0) (f : Nat) (hf : pre.length ≤ f) :
    varF f (rawV pre + b.toNat * 128 ^ pre.length) = pre ++ [b] := by
  induction pre generalizing f with
  | nil =>
    simp only [rawV, List.length_nil, Nat.pow_zero, Nat.mul_one, Nat.zero_add, List.nil_append]
    rw [varF_lo f _ (by omega)]
    simp
  | cons c l ih =>
    have hc := hpre c (by simp)
    have hcl := c.toNat_lt
    have hb0 : b.toNat ≠ 0 := by rcases hne with h | h <;> simp_all
    cases f with
    | zero => simp at hf
    | succ f =>
      have hv : rawV (c :: l) + b.toNat * 128 ^ (c :: l).length = (c.toNat - 128) + 128 * (rawV l + b.toNat * 128 ^ l.length) := by
        simp only [rawV, List.length_cons, Nat.pow_succ]
        rw [Nat.mul_add, Nat.add_assoc, Nat.mul_comm (128 ^ l.length) 128, Nat.mul_left_comm]
      have hpos : 1 ≤ rawV l + b.toNat * 128 ^ l.length := by
        have h1 : 0 < 128 ^ l.length := Nat.pow_pos (by decide)
        have h2 : 0 < b.toNat * 128 ^ l.length := Nat.mul_pos (by omega) h1
        omega
      rw [hv, varF_hi f _ (by omega)]
      have e1 : ((c.toNat - 128) + 128 * (rawV l + b.toNat * 128 ^ l.length)) % 128 + 128 = c.toNat := by omega
      have e2 : ((c.toNat - 128) + 128 * (rawV l + b.toNat * 128 ^ l.length)) / 128 = rawV l + b.toNat * 128 ^ l.length := by omega
      rw [e1, e2, ih (fun x hx => hpre x (by simp [hx])) (Or.inr hb0) f (by simpa using hf)]
      simp

theorem varF_short (j : Nat) : ∀ f v, v < 128 ^ (j + 1) → (varF f v).length ≤ j + 1 := by
  induction j with
  | zero => intro f v h; rw [varF_lo f v (by omega)]; simp
  | succ j ih =>
    intro f v h
    cases f with
    | zero => simp [varF]
    | succ f =>
      unfold varF
      split
      · have := ih f (v / 128) (by rw [Nat.div_lt_iff_lt_mul (by decide)]; rw [Nat.pow_succ] at h; exact h)
        simpa using this
      · simp

theorem varB_longer (pre : List UInt8) (b : UInt8) (hb : b.toNat = 0) (hne : pre ≠ []) : varB (rawV pre + b.toNat * 128 ^ pre.length) ≠ pre ++ [b] := by
  intro h
  have h1 := rawV_lt pre
  cases pre with
  | nil => exact hne rfl
  | cons c l =>
    have h2 := varF_short l.length 9 (rawV (c :: l) + b.toNat * 128 ^ (c :: l).length) (by rw [hb]; simpa using h1)
    have h3 := congrArg List.length h
    unfold varB at h3
    simp at h3 h2
    omega

/-- What ReadVar finds: of bytes read so far ('pre') and those to come; at most 'f' more. -/
def rdGo : Nat → List UInt8 → List UInt8 → Option (Nat × Nat)
  | 0, _, _ => none
  | _ + 1, _, [] => none
  | f + 1, pre, b :: r =>
    if b.toNat < 128 then
      if (pre = [] ∨ b.toNat ≠ 0) ∧ rawV pre + b.toNat * 128 ^ pre.length ≤ 1000000000 then some (rawV pre + b.toNat * 128 ^ pre.length, pre.length + 1) else none
    else rdGo f (pre ++ [b]) r

theorem rdGo_on (f : Nat) (pre : List UInt8) (b : UInt8) (r : List UInt8) (h : ¬ b.toNat < 128) : rdGo (f + 1) pre (b :: r) = rdGo f (pre ++ [b]) r := by
  simp [rdGo, h]

theorem rdGo_yes (f : Nat) (pre : List UInt8) (b : UInt8) (r : List UInt8) (h : b.toNat < 128) (h1 : pre = [] ∨ b.toNat ≠ 0) (h2 : rawV pre + b.toNat * 128 ^ pre.length ≤ 1000000000) :
    rdGo (f + 1) pre (b :: r) = some (rawV pre + b.toNat * 128 ^ pre.length, pre.length + 1) := by
  simp only [rdGo, if_pos h, if_pos (And.intro h1 h2)]

theorem rdGo_long (f : Nat) (pre : List UInt8) (b : UInt8) (r : List UInt8) (h : b.toNat = 0) (h1 : pre ≠ []) : rdGo (f + 1) pre (b :: r) = none := by
  simp [rdGo, h, h1]

theorem rdGo_great (f : Nat) (pre : List UInt8) (b : UInt8) (r : List UInt8) (h : b.toNat < 128) (h2 : 1000000000 < rawV pre + b.toNat * 128 ^ pre.length) : rdGo (f + 1) pre (b :: r) = none := by
  have : ¬ ((pre = [] ∨ b.toNat ≠ 0) ∧ rawV pre + b.toNat * 128 ^ pre.length ≤ 1000000000) := fun h => by omega
  simp only [rdGo, if_pos h, if_neg this]

theorem rdGo_nil (f : Nat) (pre : List UInt8) : rdGo f pre [] = none := by cases f <;> rfl

/-- What is found is within its bounds. -/
theorem rdGo_some : ∀ (f : Nat) (pre r : List UInt8) (v c : Nat), rdGo f pre r = some (v, c) → v ≤ 1000000000 ∧ pre.length < c ∧ c ≤ pre.length + r.length ∧ c ≤ pre.length + f
  | 0, _, _, _, _, h => by simp [rdGo] at h
  | _ + 1, _, [], _, _, h => by simp [rdGo] at h
  | f + 1, pre, b :: r, v, c, h => by
    unfold rdGo at h
    split at h
    · split at h
      · rename_i h1 h2
        simp at h
        obtain ⟨rfl, rfl⟩ := h
        exact ⟨h2.2, by omega, by simp, by omega⟩
      · cases h
    · have := rdGo_some f (pre ++ [b]) r v c h
      simp at this ⊢
      omega

/-- The figure of a number below 16. -/
def figB (n : Nat) : UInt8 := if n < 10 then UInt8.ofNat (48 + n) else UInt8.ofNat (87 + n)

theorem figB_lo (n : Nat) (h : n < 10) : (figB n).toNat = 48 + n := by
  unfold figB; rw [if_pos h]; simp [UInt8.toNat_ofNat']; omega
theorem figB_hi (n : Nat) (h : 10 ≤ n) (h' : n < 16) : (figB n).toNat = 87 + n := by
  unfold figB; rw [if_neg (by omega)]; simp [UInt8.toNat_ofNat']; omega

def hexL : List UInt8 → List UInt8
  | [] => []
  | b :: r => figB (b.toNat / 16) :: figB (b.toNat % 16) :: hexL r

theorem hexL_snoc (l : List UInt8) (b : UInt8) : hexL (l ++ [b]) = hexL l ++ [figB (b.toNat / 16), figB (b.toNat % 16)] := by
  induction l with
  | nil => rfl
  | cons c l ih => simp [hexL, ih]

theorem hexL_length (l : List UInt8) : (hexL l).length = 2 * l.length := by
  induction l with
  | nil => rfl
  | cons c l ih => simp [hexL, ih]; omega

/-- The number of a figure. -/
def hexV (b : Nat) : Option Nat := if 48 ≤ b ∧ b ≤ 57 then some (b - 48) else if 97 ≤ b ∧ b ≤ 102 then some (b - 87) else none

theorem hexV_lt {b v : Nat} (h : hexV b = some v) : v < 16 := by
  unfold hexV at h
  split at h
  · simp at h; omega
  · split at h
    · simp at h; omega
    · cases h

theorem hexV_fig {b : UInt8} {v : Nat} (hv : v < 16) : (b.toNat = (figB v).toNat) ↔ hexV b.toNat = some v := by
  unfold hexV
  by_cases h : v < 10
  · rw [figB_lo v h]
    constructor
    · intro e; rw [e, if_pos (by omega)]; simp
    · intro e
      split at e
      · simp at e; omega
      · split at e
        · simp at e; omega
        · cases e
  · rw [figB_hi v (by omega) hv]
    constructor
    · intro e; rw [e, if_neg (by omega), if_pos (by omega)]; simp
    · intro e
      split at e
      · simp at e; omega
      · split at e
        · simp at e; omega
        · cases e

def uhv (l : List UInt8) (j : Nat) : Nat := (hexV (l.getD j 0).toNat).getD 0
def uhF (l : List UInt8) (i : Nat) : UInt8 := UInt8.ofNat (16 * uhv l (2 * i) + uhv l (2 * i + 1))
/-- All figures ahead of place k are hex figures. -/
def hexTo (l : List UInt8) (k : Nat) : Prop := ∀ j, j < k → hexV (l.getD j 0).toNat ≠ none
/-- What Unhex leaves behind k places: 'n' bytes. -/
def uhCell (l : List UInt8) (k i : Nat) : UInt8 := if 2 * i + 1 < k then uhF l i else if 2 * i < k then UInt8.ofNat (uhv l (2 * i)) else 0
def uhRow (l : List UInt8) (k n : Nat) : List UInt8 := (List.range n).map (uhCell l k)
def uhL (l : List UInt8) (n : Nat) : List UInt8 := (List.range n).map (uhF l)

theorem uhv_lt (l : List UInt8) (j : Nat) : uhv l j < 16 := by
  unfold uhv
  cases h : hexV (l.getD j 0).toNat with
  | none => simp
  | some v => simpa using hexV_lt h

theorem uhv_eq {l : List UInt8} {j v : Nat} (h : hexV (l.getD j 0).toNat = some v) : uhv l j = v := by unfold uhv; rw [h]; rfl

theorem hexTo_succ {l : List UInt8} {k : Nat} (h : hexTo l k) (hk : hexV (l.getD k 0).toNat ≠ none) : hexTo l (k + 1) := by
  intro j hj
  by_cases e : j = k
  · subst e; exact hk
  · exact h j (by omega)

theorem uhL_succ (l : List UInt8) (n : Nat) : uhL l (n + 1) = uhL l n ++ [uhF l n] := by simp [uhL, List.range_succ]
theorem uhL_length (l : List UInt8) (n : Nat) : (uhL l n).length = n := by simp [uhL]
theorem uhRow_length (l : List UInt8) (k n : Nat) : (uhRow l k n).length = n := by simp [uhRow]
theorem uhRow_zero (l : List UInt8) (n : Nat) : uhRow l 0 n = List.replicate n 0 := by
  unfold uhRow
  have e : uhCell l 0 = fun _ => 0 := funext fun i => by simp [uhCell]
  rw [e, List.map_const', List.length_range]
theorem uhRow_full (l : List UInt8) (k n : Nat) (h : 2 * n ≤ k) : uhRow l k n = uhL l n := by
  unfold uhRow uhL
  apply List.map_congr_left
  intro i hi
  have := List.mem_range.1 hi
  unfold uhCell
  rw [if_pos (by omega)]

theorem uhCell_toNat_at (l : List UInt8) (k : Nat) : (uhCell l k (k / 2)).toNat * 16 + uhv l k < 256 ∧ (uhCell l (k + 1) (k / 2)).toNat = (uhCell l k (k / 2)).toNat * 16 + uhv l k := by
  have h1 := uhv_lt l k
  have h2 := uhv_lt l (2 * (k / 2))
  rcases (show k % 2 = 0 ∨ k % 2 = 1 by omega) with e | e
  · have ek : 2 * (k / 2) = k := by omega
    have c1 : uhCell l k (k / 2) = 0 := by unfold uhCell; rw [if_neg (by omega), if_neg (by omega)]
    have c2 : uhCell l (k + 1) (k / 2) = UInt8.ofNat (uhv l k) := by unfold uhCell; rw [if_neg (by omega), if_pos (by omega), ek]
    rw [c1, c2]
    simp [UInt8.toNat_ofNat']
    omega
  · have ek : 2 * (k / 2) + 1 = k := by omega
    have c1 : uhCell l k (k / 2) = UInt8.ofNat (uhv l (2 * (k / 2))) := by unfold uhCell; rw [if_neg (by omega), if_pos (by omega)]
    have c2 : uhCell l (k + 1) (k / 2) = UInt8.ofNat (16 * uhv l (2 * (k / 2)) + uhv l k) := by unfold uhCell; rw [if_pos (by omega)]; unfold uhF; rw [ek]
    rw [c1, c2]
    simp [UInt8.toNat_ofNat']
    omega

theorem uhRow_step (l : List UInt8) (k n : Nat) (b : UInt8) (h : b = uhCell l (k + 1) (k / 2)) : (uhRow l k n).set (k / 2) b = uhRow l (k + 1) n := by
  apply List.ext_getElem
  · simp [uhRow]
  · intro i h1 h2
    simp only [List.getElem_set, uhRow, List.getElem_map, List.getElem_range]
    by_cases e : k / 2 = i
    · rw [if_pos e, h, e]
    · rw [if_neg e]
      unfold uhCell
      by_cases c1 : 2 * i + 1 < k
      · rw [if_pos c1, if_pos (by omega)]
      · rw [if_neg c1, if_neg (by omega), if_neg (by omega), if_neg (by omega)]

end Go.Proofs.YtckkfjmjcknjdaaGreatDoor.P1
