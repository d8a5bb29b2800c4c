/-
  Plain mathematics of chapter 1 (numbers in bytes, figures): lists and numbers alone, nothing of the program.
  Plain mathematics of chapter 1: decimal figures.
  What is written is read back: numbers in bytes, figures, short texts.
  Plain mathematics of chapter 5: confs and entries, as lists of numbers and of bytes; nothing of the program.
  Check sums in plain words: one step over a bit, a byte in two halves, and what a turned byte does.
  Plain mathematics of chapter 8: snapshots as bytes, and what is read of a text; nothing of the program.
  Plain mathematics of chapter 9: events as values and as bytes, and what is read of a text; nothing of the program.
  Plain mathematics of chapter 10: states as pairs of numbers, who is a member and of which level, what the rules allow; nothing of the program.
  A map from Keys to Ids that the call made: what it holds, and what reads and writes make of it.
-/
import Derived.Lib.ItoaNum
import Derived.Lib.ItoaMem
import Derived.Lib.ItoaLen
import Derived.Test.YtbhpalmbbhgamaaItemsArg
import Derived.Maps.OwnSet
namespace Go.Proofs.Ytbhpalmbbhgamaa.P1

/-- The bytes of a number, seven bits a byte, the lowest first; 'f': how many bytes may still go on. -/
def varF : Nat → Nat → List UInt8
  | 0, n => [UInt8.ofNat n]
  | f + 1, n => if 127 < n then UInt8.ofNat (n % 128 + 128) :: varF f (n / 128) else [UInt8.ofNat n]

def varB (n : Nat) : List UInt8 := varF 9 n

theorem varF_hi (f n : Nat) (h : 127 < n) : varF (f + 1) n = UInt8.ofNat (n % 128 + 128) :: varF f (n / 128) := by
  simp [varF, h]

theorem varF_lo (f n : Nat) (h : n ≤ 127) : varF f n = [UInt8.ofNat n] := by
  cases f <;> simp [varF]; omega

theorem varF_length (f n : Nat) : (varF f n).length ≤ f + 1 := by
  induction f generalizing n with
  | zero => simp [varF]
  | succ f ih => unfold varF; split <;> simp; exact ih _

theorem varB_length (n : Nat) : (varB n).length ≤ 10 := varF_length 9 n

/-- One step of the loop: what is written so far, and what is still to come. -/
theorem var_step (f n m : Nat) (xs : List UInt8) (hm : m < 128 ^ (f + 1)) (h : xs ++ varF f m = varB n) (hi : 127 < m) :
    ∃ f', f = f' + 1 ∧ m / 128 < 128 ^ (f' + 1) ∧ (xs ++ [UInt8.ofNat (m % 128 + 128)]) ++ varF f' (m / 128) = varB n := by
  cases f with
  | zero => simp at hm; omega
  | succ f' =>
    refine ⟨f', rfl, ?_, ?_⟩
    · rw [Nat.div_lt_iff_lt_mul (by decide)]
      rw [Nat.pow_succ] at hm
      exact hm
    · rw [varF_hi f' m hi] at h
      simpa using h

theorem var_end (f n m : Nat) (xs : List UInt8) (h : xs ++ varF f m = varB n) (lo : m ≤ 127) : xs ++ [UInt8.ofNat m] = varB n := by
  rw [varF_lo f m lo] at h
  exact h

/-- The number that bytes of 128 and above tell so far, the lowest first. -/
def rawV : List UInt8 → Nat
  | [] => 0
  | b :: r => (b.toNat - 128) + 128 * rawV r

theorem rawV_snoc (l : List UInt8) (b : UInt8) : rawV (l ++ [b]) = rawV l + (b.toNat - 128) * 128 ^ l.length := by
  induction l with
  | nil => simp [rawV]
  | cons c l ih =>
    simp only [List.cons_append, rawV, ih, List.length_cons, Nat.pow_succ]
    rw [Nat.mul_add, Nat.add_assoc, Nat.mul_comm (128 ^ l.length) 128, Nat.mul_left_comm]

theorem rawV_lt (l : List UInt8) : rawV l < 128 ^ l.length := by
  induction l with
  | nil => simp [rawV]
  | cons c l ih =>
    simp only [rawV, List.length_cons, Nat.pow_succ]
    have := c.toNat_lt
    omega

theorem varF_raw (pre : List UInt8) (b : UInt8) (hb : b.toNat < 128) (hpre : ∀ c ∈ pre, 128 ≤ c.toNat) (hne : pre = [] ∨ b.toNat ≠ 0) (f : Nat) (hf : pre.length ≤ f) :
    varF f (rawV pre + b.toNat * 128 ^ pre.length) = pre ++ [b] := by
  induction pre generalizing f with
  | nil =>
    simp only [rawV, List.length_nil, Nat.pow_zero, Nat.mul_one, Nat.zero_add, List.nil_append]
    rw [varF_lo f _ (by omega)]
    simp
  | cons c l ih =>
    have hc := hpre c (by simp)
    have hcl := c.toNat_lt
    have hb0 : b.toNat ≠ 0 := by rcases hne with h | h <;> simp_all
    cases f with
    | zero => simp at hf
    | succ f =>
      have hv : rawV (c :: l) + b.toNat * 128 ^ (c :: l).length = (c.toNat - 128) + 128 * (rawV l + b.toNat * 128 ^ l.length) := by
        simp only [rawV, List.length_cons, Nat.pow_succ]
        rw [Nat.mul_add, Nat.add_assoc, Nat.mul_comm (128 ^ l.length) 128, Nat.mul_left_comm]
      have hpos : 1 ≤ rawV l + b.toNat * 128 ^ l.length := by
        have h1 : 0 < 128 ^ l.length := Nat.pow_pos (by decide)
        have h2 : 0 < b.toNat * 128 ^ l.length := Nat.mul_pos (by omega) h1
        omega
      rw [hv, varF_hi f _ (by omega)]
      have e1 : ((c.toNat - 128) + 128 * (rawV l + b.toNat * 128 ^ l.length)) % 128 + 128 = c.toNat := by omega
      have e2 : ((c.toNat - 128) + 128 * (rawV l + b.toNat * 128 ^ l.length)) / 128 = rawV l + b.toNat * 128 ^ l.length := by omega
      rw [e1, e2, ih (fun x hx => hpre x (by simp [hx])) (Or.inr hb0) f (by simpa using hf)]
      simp

theorem varF_short (j : Nat) : ∀ f v, v < 128 ^ (j + 1) → (varF f v).length ≤ j + 1 := by
  induction j with
  | zero => intro f v h; rw [varF_lo f v (by omega)]; simp
  | succ j ih =>
    intro f v h
    cases f with
    | zero => simp [varF]
    | succ f =>
      unfold varF
      split
      · have := ih f (v / 128) (by rw [Nat.div_lt_iff_lt_mul (by decide)]; rw [Nat.pow_succ] at h; exact h)
        simpa using this
      · simp

theorem varB_longer (pre : List UInt8) (b : UInt8) (hb : b.toNat = 0) (hne : pre ≠ []) : varB (rawV pre + b.toNat * 128 ^ pre.length) ≠ pre ++ [b] := by
  intro h
  have h1 := rawV_lt pre
  cases pre with
  | nil => exact hne rfl
  | cons c l =>
    have h2 := varF_short l.length 9 (rawV (c :: l) + b.toNat * 128 ^ (c :: l).length) (by rw [hb]; simpa using h1)
    have h3 := congrArg List.length h
    unfold varB at h3
    simp at h3 h2
    omega

/-- What ReadVar finds: of bytes read so far ('pre') and those to come; at most 'f' more. -/
def rdGo : Nat → List UInt8 → List UInt8 → Option (Nat × Nat)
  | 0, _, _ => none
  | _ + 1, _, [] => none
  | f + 1, pre, b :: r =>
    if b.toNat < 128 then
      if (pre = [] ∨ b.toNat ≠ 0) ∧ rawV pre + b.toNat * 128 ^ pre.length ≤ 1000000000 then some (rawV pre + b.toNat * 128 ^ pre.length, pre.length + 1) else none
    else rdGo f (pre ++ [b]) r

theorem rdGo_on (f : Nat) (pre : List UInt8) (b : UInt8) (r : List UInt8) (h : ¬ b.toNat < 128) : rdGo (f + 1) pre (b :: r) = rdGo f (pre ++ [b]) r := by
  simp [rdGo, h]

theorem rdGo_yes (f : Nat) (pre : List UInt8) (b : UInt8) (r : List UInt8) (h : b.toNat < 128) (h1 : pre = [] ∨ b.toNat ≠ 0) (h2 : rawV pre + b.toNat * 128 ^ pre.length ≤ 1000000000) :
    rdGo (f + 1) pre (b :: r) = some (rawV pre + b.toNat * 128 ^ pre.length, pre.length + 1) := by
  simp only [rdGo, if_pos h, if_pos (And.intro h1 h2)]

theorem rdGo_long (f : Nat) (pre : List UInt8) (b : UInt8) (r : List UInt8) (h : b.toNat = 0) (h1 : pre ≠ []) : rdGo (f + 1) pre (b :: r) = none := by
  simp [rdGo, h, h1]

theorem rdGo_great (f : Nat) (pre : List UInt8) (b : UInt8) (r : List UInt8) (h : b.toNat < 128) (h2 : 1000000000 < rawV pre + b.toNat * 128 ^ pre.length) : rdGo (f + 1) pre (b :: r) = none := by
  have : ¬ ((pre = [] ∨ b.toNat ≠ 0) ∧ rawV pre + b.toNat * 128 ^ pre.length ≤ 1000000000) := fun h => by omega
  simp only [rdGo, if_pos h, if_neg this]

theorem rdGo_nil (f : Nat) (pre : List UInt8) : rdGo f pre [] = none := by cases f <;> rfl

/-- What is found is within its bounds. -/
theorem rdGo_some : ∀ (f : Nat) (pre r : List UInt8) (v c : Nat), rdGo f pre r = some (v, c) → v ≤ 1000000000 ∧ pre.length < c ∧ c ≤ pre.length + r.length ∧ c ≤ pre.length + f
  | 0, _, _, _, _, h => by simp [rdGo] at h
  | _ + 1, _, [], _, _, h => by simp [rdGo] at h
  | f + 1, pre, b :: r, v, c, h => by
    unfold rdGo at h
    split at h
    · split at h
      · rename_i h1 h2
        simp at h
        obtain ⟨rfl, rfl⟩ := h
        exact ⟨h2.2, by omega, by simp, by omega⟩
      · cases h
    · have := rdGo_some f (pre ++ [b]) r v c h
      simp at this ⊢
      omega

/-- The figure of a number below 16. -/
def figB (n : Nat) : UInt8 := if n < 10 then UInt8.ofNat (48 + n) else UInt8.ofNat (87 + n)

theorem figB_lo (n : Nat) (h : n < 10) : (figB n).toNat = 48 + n := by
  unfold figB; rw [if_pos h]; simp [UInt8.toNat_ofNat']; omega
theorem figB_hi (n : Nat) (h : 10 ≤ n) (h' : n < 16) : (figB n).toNat = 87 + n := by
  unfold figB; rw [if_neg (by omega)]; simp [UInt8.toNat_ofNat']; omega

def hexL : List UInt8 → List UInt8
  | [] => []
  | b :: r => figB (b.toNat / 16) :: figB (b.toNat % 16) :: hexL r

theorem hexL_snoc (l : List UInt8) (b : UInt8) : hexL (l ++ [b]) = hexL l ++ [figB (b.toNat / 16), figB (b.toNat % 16)] := by
  induction l with
  | nil => rfl
  | cons c l ih => simp [hexL, ih]

theorem hexL_length (l : List UInt8) : (hexL l).length = 2 * l.length := by
  induction l with
  | nil => rfl
  | cons c l ih => simp [hexL, ih]; omega

/-- The number of a figure. -/
def hexV (b : Nat) : Option Nat := if 48 ≤ b ∧ b ≤ 57 then some (b - 48) else if 97 ≤ b ∧ b ≤ 102 then some (b - 87) else none

theorem hexV_lt {b v : Nat} (h : hexV b = some v) : v < 16 := by
  unfold hexV at h
  split at h
  · simp at h; omega
  · split at h
    · simp at h; omega
    · cases h

theorem hexV_fig {b : UInt8} {v : Nat} (hv : v < 16) : (b.toNat = (figB v).toNat) ↔ hexV b.toNat = some v := by
  unfold hexV
  by_cases h : v < 10
  · rw [figB_lo v h]
    constructor
    · intro e; rw [e, if_pos (by omega)]; simp
    · intro e
      split at e
      · simp at e; omega
      · split at e
        · simp at e; omega
        · cases e
  · rw [figB_hi v (by omega) hv]
    constructor
    · intro e; rw [e, if_neg (by omega), if_pos (by omega)]; simp
    · intro e
      split at e
      · simp at e; omega
      · split at e
        · simp at e; omega
        · cases e

def uhv (l : List UInt8) (j : Nat) : Nat := (hexV (l.getD j 0).toNat).getD 0
def uhF (l : List UInt8) (i : Nat) : UInt8 := UInt8.ofNat (16 * uhv l (2 * i) + uhv l (2 * i + 1))
/-- All figures ahead of place k are hex figures. -/
def hexTo (l : List UInt8) (k : Nat) : Prop := ∀ j, j < k → hexV (l.getD j 0).toNat ≠ none
/-- What Unhex leaves behind k places: 'n' bytes. -/
def uhCell (l : List UInt8) (k i : Nat) : UInt8 := if 2 * i + 1 < k then uhF l i else if 2 * i < k then UInt8.ofNat (uhv l (2 * i)) else 0
def uhRow (l : List UInt8) (k n : Nat) : List UInt8 := (List.range n).map (uhCell l k)
def uhL (l : List UInt8) (n : Nat) : List UInt8 := (List.range n).map (uhF l)

theorem uhv_lt (l : List UInt8) (j : Nat) : uhv l j < 16 := by
  unfold uhv
  cases h : hexV (l.getD j 0).toNat with
  | none => simp
  | some v => simpa using hexV_lt h

theorem uhv_eq {l : List UInt8} {j v : Nat} (h : hexV (l.getD j 0).toNat = some v) : uhv l j = v := by unfold uhv; rw [h]; rfl

theorem hexTo_succ {l : List UInt8} {k : Nat} (h : hexTo l k) (hk : hexV (l.getD k 0).toNat ≠ none) : hexTo l (k + 1) := by
  intro j hj
  by_cases e : j = k
  · subst e; exact hk
  · exact h j (by omega)

theorem uhL_succ (l : List UInt8) (n : Nat) : uhL l (n + 1) = uhL l n ++ [uhF l n] := by simp [uhL, List.range_succ]
theorem uhL_length (l : List UInt8) (n : Nat) : (uhL l n).length = n := by simp [uhL]
theorem uhRow_length (l : List UInt8) (k n : Nat) : (uhRow l k n).length = n := by simp [uhRow]
theorem uhRow_zero (l : List UInt8) (n : Nat) : uhRow l 0 n = List.replicate n 0 := by
  unfold uhRow
  have e : uhCell l 0 = fun _ => 0 := funext fun i => by simp [uhCell]
  rw [e, List.map_const', List.length_range]
theorem uhRow_full (l : List UInt8) (k n : Nat) (h : 2 * n ≤ k) : uhRow l k n = uhL l n := by
  unfold uhRow uhL
  apply List.map_congr_left
  intro i hi
  have := List.mem_range.1 hi
  unfold uhCell
  rw [if_pos (by omega)]

theorem uhCell_toNat_at (l : List UInt8) (k : Nat) : (uhCell l k (k / 2)).toNat * 16 + uhv l k < 256 ∧ (uhCell l (k + 1) (k / 2)).toNat = (uhCell l k (k / 2)).toNat * 16 + uhv l k := by
  have h1 := uhv_lt l k
  have h2 := uhv_lt l (2 * (k / 2))
  rcases (show k % 2 = 0 ∨ k % 2 = 1 by omega) with e | e
  · have ek : 2 * (k / 2) = k := by omega
    have c1 : uhCell l k (k / 2) = 0 := by unfold uhCell; rw [if_neg (by omega), if_neg (by omega)]
    have c2 : uhCell l (k + 1) (k / 2) = UInt8.ofNat (uhv l k) := by unfold uhCell; rw [if_neg (by omega), if_pos (by omega), ek]
    rw [c1, c2]
    simp [UInt8.toNat_ofNat']
    omega
  · have ek : 2 * (k / 2) + 1 = k := by omega
    have c1 : uhCell l k (k / 2) = UInt8.ofNat (uhv l (2 * (k / 2))) := by unfold uhCell; rw [if_neg (by omega), if_pos (by omega)]
    have c2 : uhCell l (k + 1) (k / 2) = UInt8.ofNat (16 * uhv l (2 * (k / 2)) + uhv l k) := by unfold uhCell; rw [if_pos (by omega)]; unfold uhF; rw [ek]
    rw [c1, c2]
    simp [UInt8.toNat_ofNat']
    omega

theorem uhRow_step (l : List UInt8) (k n : Nat) (b : UInt8) (h : b = uhCell l (k + 1) (k / 2)) : (uhRow l k n).set (k / 2) b = uhRow l (k + 1) n := by
  apply List.ext_getElem
  · simp [uhRow]
  · intro i h1 h2
    simp only [List.getElem_set, uhRow, List.getElem_map, List.getElem_range]
    by_cases e : k / 2 = i
    · rw [if_pos e, h, e]
    · rw [if_neg e]
      unfold uhCell
      by_cases c1 : 2 * i + 1 < k
      · rw [if_pos c1, if_pos (by omega)]
      · rw [if_neg c1, if_neg (by omega), if_neg (by omega), if_neg (by omega)]

end Go.Proofs.Ytbhpalmbbhgamaa.P1

namespace Go.Proofs.Ytbhpalmbbhgamaa.P1
open Go

theorem dec_small (m : Nat) (h : m < 10) : Lib.decDigits m = [UInt8.ofNat (48 + m)] := Lib.decDigits_one h
theorem dec_big (m : Nat) (h : ¬ m < 10) : Lib.decDigits m = Lib.decDigits (m / 10) ++ [UInt8.ofNat (48 + m % 10)] := by rw [Lib.decDigits, dif_neg h]

theorem figB_dec (d : Nat) (h : d < 10) : figB d = UInt8.ofNat (48 + d) := by unfold figB; rw [if_pos h]

/-- What the loop of Decimal carries: 'm' is still to be told, 't' is told. -/
def DecRel (N m : Nat) (t : List UInt8) : Prop := (m = 0 → Lib.decDigits N = t) ∧ (m ≠ 0 → Lib.decDigits N = Lib.decDigits m ++ t)

theorem DecRel.start (N : Nat) (h : N ≠ 0) : DecRel N N [] := ⟨fun e => absurd e h, fun _ => by simp⟩

theorem DecRel.step {N m : Nat} {t : List UInt8} (h : DecRel N m t) (hm : m ≠ 0) : DecRel N (m / 10) (figB (m % 10) :: t) := by
  have h2 := h.2 hm
  rw [figB_dec _ (by omega)]
  constructor
  · intro e
    rw [h2, dec_small m (by omega)]
    have : m % 10 = m := by omega
    rw [this]; rfl
  · intro e
    rw [h2, dec_big m (by omega)]
    simp

theorem DecRel.length {N m : Nat} {t : List UInt8} (h : DecRel N m t) : t.length ≤ (Lib.decDigits N).length := by
  by_cases e : m = 0
  · rw [h.1 e]; exact Nat.le_refl _
  · rw [h.2 e]; simp

theorem dec_length (N : Nat) (h : N ≤ 9223372036854775808) : (Lib.decDigits N).length ≤ 20 := by
  by_cases e : N = 0
  · subst e; rw [dec_small 0 (by decide)]; simp
  · have := Lib.itoa_length_le (-(N : Int)) (by omega) (by omega)
    rw [Lib.itoa_neg N (by omega)] at this
    simp at this; omega

/-- The number that figures tell. -/
def valD (l : List UInt8) : Nat := l.foldl (fun n b => n * 10 + (b.toNat - 48)) 0

theorem valD_snoc (l : List UInt8) (b : UInt8) : valD (l ++ [b]) = valD l * 10 + (b.toNat - 48) := by simp [valD]

theorem valD_le (l k : List UInt8) : valD l ≤ valD (l ++ k) := by
  induction k generalizing l with
  | nil => simp
  | cons b k ih =>
    have h1 := ih (l ++ [b])
    rw [valD_snoc] at h1
    have e : l ++ b :: k = l ++ [b] ++ k := by simp
    rw [e]; omega

theorem valD_take (l : List UInt8) (p : Nat) : valD (l.take p) ≤ valD l := by
  have := valD_le (l.take p) (l.drop p)
  rwa [List.take_append_drop] at this

theorem toNat_dec (d : Nat) (h : d < 10) : (UInt8.ofNat (48 + d)).toNat = 48 + d := by simp [UInt8.toNat_ofNat']; omega

theorem valD_dec (n : Nat) : valD (Lib.decDigits n) = n := by
  induction n using Nat.strongRecOn with
  | _ n ih =>
    by_cases h : n < 10
    · rw [dec_small n h]
      simp only [valD, List.foldl_cons, List.foldl_nil, toNat_dec n h]
      omega
    · rw [dec_big n h, valD_snoc, ih (n / 10) (by omega), toNat_dec _ (by omega)]
      omega

theorem dec_figures (n : Nat) : ∀ b ∈ Lib.decDigits n, 48 ≤ b.toNat ∧ b.toNat ≤ 57 := by
  induction n using Nat.strongRecOn with
  | _ n ih =>
    by_cases h : n < 10
    · rw [dec_small n h]
      intro b hb
      rw [List.mem_singleton.1 hb, toNat_dec n h]; omega
    · rw [dec_big n h]
      intro b hb
      rcases List.mem_append.1 hb with hb | hb
      · exact ih (n / 10) (by omega) b hb
      · rw [List.mem_singleton.1 hb, toNat_dec (n % 10) (by omega)]; omega

theorem dec_len10 : ∀ (k n : Nat), n < 10 ^ (k + 1) → (Lib.decDigits n).length ≤ k + 1
  | 0, n, h => by rw [dec_small n (by omega)]; simp
  | k + 1, n, h => by
    by_cases e : n < 10
    · rw [dec_small n e]; simp
    · rw [dec_big n e]
      have := dec_len10 k (n / 10) (by rw [Nat.div_lt_iff_lt_mul (by decide)]; rw [Nat.pow_succ] at h; exact h)
      simp; exact this

/-- What ReadDecimal finds. -/
def rdDec (l : List UInt8) : Option Nat := if valD l ≤ 1000000000 ∧ Lib.decDigits (valD l) = l then some (valD l) else none

theorem rdDec_bad (l : List UInt8) (b : UInt8) (hb : b ∈ l) (h : b.toNat < 48 ∨ 57 < b.toNat) : rdDec l = none := by
  unfold rdDec
  rw [if_neg]
  rintro ⟨_, e⟩
  rw [← e] at hb
  have := dec_figures _ b hb
  omega

theorem rdDec_great (l : List UInt8) (h : 1000000000 < valD l) : rdDec l = none := by
  unfold rdDec; rw [if_neg]; rintro ⟨h1, _⟩; omega

theorem rdDec_long (l : List UInt8) (h : 10 < l.length) : rdDec l = none := by
  unfold rdDec
  rw [if_neg]
  rintro ⟨h1, e⟩
  have := dec_len10 9 (valD l) (by omega)
  rw [e] at this; omega

theorem rdDec_yes (l : List UInt8) (h : valD l ≤ 1000000000) (e : Lib.decDigits (valD l) = l) : rdDec l = some (valD l) := by
  unfold rdDec; rw [if_pos ⟨h, e⟩]
theorem rdDec_no (l : List UInt8) (e : Lib.decDigits (valD l) ≠ l) : rdDec l = none := by
  unfold rdDec; rw [if_neg]; rintro ⟨_, h⟩; exact e h
theorem rdDec_some {l : List UInt8} {n : Nat} (h : rdDec l = some n) : n ≤ 1000000000 := by
  unfold rdDec at h
  split at h
  · rename_i c; simp at h; omega
  · cases h

end Go.Proofs.Ytbhpalmbbhgamaa.P1

namespace Go.Proofs.Ytbhpalmbbhgamaa
open P1

theorem rdGo_var (n : Nat) (hn : n ≤ 1000000000) (rest : List UInt8) : ∀ (f g m : Nat) (pre : List UInt8), m < 128 ^ f → 0 < f → f ≤ g + 1 → (pre = [] ∨ m ≠ 0) → rawV pre + m * 128 ^ pre.length = n →
    rdGo f pre (varF g m ++ rest) = some (n, pre.length + (varF g m).length)
  | 0, _, _, _, _, h, _, _, _ => by omega
  | f + 1, g, m, pre, hm, _, hg, hp, hv => by
    by_cases h : m ≤ 127
    · rw [varF_lo g m h]
      have hb : (UInt8.ofNat m).toNat = m := by simp [UInt8.toNat_ofNat']; omega
      have := rdGo_yes f pre (UInt8.ofNat m) rest (by rw [hb]; omega) (by rw [hb]; exact hp) (by rw [hb, hv]; exact hn)
      rw [hb, hv] at this
      exact this
    · have hf : 0 < f := by
        rcases Nat.eq_zero_or_pos f with e | e
        · subst e; simp at hm; omega
        · exact e
      obtain ⟨g', rfl⟩ : ∃ g', g = g' + 1 := ⟨g - 1, by omega⟩
      rw [varF_hi g' m (by omega), List.cons_append]
      have hb : (UInt8.ofNat (m % 128 + 128)).toNat = m % 128 + 128 := by simp [UInt8.toNat_ofNat']; omega
      rw [rdGo_on f pre _ _ (by rw [hb]; omega)]
      have hd : m / 128 < 128 ^ f := by
        rw [Nat.pow_succ] at hm
        exact Nat.div_lt_of_lt_mul (by rw [Nat.mul_comm]; exact hm)
      rw [rdGo_var n hn rest f g' (m / 128) (pre ++ [UInt8.ofNat (m % 128 + 128)]) hd hf (by omega) (Or.inr (by omega)) ?_]
      · simp; omega
      · rw [rawV_snoc, hb, List.length_append, List.length_singleton, Nat.pow_succ, ← hv]
        have e : m = m % 128 + 128 * (m / 128) := (Nat.mod_add_div m 128).symm
        have e2 : m * 128 ^ pre.length = (m % 128) * 128 ^ pre.length + (m / 128) * (128 ^ pre.length * 128) := by
          conv => lhs; rw [e]
          rw [Nat.add_mul, Nat.mul_comm 128 (m / 128), Nat.mul_assoc, Nat.mul_comm 128]
        rw [e2, show m % 128 + 128 - 128 = m % 128 by omega]
        omega

theorem rdGo_varB (n : Nat) (hn : n ≤ 1000000000) (rest : List UInt8) : rdGo 5 [] (varB n ++ rest) = some (n, (varB n).length) := by
  have := rdGo_var n hn rest 5 9 n [] (by have : (128 : Nat) ^ 5 = 34359738368 := by decide
                                          omega) (by decide) (by decide) (Or.inl rfl) (by simp [rawV])
  simp only [List.length_nil, Nat.zero_add] at this
  exact this

theorem rdDec_dec (n : Nat) (hn : n ≤ 1000000000) : rdDec (Lib.decDigits n) = some n := by
  rw [rdDec_yes _ (by rw [valD_dec]; exact hn) (by rw [valD_dec]), valD_dec]

theorem hexV_figB (v : Nat) (h : v < 16) : hexV (figB v).toNat = some v := (hexV_fig h).1 rfl

theorem hexL_at : ∀ (l : List UInt8) (i : Nat) (h : i < l.length), (hexL l).getD (2 * i) 0 = figB (l[i].toNat / 16) ∧ (hexL l).getD (2 * i + 1) 0 = figB (l[i].toNat % 16)
  | b :: l, 0, _ => ⟨rfl, rfl⟩
  | b :: l, i + 1, h => by
    have := hexL_at l i (by simpa using h)
    exact this

theorem hexTo_hexL (l : List UInt8) : hexTo (hexL l) (hexL l).length := by
  intro j hj
  rw [hexL_length] at hj
  have hb : (l[j / 2]'(by omega)).toNat < 256 := (l[j / 2]'(by omega)).toNat_lt
  obtain ⟨h1, h2⟩ := hexL_at l (j / 2) (by omega)
  rcases Nat.mod_two_eq_zero_or_one j with e | e
  · rw [show 2 * (j / 2) = j by omega] at h1
    rw [h1, hexV_figB _ (by omega)]
    simp
  · rw [show 2 * (j / 2) + 1 = j by omega] at h2
    rw [h2, hexV_figB _ (by omega)]
    simp

theorem uhL_hexL (l : List UInt8) : uhL (hexL l) l.length = l := by
  apply List.ext_getElem
  · rw [uhL_length]
  · intro i h1 h2
    obtain ⟨a, b⟩ := hexL_at l i h2
    have hb := l[i].toNat_lt
    have e1 : uhv (hexL l) (2 * i) = l[i].toNat / 16 := uhv_eq (by rw [a]; exact hexV_figB _ (by omega))
    have e2 : uhv (hexL l) (2 * i + 1) = l[i].toNat % 16 := uhv_eq (by rw [b]; exact hexV_figB _ (by omega))
    simp only [uhL, List.getElem_map, List.getElem_range, uhF, e1, e2]
    rw [show 16 * (l[i].toNat / 16) + l[i].toNat % 16 = l[i].toNat by omega]
    simp

end Go.Proofs.Ytbhpalmbbhgamaa

namespace Go.Proofs.Ytbhpalmbbhgamaa.P9
open P1

/-- Numbers in lo .. hi, each greater than the one ahead of it. -/
def after : Option Int → Int → Bool
  | none, _ => true
  | some y, z => decide (y < z)

def riseF (lo hi : Int) : Option Int → List Int → Bool
  | _, [] => true
  | p, z :: r => (decide (lo ≤ z) && decide (z ≤ hi) && after p z) && riseF lo hi (some z) r

/-- The number ahead of place j. -/
def pv (zs : List Int) : Nat → Option Int
  | 0 => none
  | j + 1 => zs[j]?

def confOk (zs : List Int) : Bool := decide (1 ≤ zs.length ∧ zs.length ≤ 4) && riseF 1 4 none zs

theorem riseF_at {lo hi : Int} {zs : List Int} {j : Nat} {z : Int} (h : zs[j]? = some z) : riseF lo hi (pv zs j) (zs.drop j) = ((decide (lo ≤ z) && decide (z ≤ hi) && after (pv zs j) z) && riseF lo hi (pv zs (j + 1)) (zs.drop (j + 1))) := by
  obtain ⟨hj, he⟩ := List.getElem?_eq_some_iff.1 h
  rw [List.drop_eq_getElem_cons hj, he]
  simp only [riseF, pv, h]

theorem riseF_mem {lo hi : Int} : ∀ (zs : List Int) (p : Option Int), riseF lo hi p zs = true → ∀ z ∈ zs, lo ≤ z ∧ z ≤ hi
  | y :: r, p, h, z, hz => by
    simp only [riseF, Bool.and_eq_true, decide_eq_true_eq] at h
    rcases List.mem_cons.1 hz with rfl | hz
    · exact ⟨h.1.1.1, h.1.1.2⟩
    · exact riseF_mem r _ h.2 z hz

theorem confOk_mem {zs : List Int} (h : confOk zs = true) : ∀ z ∈ zs, 1 ≤ z ∧ z ≤ 4 := by
  unfold confOk at h
  simp only [Bool.and_eq_true] at h
  exact riseF_mem zs none h.2

theorem confOk_len {zs : List Int} (h : confOk zs = true) : 1 ≤ zs.length ∧ zs.length ≤ 4 := by
  unfold confOk at h
  simp only [Bool.and_eq_true, decide_eq_true_eq] at h
  exact h.1

theorem confOk_short {zs : List Int} (h : ¬ (1 ≤ zs.length ∧ zs.length ≤ 4)) : confOk zs = false := by
  unfold confOk
  simp [h]

theorem confOk_mid {zs : List Int} (h : 1 ≤ zs.length ∧ zs.length ≤ 4) : confOk zs = riseF 1 4 none zs := by
  unfold confOk
  simp [h]

/-- A conf as bytes, and back. -/
def confB (zs : List Int) : List UInt8 := zs.map fun z => UInt8.ofNat z.toNat
def confZ (l : List UInt8) : List Int := l.map fun b => (b.toNat : Int)

theorem confB_snoc (zs : List Int) (z : Int) : confB (zs ++ [z]) = confB zs ++ [UInt8.ofNat z.toNat] := by simp [confB]
theorem confZ_snoc (l : List UInt8) (b : UInt8) : confZ (l ++ [b]) = confZ l ++ [(b.toNat : Int)] := by simp [confZ]
theorem confB_length (zs : List Int) : (confB zs).length = zs.length := by simp [confB]
theorem confZ_length (l : List UInt8) : (confZ l).length = l.length := by simp [confZ]
theorem confB_confZ (l : List UInt8) : confB (confZ l) = l := by
  induction l with
  | nil => rfl
  | cons b l ih =>
    simp only [confB, confZ, List.map_cons, List.map_map] at ih ⊢
    rw [ih]
    simp
theorem confZ_confB {zs : List Int} (h : ∀ z ∈ zs, 1 ≤ z ∧ z ≤ 4) : confZ (confB zs) = zs := by
  induction zs with
  | nil => rfl
  | cons z l ih =>
    have h1 := h z (by simp)
    have h2 := ih (fun y hy => h y (by simp [hy]))
    simp only [confB, confZ, List.map_cons] at h2 ⊢
    rw [h2]
    have : (UInt8.ofNat z.toNat).toNat = z.toNat := by simp [UInt8.toNat_ofNat']; omega
    rw [this]
    congr 1
    omega

/-- Is this a right content of an entry of a kind? -/
def contOk (k : Int) (l : List UInt8) : Bool :=
  if k = 1 then decide (l.length = 0) else if k = 2 then confOk (confZ l) else if k = 3 then decide (l.length ≤ 120) else false

def termOk (t : Int) : Bool := decide (0 ≤ t) && decide (t ≤ 100000)
def indexOk (i : Int) : Bool := decide (1 ≤ i) && decide (i ≤ 1000000)
def entryOk (t k : Int) (l : List UInt8) : Bool := contOk k l && termOk t

theorem contOk_kind {k : Int} {l : List UInt8} (h : contOk k l = true) : k = 1 ∧ l = [] ∨ k = 2 ∧ confOk (confZ l) = true ∨ k = 3 ∧ l.length ≤ 120 := by
  unfold contOk at h
  split at h
  · left; exact ⟨by assumption, List.eq_nil_of_length_eq_zero (by simpa using h)⟩
  · split at h
    · right; left; exact ⟨by assumption, h⟩
    · split at h
      · right; right; exact ⟨by assumption, by simpa using h⟩
      · cases h

theorem contOk_len {k : Int} {l : List UInt8} (h : contOk k l = true) : l.length ≤ 120 ∧ 1 ≤ k ∧ k ≤ 3 := by
  rcases contOk_kind h with ⟨rfl, rfl⟩ | ⟨rfl, h⟩ | ⟨rfl, h⟩
  · simp
  · have := confOk_len h
    rw [confZ_length] at this
    omega
  · omega

/-- The text of an entry. -/
def entryB (i t k : Nat) (l : List UInt8) : List UInt8 := 69 :: (varB i ++ (varB t ++ (UInt8.ofNat k :: l)))

/-- What is read by ReadVar is written so. -/
theorem rdGo_is : ∀ (f : Nat) (pre r : List UInt8) (v c : Nat), pre.length + f ≤ 9 → (∀ b ∈ pre, 128 ≤ b.toNat) → rdGo f pre r = some (v, c) → varB v = (pre ++ r).take c
  | 0, _, _, _, _, _, _, h => by simp [rdGo] at h
  | _ + 1, _, [], _, _, _, _, h => by simp [rdGo] at h
  | f + 1, pre, b :: r, v, c, hl, hp, h => by
    unfold rdGo at h
    split at h
    · rename_i hb
      split at h
      · rename_i h2
        simp at h
        obtain ⟨rfl, rfl⟩ := h
        unfold varB
        rw [varF_raw pre b hb hp h2.1 9 (by omega)]
        have : pre ++ b :: r = (pre ++ [b]) ++ r := by simp
        rw [this, List.take_append_of_le_length (by simp), List.take_of_length_le (by simp)]
      · cases h
    · rename_i hb
      have := rdGo_is f (pre ++ [b]) r v c (by simp; omega) (fun x hx => by
        rcases List.mem_append.1 hx with hx | hx
        · exact hp x hx
        · simp at hx; subst hx; omega) h
      simpa using this

theorem rdGo_is5 {r : List UInt8} {v c : Nat} (h : rdGo 5 [] r = some (v, c)) : varB v = r.take c := by
  simpa using rdGo_is 5 [] r v c (by simp) (by simp) h

/-- What ReadEntry finds. -/
def rdEntry : List UInt8 → Option (Nat × Nat × Nat × List UInt8)
  | [] => none
  | h :: r =>
    match rdGo 5 [] r with
    | none => none
    | some (i, c1) =>
      match rdGo 5 [] (r.drop c1) with
      | none => none
      | some (t, c2) =>
        match (r.drop c1).drop c2 with
        | [] => none
        | k :: d => if h = 69 ∧ indexOk i = true ∧ entryOk t k.toNat d = true then some (i, t, k.toNat, d) else none

/-- The bytes are those of the entry that is found. -/
theorem parts_of_read {h : UInt8} {r d : List UInt8} {i t c1 c2 : Nat} {k : UInt8} (h1 : rdGo 5 [] r = some (i, c1)) (h2 : rdGo 5 [] (r.drop c1) = some (t, c2)) (h3 : (r.drop c1).drop c2 = k :: d) :
    entryB i t k.toNat d = h :: r ↔ h = 69 := by
  have e1 := rdGo_is5 h1
  have e2 := rdGo_is5 h2
  have : varB i ++ (varB t ++ (UInt8.ofNat k.toNat :: d)) = r := by
    rw [e1, e2]
    have hk : UInt8.ofNat k.toNat = k := by simp
    rw [hk, ← h3, List.take_append_drop, List.take_append_drop]
  unfold entryB
  rw [this]
  constructor
  · intro h; simp at h; exact h.symm
  · rintro rfl; rfl

theorem rdEntry_text {i t k : Nat} {l : List UInt8} (hi : indexOk i = true) (he : entryOk t k l = true) : rdEntry (entryB i t k l) = some (i, t, k, l) := by
  unfold entryB rdEntry
  have hi' := hi
  simp only [indexOk, Bool.and_eq_true, decide_eq_true_eq] at hi'
  have he' := he
  unfold entryOk termOk at he'
  simp only [Bool.and_eq_true, decide_eq_true_eq] at he'
  have hk := contOk_len he'.1
  simp only
  rw [rdGo_varB i (by omega)]
  simp only
  rw [List.drop_left, rdGo_varB t (by omega)]
  simp only
  rw [List.drop_left]
  simp only
  have : (UInt8.ofNat k).toNat = k := by simp [UInt8.toNat_ofNat']; omega
  rw [this, if_pos ⟨trivial, hi, he⟩]

/-- More than half of a conf. -/
def mostOf (conf list : List Int) : Bool := confOk conf && decide (conf.length < 2 * (conf.filter fun z => list.contains z).length)

end Go.Proofs.Ytbhpalmbbhgamaa.P9

namespace Go.Proofs.Ytbhpalmbbhgamaa.P3

/-- One step: half of it (down), and the figure when it was odd. -/
def half (s : Nat) : Nat := if s % 2 = 1 then s / 2 ^^^ 3558460437 else s / 2

def halfs : Nat → Nat → Nat
  | 0, s => s
  | n + 1, s => halfs n (half s)

def sumB (s : Nat) (b : UInt8) : Nat := halfs 8 (s ^^^ b.toNat)

def sumL (s : Nat) (l : List UInt8) : Nat := l.foldl sumB s

theorem sumL_nil (s : Nat) : sumL s [] = s := rfl
theorem sumL_cons (s : Nat) (b : UInt8) (l : List UInt8) : sumL s (b :: l) = sumL (sumB s b) l := rfl
theorem sumL_append (s : Nat) (l k : List UInt8) : sumL s (l ++ k) = sumL (sumL s l) k := by simp [sumL]
theorem sumL_snoc (s : Nat) (l : List UInt8) (b : UInt8) : sumL s (l ++ [b]) = sumB (sumL s l) b := by simp [sumL]

theorem xor_div2 (a b : Nat) : (a ^^^ b) / 2 = a / 2 ^^^ b / 2 := by
  apply Nat.eq_of_testBit_eq
  intro i
  rw [Nat.testBit_xor, ← Nat.testBit_succ, ← Nat.testBit_succ, ← Nat.testBit_succ, Nat.testBit_xor]

theorem xor_mod2 (a b : Nat) : (a ^^^ b) % 2 = (a + b) % 2 := by
  have h := Nat.xor_mod_two_pow (a := a) (b := b) (n := 1)
  rw [show (2 ^ 1 : Nat) = 2 from rfl] at h
  rw [h]
  rcases Nat.mod_two_eq_zero_or_one a with ha | ha <;> rcases Nat.mod_two_eq_zero_or_one b with hb | hb <;> rw [ha, hb]
  · show 0 = _; omega
  · show 1 = _; omega
  · show 1 = _; omega
  · show 0 = _; omega

theorem half_xor (a b : Nat) : half (a ^^^ b) = half a ^^^ half b := by
  unfold half
  rw [xor_mod2, xor_div2]
  rcases Nat.mod_two_eq_zero_or_one a with ha | ha <;> rcases Nat.mod_two_eq_zero_or_one b with hb | hb
  · rw [if_neg (by omega), if_neg (by omega), if_neg (by omega)]
  · rw [if_pos (by omega), if_neg (by omega), if_pos (by omega), Nat.xor_assoc]
  · rw [if_pos (by omega), if_pos (by omega), if_neg (by omega), Nat.xor_assoc, Nat.xor_assoc, Nat.xor_comm (b / 2)]
  · rw [if_neg (by omega), if_pos (by omega), if_pos (by omega)]
    rw [Nat.xor_assoc, Nat.xor_comm 3558460437, Nat.xor_assoc, Nat.xor_self, Nat.xor_zero]

theorem halfs_xor (n : Nat) : ∀ a b, halfs n (a ^^^ b) = halfs n a ^^^ halfs n b := by
  induction n with
  | zero => intro a b; rfl
  | succ n ih => intro a b; show halfs n (half (a ^^^ b)) = _; rw [half_xor, ih]; rfl

theorem half_lt (s : Nat) (h : s < 4294967296) : half s < 4294967296 := by
  unfold half
  split
  · exact Nat.xor_lt_two_pow (n := 32) (by omega) (by decide)
  · omega

theorem halfs_lt (n : Nat) : ∀ s, s < 4294967296 → halfs n s < 4294967296 := by
  induction n with
  | zero => intro s h; exact h
  | succ n ih => intro s h; exact ih _ (half_lt s h)

theorem halfs_add (m n s : Nat) : halfs (m + n) s = halfs n (halfs m s) := by
  induction m generalizing s with
  | zero => rw [Nat.zero_add]; rfl
  | succ m ih => rw [Nat.succ_add]; exact ih _

theorem halfs_one (n s : Nat) : halfs (n + 1) s = half (halfs n s) := by rw [halfs_add]; rfl

theorem half_even (q : Nat) : half (2 * q) = q := by unfold half; rw [if_neg (by omega)]; omega

theorem xor_byte_lt (s : Nat) (b : UInt8) (h : s < 4294967296) : s ^^^ b.toNat < 4294967296 :=
  Nat.xor_lt_two_pow (n := 32) h (Nat.lt_trans b.toNat_lt (by decide))

theorem sumB_lt (s : Nat) (b : UInt8) (h : s < 4294967296) : sumB s b < 4294967296 := halfs_lt 8 _ (xor_byte_lt s b h)

theorem sumL_lt (l : List UInt8) : ∀ s, s < 4294967296 → sumL s l < 4294967296 := by
  induction l with
  | nil => intro s h; exact h
  | cons b l ih => intro s h; exact ih _ (sumB_lt s b h)

/-- Four steps at once: the rest goes down, the lowest four bits by a table. -/
theorem split16 (s : Nat) : s = (16 * (s / 16)) ^^^ (s % 16) := by
  have e : 16 * (s / 16) ^^^ s % 16 = 16 * (s / 16) + s % 16 := by
    have h := Nat.two_pow_add_eq_or_of_lt (i := 4) (b := s % 16) (by omega) (s / 16)
    rw [show (2 ^ 4 : Nat) = 16 from rfl] at h
    rw [h]
    apply Nat.eq_of_testBit_eq
    intro i
    rw [Nat.testBit_xor, Nat.testBit_or]
    by_cases hi : i < 4
    · have : (16 * (s / 16)).testBit i = false := by
        rw [show (16 : Nat) = 2 ^ 4 from rfl, Nat.testBit_two_pow_mul]; simp; omega
      rw [this]; simp
    · have : (s % 16).testBit i = false := by
        rw [show (16 : Nat) = 2 ^ 4 from rfl, Nat.testBit_mod_two_pow]; simp; omega
      rw [this]; simp
  omega

theorem four_up (q : Nat) : halfs 4 (16 * q) = q := by
  show half (half (half (half (16 * q)))) = q
  rw [show 16 * q = 2 * (2 * (2 * (2 * q))) by omega, half_even, half_even, half_even, half_even]

theorem four_split (s : Nat) : halfs 4 s = s / 16 ^^^ halfs 4 (s % 16) := by
  conv => lhs; rw [split16 s]
  rw [halfs_xor, four_up]

theorem eight_four (s : Nat) : halfs 8 s = halfs 4 (halfs 4 s) := halfs_add 4 4 s

/-- A step turns different sums into different ones. -/
theorem half_zero (s : Nat) (h : s < 4294967296) (hz : half s = 0) : s = 0 := by
  unfold half at hz
  split at hz
  · have : s / 2 = 3558460437 := by
      have h1 : (s / 2 ^^^ 3558460437) ^^^ 3558460437 = 3558460437 := by rw [hz, Nat.zero_xor]
      rw [Nat.xor_assoc, Nat.xor_self, Nat.xor_zero] at h1
      exact h1
    omega
  · omega

theorem halfs_zero (n : Nat) : ∀ s, s < 4294967296 → halfs n s = 0 → s = 0 := by
  induction n with
  | zero => intro s _ h; exact h
  | succ n ih => intro s h hz; exact half_zero s h (ih _ (half_lt s h) hz)

theorem xor_zero_eq (a b : Nat) (h : a ^^^ b = 0) : a = b := by
  have h1 : (a ^^^ b) ^^^ b = b := by rw [h, Nat.zero_xor]
  rw [Nat.xor_assoc, Nat.xor_self, Nat.xor_zero] at h1
  exact h1

theorem halfs_inj (n a b : Nat) (ha : a < 4294967296) (hb : b < 4294967296) (h : halfs n a = halfs n b) : a = b := by
  apply xor_zero_eq
  apply halfs_zero n _ (Nat.xor_lt_two_pow (n := 32) ha hb)
  rw [halfs_xor, h, Nat.xor_self]

theorem xor_right_inj (a b c : Nat) (h : a ^^^ c = b ^^^ c) : a = b := by
  have h1 : (a ^^^ c) ^^^ c = (b ^^^ c) ^^^ c := by rw [h]
  rw [Nat.xor_assoc, Nat.xor_assoc, Nat.xor_self, Nat.xor_zero, Nat.xor_zero] at h1
  exact h1

theorem sumB_inj (s t : Nat) (b : UInt8) (hs : s < 4294967296) (ht : t < 4294967296) (h : sumB s b = sumB t b) : s = t :=
  xor_right_inj s t b.toNat (halfs_inj 8 _ _ (xor_byte_lt s b hs) (xor_byte_lt t b ht) h)

theorem sumB_byte (s : Nat) (b c : UInt8) (hs : s < 4294967296) (h : sumB s b = sumB s c) : b = c := by
  have h1 := halfs_inj 8 _ _ (xor_byte_lt s b hs) (xor_byte_lt s c hs) h
  rw [Nat.xor_comm s, Nat.xor_comm s] at h1
  exact UInt8.toNat_inj.1 (xor_right_inj _ _ s h1)

theorem sumL_inj (l : List UInt8) : ∀ s t, s < 4294967296 → t < 4294967296 → sumL s l = sumL t l → s = t := by
  induction l with
  | nil => intro s t _ _ h; exact h
  | cons b l ih => intro s t hs ht h; exact sumB_inj s t b hs ht (ih _ _ (sumB_lt s b hs) (sumB_lt t b ht) h)

/-- One byte turned turns the sum. -/
theorem sumL_turned (s : Nat) (hs : s < 4294967296) (l : List UInt8) (i : Nat) (hi : i < l.length) (c : UInt8) (hc : c ≠ l[i]) : sumL s (l.set i c) ≠ sumL s l := by
  intro h
  have e1 : l.set i c = l.take i ++ c :: l.drop (i + 1) := by rw [List.set_eq_take_append_cons_drop, if_pos hi]
  have e2 : l = l.take i ++ l[i] :: l.drop (i + 1) := by simp
  rw [e1] at h
  conv at h => rhs; rw [e2]
  rw [sumL_append, sumL_append, sumL_cons, sumL_cons] at h
  have h0 := sumL_lt (l.take i) s hs
  have h1 := sumL_inj _ _ _ (sumB_lt _ _ h0) (sumB_lt _ _ h0) h
  exact hc (sumB_byte _ _ _ h0 h1)

/-- A sum in four bytes, the highest first. -/
def be32 (x : Nat) : List UInt8 := [UInt8.ofNat (x / 16777216), UInt8.ofNat (x / 65536), UInt8.ofNat (x / 256), UInt8.ofNat x]

theorem be32_length (x : Nat) : (be32 x).length = 4 := rfl

theorem be32_inj (x y : Nat) (hx : x < 4294967296) (hy : y < 4294967296) (h : be32 x = be32 y) : x = y := by
  unfold be32 at h
  simp only [List.cons.injEq, and_true] at h
  obtain ⟨h1, h2, h3, h4⟩ := h
  have f : ∀ a b : Nat, UInt8.ofNat a = UInt8.ofNat b → a % 256 = b % 256 := fun a b e => by
    have := congrArg UInt8.toNat e
    simpa [UInt8.toNat_ofNat'] using this
  have := f _ _ h1; have := f _ _ h2; have := f _ _ h3; have := f _ _ h4
  omega

abbrev sumOfL (l : List UInt8) : Nat := sumL 4294967295 l

theorem sumOfL_lt (l : List UInt8) : sumOfL l < 4294967296 := sumL_lt l _ (by decide)

def sealL (l : List UInt8) : List UInt8 := l ++ be32 (sumOfL l)

theorem sealL_length (l : List UInt8) : (sealL l).length = l.length + 4 := by simp [sealL, be32_length]

/-- The text whose seal this is. -/
def unsealL (t : List UInt8) : Option (List UInt8) :=
  if 4 ≤ t.length ∧ t.length ≤ 20004 ∧ t.drop (t.length - 4) = be32 (sumOfL (t.take (t.length - 4))) then some (t.take (t.length - 4)) else none

theorem unseal_seal (l : List UInt8) (h : l.length ≤ 20000) : unsealL (sealL l) = some l := by
  unfold unsealL
  rw [sealL_length, show l.length + 4 - 4 = l.length by omega]
  have e1 : (sealL l).take l.length = l := by simp [sealL]
  have e2 : (sealL l).drop l.length = be32 (sumOfL l) := by simp [sealL]
  rw [e1, e2, if_pos ⟨by omega, by omega, rfl⟩]

theorem unseal_turned (l : List UInt8) (i : Nat) (hi : i < (sealL l).length) (c : UInt8) (hc : c ≠ (sealL l)[i]) : unsealL ((sealL l).set i c) = none := by
  unfold unsealL
  rw [List.length_set, sealL_length, show l.length + 4 - 4 = l.length by omega]
  rw [if_neg]
  rintro ⟨-, -, h⟩
  have hlen := sealL_length l
  by_cases hl : i < l.length
  · have e1 : ((sealL l).set i c).take l.length = l.set i c := by
      rw [List.take_set]; simp [sealL]
    have e2 : ((sealL l).set i c).drop l.length = be32 (sumOfL l) := by
      rw [List.drop_set, if_pos hl]; simp [sealL]
    rw [e1, e2] at h
    have h1 := be32_inj _ _ (sumOfL_lt _) (sumOfL_lt _) h
    have h2 : (sealL l)[i] = l[i] := by simp [sealL, List.getElem_append_left hl]
    exact sumL_turned _ (by decide) l i hl c (by rw [← h2]; exact hc) h1.symm
  · have e1 : ((sealL l).set i c).take l.length = l := by
      rw [List.take_set_of_le (by omega)]; simp [sealL]
    rw [e1] at h
    have e2 : ((sealL l).set i c).drop l.length = (be32 (sumOfL l)).set (i - l.length) c := by
      rw [List.drop_set, if_neg (by omega)]; simp [sealL]
    rw [e2] at h
    have hi' : i - l.length < (be32 (sumOfL l)).length := by rw [be32_length]; omega
    have h3 := List.getElem_set_self (l := be32 (sumOfL l)) (i := i - l.length) (a := c) (by simpa using hi')
    have h4 : (sealL l)[i] = (be32 (sumOfL l))[i - l.length] := by simp only [sealL]; rw [List.getElem_append_right (by omega)]
    apply hc
    rw [h4, ← h3]
    simp only [h]

theorem unseal_length (t l : List UInt8) (h : unsealL t = some l) : l.length ≤ t.length := by
  unfold unsealL at h
  split at h
  · cases h; simp
  · cases h

end Go.Proofs.Ytbhpalmbbhgamaa.P3

namespace Go.Proofs.Ytbhpalmbbhgamaa.P11
open P1 P3 P9

/-- VarText of its length, and it. -/
def shortB (l : List UInt8) : List UInt8 := varB l.length ++ l

def snapB (i t : Nat) (c b : List UInt8) : List UInt8 := varB i ++ (varB t ++ (shortB c ++ shortB b))

/-- A number at the beginning, and the rest. -/
def rdV (l : List UInt8) : Option (Nat × List UInt8) :=
  match rdGo 5 [] l with
  | none => none
  | some (n, c) => some (n, l.drop c)

/-- A short text at the beginning, and the rest. -/
def rdS (l : List UInt8) : Option (List UInt8 × List UInt8) :=
  match rdV l with
  | none => none
  | some (n, r) => if n ≤ r.length then some (r.take n, r.drop n) else none

theorem rdV_some {l r : List UInt8} {n : Nat} (h : rdV l = some (n, r)) : l = varB n ++ r ∧ n ≤ 1000000000 := by
  unfold rdV at h
  cases hr : rdGo 5 [] l with
  | none => rw [hr] at h; cases h
  | some p =>
    obtain ⟨v, c⟩ := p
    rw [hr] at h
    simp only [Option.some.injEq, Prod.mk.injEq] at h
    obtain ⟨rfl, rfl⟩ := h
    refine ⟨?_, (rdGo_some 5 [] l v c hr).1⟩
    rw [rdGo_is5 hr, List.take_append_drop]

theorem rdV_var (n : Nat) (hn : n ≤ 1000000000) (r : List UInt8) : rdV (varB n ++ r) = some (n, r) := by
  unfold rdV
  rw [rdGo_varB n hn r]
  simp

theorem rdS_some {l x r : List UInt8} (h : rdS l = some (x, r)) : l = shortB x ++ r ∧ x.length ≤ 1000000000 := by
  unfold rdS at h
  cases hv : rdV l with
  | none => rw [hv] at h; cases h
  | some p =>
    obtain ⟨n, q⟩ := p
    rw [hv] at h
    simp only at h
    split at h
    · rename_i hn
      simp only [Option.some.injEq, Prod.mk.injEq] at h
      obtain ⟨rfl, rfl⟩ := h
      obtain ⟨e, hb⟩ := rdV_some hv
      have hl : (q.take n).length = n := by rw [List.length_take]; omega
      refine ⟨?_, by omega⟩
      unfold shortB
      rw [hl, List.append_assoc, List.take_append_drop]
      exact e
    · cases h

theorem rdS_short (x : List UInt8) (hx : x.length ≤ 1000000000) (r : List UInt8) : rdS (shortB x ++ r) = some (x, r) := by
  unfold rdS shortB
  rw [List.append_assoc, rdV_var _ hx]
  simp

/-- What stands in a text, and what is left of it. -/
def rdSnapB (l : List UInt8) : Option (Nat × Nat × List UInt8 × List UInt8 × List UInt8) :=
  match rdV l with
  | none => none
  | some (i, r1) =>
    match rdV r1 with
    | none => none
    | some (t, r2) =>
      match rdS r2 with
      | none => none
      | some (c, r3) =>
        match rdS r3 with
        | none => none
        | some (b, r4) => some (i, t, c, b, r4)

theorem rdSnapB_1 {l : List UInt8} (h : rdV l = none) : rdSnapB l = none := by unfold rdSnapB; rw [h]
theorem rdSnapB_2 {l r1 : List UInt8} {i : Nat} (h : rdV l = some (i, r1)) (h2 : rdV r1 = none) : rdSnapB l = none := by unfold rdSnapB; rw [h]; simp only; rw [h2]
theorem rdSnapB_3 {l r1 r2 : List UInt8} {i t : Nat} (h : rdV l = some (i, r1)) (h2 : rdV r1 = some (t, r2)) (h3 : rdS r2 = none) : rdSnapB l = none := by
  unfold rdSnapB; rw [h]; simp only; rw [h2]; simp only; rw [h3]
theorem rdSnapB_4 {l r1 r2 r3 c : List UInt8} {i t : Nat} (h : rdV l = some (i, r1)) (h2 : rdV r1 = some (t, r2)) (h3 : rdS r2 = some (c, r3)) (h4 : rdS r3 = none) : rdSnapB l = none := by
  unfold rdSnapB; rw [h]; simp only; rw [h2]; simp only; rw [h3]; simp only; rw [h4]
theorem rdSnapB_5 {l r1 r2 r3 r4 c b : List UInt8} {i t : Nat} (h : rdV l = some (i, r1)) (h2 : rdV r1 = some (t, r2)) (h3 : rdS r2 = some (c, r3)) (h4 : rdS r3 = some (b, r4)) : rdSnapB l = some (i, t, c, b, r4) := by
  unfold rdSnapB; rw [h]; simp only; rw [h2]; simp only; rw [h3]; simp only; rw [h4]

theorem rdSnapB_some {l c b r : List UInt8} {i t : Nat} (h : rdSnapB l = some (i, t, c, b, r)) : l = snapB i t c b ++ r ∧ i ≤ 1000000000 ∧ t ≤ 1000000000 := by
  unfold rdSnapB at h
  split at h
  · cases h
  · rename_i i' r1 h1
    split at h
    · cases h
    · rename_i t' r2 h2
      split at h
      · cases h
      · rename_i c' r3 h3
        split at h
        · cases h
        · rename_i b' r4 h4
          simp only [Option.some.injEq, Prod.mk.injEq] at h
          obtain ⟨rfl, rfl, rfl, rfl, rfl⟩ := h
          obtain ⟨e1, b1⟩ := rdV_some h1
          obtain ⟨e2, b2⟩ := rdV_some h2
          obtain ⟨e3, -⟩ := rdS_some h3
          obtain ⟨e4, -⟩ := rdS_some h4
          refine ⟨?_, b1, b2⟩
          rw [e1, e2, e3, e4]
          simp [snapB]

theorem rdSnapB_text {i t : Nat} (hi : i ≤ 1000000000) (ht : t ≤ 1000000000) {c b : List UInt8} (hc : c.length ≤ 1000000000) (hb : b.length ≤ 1000000000) (r : List UInt8) :
    rdSnapB (snapB i t c b ++ r) = some (i, t, c, b, r) := by
  have e : snapB i t c b ++ r = varB i ++ (varB t ++ (shortB c ++ (shortB b ++ r))) := by simp [snapB]
  rw [e]
  exact rdSnapB_5 (rdV_var i hi _) (rdV_var t ht _) (rdS_short c hc _) (rdS_short b hb _)

/-- Numbers and conf of a right snapshot. -/
def snOk (i t : Int) (z : List Int) : Bool := decide (0 ≤ i ∧ i ≤ 1000000) && (decide (0 ≤ t ∧ t ≤ 100000) && confOk z)

theorem snOk_iff {i t : Int} {z : List Int} : snOk i t z = true ↔ (0 ≤ i ∧ i ≤ 1000000) ∧ (0 ≤ t ∧ t ≤ 100000) ∧ confOk z = true := by
  simp [snOk]

/-- The text of a snapshot. -/
def snText (i t : Int) (z : List Int) (b : List UInt8) : Option (List UInt8) :=
  if snOk i t z = true ∧ (snapB i.toNat t.toNat (confB z) b).length + 4 ≤ 20000 then some (sealL (snapB i.toNat t.toNat (confB z) b)) else none

/-- The snapshot of a text. -/
def rdSnap (text : List UInt8) : Option (Nat × Nat × List Int × List UInt8) :=
  match unsealL text with
  | none => none
  | some l =>
    match rdSnapB l with
    | none => none
    | some (i, t, c, b, r) => if r = [] ∧ text.length ≤ 20000 ∧ snOk i t (confZ c) = true then some (i, t, confZ c, b) else none

theorem unseal_some {t l : List UInt8} (h : unsealL t = some l) : t = sealL l ∧ l.length ≤ 20000 := by
  unfold unsealL at h
  split at h
  · rename_i hc
    cases h
    refine ⟨?_, by rw [List.length_take]; omega⟩
    unfold sealL
    rw [← hc.2.2, List.take_append_drop]
  · cases h

theorem sealL_inj {a b : List UInt8} (h : sealL a = sealL b) : a = b := by
  have hl := congrArg List.length h
  rw [sealL_length, sealL_length] at hl
  have := congrArg (List.take a.length) h
  rw [show (sealL a).take a.length = a by simp [sealL]] at this
  rw [show a.length = b.length by omega, show (sealL b).take b.length = b by simp [sealL]] at this
  exact this

theorem snText_some {i t : Int} {z : List Int} {b text : List UInt8} (h : snText i t z b = some text) :
    snOk i t z = true ∧ (snapB i.toNat t.toNat (confB z) b).length + 4 ≤ 20000 ∧ text = sealL (snapB i.toNat t.toNat (confB z) b) := by
  unfold snText at h
  split at h
  · rename_i hc
    cases h
    exact ⟨hc.1, hc.2, rfl⟩
  · cases h

theorem snText_length {i t : Int} {z : List Int} {b text : List UInt8} (h : snText i t z b = some text) : text.length ≤ 20000 ∧ 8 ≤ text.length := by
  obtain ⟨-, h2, rfl⟩ := snText_some h
  rw [sealL_length]
  refine ⟨h2, ?_⟩
  have p : ∀ n, 1 ≤ (varB n).length := fun n => by
    unfold varB
    cases h : varF 9 n with
    | nil => unfold varF at h; split at h <;> cases h
    | cons => simp
  have h1 := p i.toNat
  have h2 := p t.toNat
  have h3 := p (confB z).length
  have h4 := p b.length
  simp only [snapB, shortB, List.length_append]
  omega

theorem snapB_body (i t : Nat) (c b : List UInt8) : b.length ≤ (snapB i t c b).length ∧ c.length ≤ (snapB i t c b).length := by
  simp only [snapB, shortB, List.length_append]
  omega

/-- What is read is just what would be written. -/
theorem rdSnap_iff {text b : List UInt8} {i t : Nat} {z : List Int} : rdSnap text = some (i, t, z, b) ↔ snText i t z b = some text := by
  constructor
  · intro h
    unfold rdSnap at h
    split at h
    · cases h
    · rename_i l hl
      split at h
      · cases h
      · rename_i i' t' c b' r hr
        split at h
        · rename_i hc
          simp only [Option.some.injEq, Prod.mk.injEq] at h
          obtain ⟨rfl, rfl, rfl, rfl⟩ := h
          obtain ⟨e, -⟩ := unseal_some hl
          obtain ⟨e2, -⟩ := rdSnapB_some hr
          obtain ⟨rfl, h2, h3⟩ := hc
          rw [List.append_nil] at e2
          unfold snText
          simp only [Int.toNat_natCast]
          rw [confB_confZ, ← e2, ← e]
          rw [if_pos]
          refine ⟨h3, ?_⟩
          rw [e, sealL_length] at h2
          exact h2
        · cases h
  · intro h
    obtain ⟨h1, h2, e⟩ := snText_some h
    simp only [Int.toNat_natCast] at h2 e
    have hk := snOk_iff.1 h1
    have hb := snapB_body i t (confB z) b
    unfold rdSnap
    rw [e, unseal_seal _ (by omega)]
    simp only
    have hr := rdSnapB_text (i := i) (t := t) (by omega) (by omega) (c := confB z) (b := b) (by omega) (by omega) []
    rw [List.append_nil] at hr
    rw [hr]
    simp only
    rw [confZ_confB (confOk_mem hk.2.2), if_pos ⟨trivial, by rw [sealL_length]; exact h2, h1⟩]

theorem rdSnap_none {text l : List UInt8} (h : unsealL text = some l) (h2 : rdSnapB l = none) : rdSnap text = none := by
  unfold rdSnap; rw [h]; simp only; rw [h2]
theorem rdSnap_off {text : List UInt8} (h : unsealL text = none) : rdSnap text = none := by
  unfold rdSnap; rw [h]

/-- A text of the parts that were read: it is the text itself just when it is a right one. -/
theorem rdSnap_read {text l c b r : List UInt8} {i t : Nat} (h : unsealL text = some l) (h2 : rdSnapB l = some (i, t, c, b, r)) :
    rdSnap text = if snText i t (confZ c) b = some text then some (i, t, confZ c, b) else none := by
  split
  · rename_i hh
    exact rdSnap_iff.2 hh
  · rename_i hh
    cases hs : rdSnap text with
    | none => rfl
    | some q =>
      obtain ⟨i', t', z', b'⟩ := q
      have hs0 := hs
      unfold rdSnap at hs
      rw [h] at hs
      simp only at hs
      rw [h2] at hs
      simp only at hs
      split at hs
      · simp only [Option.some.injEq, Prod.mk.injEq] at hs
        obtain ⟨rfl, rfl, rfl, rfl⟩ := hs
        exact absurd (rdSnap_iff.1 hs0) hh
      · cases hs

theorem rdSnap_bounds {text b : List UInt8} {i t : Nat} {z : List Int} (h : rdSnap text = some (i, t, z, b)) : i ≤ 1000000 ∧ t ≤ 100000 ∧ confOk z = true ∧ b.length ≤ 20000 ∧ text.length ≤ 20000 := by
  have h' := rdSnap_iff.1 h
  obtain ⟨h1, h2, e⟩ := snText_some h'
  have hk := snOk_iff.1 h1
  have hb := snapB_body (i : Int).toNat (t : Int).toNat (confB z) b
  refine ⟨by omega, by omega, hk.2.2, by omega, (snText_length h').1⟩

end Go.Proofs.Ytbhpalmbbhgamaa.P11

namespace Go.Proofs.Ytbhpalmbbhgamaa.P12
open P1 P3 P9 P11
set_option linter.unusedVariables false

/-- An event. -/
structure EvV where
  id : Int
  kind : Int
  sender : Int
  user : Int
  member : Int
  levels : List Int
  text : List UInt8
  prev : List Int
  depth : Int
deriving DecidableEq

def inR (a lo hi : Int) : Bool := decide (lo ≤ a) && decide (a ≤ hi)
theorem inR_iff {a lo hi : Int} : inR a lo hi = true ↔ lo ≤ a ∧ a ≤ hi := by simp [inR]

/-- Levels are five numbers in 0 .. 100. -/
def lvOk (zs : List Int) : Bool := zs.all (fun z => inR z 0 100) && decide (zs.length = 5)

def memOk (e : EvV) : Bool := if e.kind = 2 then inR e.user 1 5 && inR e.member 0 3 else decide (e.user = 0) && decide (e.member = 0)
def lvsOk (e : EvV) : Bool := if e.kind = 3 then lvOk e.levels else decide (e.levels = [])
def txOk (e : EvV) : Bool := if e.kind = 4 ∨ e.kind = 5 then decide (e.text.length ≤ 24) else decide (e.text = [])
def bodyOk (e : EvV) : Bool := inR e.kind 1 5 && (inR e.sender 1 5 && (memOk e && (lvsOk e && txOk e)))

/-- Prev: ascending, each in 1 .. MaxIndex and not Id. -/
def pvOk (id : Int) : Option Int → List Int → Bool
  | _, [] => true
  | p, z :: r => (inR z 1 1000000 && (decide (z ≠ id) && after p z)) && pvOk id (some z) r

def prevOk (e : EvV) : Bool := decide (e.prev.length ≤ 3) && (decide (e.kind = 1 ↔ e.prev = []) && pvOk e.id none e.prev)
def evOk (e : EvV) : Bool := bodyOk e && (inR e.id 1 1000000 && (inR e.depth 0 1000000 && prevOk e))

def byB (n : Int) : UInt8 := UInt8.ofNat n.toNat
def varZ (n : Int) : List UInt8 := varB n.toNat

/-- What an event tells in bytes, but for its Id, Prev and Depth. -/
def evBody (e : EvV) : List UInt8 := byB e.kind :: byB e.sender :: byB e.user :: byB e.member :: (varB e.levels.length ++ (e.levels.map byB ++ shortB e.text))
def evB (e : EvV) : List UInt8 := varZ e.id ++ (evBody e ++ (varB e.prev.length ++ (e.prev.flatMap varZ ++ varZ e.depth)))

theorem pvOk_mem {id : Int} : ∀ (zs : List Int) (p : Option Int), pvOk id p zs = true → ∀ z ∈ zs, 1 ≤ z ∧ z ≤ 1000000
  | y :: r, p, h, z, hz => by
    simp only [pvOk, Bool.and_eq_true, inR_iff] at h
    rcases List.mem_cons.1 hz with rfl | hz
    · exact h.1.1
    · exact pvOk_mem r _ h.2 z hz

theorem lvOk_mem {zs : List Int} (h : lvOk zs = true) : ∀ z ∈ zs, 0 ≤ z ∧ z ≤ 100 := by
  unfold lvOk at h
  simp only [Bool.and_eq_true, List.all_eq_true] at h
  exact fun z hz => inR_iff.1 (h.1 z hz)

theorem lvsOk_mem {e : EvV} (h : lvsOk e = true) : (∀ z ∈ e.levels, 0 ≤ z ∧ z ≤ 100) ∧ e.levels.length ≤ 5 := by
  unfold lvsOk at h
  split at h
  · refine ⟨lvOk_mem h, ?_⟩
    unfold lvOk at h
    simp only [Bool.and_eq_true, decide_eq_true_eq] at h
    omega
  · have h := of_decide_eq_true h
    rw [h]
    simp

theorem txOk_len {e : EvV} (h : txOk e = true) : e.text.length ≤ 24 := by
  unfold txOk at h
  split at h
  · exact of_decide_eq_true h
  · have h := of_decide_eq_true h
    rw [h]
    simp

theorem memOk_in {e : EvV} (h : memOk e = true) : 0 ≤ e.user ∧ e.user ≤ 5 ∧ 0 ≤ e.member ∧ e.member ≤ 3 := by
  unfold memOk at h
  split at h
  · simp only [Bool.and_eq_true, inR_iff] at h
    omega
  · simp only [Bool.and_eq_true, decide_eq_true_eq] at h
    omega

/-- The limits of a right event. -/
structure EvIn (e : EvV) : Prop where
  id : 1 ≤ e.id ∧ e.id ≤ 1000000
  kind : 1 ≤ e.kind ∧ e.kind ≤ 5
  sender : 1 ≤ e.sender ∧ e.sender ≤ 5
  user : 0 ≤ e.user ∧ e.user ≤ 5
  member : 0 ≤ e.member ∧ e.member ≤ 3
  levels : ∀ z ∈ e.levels, 0 ≤ z ∧ z ≤ 100
  many : e.levels.length ≤ 5
  text : e.text.length ≤ 24
  prev : ∀ z ∈ e.prev, 1 ≤ z ∧ z ≤ 1000000
  prevs : e.prev.length ≤ 3
  depth : 0 ≤ e.depth ∧ e.depth ≤ 1000000

theorem evOk_in {e : EvV} (h : evOk e = true) : EvIn e := by
  unfold evOk bodyOk prevOk at h
  simp only [Bool.and_eq_true, inR_iff, decide_eq_true_eq] at h
  obtain ⟨⟨h1, h2, h3, h4, h5⟩, h6, h7, h8, -, h9⟩ := h
  have hm := memOk_in h3
  exact ⟨h6, h1, h2, ⟨hm.1, hm.2.1⟩, hm.2.2, (lvsOk_mem h4).1, (lvsOk_mem h4).2, txOk_len h5, pvOk_mem _ _ h9, h8, h7⟩

/-- n numbers at the beginning, and the rest. -/
def rdVs : Nat → List UInt8 → Option (List Int × List UInt8)
  | 0, l => some ([], l)
  | n + 1, l =>
    match rdV l with
    | none => none
    | some (v, r) =>
      match rdVs n r with
      | none => none
      | some (vs, q) => some ((v : Int) :: vs, q)

theorem rdVs_some : ∀ {n : Nat} {l r : List UInt8} {vs : List Int}, rdVs n l = some (vs, r) → l = vs.flatMap varZ ++ r ∧ vs.length = n
  | 0, l, r, vs, h => by cases h; exact ⟨rfl, rfl⟩
  | n + 1, l, r, vs, h => by
    unfold rdVs at h
    split at h
    · cases h
    · rename_i v q hv
      split at h
      · cases h
      · rename_i ws q2 hw
        cases h
        obtain ⟨e1, -⟩ := rdV_some hv
        obtain ⟨e2, e3⟩ := rdVs_some hw
        refine ⟨?_, by simp [e3]⟩
        rw [e1, e2]
        simp [varZ]

theorem rdVs_text : ∀ (vs : List Int) (r : List UInt8), (∀ z ∈ vs, 0 ≤ z ∧ z ≤ 1000000000) → rdVs vs.length (vs.flatMap varZ ++ r) = some (vs, r)
  | [], r, _ => rfl
  | z :: vs, r, h => by
    have hz := h z (by simp)
    have ih := rdVs_text vs r (fun y hy => h y (by simp [hy]))
    simp only [List.length_cons, List.flatMap_cons, List.append_assoc]
    unfold rdVs
    rw [show varZ z = varB z.toNat from rfl, rdV_var z.toNat (by omega)]
    simp only
    rw [ih]
    simp only [Option.some.injEq, Prod.mk.injEq, List.cons.injEq, and_true]
    omega

def bz (b : UInt8) : Int := (b.toNat : Int)

theorem byB_bz (b : UInt8) : byB (bz b) = b := by simp [byB, bz]
theorem bz_byB {z : Int} (h : 0 ≤ z ∧ z ≤ 255) : bz (byB z) = z := by
  unfold bz byB
  have : (UInt8.ofNat z.toNat).toNat = z.toNat := by simp [UInt8.toNat_ofNat']; omega
  rw [this]
  omega
theorem map_bz_byB {zs : List Int} (h : ∀ z ∈ zs, 0 ≤ z ∧ z ≤ 255) : (zs.map byB).map bz = zs := by
  induction zs with
  | nil => rfl
  | cons z r ih =>
    simp only [List.map_cons, bz_byB (h z (by simp))]
    rw [ih (fun y hy => h y (by simp [hy]))]
theorem map_byB_bz (l : List UInt8) : (l.map bz).map byB = l := by
  induction l with
  | nil => rfl
  | cons b r ih => simp only [List.map_cons, byB_bz, ih]

/-- What stands in a text behind the number Id, and what is left of it. -/
def rdBody (i : Nat) : List UInt8 → Option (EvV × List UInt8)
  | k :: s :: u :: m :: r =>
    match rdV r with
    | none => none
    | some (n, r1) =>
      if n ≤ r1.length then
        match rdS (r1.drop n) with
        | none => none
        | some (x, r2) => some (⟨i, bz k, bz s, bz u, bz m, (r1.take n).map bz, x, [], 0⟩, r2)
      else none
  | _ => none

theorem rdBody_some {i : Nat} {l r : List UInt8} {e : EvV} (h : rdBody i l = some (e, r)) : l = evBody e ++ r ∧ e.id = i ∧ e.prev = [] ∧ e.depth = 0 := by
  unfold rdBody at h
  split at h
  · rename_i k s u m q
    split at h
    · cases h
    · rename_i n r1 hv
      split at h
      · rename_i hn
        split at h
        · cases h
        · rename_i x r2 hs
          cases h
          obtain ⟨e1, -⟩ := rdV_some hv
          obtain ⟨e2, -⟩ := rdS_some hs
          have hl : (r1.take n).length = n := by rw [List.length_take]; omega
          refine ⟨?_, rfl, rfl, rfl⟩
          unfold evBody
          simp only [byB_bz, List.length_map, hl, map_byB_bz, List.cons_append, List.append_assoc]
          rw [← e2, List.take_append_drop, ← e1]
      · cases h
  · cases h

theorem rdBody_text {e : EvV} (he : EvIn e) (r : List UInt8) : rdBody e.id.toNat (evBody e ++ r) = some ({ e with prev := [], depth := 0 }, r) := by
  unfold evBody rdBody
  simp only [List.cons_append, List.append_assoc]
  rw [rdV_var _ (by have := he.many; omega)]
  simp only
  have hl : e.levels.length ≤ (e.levels.map byB ++ (shortB e.text ++ r)).length := by simp
  rw [if_pos hl]
  have e1 : (e.levels.map byB ++ (shortB e.text ++ r)).drop e.levels.length = shortB e.text ++ r := by
    rw [List.drop_append_of_le_length (by simp)]
    simp
  have e2 : (e.levels.map byB ++ (shortB e.text ++ r)).take e.levels.length = e.levels.map byB := by
    rw [List.take_append_of_le_length (by simp), List.take_of_length_le (by simp)]
  rw [e1, e2, rdS_short _ (by have := he.text; omega)]
  simp only
  have k1 := he.kind
  have k2 := he.sender
  have k3 := he.user
  have k4 := he.member
  have k5 := he.id
  rw [map_bz_byB (fun z hz => by have := he.levels z hz; omega), bz_byB (by omega), bz_byB (by omega), bz_byB (by omega), bz_byB (by omega), show ((e.id.toNat : Nat) : Int) = e.id by omega]

/-- The event of a text, right or not, and what is left. -/
def rdEvB (l : List UInt8) : Option (EvV × List UInt8) :=
  match rdV l with
  | none => none
  | some (i, r1) =>
    match rdBody i r1 with
    | none => none
    | some (e, r2) =>
      match rdV r2 with
      | none => none
      | some (n, r3) =>
        match rdVs n r3 with
        | none => none
        | some (ps, r4) =>
          match rdV r4 with
          | none => none
          | some (d, r5) => some ({ e with prev := ps, depth := d }, r5)

theorem rdEvB_some {l r : List UInt8} {e : EvV} (h : rdEvB l = some (e, r)) : l = evB e ++ r := by
  unfold rdEvB at h
  split at h
  · cases h
  · rename_i i r1 h1
    split at h
    · cases h
    · rename_i e0 r2 h2
      split at h
      · cases h
      · rename_i n r3 h3
        split at h
        · cases h
        · rename_i ps r4 h4
          split at h
          · cases h
          · rename_i d r5 h5
            cases h
            obtain ⟨a1, -⟩ := rdV_some h1
            obtain ⟨a2, a2i, -, -⟩ := rdBody_some h2
            obtain ⟨a3, -⟩ := rdV_some h3
            obtain ⟨a4, a4n⟩ := rdVs_some h4
            obtain ⟨a5, -⟩ := rdV_some h5
            rw [a1, a2, a3, a4, a5]
            unfold evB
            simp only [varZ, a2i, a4n, Int.toNat_natCast, List.append_assoc]
            rfl

theorem rdEvB_text {e : EvV} (he : EvIn e) (r : List UInt8) : rdEvB (evB e ++ r) = some (e, r) := by
  have k1 := he.id
  have k2 := he.prevs
  have k3 := he.depth
  unfold evB rdEvB
  simp only [List.append_assoc]
  rw [show varZ e.id = varB e.id.toNat from rfl, rdV_var _ (by omega)]
  simp only
  rw [rdBody_text he]
  simp only
  rw [rdV_var _ (by omega)]
  simp only
  rw [rdVs_text e.prev _ (fun z hz => by have := he.prev z hz; omega)]
  simp only
  rw [show varZ e.depth = varB e.depth.toNat from rfl, rdV_var _ (by omega)]
  simp only [Option.some.injEq, Prod.mk.injEq, and_true]
  rw [show ((e.depth.toNat : Nat) : Int) = e.depth by omega]

def evText (e : EvV) : Option (List UInt8) := if evOk e = true then some (evB e) else none

/-- The right event of a text. -/
def rdEvent (l : List UInt8) : Option EvV :=
  match rdEvB l with
  | none => none
  | some (e, r) => if r = [] ∧ evOk e = true then some e else none

theorem rdEvent_iff {l : List UInt8} {e : EvV} : rdEvent l = some e ↔ evText e = some l := by
  constructor
  · intro h
    unfold rdEvent at h
    split at h
    · cases h
    · rename_i e' r hr
      split at h
      · rename_i hc
        cases h
        have := rdEvB_some hr
        rw [hc.1, List.append_nil] at this
        unfold evText
        rw [if_pos hc.2, this]
      · cases h
  · intro h
    unfold evText at h
    split at h
    · rename_i hc
      cases h
      have := rdEvB_text (evOk_in hc) []
      rw [List.append_nil] at this
      unfold rdEvent
      rw [this]
      simp [hc]
    · cases h

/-- No right event has this text: then none is read. -/
theorem rdEvent_none {l : List UInt8} (h : ∀ e, evOk e = true → evB e ≠ l) : rdEvent l = none := by
  cases hr : rdEvent l with
  | none => rfl
  | some e =>
    have := rdEvent_iff.1 hr
    unfold evText at this
    split at this
    · rename_i hc
      cases this
      exact absurd rfl (h e hc)
    · cases this

/-- What of the state an event tells. -/
def keyOf (e : EvV) : Int :=
  if e.kind = 1 then 1 else if e.kind = 3 then 2 else if e.kind = 4 then 3 else if e.kind = 2 ∧ inR e.user 1 5 = true then 10 + e.user else 0

end Go.Proofs.Ytbhpalmbbhgamaa.P12

namespace Go.Proofs.Ytbhpalmbbhgamaa.P14
open P1 P3 P9 P11 P12
set_option linter.unusedVariables false

/-- A Key that a state may have. -/
def stKey (k : Int) : Bool := inR k 1 3 || inR k 11 15

/-- Items behind a Key: each right, their Keys ascending. -/
def stFrom : Option Int → List (Int × Int) → Bool
  | _, [] => true
  | p, x :: r => (stKey x.1 && (inR x.2 1 1000000 && after p x.1)) && stFrom (some x.1) r

def stOk (s : List (Int × Int)) : Bool := decide (s.length ≤ 8) && stFrom none s

/-- The Id of a Key. -/
def stAt : List (Int × Int) → Int → Int
  | [], _ => 0
  | x :: r, k => if x.1 = k then x.2 else stAt r k

/-- The state with a Key's Id put in, as the specification makes it. -/
def stIn (s : List (Int × Int)) (k i : Int) : List (Int × Int) := s.filter (fun x => decide (x.1 < k)) ++ (k, i) :: s.filter (fun x => decide (k < x.1))
def stPut (s : List (Int × Int)) (k i : Int) : List (Int × Int) := if stOk s && stOk (stIn s k i) then stIn s k i else s

/-- The same, made by going along. -/
def stIns : List (Int × Int) → Int → Int → List (Int × Int)
  | [], k, i => [(k, i)]
  | x :: r, k, i => if x.1 < k then x :: stIns r k i else if x.1 = k then (k, i) :: r else (k, i) :: x :: r

theorem after_trans {p : Option Int} {a b : Int} (h : after p a = true) (hab : a < b) : after p b = true := by
  cases p with
  | none => rfl
  | some y => simp only [after, decide_eq_true_eq] at h ⊢; omega

theorem stFrom_after : ∀ {s : List (Int × Int)} {p : Option Int}, stFrom p s = true → ∀ x ∈ s, after p x.1 = true
  | y :: r, p, h, x, hx => by
    simp only [stFrom, Bool.and_eq_true] at h
    rcases List.mem_cons.1 hx with rfl | hx
    · exact h.1.2.2
    · have := stFrom_after h.2 x hx
      exact after_trans h.1.2.2 (by simpa [after] using this)

theorem stFrom_mem : ∀ {s : List (Int × Int)} {p : Option Int}, stFrom p s = true → ∀ x ∈ s, stKey x.1 = true ∧ inR x.2 1 1000000 = true
  | y :: r, p, h, x, hx => by
    simp only [stFrom, Bool.and_eq_true] at h
    rcases List.mem_cons.1 hx with rfl | hx
    · exact ⟨h.1.1, h.1.2.1⟩
    · exact stFrom_mem h.2 x hx

theorem stFrom_weak {s : List (Int × Int)} {p q : Option Int} (h : stFrom p s = true) (hq : ∀ x ∈ s, after q x.1 = true) : stFrom q s = true := by
  cases s with
  | nil => rfl
  | cons x r =>
    simp only [stFrom, Bool.and_eq_true] at h ⊢
    exact ⟨⟨h.1.1, h.1.2.1, hq x (by simp)⟩, h.2⟩

/-- The place of a Key among the eight. -/
def stRank (k : Int) : Int := if k ≤ 3 then k else k - 7

theorem stKey_cases {k : Int} (h : stKey k = true) : (1 ≤ k ∧ k ≤ 3) ∨ (11 ≤ k ∧ k ≤ 15) := by
  simp only [stKey, Bool.or_eq_true, inR_iff] at h
  exact h

theorem stRank_in {k : Int} (h : stKey k = true) : 1 ≤ stRank k ∧ stRank k ≤ 8 := by
  have := stKey_cases h
  unfold stRank
  split <;> omega

theorem stRank_lt {a b : Int} (ha : stKey a = true) (hb : stKey b = true) (h : a < b) : stRank a < stRank b := by
  have := stKey_cases ha
  have := stKey_cases hb
  unfold stRank
  split <;> split <;> omega

theorem stFrom_len : ∀ {s : List (Int × Int)} {k : Int}, stKey k = true → stFrom (some k) s = true → (s.length : Int) + stRank k ≤ 8
  | [], k, hk, _ => by have := stRank_in hk; simp; omega
  | x :: r, k, hk, h => by
    simp only [stFrom, Bool.and_eq_true] at h
    have ih := stFrom_len h.1.1 h.2
    have := stRank_lt hk h.1.1 (by simpa [after] using h.1.2.2)
    simp only [List.length_cons]
    omega

/-- Eight Keys: never more Items. -/
theorem stFrom_eight {s : List (Int × Int)} (h : stFrom none s = true) : s.length ≤ 8 := by
  cases s with
  | nil => simp
  | cons x r =>
    simp only [stFrom, Bool.and_eq_true] at h
    have := stFrom_len h.1.1 h.2
    have := stRank_in h.1.1
    simp only [List.length_cons]
    omega

theorem stOk_eq (s : List (Int × Int)) : stOk s = stFrom none s := by
  unfold stOk
  cases h : stFrom none s with
  | false => simp
  | true => simp [stFrom_eight h]

theorem filter_all {α : Type} {f : α → Bool} : ∀ {l : List α}, (∀ x ∈ l, f x = true) → l.filter f = l := fun h => List.filter_eq_self.2 h
theorem filter_none {α : Type} {f : α → Bool} : ∀ {l : List α}, (∀ x ∈ l, f x = false) → l.filter f = [] := fun h => List.filter_eq_nil_iff.2 (fun x hx => by simp [h x hx])

theorem stIn_ins : ∀ {s : List (Int × Int)} {p : Option Int} {k i : Int}, stFrom p s = true → stIn s k i = stIns s k i
  | [], p, k, i, _ => rfl
  | x :: r, p, k, i, h => by
    simp only [stFrom, Bool.and_eq_true] at h
    have hr : ∀ y ∈ r, x.1 < y.1 := fun y hy => by simpa [after] using stFrom_after h.2 y hy
    have ih := stIn_ins (k := k) (i := i) h.2
    unfold stIn at ih ⊢
    unfold stIns
    by_cases h1 : x.1 < k
    · rw [if_pos h1, ← ih]
      rw [List.filter_cons_of_pos (by simpa using h1), List.filter_cons_of_neg (by simp; omega)]
      rfl
    · rw [if_neg h1]
      have e1 : r.filter (fun x => decide (x.1 < k)) = [] := filter_none (fun y hy => by have := hr y hy; simp; omega)
      have e2 : r.filter (fun x => decide (k < x.1)) = r := filter_all (fun y hy => by have := hr y hy; simp; omega)
      rw [List.filter_cons_of_neg (by simpa using h1), e1]
      by_cases h2 : x.1 = k
      · rw [if_pos h2, List.filter_cons_of_neg (by simp; omega), e2]
        rfl
      · rw [if_neg h2, List.filter_cons_of_pos (by simp; omega), e2]
        rfl

/-- What is put in is right where its Key and its Id are. -/
theorem stIns_from : ∀ {s : List (Int × Int)} {p : Option Int} {k i : Int}, stFrom p s = true → stKey k = true → inR i 1 1000000 = true → after p k = true → stFrom p (stIns s k i) = true
  | [], p, k, i, _, hk, hi, hp => by simp [stIns, stFrom, hk, hi, hp]
  | x :: r, p, k, i, h, hk, hi, hp => by
    simp only [stFrom, Bool.and_eq_true] at h
    unfold stIns
    split
    · rename_i h1
      simp only [stFrom, Bool.and_eq_true]
      exact ⟨h.1, stIns_from h.2 hk hi (by simpa [after] using h1)⟩
    · rename_i h1
      split
      · rename_i h2
        subst h2
        simp only [stFrom, Bool.and_eq_true]
        exact ⟨⟨hk, hi, hp⟩, h.2⟩
      · rename_i h2
        simp only [stFrom, Bool.and_eq_true]
        exact ⟨⟨hk, hi, hp⟩, ⟨h.1.1, h.1.2.1, by simp only [after, decide_eq_true_eq]; omega⟩, h.2⟩

theorem stIns_mem {k i : Int} : ∀ (s : List (Int × Int)), (k, i) ∈ stIns s k i
  | [] => by simp [stIns]
  | x :: r => by
    unfold stIns
    split
    · exact List.mem_cons_of_mem _ (stIns_mem r)
    · split <;> simp

theorem stIns_ok {s : List (Int × Int)} {k i : Int} (h : stOk s = true) : stOk (stIns s k i) = (stKey k && inR i 1 1000000) := by
  rw [stOk_eq] at h
  rw [stOk_eq]
  by_cases hb : (stKey k && inR i 1 1000000) = true
  · rw [hb]
    simp only [Bool.and_eq_true] at hb
    exact stIns_from h hb.1 hb.2 rfl
  · rw [Bool.not_eq_true] at hb
    rw [hb]
    cases hq : stFrom none (stIns s k i) with
    | false => rfl
    | true =>
      obtain ⟨h1, h2⟩ := stFrom_mem hq _ (stIns_mem s)
      simp only at h1 h2
      rw [h1, h2] at hb
      cases hb

/-- Put, told by what comes. -/
theorem stPut_eq (s : List (Int × Int)) (k i : Int) : stPut s k i = if stOk s && (stKey k && inR i 1 1000000) then stIns s k i else s := by
  unfold stPut
  cases h : stOk s with
  | false => rfl
  | true => rw [stIn_ins (by rw [← stOk_eq]; exact h : stFrom none s = true), stIns_ok h]

theorem stPut_ok {s : List (Int × Int)} {k i : Int} (h : stOk s = true) : stOk (stPut s k i) = true := by
  rw [stPut_eq, h]
  split
  · rename_i hb
    rw [stIns_ok h]
    simpa using hb
  · exact h

theorem stAt_ins_same : ∀ (s : List (Int × Int)) (k i : Int), stAt (stIns s k i) k = i
  | [], k, i => by simp [stIns, stAt]
  | x :: r, k, i => by
    unfold stIns
    split
    · rename_i h1
      unfold stAt
      rw [if_neg (by omega)]
      exact stAt_ins_same r k i
    · split <;> simp [stAt]

theorem stAt_ins_other {q : Int} : ∀ (s : List (Int × Int)) (k i : Int), q ≠ k → stAt (stIns s k i) q = stAt s q
  | [], k, i, h => by simp [stIns, stAt, Ne.symm h]
  | x :: r, k, i, h => by
    have ih := stAt_ins_other r k i h
    unfold stIns
    split
    · simp only [stAt, ih]
    · split
      · rename_i h2
        simp only [stAt]
        rw [if_neg (Ne.symm h), if_neg (by rw [h2]; exact Ne.symm h)]
      · simp only [stAt]
        rw [if_neg (Ne.symm h)]

theorem stAt_mem : ∀ {s : List (Int × Int)} {p : Option Int}, stFrom p s = true → ∀ x ∈ s, stAt s x.1 = x.2
  | y :: r, p, h, x, hx => by
    simp only [stFrom, Bool.and_eq_true] at h
    unfold stAt
    rcases List.mem_cons.1 hx with rfl | hx
    · rw [if_pos rfl]
    · have := stFrom_after h.2 x hx
      rw [if_neg (by simp only [after, decide_eq_true_eq] at this; omega)]
      exact stAt_mem h.2 x hx

theorem stIns_len : ∀ (s : List (Int × Int)) (k i : Int), (stIns s k i).length ≤ s.length + 1
  | [], k, i => by simp [stIns]
  | x :: r, k, i => by
    have ih := stIns_len r k i
    unfold stIns
    split
    · simp only [List.length_cons]; omega
    · split <;> simp

/-- The event of an Id: the first one. -/
def evFind : List EvV → Int → Option EvV
  | [], _ => none
  | e :: r, i => if e.id = i then some e else evFind r i

theorem evFind_mem : ∀ {es : List EvV} {i : Int} {e : EvV}, evFind es i = some e → e ∈ es ∧ e.id = i
  | x :: r, i, e, h => by
    unfold evFind at h
    split at h
    · rename_i h1
      cases h
      exact ⟨by simp, h1⟩
    · have := evFind_mem h
      exact ⟨List.mem_cons_of_mem _ this.1, this.2⟩

theorem evFind_some : ∀ {es : List EvV} {e : EvV}, e ∈ es → ∃ x, evFind es e.id = some x
  | x :: r, e, h => by
    unfold evFind
    by_cases h1 : x.id = e.id
    · exact ⟨x, by rw [if_pos h1]⟩
    · rw [if_neg h1]
      rcases List.mem_cons.1 h with rfl | h
      · exact absurd rfl h1
      · exact evFind_some h

theorem evFind_none : ∀ {es : List EvV} {i : Int}, (∀ e ∈ es, e.id ≠ i) → evFind es i = none
  | [], i, _ => rfl
  | x :: r, i, h => by
    unfold evFind
    rw [if_neg (h x (by simp))]
    exact evFind_none (fun e he => h e (List.mem_cons_of_mem _ he))

/-- A user's membership: 0 Left, 1 Invited, 2 Joined, 3 Banned. -/
def memOf (es : List EvV) (s : List (Int × Int)) (u : Int) : Int :=
  if inR u 1 5 then
    match evFind es (stAt s (10 + u)) with
    | none => 0
    | some e => if e.kind = 2 ∧ e.user = u then e.member else 0
  else 0

/-- A user's level. -/
def levOf (es : List EvV) (s : List (Int × Int)) (u : Int) : Int :=
  let made : Int := match evFind es (stAt s 1) with
    | none => 0
    | some c => if c.kind = 1 ∧ c.sender = u then 100 else 0
  if inR u 1 5 then
    match evFind es (stAt s 2) with
    | none => made
    | some p => if p.kind = 3 ∧ p.levels.length = 5 then p.levels.getD (u.toNat - 1) 0 else made
  else 0

/-- No Item tells a member. -/
def stBare (s : List (Int × Int)) : Bool := s.all (fun x => decide (x.1 ≤ 10))

def okSelf (es : List EvV) (s : List (Int × Int)) (e : EvV) : Bool :=
  let now := memOf es s e.user
  let asked := decide (now = 1) || decide (now = 2)
  let first := match evFind es (stAt s 1) with
    | none => false
    | some c => decide (c.sender = e.sender) && stBare s
  if e.member = 2 then asked || first else if e.member = 0 then asked else false

def okMember (es : List EvV) (s : List (Int × Int)) (e : EvV) : Bool :=
  if e.user = e.sender then okSelf es s e else
    let now := memOf es s e.user
    let mine := levOf es s e.sender
    let above := decide (50 ≤ mine) && decide (levOf es s e.user < mine)
    decide (memOf es s e.sender = 2) && (if e.member = 1 then decide (now = 0) else if e.member = 0 then (decide (now = 1) || decide (now = 2)) && above else if e.member = 3 then decide (now ≠ 3) && above else false)

/-- A level that is the same, or may become another. -/
def okLevel (es : List EvV) (s : List (Int × Int)) (e : EvV) (u : Int) : Bool :=
  let mine := levOf es s e.sender
  let old := levOf es s u
  let now := e.levels.getD (u.toNat - 1) 0
  decide (now = old) || (decide (now ≤ mine) && (decide (old < mine) || decide (u = e.sender)))

def okPower (es : List EvV) (s : List (Int × Int)) (e : EvV) : Bool :=
  (decide (memOf es s e.sender = 2) && decide (50 ≤ levOf es s e.sender)) && ([1, 2, 3, 4, 5] : List Int).all (okLevel es s e)

/-- What the rules allow. -/
def allowed (es : List EvV) (s : List (Int × Int)) (e : EvV) : Bool :=
  evOk e && (if e.kind = 1 then decide (s = []) else
    (match evFind es (stAt s 1) with
      | none => false
      | some c => decide (c.kind = 1)) &&
    (if e.kind = 2 then okMember es s e else if e.kind = 3 then okPower es s e else if e.kind = 4 then decide (memOf es s e.sender = 2) && decide (50 ≤ levOf es s e.sender) else decide (memOf es s e.sender = 2)))

end Go.Proofs.Ytbhpalmbbhgamaa.P14

namespace Go.Proofs.Ytbhpalmbbhgamaa
open Go.RowKit P14 K
set_option linter.unusedVariables false

/-- The first Item of a Key. -/
def stFind : List (Int × Int) → Int → Option Int
  | [], _ => none
  | x :: r, k => if x.1 = k then some x.2 else stFind r k

theorem stAt_find : ∀ (s : List (Int × Int)) (k : Int), stAt s k = (stFind s k).getD 0
  | [], _ => rfl
  | x :: r, k => by
    unfold stAt stFind
    split
    · rfl
    · exact stAt_find r k

theorem stFind_snoc (s : List (Int × Int)) (x : Int × Int) (k : Int) : stFind (s ++ [x]) k = match stFind s k with | some i => some i | none => if x.1 = k then some x.2 else none := by
  induction s with
  | nil => simp [stFind]
  | cons y r ih =>
    rw [List.cons_append]
    unfold stFind
    split
    · rfl
    · exact ih

theorem stFind_mem : ∀ {s : List (Int × Int)} {k i : Int}, stFind s k = some i → (k, i) ∈ s
  | x :: r, k, i, h => by
    unfold stFind at h
    split at h
    · rename_i e
      cases h
      subst e
      exact List.mem_cons_self
    · exact List.mem_cons_of_mem _ (stFind_mem h)

def updI (F : Int → Option Int) (k : Int) (v : Option Int) : Int → Option Int := fun x => if x = k then v else F x
theorem updI_same (F : Int → Option Int) (k : Int) (v : Option Int) : updI F k v k = v := if_pos rfl
theorem updI_other (F : Int → Option Int) {k x : Int} (v : Option Int) (h : x ≠ k) : updI F k v x = F x := if_neg h

theorem stFind_new {s : List (Int × Int)} {x : Int × Int} (h : stFind s x.1 = none) : stFind (s ++ [x]) = updI (stFind s) x.1 (some x.2) := by
  funext k
  rw [stFind_snoc]
  by_cases e : k = x.1
  · subst e; rw [h, updI_same]; simp
  · rw [updI_other _ _ e]
    cases stFind s k with
    | none => simp; intro h1; exact absurd h1.symm e
    | some i => rfl

theorem stFind_old {s : List (Int × Int)} {x : Int × Int} {i : Int} (h : stFind s x.1 = some i) : stFind (s ++ [x]) = stFind s := by
  funext k
  rw [stFind_snoc]
  by_cases e : k = x.1
  · subst e; rw [h]
  · cases stFind s k with
    | none => simp; intro h1; exact absurd h1.symm e
    | some i => rfl

abbrev numD (i : Int) : DataW Unit := .lit (.int .i64 i)

/-- The map in block b: what it holds is F, of m Keys. -/
structure IdTab (w : World) (b : Nat) (F : Int → Option Int) (m : Nat) (D : DataW Unit) : Prop where
  own : w.ownsMap Try.prog 3 (plainElem Try.prog 3) b m D
  size : Maps.size D = m
  no : ∀ k, F k = none → Maps.has D (.int .i64 k) = false
  yes : ∀ k i, F k = some i → Maps.has D (.int .i64 k) = true ∧ D.atKey (.int .i64 k) (numD 0) = numD i
  wide : ∀ k i, F k = some i → (Lit.int .i64 k).wf = true ∧ (Lit.int .i64 i).wf = true

theorem ids_tight {w : World} {b n : Nat} {D : DataW Unit} (h : w.ownsMap Try.prog 3 (plainElem Try.prog 3) b n D) : w.ownsMap Try.prog 3 (plainElem Try.prog 3) b (Maps.size D) D := by
  obtain ⟨es, clock, hb, F, hs, rfl⟩ := h
  exact ⟨es, clock, hb, F, by simp [Maps.size, length_sorted], rfl⟩

variable {w w' : World} {b m : Nat} {F : Int → Option Int} {D : DataW Unit}

theorem IdTab.kept (h : IdTab w b F m D) {row : Option Nat} (hg : w.grownBy w' row) (hr : some b ≠ row) : IdTab w' b F m D :=
  ⟨h.own.kept hg hr, h.size, h.no, h.yes, h.wide⟩

theorem IdTab.below (h : IdTab w b F m D) (hb : Below w.heap.size w w') : IdTab w' b F m D := h.kept (row := none) (grown_below hb) (fun e => by cases e)

theorem IdTab.lt (h : IdTab w b F m D) : b < w.heap.size := h.own.lt

theorem isKeyI (k : Int) : WideAt.IsKeyLit (.int .i64 k) := by simp [WideAt.IsKeyLit]
theorem keyI_ne {x y : Int} (h : x ≠ y) : (Lit.int .i64 x) ≠ .int .i64 y := fun e => h (by cases e; rfl)
theorem keyI {k : Int} (hk : (Lit.int .i64 k).wf = true) : keyOf Try.prog 3 (.int .i64 k) = some (.int .i64 k) := Maps.keyOf_int_mk Try.underlying3 hk
theorem wf_zero : (Lit.int .i64 0).wf = true := by decide

/-- 'i, ok := m[k]'. -/
theorem IdTab.look (h : IdTab w b F m D) {k : Int} (hk : (Lit.int .i64 k).wf = true) :
    (Instr.lookup 55 (.map (some b)) (.int .i64 k) true).run Try.prog w = .ok (.tuple #[.int .i64 ((F k).getD 0), .bool (F k).isSome]) w := by
  obtain ⟨v, ps, hr, hv⟩ := h.own.look_ok (Maps.int_keyed Try.underlying3) Try.underlying55 (Try.zeroValue3 _) (plainElem_int Try.underlying3 wf_zero) (keyI hk)
  obtain ⟨c, rfl, hc, hwc⟩ := plainElem_int_inv Try.underlying3 hv
  have hc1 := congrArg Prod.fst hc
  simp only at hc1
  cases hF : F k with
  | none =>
    have hh := h.no k hF
    rw [Maps.atKey_of_not_has hh] at hc1
    rw [hh] at hr
    cases hc1
    exact hr
  | some i =>
    obtain ⟨h1, h2⟩ := h.yes k i hF
    rw [h2] at hc1
    rw [h1] at hr
    cases hc1
    exact hr

/-- 'm[k]'. -/
theorem IdTab.get (h : IdTab w b F m D) {k : Int} (hk : (Lit.int .i64 k).wf = true) :
    (Instr.lookup 55 (.map (some b)) (.int .i64 k) false).run Try.prog w = .ok (.int .i64 ((F k).getD 0)) w := by
  obtain ⟨c, hr, hc1, hwc⟩ := h.own.lookup_int (Maps.int_keyed Try.underlying3) Try.underlying55 Try.underlying3 (Try.zeroValue3 _) (keyI hk)
  cases hF : F k with
  | none =>
    rw [Maps.atKey_of_not_has (h.no k hF)] at hc1
    cases hc1
    exact hr
  | some i =>
    rw [(h.yes k i hF).2] at hc1
    cases hc1
    exact hr

/-- A Key is given an Id. -/
theorem IdTab.store (h : IdTab w b F m D) {k i : Int} (hk : (Lit.int .i64 k).wf = true) (hi : (Lit.int .i64 i).wf = true) {n : Nat} (ho : w'.ownsMap Try.prog 3 (plainElem Try.prog 3) b n (D.put (.int .i64 k) (numD i))) :
    IdTab w' b (updI F k (some i)) (if (F k).isSome then m else m + 1) (D.put (.int .i64 k) (numD i)) := by
  have hD := h.own.isMap
  have hT := h.own.tidy (Maps.int_keyed Try.underlying3)
  have hsz : Maps.size (D.put (.int .i64 k) (numD i)) = if (F k).isSome then m else m + 1 := by
    rw [Maps.size_put hT, h.size]
    cases hF : F k with
    | none => rw [h.no k hF]; rfl
    | some f0 => rw [(h.yes k f0 hF).1]; rfl
  refine ⟨?_, hsz, fun x hx => ?_, fun x j hx => ?_, fun x j hx => ?_⟩
  · rw [← hsz]; exact ids_tight ho
  · by_cases e : x = k
    · subst e; rw [updI_same] at hx; cases hx
    · rw [updI_other _ _ e] at hx
      rw [Maps.has_put_other (keyI_ne e)]
      exact h.no x hx
  · by_cases e : x = k
    · subst e
      rw [updI_same] at hx
      cases hx
      rw [Maps.has_put_same hD (isKeyI x), Maps.atKey_put_same hD (isKeyI x)]
      exact ⟨rfl, rfl⟩
    · rw [updI_other _ _ e] at hx
      rw [Maps.has_put_other (keyI_ne e), Maps.atKey_put_other (keyI_ne e)]
      exact h.yes x j hx
  · by_cases e : x = k
    · subst e
      rw [updI_same] at hx
      cases hx
      exact ⟨hk, hi⟩
    · rw [updI_other _ _ e] at hx
      exact h.wide x j hx

theorem idTab_new (w : World) : IdTab (w.alloc (.map #[] 0)) w.heap.size (stFind []) 0 (.map []) :=
  ⟨World.ownsMap_made w Try.prog 3 (plainElem Try.prog 3), rfl, fun k _ => rfl, fun k i h => by simp [stFind] at h, fun k i h => by simp [stFind] at h⟩

end Go.Proofs.Ytbhpalmbbhgamaa
