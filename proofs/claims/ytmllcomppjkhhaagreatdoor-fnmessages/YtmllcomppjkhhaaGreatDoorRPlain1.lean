/-
  Walks and mathematics of Plain1, Plain4, Plain9, Plain11, Event1, Ev6, Plain10.
-/
import Derived.Lib.ItoaNum
import Derived.Lib.ItoaMem
import Derived.Lib.ItoaLen
namespace Go.Proofs.YtmllcomppjkhhaaGreatDoor.P3
end Go.Proofs.YtmllcomppjkhhaaGreatDoor.P3
namespace Go.Proofs.YtmllcomppjkhhaaGreatDoor.P1

def varF : Nat → Nat → List UInt8
  | 0, n => [UInt8.ofNat n]
  | f + 1, n => if 127 < n then UInt8.ofNat (n % 128 + 128) :: varF f (n / 128) else [UInt8.ofNat n]

def varB (n : Nat) : List UInt8 := varF 9 n

theorem varF_hi (f n : Nat) (h : 127 < n) : varF (f + 1) n = UInt8.ofNat (n % 128 + 128) :: varF f (n / 128) := by
  simp [varF, h]

theorem varF_lo (f n : Nat) (h : n ≤ 127) : varF f n = [UInt8.ofNat n] := by
  cases f <;> simp [varF]; omega

theorem varF_length (f n : Nat) : (varF f n).length ≤ f + 1 := by
  induction f generalizing n with
  | zero => simp [varF]
  | succ f ih => unfold varF; split <;> simp; exact ih _

theorem varB_length (n : Nat) : (varB n).length ≤ 10 := varF_length 9 n

theorem var_step (f n m : Nat) (xs : List UInt8) (hm : m < 128 ^ (f + 1)) (h : xs ++ varF f m = varB n) (hi : 127 < m) :
    ∃ f', f = f' + 1 ∧ m / 128 < 128 ^ (f' + 1) ∧ (xs ++ [UInt8.ofNat (m % 128 + 128)]) ++ varF f' (m / 128) = varB n := by
  cases f with
  | zero => simp at hm; omega
  | succ f' =>
    refine ⟨f', rfl, ?_, ?_⟩
    · rw [Nat.div_lt_iff_lt_mul (by decide)]
      rw [Nat.pow_succ] at hm
      exact hm
    · rw [varF_hi f' m hi] at h
      simpa using h

theorem var_end (f n m : Nat) (xs : List UInt8) (h : xs ++ varF f m = varB n) (lo : m ≤ 127) : xs ++ [UInt8.ofNat m] = varB n := by
  rw [varF_lo f m lo] at h
  exact h

def rawV : List UInt8 → Nat
  | [] => 0
  | b :: r => (b.toNat - 128) + 128 * rawV r

theorem rawV_snoc (l : List UInt8) (b : UInt8) : rawV (l ++ [b]) = rawV l + (b.toNat - 128) * 128 ^ l.length := by
  induction l with
  | nil => simp [rawV]
  | cons c l ih =>
    simp only [List.cons_append, rawV, ih, List.length_cons, Nat.pow_succ]
    rw [Nat.mul_add, Nat.add_assoc, Nat.mul_comm (128 ^ l.length) 128, Nat.mul_left_comm]

theorem rawV_lt (l : List UInt8) : rawV l < 128 ^ l.length := by
  induction l with
  | nil => simp [rawV]
  | cons c l ih =>
    simp only [rawV, List.length_cons, Nat.pow_succ]
    have := c.toNat_lt
    omega

theorem varF_raw (pre : List UInt8) (b : UInt8) (hb : b.toNat < 128) (hpre : ∀ c ∈ pre, 128 ≤ c.toNat) (hne : pre = [] ∨ b.toNat ≠ 0) (f : Nat) (hf : pre.length ≤ f) :
    varF f (rawV pre + b.toNat * 128 ^ pre.length) = pre ++ [b] := by
  induction pre generalizing f with
  | nil =>
    simp only [rawV, List.length_nil, Nat.pow_zero, Nat.mul_one, Nat.zero_add, List.nil_append]
    rw [varF_lo f _ (by omega)]
    simp
  | cons c l ih =>
    have hc := hpre c (by simp)
    have hcl := c.toNat_lt
    have hb0 : b.toNat ≠ 0 := by rcases hne with h | h <;> simp_all
    cases f with
    | zero => simp at hf
    | succ f =>
      have hv : rawV (c :: l) + b.toNat * 128 ^ (c :: l).length = (c.toNat - 128) + 128 * (rawV l + b.toNat * 128 ^ l.length) := by
        simp only [rawV, List.length_cons, Nat.pow_succ]
        rw [Nat.mul_add, Nat.add_assoc, Nat.mul_comm (128 ^ l.length) 128, Nat.mul_left_comm]
      have hpos : 1 ≤ rawV l + b.toNat * 128 ^ l.length := by
        have h1 : 0 < 128 ^ l.length := Nat.pow_pos (by decide)
        have h2 : 0 < b.toNat * 128 ^ l.length := Nat.mul_pos (by omega) h1
        omega
      rw [hv, varF_hi f _ (by omega)]
      have e1 : ((c.toNat - 128) + 128 * (rawV l + b.toNat * 128 ^ l.length)) % 128 + 128 = c.toNat := by omega
      have e2 : ((c.toNat - 128) + 128 * (rawV l + b.toNat * 128 ^ l.length)) / 128 = rawV l + b.toNat * 128 ^ l.length := by omega
      rw [e1, e2, ih (fun x hx => hpre x (by simp [hx])) (Or.inr hb0) f (by simpa using hf)]
      simp

theorem varF_short (j : Nat) : ∀ f v, v < 128 ^ (j + 1) → (varF f v).length ≤ j + 1 := by
  induction j with
  | zero => intro f v h; rw [varF_lo f v (by omega)]; simp
  | succ j ih =>
    intro f v h
    cases f with
    | zero => simp [varF]
    | succ f =>
      unfold varF
      split
      · have := ih f (v / 128) (by rw [Nat.div_lt_iff_lt_mul (by decide)]; rw [Nat.pow_succ] at h; exact h)
        simpa using this
      · simp

theorem varB_longer (pre : List UInt8) (b : UInt8) (hb : b.toNat = 0) (hne : pre ≠ []) : varB (rawV pre + b.toNat * 128 ^ pre.length) ≠ pre ++ [b] := by
  intro h
  have h1 := rawV_lt pre
  cases pre with
  | nil => exact hne rfl
  | cons c l =>
    have h2 := varF_short l.length 9 (rawV (c :: l) + b.toNat * 128 ^ (c :: l).length) (by rw [hb]; simpa using h1)
    have h3 := congrArg List.length h
    unfold varB at h3
    simp at h3 h2
    omega

def rdGo : Nat → List UInt8 → List UInt8 → Option (Nat × Nat)
  | 0, _, _ => none
  | _ + 1, _, [] => none
  | f + 1, pre, b :: r =>
    if b.toNat < 128 then
      if (pre = [] ∨ b.toNat ≠ 0) ∧ rawV pre + b.toNat * 128 ^ pre.length ≤ 1000000000 then some (rawV pre + b.toNat * 128 ^ pre.length, pre.length + 1) else none
    else rdGo f (pre ++ [b]) r

theorem rdGo_on (f : Nat) (pre : List UInt8) (b : UInt8) (r : List UInt8) (h : ¬ b.toNat < 128) : rdGo (f + 1) pre (b :: r) = rdGo f (pre ++ [b]) r := by
  simp [rdGo, h]

theorem rdGo_yes (f : Nat) (pre : List UInt8) (b : UInt8) (r : List UInt8) (h : b.toNat < 128) (h1 : pre = [] ∨ b.toNat ≠ 0) (h2 : rawV pre + b.toNat * 128 ^ pre.length ≤ 1000000000) :
    rdGo (f + 1) pre (b :: r) = some (rawV pre + b.toNat * 128 ^ pre.length, pre.length + 1) := by
  simp only [rdGo, if_pos h, if_pos (And.intro h1 h2)]

theorem rdGo_long (f : Nat) (pre : List UInt8) (b : UInt8) (r : List UInt8) (h : b.toNat = 0) (h1 : pre ≠ []) : rdGo (f + 1) pre (b :: r) = none := by
  simp [rdGo, h, h1]

theorem rdGo_great (f : Nat) (pre : List UInt8) (b : UInt8) (r : List UInt8) (h : b.toNat < 128) (h2 : 1000000000 < rawV pre + b.toNat * 128 ^ pre.length) : rdGo (f + 1) pre (b :: r) = none := by
  have : ¬ ((pre = [] ∨ b.toNat ≠ 0) ∧ rawV pre + b.toNat * 128 ^ pre.length ≤ 1000000000) := fun h => by omega
  simp only [rdGo, if_pos h, if_neg this]

theorem rdGo_nil (f : Nat) (pre : List UInt8) : rdGo f pre [] = none := by cases f <;> rfl

theorem rdGo_some : ∀ (f : Nat) (pre r : List UInt8) (v c : Nat), rdGo f pre r = some (v, c) → v ≤ 1000000000 ∧ pre.length < c ∧ c ≤ pre.length + r.length ∧ c ≤ pre.length + f
  | 0, _, _, _, _, h => by simp [rdGo] at h
  | _ + 1, _, [], _, _, h => by simp [rdGo] at h
  | f + 1, pre, b :: r, v, c, h => by
    unfold rdGo at h
    split at h
    · split at h
      · rename_i h1 h2
        simp at h
        obtain ⟨rfl, rfl⟩ := h
        exact ⟨h2.2, by omega, by simp, by omega⟩
      · cases h
    · have := rdGo_some f (pre ++ [b]) r v c h
      simp at this ⊢
      omega

end Go.Proofs.YtmllcomppjkhhaaGreatDoor.P1

namespace Go.Proofs.YtmllcomppjkhhaaGreatDoor
open P1

theorem rdGo_var (n : Nat) (hn : n ≤ 1000000000) (rest : List UInt8) : ∀ (f g m : Nat) (pre : List UInt8), m < 128 ^ f → 0 < f → f ≤ g + 1 → (pre = [] ∨ m ≠ 0) → rawV pre + m * 128 ^ pre.length = n →
    rdGo f pre (varF g m ++ rest) = some (n, pre.length + (varF g m).length)
  | 0, _, _, _, _, h, _, _, _ => by omega
  | f + 1, g, m, pre, hm, _, hg, hp, hv => by
    by_cases h : m ≤ 127
    · rw [varF_lo g m h]
      have hb : (UInt8.ofNat m).toNat = m := by simp [UInt8.toNat_ofNat']; omega
      have := rdGo_yes f pre (UInt8.ofNat m) rest (by rw [hb]; omega) (by rw [hb]; exact hp) (by rw [hb, hv]; exact hn)
      rw [hb, hv] at this
      exact this
    · have hf : 0 < f := by
        rcases Nat.eq_zero_or_pos f with e | e
        · subst e; simp at hm; omega
        · exact e
      obtain ⟨g', rfl⟩ : ∃ g', g = g' + 1 := ⟨g - 1, by omega⟩
      rw [varF_hi g' m (by omega), List.cons_append]
      have hb : (UInt8.ofNat (m % 128 + 128)).toNat = m % 128 + 128 := by simp [UInt8.toNat_ofNat']; omega
      rw [rdGo_on f pre _ _ (by rw [hb]; omega)]
      have hd : m / 128 < 128 ^ f := by
        rw [Nat.pow_succ] at hm
        exact Nat.div_lt_of_lt_mul (by rw [Nat.mul_comm]; exact hm)
      rw [rdGo_var n hn rest f g' (m / 128) (pre ++ [UInt8.ofNat (m % 128 + 128)]) hd hf (by omega) (Or.inr (by omega)) ?_]
      · simp; omega
      · rw [rawV_snoc, hb, List.length_append, List.length_singleton, Nat.pow_succ, ← hv]
        have e : m = m % 128 + 128 * (m / 128) := (Nat.mod_add_div m 128).symm
        have e2 : m * 128 ^ pre.length = (m % 128) * 128 ^ pre.length + (m / 128) * (128 ^ pre.length * 128) := by
          conv => lhs; rw [e]
          rw [Nat.add_mul, Nat.mul_comm 128 (m / 128), Nat.mul_assoc, Nat.mul_comm 128]
        rw [e2, show m % 128 + 128 - 128 = m % 128 by omega]
        omega

theorem rdGo_varB (n : Nat) (hn : n ≤ 1000000000) (rest : List UInt8) : rdGo 5 [] (varB n ++ rest) = some (n, (varB n).length) := by
  have := rdGo_var n hn rest 5 9 n [] (by have : (128 : Nat) ^ 5 = 34359738368 := by decide
                                          omega) (by decide) (by decide) (Or.inl rfl) (by simp [rawV])
  simp only [List.length_nil, Nat.zero_add] at this
  exact this

end Go.Proofs.YtmllcomppjkhhaaGreatDoor

namespace Go.Proofs.YtmllcomppjkhhaaGreatDoor.P9
open P1

def after : Option Int → Int → Bool
  | none, _ => true
  | some y, z => decide (y < z)

def riseF (lo hi : Int) : Option Int → List Int → Bool
  | _, [] => true
  | p, z :: r => (decide (lo ≤ z) && decide (z ≤ hi) && after p z) && riseF lo hi (some z) r

def pv (zs : List Int) : Nat → Option Int
  | 0 => none
  | j + 1 => zs[j]?

def confOk (zs : List Int) : Bool := decide (1 ≤ zs.length ∧ zs.length ≤ 4) && riseF 1 4 none zs

theorem riseF_at {lo hi : Int} {zs : List Int} {j : Nat} {z : Int} (h : zs[j]? = some z) : riseF lo hi (pv zs j) (zs.drop j) = ((decide (lo ≤ z) && decide (z ≤ hi) && after (pv zs j) z) && riseF lo hi (pv zs (j + 1)) (zs.drop (j + 1))) := by
  obtain ⟨hj, he⟩ := List.getElem?_eq_some_iff.1 h
  rw [List.drop_eq_getElem_cons hj, he]
  simp only [riseF, pv, h]

theorem riseF_mem {lo hi : Int} : ∀ (zs : List Int) (p : Option Int), riseF lo hi p zs = true → ∀ z ∈ zs, lo ≤ z ∧ z ≤ hi
  | y :: r, p, h, z, hz => by
    simp only [riseF, Bool.and_eq_true, decide_eq_true_eq] at h
    rcases List.mem_cons.1 hz with rfl | hz
    · exact ⟨h.1.1.1, h.1.1.2⟩
    · exact riseF_mem r _ h.2 z hz

theorem confOk_mem {zs : List Int} (h : confOk zs = true) : ∀ z ∈ zs, 1 ≤ z ∧ z ≤ 4 := by
  unfold confOk at h
  simp only [Bool.and_eq_true] at h
  exact riseF_mem zs none h.2

theorem confOk_len {zs : List Int} (h : confOk zs = true) : 1 ≤ zs.length ∧ zs.length ≤ 4 := by
  unfold confOk at h
  simp only [Bool.and_eq_true, decide_eq_true_eq] at h
  exact h.1

theorem confOk_short {zs : List Int} (h : ¬ (1 ≤ zs.length ∧ zs.length ≤ 4)) : confOk zs = false := by
  unfold confOk
  simp [h]

theorem confOk_mid {zs : List Int} (h : 1 ≤ zs.length ∧ zs.length ≤ 4) : confOk zs = riseF 1 4 none zs := by
  unfold confOk
  simp [h]

def confB (zs : List Int) : List UInt8 := zs.map fun z => UInt8.ofNat z.toNat

def confZ (l : List UInt8) : List Int := l.map fun b => (b.toNat : Int)

theorem confB_snoc (zs : List Int) (z : Int) : confB (zs ++ [z]) = confB zs ++ [UInt8.ofNat z.toNat] := by simp [confB]

theorem confZ_snoc (l : List UInt8) (b : UInt8) : confZ (l ++ [b]) = confZ l ++ [(b.toNat : Int)] := by simp [confZ]

theorem confB_length (zs : List Int) : (confB zs).length = zs.length := by simp [confB]

theorem confZ_length (l : List UInt8) : (confZ l).length = l.length := by simp [confZ]

theorem confB_confZ (l : List UInt8) : confB (confZ l) = l := by
  induction l with
  | nil => rfl
  | cons b l ih =>
    simp only [confB, confZ, List.map_cons, List.map_map] at ih ⊢
    rw [ih]
    simp

theorem confZ_confB {zs : List Int} (h : ∀ z ∈ zs, 1 ≤ z ∧ z ≤ 4) : confZ (confB zs) = zs := by
  induction zs with
  | nil => rfl
  | cons z l ih =>
    have h1 := h z (by simp)
    have h2 := ih (fun y hy => h y (by simp [hy]))
    simp only [confB, confZ, List.map_cons] at h2 ⊢
    rw [h2]
    have : (UInt8.ofNat z.toNat).toNat = z.toNat := by simp [UInt8.toNat_ofNat']; omega
    rw [this]
    congr 1
    omega

def contOk (k : Int) (l : List UInt8) : Bool :=
  if k = 1 then decide (l.length = 0) else if k = 2 then confOk (confZ l) else if k = 3 then decide (l.length ≤ 120) else false

def termOk (t : Int) : Bool := decide (0 ≤ t) && decide (t ≤ 100000)

def indexOk (i : Int) : Bool := decide (1 ≤ i) && decide (i ≤ 1000000)

def entryOk (t k : Int) (l : List UInt8) : Bool := contOk k l && termOk t

theorem contOk_kind {k : Int} {l : List UInt8} (h : contOk k l = true) : k = 1 ∧ l = [] ∨ k = 2 ∧ confOk (confZ l) = true ∨ k = 3 ∧ l.length ≤ 120 := by
  unfold contOk at h
  split at h
  · left; exact ⟨by assumption, List.eq_nil_of_length_eq_zero (by simpa using h)⟩
  · split at h
    · right; left; exact ⟨by assumption, h⟩
    · split at h
      · right; right; exact ⟨by assumption, by simpa using h⟩
      · cases h

theorem contOk_len {k : Int} {l : List UInt8} (h : contOk k l = true) : l.length ≤ 120 ∧ 1 ≤ k ∧ k ≤ 3 := by
  rcases contOk_kind h with ⟨rfl, rfl⟩ | ⟨rfl, h⟩ | ⟨rfl, h⟩
  · simp
  · have := confOk_len h
    rw [confZ_length] at this
    omega
  · omega

def entryB (i t k : Nat) (l : List UInt8) : List UInt8 := 69 :: (varB i ++ (varB t ++ (UInt8.ofNat k :: l)))

theorem rdGo_is : ∀ (f : Nat) (pre r : List UInt8) (v c : Nat), pre.length + f ≤ 9 → (∀ b ∈ pre, 128 ≤ b.toNat) → rdGo f pre r = some (v, c) → varB v = (pre ++ r).take c
  | 0, _, _, _, _, _, _, h => by simp [rdGo] at h
  | _ + 1, _, [], _, _, _, _, h => by simp [rdGo] at h
  | f + 1, pre, b :: r, v, c, hl, hp, h => by
    unfold rdGo at h
    split at h
    · rename_i hb
      split at h
      · rename_i h2
        simp at h
        obtain ⟨rfl, rfl⟩ := h
        unfold varB
        rw [varF_raw pre b hb hp h2.1 9 (by omega)]
        have : pre ++ b :: r = (pre ++ [b]) ++ r := by simp
        rw [this, List.take_append_of_le_length (by simp), List.take_of_length_le (by simp)]
      · cases h
    · rename_i hb
      have := rdGo_is f (pre ++ [b]) r v c (by simp; omega) (fun x hx => by
        rcases List.mem_append.1 hx with hx | hx
        · exact hp x hx
        · simp at hx; subst hx; omega) h
      simpa using this

theorem rdGo_is5 {r : List UInt8} {v c : Nat} (h : rdGo 5 [] r = some (v, c)) : varB v = r.take c := by
  simpa using rdGo_is 5 [] r v c (by simp) (by simp) h

def rdEntry : List UInt8 → Option (Nat × Nat × Nat × List UInt8)
  | [] => none
  | h :: r =>
    match rdGo 5 [] r with
    | none => none
    | some (i, c1) =>
      match rdGo 5 [] (r.drop c1) with
      | none => none
      | some (t, c2) =>
        match (r.drop c1).drop c2 with
        | [] => none
        | k :: d => if h = 69 ∧ indexOk i = true ∧ entryOk t k.toNat d = true then some (i, t, k.toNat, d) else none

theorem parts_of_read {h : UInt8} {r d : List UInt8} {i t c1 c2 : Nat} {k : UInt8} (h1 : rdGo 5 [] r = some (i, c1)) (h2 : rdGo 5 [] (r.drop c1) = some (t, c2)) (h3 : (r.drop c1).drop c2 = k :: d) :
    entryB i t k.toNat d = h :: r ↔ h = 69 := by
  have e1 := rdGo_is5 h1
  have e2 := rdGo_is5 h2
  have : varB i ++ (varB t ++ (UInt8.ofNat k.toNat :: d)) = r := by
    rw [e1, e2]
    have hk : UInt8.ofNat k.toNat = k := by simp
    rw [hk, ← h3, List.take_append_drop, List.take_append_drop]
  unfold entryB
  rw [this]
  constructor
  · intro h; simp at h; exact h.symm
  · rintro rfl; rfl

theorem rdEntry_text {i t k : Nat} {l : List UInt8} (hi : indexOk i = true) (he : entryOk t k l = true) : rdEntry (entryB i t k l) = some (i, t, k, l) := by
  unfold entryB rdEntry
  have hi' := hi
  simp only [indexOk, Bool.and_eq_true, decide_eq_true_eq] at hi'
  have he' := he
  unfold entryOk termOk at he'
  simp only [Bool.and_eq_true, decide_eq_true_eq] at he'
  have hk := contOk_len he'.1
  simp only
  rw [rdGo_varB i (by omega)]
  simp only
  rw [List.drop_left, rdGo_varB t (by omega)]
  simp only
  rw [List.drop_left]
  simp only
  have : (UInt8.ofNat k).toNat = k := by simp [UInt8.toNat_ofNat']; omega
  rw [this, if_pos ⟨trivial, hi, he⟩]

end Go.Proofs.YtmllcomppjkhhaaGreatDoor.P9

namespace Go.Proofs.YtmllcomppjkhhaaGreatDoor.P11
open P1 P3 P9

def shortB (l : List UInt8) : List UInt8 := varB l.length ++ l

def rdV (l : List UInt8) : Option (Nat × List UInt8) :=
  match rdGo 5 [] l with
  | none => none
  | some (n, c) => some (n, l.drop c)

def rdS (l : List UInt8) : Option (List UInt8 × List UInt8) :=
  match rdV l with
  | none => none
  | some (n, r) => if n ≤ r.length then some (r.take n, r.drop n) else none

theorem rdV_some {l r : List UInt8} {n : Nat} (h : rdV l = some (n, r)) : l = varB n ++ r ∧ n ≤ 1000000000 := by
  unfold rdV at h
  cases hr : rdGo 5 [] l with
  | none => rw [hr] at h; cases h
  | some p =>
    obtain ⟨v, c⟩ := p
    rw [hr] at h
    simp only [Option.some.injEq, Prod.mk.injEq] at h
    obtain ⟨rfl, rfl⟩ := h
    refine ⟨?_, (rdGo_some 5 [] l v c hr).1⟩
    rw [rdGo_is5 hr, List.take_append_drop]

theorem rdV_var (n : Nat) (hn : n ≤ 1000000000) (r : List UInt8) : rdV (varB n ++ r) = some (n, r) := by
  unfold rdV
  rw [rdGo_varB n hn r]
  simp

theorem rdS_some {l x r : List UInt8} (h : rdS l = some (x, r)) : l = shortB x ++ r ∧ x.length ≤ 1000000000 := by
  unfold rdS at h
  cases hv : rdV l with
  | none => rw [hv] at h; cases h
  | some p =>
    obtain ⟨n, q⟩ := p
    rw [hv] at h
    simp only at h
    split at h
    · rename_i hn
      simp only [Option.some.injEq, Prod.mk.injEq] at h
      obtain ⟨rfl, rfl⟩ := h
      obtain ⟨e, hb⟩ := rdV_some hv
      have hl : (q.take n).length = n := by rw [List.length_take]; omega
      refine ⟨?_, by omega⟩
      unfold shortB
      rw [hl, List.append_assoc, List.take_append_drop]
      exact e
    · cases h

theorem rdS_short (x : List UInt8) (hx : x.length ≤ 1000000000) (r : List UInt8) : rdS (shortB x ++ r) = some (x, r) := by
  unfold rdS shortB
  rw [List.append_assoc, rdV_var _ hx]
  simp

end Go.Proofs.YtmllcomppjkhhaaGreatDoor.P11

namespace Go.Proofs.YtmllcomppjkhhaaGreatDoor.P12
open P1 P3 P9 P11
set_option linter.unusedVariables false

def inR (a lo hi : Int) : Bool := decide (lo ≤ a) && decide (a ≤ hi)

theorem inR_iff {a lo hi : Int} : inR a lo hi = true ↔ lo ≤ a ∧ a ≤ hi := by simp [inR]

def byB (n : Int) : UInt8 := UInt8.ofNat n.toNat

def varZ (n : Int) : List UInt8 := varB n.toNat

def bz (b : UInt8) : Int := (b.toNat : Int)

theorem byB_bz (b : UInt8) : byB (bz b) = b := by simp [byB, bz]

theorem bz_byB {z : Int} (h : 0 ≤ z ∧ z ≤ 255) : bz (byB z) = z := by
  unfold bz byB
  have : (UInt8.ofNat z.toNat).toNat = z.toNat := by simp [UInt8.toNat_ofNat']; omega
  rw [this]
  omega

end Go.Proofs.YtmllcomppjkhhaaGreatDoor.P12

namespace Go.Proofs.YtmllcomppjkhhaaGreatDoor.P12
open P1 P3 P9 P11
set_option linter.unusedVariables false

abbrev Lf := Option (List UInt8)

def numL : Lf → Nat × Lf
  | none => (0, none)
  | some l => match rdV l with | some (n, r) => (n, some r) | none => (0, none)

def byteL : Lf → Nat × Lf
  | some (b :: r) => (b.toNat, some r)
  | _ => (0, none)

def shL (most : Nat) : Lf → List UInt8 × Lf
  | none => ([], none)
  | some l => match rdS l with | some (x, r) => if x.length ≤ most then (x, some r) else ([], none) | none => ([], none)

theorem numL_le (st : Lf) : (numL st).1 ≤ 1000000000 := by
  unfold numL
  split
  · exact Nat.zero_le _
  · split
    · rename_i h; exact (rdV_some h).2
    · exact Nat.zero_le _

theorem numL_var {n : Nat} (h : n ≤ 1000000000) (r : List UInt8) : numL (some (varB n ++ r)) = (n, some r) := by
  unfold numL
  simp only
  rw [rdV_var n h]

theorem byteL_cons (b : UInt8) (r : List UInt8) : byteL (some (b :: r)) = (b.toNat, some r) := rfl

theorem shL_short {most : Nat} {x : List UInt8} (h : x.length ≤ most) (hm : most ≤ 1000000000) (r : List UInt8) : shL most (some (shortB x ++ r)) = (x, some r) := by
  unfold shL
  simp only
  rw [rdS_short x (by omega)]
  simp [h]

theorem numL_some {st : Lf} {r : List UInt8} (h : (numL st).2 = some r) : st = some (varB (numL st).1 ++ r) := by
  unfold numL at h ⊢
  split at h
  · cases h
  · split at h
    · rename_i l n q hv
      cases h
      simp only
      rw [← (rdV_some hv).1]
    · cases h

theorem byteL_some {st : Lf} {r : List UInt8} (h : (byteL st).2 = some r) : st = some (byB ((byteL st).1 : Int) :: r) := by
  unfold byteL at h ⊢
  split at h
  · rename_i b q
    cases h
    simp only
    have := byB_bz b
    unfold bz at this
    rw [this]
  · cases h

theorem shL_some {most : Nat} {st : Lf} {r : List UInt8} (h : (shL most st).2 = some r) : st = some (shortB (shL most st).1 ++ r) := by
  cases st with
  | none => cases h
  | some l =>
    cases hv : rdS l with
    | none =>
      have e : shL most (some l) = ([], none) := by unfold shL; simp only; rw [hv]
      rw [e] at h
      cases h
    | some p =>
      obtain ⟨x, q⟩ := p
      by_cases hx : x.length ≤ most
      · have e : shL most (some l) = (x, some q) := by unfold shL; simp only; rw [hv]; exact if_pos hx
        rw [e] at h ⊢
        cases h
        rw [← (rdS_some hv).1]
      · have e : shL most (some l) = ([], none) := by unfold shL; simp only; rw [hv]; exact if_neg hx
        rw [e] at h
        cases h

end Go.Proofs.YtmllcomppjkhhaaGreatDoor.P12

namespace Go.Proofs.YtmllcomppjkhhaaGreatDoor.P9
open P1

theorem rdEntry_head {l : List UInt8} (h : l.head? ≠ some 69) : rdEntry l = none := by
  cases l with
  | nil => rfl
  | cons b r =>
    have hb : ¬ b = 69 := fun e => h (by rw [e]; rfl)
    simp only [rdEntry]
    cases h1 : rdGo 5 [] r with
    | none => rfl
    | some p =>
      obtain ⟨i, c1⟩ := p
      simp only
      cases h2 : rdGo 5 [] (r.drop c1) with
      | none => rfl
      | some q =>
        obtain ⟨t, c2⟩ := q
        simp only
        cases h3 : (r.drop c1).drop c2 with
        | nil => rfl
        | cons k d => simp only; rw [if_neg (fun q => hb q.1)]

theorem rdEntry_one {l : List UInt8} (h1 : rdGo 5 [] (l.drop 1) = none) : rdEntry l = none := by
  cases l with
  | nil => rfl
  | cons b r =>
    simp only [List.drop_one, List.tail_cons] at h1
    simp only [rdEntry, h1]

theorem rdEntry_two {l : List UInt8} {i c1 : Nat} (h1 : rdGo 5 [] (l.drop 1) = some (i, c1)) (h2 : rdGo 5 [] (l.drop (1 + c1)) = none) : rdEntry l = none := by
  cases l with
  | nil => rfl
  | cons b r =>
    rw [← List.drop_drop] at h2
    simp only [List.drop_one, List.tail_cons] at h1 h2
    simp only [rdEntry, h1, h2]

theorem rdEntry_short {l : List UInt8} {i c1 t c2 : Nat} (h1 : rdGo 5 [] (l.drop 1) = some (i, c1)) (h2 : rdGo 5 [] (l.drop (1 + c1)) = some (t, c2)) (h3 : l.drop (1 + c1 + c2) = []) : rdEntry l = none := by
  cases l with
  | nil => rfl
  | cons b r =>
    rw [← List.drop_drop, ← List.drop_drop] at h3
    rw [← List.drop_drop] at h2
    simp only [List.drop_one, List.tail_cons] at h1 h2 h3
    simp only [rdEntry, h1, h2, h3]

theorem rdEntry_all {l : List UInt8} {i c1 t c2 : Nat} {k : UInt8} {d : List UInt8} (h1 : rdGo 5 [] (l.drop 1) = some (i, c1)) (h2 : rdGo 5 [] (l.drop (1 + c1)) = some (t, c2)) (h3 : l.drop (1 + c1 + c2) = k :: d) :
    rdEntry l = if l.head? = some 69 ∧ indexOk i = true ∧ entryOk t k.toNat d = true then some (i, t, k.toNat, d) else none := by
  cases l with
  | nil => simp at h3
  | cons b r =>
    rw [← List.drop_drop, ← List.drop_drop] at h3
    rw [← List.drop_drop] at h2
    simp only [List.drop_one, List.tail_cons] at h1 h2 h3
    simp only [rdEntry, h1, h2, h3]
    simp

theorem entryB_all {l : List UInt8} {i c1 t c2 : Nat} {k : UInt8} {d : List UInt8} (h1 : rdGo 5 [] (l.drop 1) = some (i, c1)) (h2 : rdGo 5 [] (l.drop (1 + c1)) = some (t, c2)) (h3 : l.drop (1 + c1 + c2) = k :: d) :
    entryB i t k.toNat d = l ↔ l.head? = some 69 := by
  cases l with
  | nil => simp at h3
  | cons b r =>
    rw [← List.drop_drop, ← List.drop_drop] at h3
    rw [← List.drop_drop] at h2
    simp only [List.drop_one, List.tail_cons] at h1 h2 h3
    rw [parts_of_read h1 h2 h3]
    simp

end Go.Proofs.YtmllcomppjkhhaaGreatDoor.P9
