/-
  Walks and mathematics of Plain1, Plain4, Plain9, Plain11, Event1.
-/
import Derived.Lib.ItoaNum
import Derived.Lib.ItoaMem
import Derived.Lib.ItoaLen
namespace Go.Proofs.YtckkfjmjcknjdaaGreatDoor.P3
end Go.Proofs.YtckkfjmjcknjdaaGreatDoor.P3
namespace Go.Proofs.YtckkfjmjcknjdaaGreatDoor.P1

def varF : Nat → Nat → List UInt8
  | 0, n => [UInt8.ofNat n]
  | f + 1, n => if 127 < n then UInt8.ofNat (n % 128 + 128) :: varF f (n / 128) else [UInt8.ofNat n]

def varB (n : Nat) : List UInt8 := varF 9 n

theorem varF_hi (f n : Nat) (h : 127 < n) : varF (f + 1) n = UInt8.ofNat (n % 128 + 128) :: varF f (n / 128) := by
  simp [varF, h]

theorem varF_lo (f n : Nat) (h : n ≤ 127) : varF f n = [UInt8.ofNat n] := by
  cases f <;> simp [varF]; omega

theorem varF_length (f n : Nat) : (varF f n).length ≤ f + 1 := by
  induction f generalizing n with
  | zero => simp [varF]
  | succ f ih => unfold varF; split <;> simp; exact ih _

theorem varB_length (n : Nat) : (varB n).length ≤ 10 := varF_length 9 n

theorem var_step (f n m : Nat) (xs : List UInt8) (hm : m < 128 ^ (f + 1)) (h : xs ++ varF f m = varB n) (hi : 127 < m) :
    ∃ f', f = f' + 1 ∧ m / 128 < 128 ^ (f' + 1) ∧ (xs ++ [UInt8.ofNat (m % 128 + 128)]) ++ varF f' (m / 128) = varB n := by
  cases f with
  | zero => simp at hm; omega
  | succ f' =>
    refine ⟨f', rfl, ?_, ?_⟩
    · rw [Nat.div_lt_iff_lt_mul (by decide)]
      rw [Nat.pow_succ] at hm
      exact hm
    · rw [varF_hi f' m hi] at h
      simpa using h

theorem var_end (f n m : Nat) (xs : List UInt8) (h : xs ++ varF f m = varB n) (lo : m ≤ 127) : xs ++ [UInt8.ofNat m] = varB n := by
  rw [varF_lo f m lo] at h
  exact h

def rawV : List UInt8 → Nat
  | [] => 0
  | b :: r => (b.toNat - 128) + 128 * rawV r

theorem rawV_snoc (l : List UInt8) (b : UInt8) : rawV (l ++ [b]) = rawV l + (b.toNat - 128) * 128 ^ l.length := by
  induction l with
  | nil => simp [rawV]
  | cons c l ih =>
    simp only [List.cons_append, rawV, ih, List.length_cons, Nat.pow_succ]
    rw [Nat.mul_add, Nat.add_assoc, Nat.mul_comm (128 ^ l.length) 128, Nat.mul_left_comm]

theorem rawV_lt (l : List UInt8) : rawV l < 128 ^ l.length := by
  induction l with
  | nil => simp [rawV]
  | cons c l ih =>
    simp only [rawV, List.length_cons, Nat.pow_succ]
    have := c.toNat_lt
    omega

theorem varF_raw (pre : List UInt8) (b : UInt8) (hb : b.toNat < 128) (hpre : ∀ c ∈ pre, 128 ≤ c.toNat) (hne : pre = [] ∨ b.toNat ≠ 0) (f : Nat) (hf : pre.length ≤ f) :
    varF f (rawV pre + b.toNat * 128 ^ pre.length) = pre ++ [b] := by
  induction pre generalizing f with
  | nil =>
    simp only [rawV, List.length_nil, Nat.pow_zero, Nat.mul_one, Nat.zero_add, List.nil_append]
    rw [varF_lo f _ (by omega)]
    simp
  | cons c l ih =>
    have hc := hpre c (by simp)
    have hcl := c.toNat_lt
    have hb0 : b.toNat ≠ 0 := by rcases hne with h | h <;> simp_all
    cases f with
    | zero => simp at hf
    | succ f =>
      have hv : rawV (c :: l) + b.toNat * 128 ^ (c :: l).length = (c.toNat - 128) + 128 * (rawV l + b.toNat * 128 ^ l.length) := by
        simp only [rawV, List.length_cons, Nat.pow_succ]
        rw [Nat.mul_add, Nat.add_assoc, Nat.mul_comm (128 ^ l.length) 128, Nat.mul_left_comm]
      have hpos : 1 ≤ rawV l + b.toNat * 128 ^ l.length := by
        have h1 : 0 < 128 ^ l.length := Nat.pow_pos (by decide)
        have h2 : 0 < b.toNat * 128 ^ l.length := Nat.mul_pos (by omega) h1
        omega
      rw [hv, varF_hi f _ (by omega)]
      have e1 : ((c.toNat - 128) + 128 * (rawV l + b.toNat * 128 ^ l.length)) % 128 + 128 = c.toNat := by omega
      have e2 : ((c.toNat - 128) + 128 * (rawV l + b.toNat * 128 ^ l.length)) / 128 = rawV l + b.toNat * 128 ^ l.length := by omega
      rw [e1, e2, ih (fun x hx => hpre x (by simp [hx])) (Or.inr hb0) f (by simpa using hf)]
      simp

theorem varF_short (j : Nat) : ∀ f v, v < 128 ^ (j + 1) → (varF f v).length ≤ j + 1 := by
  induction j with
  | zero => intro f v h; rw [varF_lo f v (by omega)]; simp
  | succ j ih =>
    intro f v h
    cases f with
    | zero => simp [varF]
    | succ f =>
      unfold varF
      split
      · have := ih f (v / 128) (by rw [Nat.div_lt_iff_lt_mul (by decide)]; rw [Nat.pow_succ] at h; exact h)
        simpa using this
      · simp

theorem varB_longer (pre : List UInt8) (b : UInt8) (hb : b.toNat = 0) (hne : pre ≠ []) : varB (rawV pre + b.toNat * 128 ^ pre.length) ≠ pre ++ [b] := by
  intro h
  have h1 := rawV_lt pre
  cases pre with
  | nil => exact hne rfl
  | cons c l =>
    have h2 := varF_short l.length 9 (rawV (c :: l) + b.toNat * 128 ^ (c :: l).length) (by rw [hb]; simpa using h1)
    have h3 := congrArg List.length h
    unfold varB at h3
    simp at h3 h2
    omega

def rdGo : Nat → List UInt8 → List UInt8 → Option (Nat × Nat)
  | 0, _, _ => none
  | _ + 1, _, [] => none
  | f + 1, pre, b :: r =>
    if b.toNat < 128 then
      if (pre = [] ∨ b.toNat ≠ 0) ∧ rawV pre + b.toNat * 128 ^ pre.length ≤ 1000000000 then some (rawV pre + b.toNat * 128 ^ pre.length, pre.length + 1) else none
    else rdGo f (pre ++ [b]) r

theorem rdGo_on (f : Nat) (pre : List UInt8) (b : UInt8) (r : List UInt8) (h : ¬ b.toNat < 128) : rdGo (f + 1) pre (b :: r) = rdGo f (pre ++ [b]) r := by
  simp [rdGo, h]

theorem rdGo_yes (f : Nat) (pre : List UInt8) (b : UInt8) (r : List UInt8) (h : b.toNat < 128) (h1 : pre = [] ∨ b.toNat ≠ 0) (h2 : rawV pre + b.toNat * 128 ^ pre.length ≤ 1000000000) :
    rdGo (f + 1) pre (b :: r) = some (rawV pre + b.toNat * 128 ^ pre.length, pre.length + 1) := by
  simp only [rdGo, if_pos h, if_pos (And.intro h1 h2)]

theorem rdGo_long (f : Nat) (pre : List UInt8) (b : UInt8) (r : List UInt8) (h : b.toNat = 0) (h1 : pre ≠ []) : rdGo (f + 1) pre (b :: r) = none := by
  simp [rdGo, h, h1]

theorem rdGo_great (f : Nat) (pre : List UInt8) (b : UInt8) (r : List UInt8) (h : b.toNat < 128) (h2 : 1000000000 < rawV pre + b.toNat * 128 ^ pre.length) : rdGo (f + 1) pre (b :: r) = none := by
  have : ¬ ((pre = [] ∨ b.toNat ≠ 0) ∧ rawV pre + b.toNat * 128 ^ pre.length ≤ 1000000000) := fun h => by omega
  simp only [rdGo, if_pos h, if_neg this]

theorem rdGo_nil (f : Nat) (pre : List UInt8) : rdGo f pre [] = none := by cases f <;> rfl

theorem rdGo_some : ∀ (f : Nat) (pre r : List UInt8) (v c : Nat), rdGo f pre r = some (v, c) → v ≤ 1000000000 ∧ pre.length < c ∧ c ≤ pre.length + r.length ∧ c ≤ pre.length + f
  | 0, _, _, _, _, h => by simp [rdGo] at h
  | _ + 1, _, [], _, _, h => by simp [rdGo] at h
  | f + 1, pre, b :: r, v, c, h => by
    unfold rdGo at h
    split at h
    · split at h
      · rename_i h1 h2
        simp at h
        obtain ⟨rfl, rfl⟩ := h
        exact ⟨h2.2, by omega, by simp, by omega⟩
      · cases h
    · have := rdGo_some f (pre ++ [b]) r v c h
      simp at this ⊢
      omega

end Go.Proofs.YtckkfjmjcknjdaaGreatDoor.P1

namespace Go.Proofs.YtckkfjmjcknjdaaGreatDoor
open P1

theorem rdGo_var (n : Nat) (hn : n ≤ 1000000000) (rest : List UInt8) : ∀ (f g m : Nat) (pre : List UInt8), m < 128 ^ f → 0 < f → f ≤ g + 1 → (pre = [] ∨ m ≠ 0) → rawV pre + m * 128 ^ pre.length = n →
    rdGo f pre (varF g m ++ rest) = some (n, pre.length + (varF g m).length)
  | 0, _, _, _, _, h, _, _, _ => by omega
  | f + 1, g, m, pre, hm, _, hg, hp, hv => by
    by_cases h : m ≤ 127
    · rw [varF_lo g m h]
      have hb : (UInt8.ofNat m).toNat = m := by simp [UInt8.toNat_ofNat']; omega
      have := rdGo_yes f pre (UInt8.ofNat m) rest (by rw [hb]; omega) (by rw [hb]; exact hp) (by rw [hb, hv]; exact hn)
      rw [hb, hv] at this
      exact this
    · have hf : 0 < f := by
        rcases Nat.eq_zero_or_pos f with e | e
        · subst e; simp at hm; omega
        · exact e
      obtain ⟨g', rfl⟩ : ∃ g', g = g' + 1 := ⟨g - 1, by omega⟩
      rw [varF_hi g' m (by omega), List.cons_append]
      have hb : (UInt8.ofNat (m % 128 + 128)).toNat = m % 128 + 128 := by simp [UInt8.toNat_ofNat']; omega
      rw [rdGo_on f pre _ _ (by rw [hb]; omega)]
      have hd : m / 128 < 128 ^ f := by
        rw [Nat.pow_succ] at hm
        exact Nat.div_lt_of_lt_mul (by rw [Nat.mul_comm]; exact hm)
      rw [rdGo_var n hn rest f g' (m / 128) (pre ++ [UInt8.ofNat (m % 128 + 128)]) hd hf (by omega) (Or.inr (by omega)) ?_]
      · simp; omega
      · rw [rawV_snoc, hb, List.length_append, List.length_singleton, Nat.pow_succ, ← hv]
        have e : m = m % 128 + 128 * (m / 128) := (Nat.mod_add_div m 128).symm
        have e2 : m * 128 ^ pre.length = (m % 128) * 128 ^ pre.length + (m / 128) * (128 ^ pre.length * 128) := by
          conv => lhs; rw [e]
          rw [Nat.add_mul, Nat.mul_comm 128 (m / 128), Nat.mul_assoc, Nat.mul_comm 128]
        rw [e2, show m % 128 + 128 - 128 = m % 128 by omega]
        omega

theorem rdGo_varB (n : Nat) (hn : n ≤ 1000000000) (rest : List UInt8) : rdGo 5 [] (varB n ++ rest) = some (n, (varB n).length) := by
  have := rdGo_var n hn rest 5 9 n [] (by have : (128 : Nat) ^ 5 = 34359738368 := by decide
                                          omega) (by decide) (by decide) (Or.inl rfl) (by simp [rawV])
  simp only [List.length_nil, Nat.zero_add] at this
  exact this

end Go.Proofs.YtckkfjmjcknjdaaGreatDoor

namespace Go.Proofs.YtckkfjmjcknjdaaGreatDoor.P9
open P1

def after : Option Int → Int → Bool
  | none, _ => true
  | some y, z => decide (y < z)

def pv (zs : List Int) : Nat → Option Int
  | 0 => none
  | j + 1 => zs[j]?

theorem rdGo_is : ∀ (f : Nat) (pre r : List UInt8) (v c : Nat), pre.length + f ≤ 9 → (∀ b ∈ pre, 128 ≤ b.toNat) → rdGo f pre r = some (v, c) → varB v = (pre ++ r).take c
  | 0, _, _, _, _, _, _, h => by simp [rdGo] at h
  | _ + 1, _, [], _, _, _, _, h => by simp [rdGo] at h
  | f + 1, pre, b :: r, v, c, hl, hp, h => by
    unfold rdGo at h
    split at h
    · rename_i hb
      split at h
      · rename_i h2
        simp at h
        obtain ⟨rfl, rfl⟩ := h
        unfold varB
        rw [varF_raw pre b hb hp h2.1 9 (by omega)]
        have : pre ++ b :: r = (pre ++ [b]) ++ r := by simp
        rw [this, List.take_append_of_le_length (by simp), List.take_of_length_le (by simp)]
      · cases h
    · rename_i hb
      have := rdGo_is f (pre ++ [b]) r v c (by simp; omega) (fun x hx => by
        rcases List.mem_append.1 hx with hx | hx
        · exact hp x hx
        · simp at hx; subst hx; omega) h
      simpa using this

theorem rdGo_is5 {r : List UInt8} {v c : Nat} (h : rdGo 5 [] r = some (v, c)) : varB v = r.take c := by
  simpa using rdGo_is 5 [] r v c (by simp) (by simp) h

end Go.Proofs.YtckkfjmjcknjdaaGreatDoor.P9

namespace Go.Proofs.YtckkfjmjcknjdaaGreatDoor.P11
open P1 P3 P9

def shortB (l : List UInt8) : List UInt8 := varB l.length ++ l

def rdV (l : List UInt8) : Option (Nat × List UInt8) :=
  match rdGo 5 [] l with
  | none => none
  | some (n, c) => some (n, l.drop c)

def rdS (l : List UInt8) : Option (List UInt8 × List UInt8) :=
  match rdV l with
  | none => none
  | some (n, r) => if n ≤ r.length then some (r.take n, r.drop n) else none

theorem rdV_some {l r : List UInt8} {n : Nat} (h : rdV l = some (n, r)) : l = varB n ++ r ∧ n ≤ 1000000000 := by
  unfold rdV at h
  cases hr : rdGo 5 [] l with
  | none => rw [hr] at h; cases h
  | some p =>
    obtain ⟨v, c⟩ := p
    rw [hr] at h
    simp only [Option.some.injEq, Prod.mk.injEq] at h
    obtain ⟨rfl, rfl⟩ := h
    refine ⟨?_, (rdGo_some 5 [] l v c hr).1⟩
    rw [rdGo_is5 hr, List.take_append_drop]

theorem rdV_var (n : Nat) (hn : n ≤ 1000000000) (r : List UInt8) : rdV (varB n ++ r) = some (n, r) := by
  unfold rdV
  rw [rdGo_varB n hn r]
  simp

theorem rdS_some {l x r : List UInt8} (h : rdS l = some (x, r)) : l = shortB x ++ r ∧ x.length ≤ 1000000000 := by
  unfold rdS at h
  cases hv : rdV l with
  | none => rw [hv] at h; cases h
  | some p =>
    obtain ⟨n, q⟩ := p
    rw [hv] at h
    simp only at h
    split at h
    · rename_i hn
      simp only [Option.some.injEq, Prod.mk.injEq] at h
      obtain ⟨rfl, rfl⟩ := h
      obtain ⟨e, hb⟩ := rdV_some hv
      have hl : (q.take n).length = n := by rw [List.length_take]; omega
      refine ⟨?_, by omega⟩
      unfold shortB
      rw [hl, List.append_assoc, List.take_append_drop]
      exact e
    · cases h

theorem rdS_short (x : List UInt8) (hx : x.length ≤ 1000000000) (r : List UInt8) : rdS (shortB x ++ r) = some (x, r) := by
  unfold rdS shortB
  rw [List.append_assoc, rdV_var _ hx]
  simp

end Go.Proofs.YtckkfjmjcknjdaaGreatDoor.P11

namespace Go.Proofs.YtckkfjmjcknjdaaGreatDoor.P12
open P1 P3 P9 P11
set_option linter.unusedVariables false

structure EvV where
  id : Int
  kind : Int
  sender : Int
  user : Int
  member : Int
  levels : List Int
  text : List UInt8
  prev : List Int
  depth : Int
deriving DecidableEq

def inR (a lo hi : Int) : Bool := decide (lo ≤ a) && decide (a ≤ hi)

theorem inR_iff {a lo hi : Int} : inR a lo hi = true ↔ lo ≤ a ∧ a ≤ hi := by simp [inR]

def lvOk (zs : List Int) : Bool := zs.all (fun z => inR z 0 100) && decide (zs.length = 5)

def memOk (e : EvV) : Bool := if e.kind = 2 then inR e.user 1 5 && inR e.member 0 3 else decide (e.user = 0) && decide (e.member = 0)

def lvsOk (e : EvV) : Bool := if e.kind = 3 then lvOk e.levels else decide (e.levels = [])

def txOk (e : EvV) : Bool := if e.kind = 4 ∨ e.kind = 5 then decide (e.text.length ≤ 24) else decide (e.text = [])

def bodyOk (e : EvV) : Bool := inR e.kind 1 5 && (inR e.sender 1 5 && (memOk e && (lvsOk e && txOk e)))

def pvOk (id : Int) : Option Int → List Int → Bool
  | _, [] => true
  | p, z :: r => (inR z 1 1000000 && (decide (z ≠ id) && after p z)) && pvOk id (some z) r

def prevOk (e : EvV) : Bool := decide (e.prev.length ≤ 3) && (decide (e.kind = 1 ↔ e.prev = []) && pvOk e.id none e.prev)

def evOk (e : EvV) : Bool := bodyOk e && (inR e.id 1 1000000 && (inR e.depth 0 1000000 && prevOk e))

def byB (n : Int) : UInt8 := UInt8.ofNat n.toNat

def varZ (n : Int) : List UInt8 := varB n.toNat

def evBody (e : EvV) : List UInt8 := byB e.kind :: byB e.sender :: byB e.user :: byB e.member :: (varB e.levels.length ++ (e.levels.map byB ++ shortB e.text))

def evB (e : EvV) : List UInt8 := varZ e.id ++ (evBody e ++ (varB e.prev.length ++ (e.prev.flatMap varZ ++ varZ e.depth)))

theorem pvOk_mem {id : Int} : ∀ (zs : List Int) (p : Option Int), pvOk id p zs = true → ∀ z ∈ zs, 1 ≤ z ∧ z ≤ 1000000
  | y :: r, p, h, z, hz => by
    simp only [pvOk, Bool.and_eq_true, inR_iff] at h
    rcases List.mem_cons.1 hz with rfl | hz
    · exact h.1.1
    · exact pvOk_mem r _ h.2 z hz

theorem lvOk_mem {zs : List Int} (h : lvOk zs = true) : ∀ z ∈ zs, 0 ≤ z ∧ z ≤ 100 := by
  unfold lvOk at h
  simp only [Bool.and_eq_true, List.all_eq_true] at h
  exact fun z hz => inR_iff.1 (h.1 z hz)

theorem lvsOk_mem {e : EvV} (h : lvsOk e = true) : (∀ z ∈ e.levels, 0 ≤ z ∧ z ≤ 100) ∧ e.levels.length ≤ 5 := by
  unfold lvsOk at h
  split at h
  · refine ⟨lvOk_mem h, ?_⟩
    unfold lvOk at h
    simp only [Bool.and_eq_true, decide_eq_true_eq] at h
    omega
  · have h := of_decide_eq_true h
    rw [h]
    simp

theorem txOk_len {e : EvV} (h : txOk e = true) : e.text.length ≤ 24 := by
  unfold txOk at h
  split at h
  · exact of_decide_eq_true h
  · have h := of_decide_eq_true h
    rw [h]
    simp

theorem memOk_in {e : EvV} (h : memOk e = true) : 0 ≤ e.user ∧ e.user ≤ 5 ∧ 0 ≤ e.member ∧ e.member ≤ 3 := by
  unfold memOk at h
  split at h
  · simp only [Bool.and_eq_true, inR_iff] at h
    omega
  · simp only [Bool.and_eq_true, decide_eq_true_eq] at h
    omega

structure EvIn (e : EvV) : Prop where
  id : 1 ≤ e.id ∧ e.id ≤ 1000000
  kind : 1 ≤ e.kind ∧ e.kind ≤ 5
  sender : 1 ≤ e.sender ∧ e.sender ≤ 5
  user : 0 ≤ e.user ∧ e.user ≤ 5
  member : 0 ≤ e.member ∧ e.member ≤ 3
  levels : ∀ z ∈ e.levels, 0 ≤ z ∧ z ≤ 100
  many : e.levels.length ≤ 5
  text : e.text.length ≤ 24
  prev : ∀ z ∈ e.prev, 1 ≤ z ∧ z ≤ 1000000
  prevs : e.prev.length ≤ 3
  depth : 0 ≤ e.depth ∧ e.depth ≤ 1000000

theorem evOk_in {e : EvV} (h : evOk e = true) : EvIn e := by
  unfold evOk bodyOk prevOk at h
  simp only [Bool.and_eq_true, inR_iff, decide_eq_true_eq] at h
  obtain ⟨⟨h1, h2, h3, h4, h5⟩, h6, h7, h8, -, h9⟩ := h
  have hm := memOk_in h3
  exact ⟨h6, h1, h2, ⟨hm.1, hm.2.1⟩, hm.2.2, (lvsOk_mem h4).1, (lvsOk_mem h4).2, txOk_len h5, pvOk_mem _ _ h9, h8, h7⟩

def rdVs : Nat → List UInt8 → Option (List Int × List UInt8)
  | 0, l => some ([], l)
  | n + 1, l =>
    match rdV l with
    | none => none
    | some (v, r) =>
      match rdVs n r with
      | none => none
      | some (vs, q) => some ((v : Int) :: vs, q)

theorem rdVs_some : ∀ {n : Nat} {l r : List UInt8} {vs : List Int}, rdVs n l = some (vs, r) → l = vs.flatMap varZ ++ r ∧ vs.length = n
  | 0, l, r, vs, h => by cases h; exact ⟨rfl, rfl⟩
  | n + 1, l, r, vs, h => by
    unfold rdVs at h
    split at h
    · cases h
    · rename_i v q hv
      split at h
      · cases h
      · rename_i ws q2 hw
        cases h
        obtain ⟨e1, -⟩ := rdV_some hv
        obtain ⟨e2, e3⟩ := rdVs_some hw
        refine ⟨?_, by simp [e3]⟩
        rw [e1, e2]
        simp [varZ]

theorem rdVs_text : ∀ (vs : List Int) (r : List UInt8), (∀ z ∈ vs, 0 ≤ z ∧ z ≤ 1000000000) → rdVs vs.length (vs.flatMap varZ ++ r) = some (vs, r)
  | [], r, _ => rfl
  | z :: vs, r, h => by
    have hz := h z (by simp)
    have ih := rdVs_text vs r (fun y hy => h y (by simp [hy]))
    simp only [List.length_cons, List.flatMap_cons, List.append_assoc]
    unfold rdVs
    rw [show varZ z = varB z.toNat from rfl, rdV_var z.toNat (by omega)]
    simp only
    rw [ih]
    simp only [Option.some.injEq, Prod.mk.injEq, List.cons.injEq, and_true]
    omega

def bz (b : UInt8) : Int := (b.toNat : Int)

theorem byB_bz (b : UInt8) : byB (bz b) = b := by simp [byB, bz]

theorem bz_byB {z : Int} (h : 0 ≤ z ∧ z ≤ 255) : bz (byB z) = z := by
  unfold bz byB
  have : (UInt8.ofNat z.toNat).toNat = z.toNat := by simp [UInt8.toNat_ofNat']; omega
  rw [this]
  omega

theorem map_bz_byB {zs : List Int} (h : ∀ z ∈ zs, 0 ≤ z ∧ z ≤ 255) : (zs.map byB).map bz = zs := by
  induction zs with
  | nil => rfl
  | cons z r ih =>
    simp only [List.map_cons, bz_byB (h z (by simp))]
    rw [ih (fun y hy => h y (by simp [hy]))]

theorem map_byB_bz (l : List UInt8) : (l.map bz).map byB = l := by
  induction l with
  | nil => rfl
  | cons b r ih => simp only [List.map_cons, byB_bz, ih]

def rdBody (i : Nat) : List UInt8 → Option (EvV × List UInt8)
  | k :: s :: u :: m :: r =>
    match rdV r with
    | none => none
    | some (n, r1) =>
      if n ≤ r1.length then
        match rdS (r1.drop n) with
        | none => none
        | some (x, r2) => some (⟨i, bz k, bz s, bz u, bz m, (r1.take n).map bz, x, [], 0⟩, r2)
      else none
  | _ => none

theorem rdBody_some {i : Nat} {l r : List UInt8} {e : EvV} (h : rdBody i l = some (e, r)) : l = evBody e ++ r ∧ e.id = i ∧ e.prev = [] ∧ e.depth = 0 := by
  unfold rdBody at h
  split at h
  · rename_i k s u m q
    split at h
    · cases h
    · rename_i n r1 hv
      split at h
      · rename_i hn
        split at h
        · cases h
        · rename_i x r2 hs
          cases h
          obtain ⟨e1, -⟩ := rdV_some hv
          obtain ⟨e2, -⟩ := rdS_some hs
          have hl : (r1.take n).length = n := by rw [List.length_take]; omega
          refine ⟨?_, rfl, rfl, rfl⟩
          unfold evBody
          simp only [byB_bz, List.length_map, hl, map_byB_bz, List.cons_append, List.append_assoc]
          rw [← e2, List.take_append_drop, ← e1]
      · cases h
  · cases h

theorem rdBody_text {e : EvV} (he : EvIn e) (r : List UInt8) : rdBody e.id.toNat (evBody e ++ r) = some ({ e with prev := [], depth := 0 }, r) := by
  unfold evBody rdBody
  simp only [List.cons_append, List.append_assoc]
  rw [rdV_var _ (by have := he.many; omega)]
  simp only
  have hl : e.levels.length ≤ (e.levels.map byB ++ (shortB e.text ++ r)).length := by simp
  rw [if_pos hl]
  have e1 : (e.levels.map byB ++ (shortB e.text ++ r)).drop e.levels.length = shortB e.text ++ r := by
    rw [List.drop_append_of_le_length (by simp)]
    simp
  have e2 : (e.levels.map byB ++ (shortB e.text ++ r)).take e.levels.length = e.levels.map byB := by
    rw [List.take_append_of_le_length (by simp), List.take_of_length_le (by simp)]
  rw [e1, e2, rdS_short _ (by have := he.text; omega)]
  simp only
  have k1 := he.kind
  have k2 := he.sender
  have k3 := he.user
  have k4 := he.member
  have k5 := he.id
  rw [map_bz_byB (fun z hz => by have := he.levels z hz; omega), bz_byB (by omega), bz_byB (by omega), bz_byB (by omega), bz_byB (by omega), show ((e.id.toNat : Nat) : Int) = e.id by omega]

def rdEvB (l : List UInt8) : Option (EvV × List UInt8) :=
  match rdV l with
  | none => none
  | some (i, r1) =>
    match rdBody i r1 with
    | none => none
    | some (e, r2) =>
      match rdV r2 with
      | none => none
      | some (n, r3) =>
        match rdVs n r3 with
        | none => none
        | some (ps, r4) =>
          match rdV r4 with
          | none => none
          | some (d, r5) => some ({ e with prev := ps, depth := d }, r5)

theorem rdEvB_some {l r : List UInt8} {e : EvV} (h : rdEvB l = some (e, r)) : l = evB e ++ r := by
  unfold rdEvB at h
  split at h
  · cases h
  · rename_i i r1 h1
    split at h
    · cases h
    · rename_i e0 r2 h2
      split at h
      · cases h
      · rename_i n r3 h3
        split at h
        · cases h
        · rename_i ps r4 h4
          split at h
          · cases h
          · rename_i d r5 h5
            cases h
            obtain ⟨a1, -⟩ := rdV_some h1
            obtain ⟨a2, a2i, -, -⟩ := rdBody_some h2
            obtain ⟨a3, -⟩ := rdV_some h3
            obtain ⟨a4, a4n⟩ := rdVs_some h4
            obtain ⟨a5, -⟩ := rdV_some h5
            rw [a1, a2, a3, a4, a5]
            unfold evB
            simp only [varZ, a2i, a4n, Int.toNat_natCast, List.append_assoc]
            rfl

theorem rdEvB_text {e : EvV} (he : EvIn e) (r : List UInt8) : rdEvB (evB e ++ r) = some (e, r) := by
  have k1 := he.id
  have k2 := he.prevs
  have k3 := he.depth
  unfold evB rdEvB
  simp only [List.append_assoc]
  rw [show varZ e.id = varB e.id.toNat from rfl, rdV_var _ (by omega)]
  simp only
  rw [rdBody_text he]
  simp only
  rw [rdV_var _ (by omega)]
  simp only
  rw [rdVs_text e.prev _ (fun z hz => by have := he.prev z hz; omega)]
  simp only
  rw [show varZ e.depth = varB e.depth.toNat from rfl, rdV_var _ (by omega)]
  simp only [Option.some.injEq, Prod.mk.injEq, and_true]
  rw [show ((e.depth.toNat : Nat) : Int) = e.depth by omega]

def evText (e : EvV) : Option (List UInt8) := if evOk e = true then some (evB e) else none

def rdEvent (l : List UInt8) : Option EvV :=
  match rdEvB l with
  | none => none
  | some (e, r) => if r = [] ∧ evOk e = true then some e else none

theorem rdEvent_iff {l : List UInt8} {e : EvV} : rdEvent l = some e ↔ evText e = some l := by
  constructor
  · intro h
    unfold rdEvent at h
    split at h
    · cases h
    · rename_i e' r hr
      split at h
      · rename_i hc
        cases h
        have := rdEvB_some hr
        rw [hc.1, List.append_nil] at this
        unfold evText
        rw [if_pos hc.2, this]
      · cases h
  · intro h
    unfold evText at h
    split at h
    · rename_i hc
      cases h
      have := rdEvB_text (evOk_in hc) []
      rw [List.append_nil] at this
      unfold rdEvent
      rw [this]
      simp [hc]
    · cases h

end Go.Proofs.YtckkfjmjcknjdaaGreatDoor.P12
