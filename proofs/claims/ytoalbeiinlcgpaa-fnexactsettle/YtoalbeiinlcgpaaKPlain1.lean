/-
  Walks and mathematics of Plain1, Plain2, Plain9, Ev4.
-/
import Derived.Lib.ItoaNum
import Derived.Lib.ItoaMem
import Derived.Lib.ItoaLen
namespace Go.Proofs.Ytoalbeiinlcgpaa.P11
end Go.Proofs.Ytoalbeiinlcgpaa.P11
namespace Go.Proofs.Ytoalbeiinlcgpaa.P3
end Go.Proofs.Ytoalbeiinlcgpaa.P3
namespace Go.Proofs.Ytoalbeiinlcgpaa.P1

def figB (n : Nat) : UInt8 := if n < 10 then UInt8.ofNat (48 + n) else UInt8.ofNat (87 + n)

theorem figB_lo (n : Nat) (h : n < 10) : (figB n).toNat = 48 + n := by
  unfold figB; rw [if_pos h]; simp [UInt8.toNat_ofNat']; omega

end Go.Proofs.Ytoalbeiinlcgpaa.P1

namespace Go.Proofs.Ytoalbeiinlcgpaa.P1
open Go

theorem dec_small (m : Nat) (h : m < 10) : Lib.decDigits m = [UInt8.ofNat (48 + m)] := Lib.decDigits_one h

theorem dec_big (m : Nat) (h : ¬ m < 10) : Lib.decDigits m = Lib.decDigits (m / 10) ++ [UInt8.ofNat (48 + m % 10)] := by rw [Lib.decDigits, dif_neg h]

theorem figB_dec (d : Nat) (h : d < 10) : figB d = UInt8.ofNat (48 + d) := by unfold figB; rw [if_pos h]

def DecRel (N m : Nat) (t : List UInt8) : Prop := (m = 0 → Lib.decDigits N = t) ∧ (m ≠ 0 → Lib.decDigits N = Lib.decDigits m ++ t)

theorem DecRel.start (N : Nat) (h : N ≠ 0) : DecRel N N [] := ⟨fun e => absurd e h, fun _ => by simp⟩

theorem DecRel.step {N m : Nat} {t : List UInt8} (h : DecRel N m t) (hm : m ≠ 0) : DecRel N (m / 10) (figB (m % 10) :: t) := by
  have h2 := h.2 hm
  rw [figB_dec _ (by omega)]
  constructor
  · intro e
    rw [h2, dec_small m (by omega)]
    have : m % 10 = m := by omega
    rw [this]; rfl
  · intro e
    rw [h2, dec_big m (by omega)]
    simp

theorem DecRel.length {N m : Nat} {t : List UInt8} (h : DecRel N m t) : t.length ≤ (Lib.decDigits N).length := by
  by_cases e : m = 0
  · rw [h.1 e]; exact Nat.le_refl _
  · rw [h.2 e]; simp

theorem dec_length (N : Nat) (h : N ≤ 9223372036854775808) : (Lib.decDigits N).length ≤ 20 := by
  by_cases e : N = 0
  · subst e; rw [dec_small 0 (by decide)]; simp
  · have := Lib.itoa_length_le (-(N : Int)) (by omega) (by omega)
    rw [Lib.itoa_neg N (by omega)] at this
    simp at this; omega

end Go.Proofs.Ytoalbeiinlcgpaa.P1

namespace Go.Proofs.Ytoalbeiinlcgpaa.P9
open P1

def after : Option Int → Int → Bool
  | none, _ => true
  | some y, z => decide (y < z)

def riseF (lo hi : Int) : Option Int → List Int → Bool
  | _, [] => true
  | p, z :: r => (decide (lo ≤ z) && decide (z ≤ hi) && after p z) && riseF lo hi (some z) r

def pv (zs : List Int) : Nat → Option Int
  | 0 => none
  | j + 1 => zs[j]?

def confOk (zs : List Int) : Bool := decide (1 ≤ zs.length ∧ zs.length ≤ 4) && riseF 1 4 none zs

theorem riseF_at {lo hi : Int} {zs : List Int} {j : Nat} {z : Int} (h : zs[j]? = some z) : riseF lo hi (pv zs j) (zs.drop j) = ((decide (lo ≤ z) && decide (z ≤ hi) && after (pv zs j) z) && riseF lo hi (pv zs (j + 1)) (zs.drop (j + 1))) := by
  obtain ⟨hj, he⟩ := List.getElem?_eq_some_iff.1 h
  rw [List.drop_eq_getElem_cons hj, he]
  simp only [riseF, pv, h]

theorem riseF_mem {lo hi : Int} : ∀ (zs : List Int) (p : Option Int), riseF lo hi p zs = true → ∀ z ∈ zs, lo ≤ z ∧ z ≤ hi
  | y :: r, p, h, z, hz => by
    simp only [riseF, Bool.and_eq_true, decide_eq_true_eq] at h
    rcases List.mem_cons.1 hz with rfl | hz
    · exact ⟨h.1.1.1, h.1.1.2⟩
    · exact riseF_mem r _ h.2 z hz

theorem confOk_mem {zs : List Int} (h : confOk zs = true) : ∀ z ∈ zs, 1 ≤ z ∧ z ≤ 4 := by
  unfold confOk at h
  simp only [Bool.and_eq_true] at h
  exact riseF_mem zs none h.2

theorem confOk_len {zs : List Int} (h : confOk zs = true) : 1 ≤ zs.length ∧ zs.length ≤ 4 := by
  unfold confOk at h
  simp only [Bool.and_eq_true, decide_eq_true_eq] at h
  exact h.1

theorem confOk_short {zs : List Int} (h : ¬ (1 ≤ zs.length ∧ zs.length ≤ 4)) : confOk zs = false := by
  unfold confOk
  simp [h]

theorem confOk_mid {zs : List Int} (h : 1 ≤ zs.length ∧ zs.length ≤ 4) : confOk zs = riseF 1 4 none zs := by
  unfold confOk
  simp [h]

def confZ (l : List UInt8) : List Int := l.map fun b => (b.toNat : Int)

theorem confZ_snoc (l : List UInt8) (b : UInt8) : confZ (l ++ [b]) = confZ l ++ [(b.toNat : Int)] := by simp [confZ]

theorem confZ_length (l : List UInt8) : (confZ l).length = l.length := by simp [confZ]

def contOk (k : Int) (l : List UInt8) : Bool :=
  if k = 1 then decide (l.length = 0) else if k = 2 then confOk (confZ l) else if k = 3 then decide (l.length ≤ 120) else false

def termOk (t : Int) : Bool := decide (0 ≤ t) && decide (t ≤ 100000)

def entryOk (t k : Int) (l : List UInt8) : Bool := contOk k l && termOk t

theorem contOk_kind {k : Int} {l : List UInt8} (h : contOk k l = true) : k = 1 ∧ l = [] ∨ k = 2 ∧ confOk (confZ l) = true ∨ k = 3 ∧ l.length ≤ 120 := by
  unfold contOk at h
  split at h
  · left; exact ⟨by assumption, List.eq_nil_of_length_eq_zero (by simpa using h)⟩
  · split at h
    · right; left; exact ⟨by assumption, h⟩
    · split at h
      · right; right; exact ⟨by assumption, by simpa using h⟩
      · cases h

end Go.Proofs.Ytoalbeiinlcgpaa.P9

namespace Go.Proofs.Ytoalbeiinlcgpaa.P12
open P1 P3 P9 P11
set_option linter.unusedVariables false

def lastI : Option Int → Int
  | none => 0
  | some z => z

end Go.Proofs.Ytoalbeiinlcgpaa.P12
