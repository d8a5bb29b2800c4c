/-
  Walks and mathematics of Plain9, Ev4.
-/
import Derived.Lib.ItoaNum
import Derived.Lib.ItoaMem
import Derived.Lib.ItoaLen
namespace Go.Proofs.Ytoalbeiinlcgpaa.P1
end Go.Proofs.Ytoalbeiinlcgpaa.P1
namespace Go.Proofs.Ytoalbeiinlcgpaa.P11
end Go.Proofs.Ytoalbeiinlcgpaa.P11
namespace Go.Proofs.Ytoalbeiinlcgpaa.P3
end Go.Proofs.Ytoalbeiinlcgpaa.P3
namespace Go.Proofs.Ytoalbeiinlcgpaa.P9
open P1

def after : Option Int → Int → Bool
  | none, _ => true
  | some y, z => decide (y < z)

def riseF (lo hi : Int) : Option Int → List Int → Bool
  | _, [] => true
  | p, z :: r => (decide (lo ≤ z) && decide (z ≤ hi) && after p z) && riseF lo hi (some z) r

def pv (zs : List Int) : Nat → Option Int
  | 0 => none
  | j + 1 => zs[j]?

def confOk (zs : List Int) : Bool := decide (1 ≤ zs.length ∧ zs.length ≤ 4) && riseF 1 4 none zs

theorem riseF_at {lo hi : Int} {zs : List Int} {j : Nat} {z : Int} (h : zs[j]? = some z) : riseF lo hi (pv zs j) (zs.drop j) = ((decide (lo ≤ z) && decide (z ≤ hi) && after (pv zs j) z) && riseF lo hi (pv zs (j + 1)) (zs.drop (j + 1))) := by
  obtain ⟨hj, he⟩ := List.getElem?_eq_some_iff.1 h
  rw [List.drop_eq_getElem_cons hj, he]
  simp only [riseF, pv, h]

theorem riseF_mem {lo hi : Int} : ∀ (zs : List Int) (p : Option Int), riseF lo hi p zs = true → ∀ z ∈ zs, lo ≤ z ∧ z ≤ hi
  | y :: r, p, h, z, hz => by
    simp only [riseF, Bool.and_eq_true, decide_eq_true_eq] at h
    rcases List.mem_cons.1 hz with rfl | hz
    · exact ⟨h.1.1.1, h.1.1.2⟩
    · exact riseF_mem r _ h.2 z hz

theorem confOk_mem {zs : List Int} (h : confOk zs = true) : ∀ z ∈ zs, 1 ≤ z ∧ z ≤ 4 := by
  unfold confOk at h
  simp only [Bool.and_eq_true] at h
  exact riseF_mem zs none h.2

theorem confOk_len {zs : List Int} (h : confOk zs = true) : 1 ≤ zs.length ∧ zs.length ≤ 4 := by
  unfold confOk at h
  simp only [Bool.and_eq_true, decide_eq_true_eq] at h
  exact h.1

theorem confOk_short {zs : List Int} (h : ¬ (1 ≤ zs.length ∧ zs.length ≤ 4)) : confOk zs = false := by
  unfold confOk
  simp [h]

theorem confOk_mid {zs : List Int} (h : 1 ≤ zs.length ∧ zs.length ≤ 4) : confOk zs = riseF 1 4 none zs := by
  unfold confOk
  simp [h]

def confZ (l : List UInt8) : List Int := l.map fun b => (b.toNat : Int)

theorem confZ_snoc (l : List UInt8) (b : UInt8) : confZ (l ++ [b]) = confZ l ++ [(b.toNat : Int)] := by simp [confZ]

theorem confZ_length (l : List UInt8) : (confZ l).length = l.length := by simp [confZ]

def contOk (k : Int) (l : List UInt8) : Bool :=
  if k = 1 then decide (l.length = 0) else if k = 2 then confOk (confZ l) else if k = 3 then decide (l.length ≤ 120) else false

def termOk (t : Int) : Bool := decide (0 ≤ t) && decide (t ≤ 100000)

def entryOk (t k : Int) (l : List UInt8) : Bool := contOk k l && termOk t

theorem contOk_kind {k : Int} {l : List UInt8} (h : contOk k l = true) : k = 1 ∧ l = [] ∨ k = 2 ∧ confOk (confZ l) = true ∨ k = 3 ∧ l.length ≤ 120 := by
  unfold contOk at h
  split at h
  · left; exact ⟨by assumption, List.eq_nil_of_length_eq_zero (by simpa using h)⟩
  · split at h
    · right; left; exact ⟨by assumption, h⟩
    · split at h
      · right; right; exact ⟨by assumption, by simpa using h⟩
      · cases h

end Go.Proofs.Ytoalbeiinlcgpaa.P9

namespace Go.Proofs.Ytoalbeiinlcgpaa.P12
open P1 P3 P9 P11
set_option linter.unusedVariables false

def lastI : Option Int → Int
  | none => 0
  | some z => z

end Go.Proofs.Ytoalbeiinlcgpaa.P12
