/-
  Walks of chapter 1: PartsOf, of the specification and of the program.
-/
import Derived.Test.YtfplnopcccjclabDoorLawStr
import Derived.Test.YtfplnopcccjclabDoorShelf
import Derived.Lib.Strings
import Derived.Lib.Fields
namespace Go.Proofs.YtfplnopcccjclabDoor
open Go.RowKit P1 K
set_option linter.unusedVariables false

/-- A byte of a plain line. -/
def plainB (b : UInt8) : Bool := decide (32 ≤ b.toNat) && decide (b.toNat ≤ 126)
/-- What PartsOf answers. -/
def partsR (l : List UInt8) : List (List UInt8) × Bool :=
  if l.length ≤ 600 ∧ l.all plainB = true ∧ (Lib.fields l).length ≤ 10 then (Lib.fields l, true) else ([], false)

theorem partsR_yes {l : List UInt8} (h1 : l.length ≤ 600) (h2 : l.all plainB = true) (h3 : (Lib.fields l).length ≤ 10) : partsR l = (Lib.fields l, true) := by
  unfold partsR; rw [if_pos ⟨h1, h2, h3⟩]
theorem partsR_no {l : List UInt8} (h : ¬ (l.length ≤ 600 ∧ l.all plainB = true ∧ (Lib.fields l).length ≤ 10)) : partsR l = ([], false) := by
  unfold partsR; rw [if_neg h]

theorem isSp_plain (b : UInt8) (h : 32 ≤ b.toNat) : Lib.isSp b = (b.toNat == 32) := by
  unfold Lib.isSp
  have e : ∀ c : UInt8, (b == c) = (b.toNat == c.toNat) := fun c => by
    rw [Bool.eq_iff_iff]; simp [UInt8.toNat_inj]
  simp only [e]
  have h9 : (9 : UInt8).toNat = 9 := rfl
  have h10 : (10 : UInt8).toNat = 10 := rfl
  have h11 : (11 : UInt8).toNat = 11 := rfl
  have h12 : (12 : UInt8).toNat = 12 := rfl
  have h13 : (13 : UInt8).toNat = 13 := rfl
  have h32 : (32 : UInt8).toNat = 32 := rfl
  rw [h9, h10, h11, h12, h13, h32]
  have n9 : (b.toNat == 9) = false := by simp; omega
  have n10 : (b.toNat == 10) = false := by simp; omega
  have n11 : (b.toNat == 11) = false := by simp; omega
  have n12 : (b.toNat == 12) = false := by simp; omega
  have n13 : (b.toNat == 13) = false := by simp; omega
  simp [n9, n10, n11, n12, n13]

/-- What the loop of the specification's PartsOf carries ahead of place i. -/
def PartRel (l : List UInt8) (b i : Nat) (xs : List (List UInt8)) : Prop :=
  xs.length ≤ i ∧ ((i ≤ l.length ∧ b ≤ i ∧ (l.take i).all plainB = true ∧ xs ++ Lib.fieldsGo ((l.drop b).take (i - b)) (l.drop i) = Lib.fields l) ∨ (i = l.length + 1 ∧ l.all plainB = true ∧ xs = Lib.fields l))

theorem take_all_succ {l : List UInt8} {i : Nat} (h : i < l.length) (h1 : (l.take i).all plainB = true) (h2 : plainB l[i] = true) : (l.take (i + 1)).all plainB = true := by
  rw [List.take_succ_eq_append_getElem h, List.all_append, h1]; simp [h2]

theorem seg_snoc {l : List UInt8} {b i : Nat} (h : i < l.length) (hb : b ≤ i) : (l.drop b).take (i + 1 - b) = (l.drop b).take (i - b) ++ [l[i]] := by
  have e : i + 1 - b = (i - b) + 1 := by omega
  rw [e, List.take_succ_eq_append_getElem (by rw [List.length_drop]; omega)]
  simp [show b + (i - b) = i by omega]

theorem PartRel.start (l : List UInt8) : PartRel l 0 0 [] := ⟨Nat.le_refl _, .inl ⟨Nat.zero_le _, Nat.le_refl _, by simp, by simp [Lib.fields]⟩⟩

theorem PartRel.more {l : List UInt8} {b i : Nat} {xs : List (List UInt8)} (h : PartRel l b i xs) (hi : i < l.length) (hp : plainB l[i] = true) (hs : l[i].toNat ≠ 32) : PartRel l b (i + 1) xs := by
  obtain ⟨h0, h1 | ⟨h1, _⟩⟩ := h
  · obtain ⟨_, hb, hpl, hf⟩ := h1
    refine ⟨by omega, .inl ⟨by omega, by omega, take_all_succ hi hpl hp, ?_⟩⟩
    rw [← hf, List.drop_eq_getElem_cons hi, Lib.fieldsGo_more _ _ _ (by rw [isSp_plain _ (by simp [plainB] at hp; omega)]; simpa using hs), seg_snoc hi hb]
  · omega

theorem PartRel.blank {l : List UInt8} {b i : Nat} {xs : List (List UInt8)} (h : PartRel l b i xs) (hi : i < l.length) (hs : l[i].toNat = 32) :
    (b < i → PartRel l (i + 1) (i + 1) (xs ++ [(l.drop b).take (i - b)])) ∧ (¬ b < i → PartRel l (i + 1) (i + 1) xs) := by
  have hp : plainB l[i] = true := by simp [plainB, hs]
  have hsp : Lib.isSp l[i] = true := by rw [isSp_plain _ (by omega), hs]; rfl
  obtain ⟨h0, h1 | ⟨h1, _⟩⟩ := h
  · obtain ⟨_, hb, hpl, hf⟩ := h1
    constructor
    · intro hlt
      refine ⟨by simp; omega, .inl ⟨by omega, Nat.le_refl _, take_all_succ hi hpl hp, ?_⟩⟩
      rw [← hf, List.drop_eq_getElem_cons hi, Lib.fieldsGo_end _ _ _ hsp (by intro e; have := congrArg List.length e; simp at this; omega)]
      simp
    · intro hge
      refine ⟨by omega, .inl ⟨by omega, Nat.le_refl _, take_all_succ hi hpl hp, ?_⟩⟩
      have e : i - b = 0 := by omega
      rw [← hf, List.drop_eq_getElem_cons hi, e, List.take_zero, Lib.fieldsGo_sp _ _ hsp, Nat.sub_self, List.take_zero]
  · omega

theorem PartRel.last {l : List UInt8} {b i : Nat} {xs : List (List UInt8)} (h : PartRel l b i xs) (hi : i = l.length) :
    (b < i → PartRel l (i + 1) (i + 1) (xs ++ [(l.drop b).take (i - b)])) ∧ (¬ b < i → PartRel l (i + 1) (i + 1) xs) := by
  subst hi
  obtain ⟨h0, h1 | ⟨h1, _⟩⟩ := h
  · obtain ⟨_, hb, hpl, hf⟩ := h1
    rw [List.take_length] at hpl
    rw [List.drop_length] at hf
    constructor
    · intro hlt
      refine ⟨by simp; omega, .inr ⟨rfl, hpl, ?_⟩⟩
      have hne : ((l.drop b).take (l.length - b)).isEmpty = false := by simp; omega
      rw [← hf]; unfold Lib.fieldsGo; rw [hne]; rfl
    · intro hge
      have e : l.length - b = 0 := by omega
      refine ⟨by omega, .inr ⟨rfl, hpl, ?_⟩⟩
      rw [← hf, e]; simp [Lib.fieldsGo]
  · omega

theorem PartRel.ended {l : List UInt8} {b i : Nat} {xs : List (List UInt8)} (h : PartRel l b i xs) (hi : l.length < i) : l.all plainB = true ∧ xs = Lib.fields l := by
  obtain ⟨h0, h1 | ⟨_, h1, h2⟩⟩ := h
  · omega
  · exact ⟨h1, h2⟩

end Go.Proofs.YtfplnopcccjclabDoor
