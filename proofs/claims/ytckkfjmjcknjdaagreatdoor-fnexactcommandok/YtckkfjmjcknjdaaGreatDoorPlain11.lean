/-
  Plain mathematics of chapter 8: snapshots as bytes, and what is read of a text; nothing of the program.
-/
import Derived.Test.YtckkfjmjcknjdaaGreatDoorPlain9
import Derived.Test.YtckkfjmjcknjdaaGreatDoorPlain3
namespace Go.Proofs.YtckkfjmjcknjdaaGreatDoor.P11
open P1 P3 P9

/-- VarText of its length, and it. -/
def shortB (l : List UInt8) : List UInt8 := varB l.length ++ l

def snapB (i t : Nat) (c b : List UInt8) : List UInt8 := varB i ++ (varB t ++ (shortB c ++ shortB b))

/-- A number at the beginning, and the rest. -/
def rdV (l : List UInt8) : Option (Nat × List UInt8) :=
  match rdGo 5 [] l with
  | none => none
  | some (n, c) => some (n, l.drop c)

/-- A short text at the beginning, and the rest. -/
def rdS (l : List UInt8) : Option (List UInt8 × List UInt8) :=
  match rdV l with
  | none => none
  | some (n, r) => if n ≤ r.length then some (r.take n, r.drop n) else none

theorem rdV_some {l r : List UInt8} {n : Nat} (h : rdV l = some (n, r)) : l = varB n ++ r ∧ n ≤ 1000000000 := by
  unfold rdV at h
  cases hr : rdGo 5 [] l with
  | none => rw [hr] at h; cases h
  | some p =>
    obtain ⟨v, c⟩ := p
    rw [hr] at h
    simp only [Option.some.injEq, Prod.mk.injEq] at h
    obtain ⟨rfl, rfl⟩ := h
    refine ⟨?_, (rdGo_some 5 [] l v c hr).1⟩
    rw [rdGo_is5 hr, List.take_append_drop]

theorem rdV_var (n : Nat) (hn : n ≤ 1000000000) (r : List UInt8) : rdV (varB n ++ r) = some (n, r) := by
  unfold rdV
  rw [rdGo_varB n hn r]
  simp

theorem rdS_some {l x r : List UInt8} (h : rdS l = some (x, r)) : l = shortB x ++ r ∧ x.length ≤ 1000000000 := by
  unfold rdS at h
  cases hv : rdV l with
  | none => rw [hv] at h; cases h
  | some p =>
    obtain ⟨n, q⟩ := p
    rw [hv] at h
    simp only at h
    split at h
    · rename_i hn
      simp only [Option.some.injEq, Prod.mk.injEq] at h
      obtain ⟨rfl, rfl⟩ := h
      obtain ⟨e, hb⟩ := rdV_some hv
      have hl : (q.take n).length = n := by rw [List.length_take]; omega
      refine ⟨?_, by omega⟩
      unfold shortB
      rw [hl, List.append_assoc, List.take_append_drop]
      exact e
    · cases h

theorem rdS_short (x : List UInt8) (hx : x.length ≤ 1000000000) (r : List UInt8) : rdS (shortB x ++ r) = some (x, r) := by
  unfold rdS shortB
  rw [List.append_assoc, rdV_var _ hx]
  simp

/-- What stands in a text, and what is left of it. -/
def rdSnapB (l : List UInt8) : Option (Nat × Nat × List UInt8 × List UInt8 × List UInt8) :=
  match rdV l with
  | none => none
  | some (i, r1) =>
    match rdV r1 with
    | none => none
    | some (t, r2) =>
      match rdS r2 with
      | none => none
      | some (c, r3) =>
        match rdS r3 with
        | none => none
        | some (b, r4) => some (i, t, c, b, r4)

theorem rdSnapB_1 {l : List UInt8} (h : rdV l = none) : rdSnapB l = none := by unfold rdSnapB; rw [h]
theorem rdSnapB_2 {l r1 : List UInt8} {i : Nat} (h : rdV l = some (i, r1)) (h2 : rdV r1 = none) : rdSnapB l = none := by unfold rdSnapB; rw [h]; simp only; rw [h2]
theorem rdSnapB_3 {l r1 r2 : List UInt8} {i t : Nat} (h : rdV l = some (i, r1)) (h2 : rdV r1 = some (t, r2)) (h3 : rdS r2 = none) : rdSnapB l = none := by
  unfold rdSnapB; rw [h]; simp only; rw [h2]; simp only; rw [h3]
theorem rdSnapB_4 {l r1 r2 r3 c : List UInt8} {i t : Nat} (h : rdV l = some (i, r1)) (h2 : rdV r1 = some (t, r2)) (h3 : rdS r2 = some (c, r3)) (h4 : rdS r3 = none) : rdSnapB l = none := by
  unfold rdSnapB; rw [h]; simp only; rw [h2]; simp only; rw [h3]; simp only; rw [h4]
theorem rdSnapB_5 {l r1 r2 r3 r4 c b : List UInt8} {i t : Nat} (h : rdV l = some (i, r1)) (h2 : rdV r1 = some (t, r2)) (h3 : rdS r2 = some (c, r3)) (h4 : rdS r3 = some (b, r4)) : rdSnapB l = some (i, t, c, b, r4) := by
  unfold rdSnapB; rw [h]; simp only; rw [h2]; simp only; rw [h3]; simp only; rw [h4]

theorem rdSnapB_some {l c b r : List UInt8} {i t : Nat} (h : rdSnapB l = some (i, t, c, b, r)) : l = snapB i t c b ++ r ∧ i ≤ 1000000000 ∧ t ≤ 1000000000 := by
  unfold rdSnapB at h
  split at h
  · cases h
  · rename_i i' r1 h1
    split at h
    · cases h
    · rename_i t' r2 h2
      split at h
      · cases h
      · rename_i c' r3 h3
        split at h
        · cases h
        · rename_i b' r4 h4
          simp only [Option.some.injEq, Prod.mk.injEq] at h
          obtain ⟨rfl, rfl, rfl, rfl, rfl⟩ := h
          obtain ⟨e1, b1⟩ := rdV_some h1
          obtain ⟨e2, b2⟩ := rdV_some h2
          obtain ⟨e3, -⟩ := rdS_some h3
          obtain ⟨e4, -⟩ := rdS_some h4
          refine ⟨?_, b1, b2⟩
          rw [e1, e2, e3, e4]
          simp [snapB]

theorem rdSnapB_text {i t : Nat} (hi : i ≤ 1000000000) (ht : t ≤ 1000000000) {c b : List UInt8} (hc : c.length ≤ 1000000000) (hb : b.length ≤ 1000000000) (r : List UInt8) :
    rdSnapB (snapB i t c b ++ r) = some (i, t, c, b, r) := by
  have e : snapB i t c b ++ r = varB i ++ (varB t ++ (shortB c ++ (shortB b ++ r))) := by simp [snapB]
  rw [e]
  exact rdSnapB_5 (rdV_var i hi _) (rdV_var t ht _) (rdS_short c hc _) (rdS_short b hb _)

/-- Numbers and conf of a right snapshot. -/
def snOk (i t : Int) (z : List Int) : Bool := decide (0 ≤ i ∧ i ≤ 1000000) && (decide (0 ≤ t ∧ t ≤ 100000) && confOk z)

theorem snOk_iff {i t : Int} {z : List Int} : snOk i t z = true ↔ (0 ≤ i ∧ i ≤ 1000000) ∧ (0 ≤ t ∧ t ≤ 100000) ∧ confOk z = true := by
  simp [snOk]

/-- The text of a snapshot. -/
def snText (i t : Int) (z : List Int) (b : List UInt8) : Option (List UInt8) :=
  if snOk i t z = true ∧ (snapB i.toNat t.toNat (confB z) b).length + 4 ≤ 20000 then some (sealL (snapB i.toNat t.toNat (confB z) b)) else none

/-- The snapshot of a text. -/
def rdSnap (text : List UInt8) : Option (Nat × Nat × List Int × List UInt8) :=
  match unsealL text with
  | none => none
  | some l =>
    match rdSnapB l with
    | none => none
    | some (i, t, c, b, r) => if r = [] ∧ text.length ≤ 20000 ∧ snOk i t (confZ c) = true then some (i, t, confZ c, b) else none

theorem unseal_some {t l : List UInt8} (h : unsealL t = some l) : t = sealL l ∧ l.length ≤ 20000 := by
  unfold unsealL at h
  split at h
  · rename_i hc
    cases h
    refine ⟨?_, by rw [List.length_take]; omega⟩
    unfold sealL
    rw [← hc.2.2, List.take_append_drop]
  · cases h

theorem sealL_inj {a b : List UInt8} (h : sealL a = sealL b) : a = b := by
  have hl := congrArg List.length h
  rw [sealL_length, sealL_length] at hl
  have := congrArg (List.take a.length) h
  rw [show (sealL a).take a.length = a by simp [sealL]] at this
  rw [show a.length = b.length by omega, show (sealL b).take b.length = b by simp [sealL]] at this
  exact this

theorem snText_some {i t : Int} {z : List Int} {b text : List UInt8} (h : snText i t z b = some text) :
    snOk i t z = true ∧ (snapB i.toNat t.toNat (confB z) b).length + 4 ≤ 20000 ∧ text = sealL (snapB i.toNat t.toNat (confB z) b) := by
  unfold snText at h
  split at h
  · rename_i hc
    cases h
    exact ⟨hc.1, hc.2, rfl⟩
  · cases h

theorem snText_length {i t : Int} {z : List Int} {b text : List UInt8} (h : snText i t z b = some text) : text.length ≤ 20000 ∧ 8 ≤ text.length := by
  obtain ⟨-, h2, rfl⟩ := snText_some h
  rw [sealL_length]
  refine ⟨h2, ?_⟩
  have p : ∀ n, 1 ≤ (varB n).length := fun n => by
    unfold varB
    cases h : varF 9 n with
    | nil => unfold varF at h; split at h <;> cases h
    | cons => simp
  have h1 := p i.toNat
  have h2 := p t.toNat
  have h3 := p (confB z).length
  have h4 := p b.length
  simp only [snapB, shortB, List.length_append]
  omega

theorem snapB_body (i t : Nat) (c b : List UInt8) : b.length ≤ (snapB i t c b).length ∧ c.length ≤ (snapB i t c b).length := by
  simp only [snapB, shortB, List.length_append]
  omega

/-- What is read is just what would be written. -/
theorem rdSnap_iff {text b : List UInt8} {i t : Nat} {z : List Int} : rdSnap text = some (i, t, z, b) ↔ snText i t z b = some text := by
  constructor
  · intro h
    unfold rdSnap at h
    split at h
    · cases h
    · rename_i l hl
      split at h
      · cases h
      · rename_i i' t' c b' r hr
        split at h
        · rename_i hc
          simp only [Option.some.injEq, Prod.mk.injEq] at h
          obtain ⟨rfl, rfl, rfl, rfl⟩ := h
          obtain ⟨e, -⟩ := unseal_some hl
          obtain ⟨e2, -⟩ := rdSnapB_some hr
          obtain ⟨rfl, h2, h3⟩ := hc
          rw [List.append_nil] at e2
          unfold snText
          simp only [Int.toNat_natCast]
          rw [confB_confZ, ← e2, ← e]
          rw [if_pos]
          refine ⟨h3, ?_⟩
          rw [e, sealL_length] at h2
          exact h2
        · cases h
  · intro h
    obtain ⟨h1, h2, e⟩ := snText_some h
    simp only [Int.toNat_natCast] at h2 e
    have hk := snOk_iff.1 h1
    have hb := snapB_body i t (confB z) b
    unfold rdSnap
    rw [e, unseal_seal _ (by omega)]
    simp only
    have hr := rdSnapB_text (i := i) (t := t) (by omega) (by omega) (c := confB z) (b := b) (by omega) (by omega) []
    rw [List.append_nil] at hr
    rw [hr]
    simp only
    rw [confZ_confB (confOk_mem hk.2.2), if_pos ⟨trivial, by rw [sealL_length]; exact h2, h1⟩]

theorem rdSnap_none {text l : List UInt8} (h : unsealL text = some l) (h2 : rdSnapB l = none) : rdSnap text = none := by
  unfold rdSnap; rw [h]; simp only; rw [h2]
theorem rdSnap_off {text : List UInt8} (h : unsealL text = none) : rdSnap text = none := by
  unfold rdSnap; rw [h]

/-- A text of the parts that were read: it is the text itself just when it is a right one. -/
theorem rdSnap_read {text l c b r : List UInt8} {i t : Nat} (h : unsealL text = some l) (h2 : rdSnapB l = some (i, t, c, b, r)) :
    rdSnap text = if snText i t (confZ c) b = some text then some (i, t, confZ c, b) else none := by
  split
  · rename_i hh
    exact rdSnap_iff.2 hh
  · rename_i hh
    cases hs : rdSnap text with
    | none => rfl
    | some q =>
      obtain ⟨i', t', z', b'⟩ := q
      have hs0 := hs
      unfold rdSnap at hs
      rw [h] at hs
      simp only at hs
      rw [h2] at hs
      simp only at hs
      split at hs
      · simp only [Option.some.injEq, Prod.mk.injEq] at hs
        obtain ⟨rfl, rfl, rfl, rfl⟩ := hs
        exact absurd (rdSnap_iff.1 hs0) hh
      · cases hs

theorem rdSnap_bounds {text b : List UInt8} {i t : Nat} {z : List Int} (h : rdSnap text = some (i, t, z, b)) : i ≤ 1000000 ∧ t ≤ 100000 ∧ confOk z = true ∧ b.length ≤ 20000 ∧ text.length ≤ 20000 := by
  have h' := rdSnap_iff.1 h
  obtain ⟨h1, h2, e⟩ := snText_some h'
  have hk := snOk_iff.1 h1
  have hb := snapB_body (i : Int).toNat (t : Int).toNat (confB z) b
  refine ⟨by omega, by omega, hk.2.2, by omega, (snText_length h').1⟩

end Go.Proofs.YtckkfjmjcknjdaaGreatDoor.P11
