/-
  Walks and mathematics of Ev4, Ev6.
-/
import Derived.Test.YtckkfjmjcknjdaaGreatDoorRCPlain1
namespace Go.Proofs.YtckkfjmjcknjdaaGreatDoor.P3
end Go.Proofs.YtckkfjmjcknjdaaGreatDoor.P3
namespace Go.Proofs.YtckkfjmjcknjdaaGreatDoor.P12
open P1 P3 P9 P11
set_option linter.unusedVariables false

def lvAll (zs : List Int) : Bool := zs.all (fun z => inR z 0 100)

theorem lvAll_at {zs : List Int} {j : Nat} {z : Int} (h : zs[j]? = some z) : lvAll (zs.drop j) = (inR z 0 100 && lvAll (zs.drop (j + 1))) := by
  obtain ⟨hj, he⟩ := List.getElem?_eq_some_iff.1 h
  rw [List.drop_eq_getElem_cons hj, he]
  rfl

theorem lvsOk_power {e : EvV} (h : e.kind = 3) (hl : e.levels.length = 5) : lvsOk e = lvAll e.levels := by
  unfold lvsOk lvOk
  rw [if_pos h, decide_eq_true hl, Bool.and_true]
  rfl

theorem lvsOk_few {e : EvV} (h : e.kind = 3) (hl : e.levels.length ≠ 5) : lvsOk e = false := by
  unfold lvsOk lvOk
  rw [if_pos h, decide_eq_false hl, Bool.and_false]

theorem lvsOk_other {e : EvV} (h : e.kind ≠ 3) : lvsOk e = decide (e.levels.length = 0) := by
  unfold lvsOk
  rw [if_neg h, Bool.eq_iff_iff, decide_eq_true_iff, decide_eq_true_iff]
  exact List.length_eq_zero_iff.symm

theorem pvOk_at {id : Int} {zs : List Int} {j : Nat} {z : Int} (h : zs[j]? = some z) : pvOk id (pv zs j) (zs.drop j) = ((inR z 1 1000000 && (decide (z ≠ id) && after (pv zs j) z)) && pvOk id (pv zs (j + 1)) (zs.drop (j + 1))) := by
  obtain ⟨hj, he⟩ := List.getElem?_eq_some_iff.1 h
  rw [List.drop_eq_getElem_cons hj, he]
  simp only [pvOk, pv, h]

theorem pvOk_end (id : Int) (p : Option Int) : pvOk id p [] = true := by cases p <;> rfl

theorem prevOk_create {e : EvV} (h : e.kind = 1) : prevOk e = decide (e.prev.length = 0) := by
  unfold prevOk
  by_cases c : e.prev = []
  · rw [c]
    simp [h, pvOk_end]
  · have : ¬ (e.kind = 1 ↔ e.prev = []) := fun q => c (q.1 h)
    rw [decide_eq_false this, Bool.false_and, Bool.and_false, decide_eq_false (fun q => c (List.length_eq_zero_iff.1 q))]

theorem prevOk_off {e : EvV} (h : e.kind ≠ 1) (hl : ¬ (1 ≤ e.prev.length ∧ e.prev.length ≤ 3)) : prevOk e = false := by
  unfold prevOk
  by_cases c : e.prev.length ≤ 3
  · have : ¬ (e.kind = 1 ↔ e.prev = []) := fun q => h (q.2 (List.length_eq_zero_iff.1 (by omega)))
    rw [decide_eq_false this, Bool.false_and, Bool.and_false]
  · rw [decide_eq_false c, Bool.false_and]

theorem prevOk_in {e : EvV} (h : e.kind ≠ 1) (hl : 1 ≤ e.prev.length ∧ e.prev.length ≤ 3) : prevOk e = pvOk e.id none e.prev := by
  unfold prevOk
  have : (e.kind = 1 ↔ e.prev = []) := ⟨fun q => absurd q h, fun q => by rw [q] at hl; simp at hl⟩
  rw [decide_eq_true hl.2, decide_eq_true this, Bool.true_and, Bool.true_and]

theorem txOk_word {e : EvV} (h : e.kind = 4 ∨ e.kind = 5) : txOk e = decide (e.text.length ≤ 24) := if_pos h

theorem txOk_none {e : EvV} (h : ¬ (e.kind = 4 ∨ e.kind = 5)) : txOk e = decide (e.text.length = 0) := by
  unfold txOk
  rw [if_neg h, Bool.eq_iff_iff, decide_eq_true_iff, decide_eq_true_iff]
  exact List.length_eq_zero_iff.symm

def lastI : Option Int → Int
  | none => 0
  | some z => z

theorem after_last {p : Option Int} {z : Int} (h : 0 ≤ lastI p) : (inR z 1 1000000 && after p z) = inR z (lastI p + 1) 1000000 := by
  cases p with
  | none => simp [after, lastI]
  | some y =>
    simp only [lastI] at h ⊢
    rw [Bool.eq_iff_iff]
    simp only [after, Bool.and_eq_true, inR_iff, decide_eq_true_iff]
    omega

end Go.Proofs.YtckkfjmjcknjdaaGreatDoor.P12

namespace Go.Proofs.YtckkfjmjcknjdaaGreatDoor.P12
open P1 P3 P9 P11
set_option linter.unusedVariables false

abbrev Lf := Option (List UInt8)

def numL : Lf → Nat × Lf
  | none => (0, none)
  | some l => match rdV l with | some (n, r) => (n, some r) | none => (0, none)

def byteL : Lf → Nat × Lf
  | some (b :: r) => (b.toNat, some r)
  | _ => (0, none)

def shL (most : Nat) : Lf → List UInt8 × Lf
  | none => ([], none)
  | some l => match rdS l with | some (x, r) => if x.length ≤ most then (x, some r) else ([], none) | none => ([], none)

def itL (f : Lf → Nat × Lf) : Nat → Lf → List Int × Lf
  | 0, st => ([], st)
  | j + 1, st => (((itL f j st).1 ++ [((f (itL f j st).2).1 : Int)]), (f (itL f j st).2).2)

theorem itL_len (f : Lf → Nat × Lf) : ∀ (j : Nat) (st : Lf), (itL f j st).1.length = j
  | 0, _ => rfl
  | j + 1, st => by simp [itL, itL_len f j st]

theorem numL_le (st : Lf) : (numL st).1 ≤ 1000000000 := by
  unfold numL
  split
  · exact Nat.zero_le _
  · split
    · rename_i h; exact (rdV_some h).2
    · exact Nat.zero_le _

theorem byteL_le (st : Lf) : (byteL st).1 ≤ 255 := by
  unfold byteL
  split
  · rename_i b r; have := b.toNat_lt; omega
  · exact Nat.zero_le _

theorem numL_var {n : Nat} (h : n ≤ 1000000000) (r : List UInt8) : numL (some (varB n ++ r)) = (n, some r) := by
  unfold numL
  simp only
  rw [rdV_var n h]

theorem byteL_cons (b : UInt8) (r : List UInt8) : byteL (some (b :: r)) = (b.toNat, some r) := rfl

theorem shL_short {most : Nat} {x : List UInt8} (h : x.length ≤ most) (hm : most ≤ 1000000000) (r : List UInt8) : shL most (some (shortB x ++ r)) = (x, some r) := by
  unfold shL
  simp only
  rw [rdS_short x (by omega)]
  simp [h]

theorem numL_some {st : Lf} {r : List UInt8} (h : (numL st).2 = some r) : st = some (varB (numL st).1 ++ r) := by
  unfold numL at h ⊢
  split at h
  · cases h
  · split at h
    · rename_i l n q hv
      cases h
      simp only
      rw [← (rdV_some hv).1]
    · cases h

theorem byteL_some {st : Lf} {r : List UInt8} (h : (byteL st).2 = some r) : st = some (byB ((byteL st).1 : Int) :: r) := by
  unfold byteL at h ⊢
  split at h
  · rename_i b q
    cases h
    simp only
    have := byB_bz b
    unfold bz at this
    rw [this]
  · cases h

theorem shL_some {most : Nat} {st : Lf} {r : List UInt8} (h : (shL most st).2 = some r) : st = some (shortB (shL most st).1 ++ r) := by
  cases st with
  | none => cases h
  | some l =>
    cases hv : rdS l with
    | none =>
      have e : shL most (some l) = ([], none) := by unfold shL; simp only; rw [hv]
      rw [e] at h
      cases h
    | some p =>
      obtain ⟨x, q⟩ := p
      by_cases hx : x.length ≤ most
      · have e : shL most (some l) = (x, some q) := by unfold shL; simp only; rw [hv]; exact if_pos hx
        rw [e] at h ⊢
        cases h
        rw [← (rdS_some hv).1]
      · have e : shL most (some l) = ([], none) := by unfold shL; simp only; rw [hv]; exact if_neg hx
        rw [e] at h
        cases h

theorem it_num_some : ∀ (j : Nat) (st : Lf) (r : List UInt8), (itL numL j st).2 = some r → st = some ((itL numL j st).1.flatMap varZ ++ r)
  | 0, st, r, h => by simpa [itL] using h
  | j + 1, st, r, h => by
    have h1 := numL_some (st := (itL numL j st).2) h
    have h2 := it_num_some j st _ h1
    simp only [itL]
    rw [h2]
    congr 1
    simp [varZ]
    rw [← h2]

theorem it_byte_some : ∀ (j : Nat) (st : Lf) (r : List UInt8), (itL byteL j st).2 = some r → st = some ((itL byteL j st).1.map byB ++ r)
  | 0, st, r, h => by simpa [itL] using h
  | j + 1, st, r, h => by
    have h1 := byteL_some (st := (itL byteL j st).2) h
    have h2 := it_byte_some j st _ h1
    simp only [itL]
    rw [h2]
    congr 1
    simp
    rw [← h2]

theorem it_num_text : ∀ (j : Nat) (vs : List Int) (r : List UInt8), j ≤ vs.length → (∀ z ∈ vs, 0 ≤ z ∧ z ≤ 1000000000) → itL numL j (some (vs.flatMap varZ ++ r)) = (vs.take j, some ((vs.drop j).flatMap varZ ++ r))
  | 0, vs, r, _, _ => by simp [itL]
  | j + 1, vs, r, hj, h => by
    have ih := it_num_text j vs r (by omega) h
    have hlt : j < vs.length := by omega
    have hz := h vs[j] (List.getElem_mem _)
    simp only [itL]
    rw [ih]
    simp only
    rw [List.drop_eq_getElem_cons hlt, List.flatMap_cons, List.append_assoc, show varZ vs[j] = varB vs[j].toNat from rfl, numL_var (by omega)]
    simp only [Prod.mk.injEq, and_true]
    rw [List.take_succ_eq_append_getElem hlt]
    congr 2
    omega

theorem it_byte_text : ∀ (j : Nat) (vs : List Int) (r : List UInt8), j ≤ vs.length → (∀ z ∈ vs, 0 ≤ z ∧ z ≤ 255) → itL byteL j (some (vs.map byB ++ r)) = (vs.take j, some ((vs.drop j).map byB ++ r))
  | 0, vs, r, _, _ => by simp [itL]
  | j + 1, vs, r, hj, h => by
    have ih := it_byte_text j vs r (by omega) h
    have hlt : j < vs.length := by omega
    have hz := h vs[j] (List.getElem_mem _)
    have hb := bz_byB hz
    unfold bz at hb
    simp only [itL]
    rw [ih]
    simp only
    rw [List.drop_eq_getElem_cons hlt, List.map_cons, List.cons_append, byteL_cons]
    simp only [Prod.mk.injEq, and_true]
    rw [List.take_succ_eq_append_getElem hlt, hb]

theorem read_text {l : List UInt8} {most J K : Nat} {r1 r2 r3 r4 r5 r6 r7 r8 r9 r10 : Lf} {i k s u m nl np d : Nat} {zl zp : List Int} {tx : List UInt8}
    (h1 : numL (some l) = (i, r1)) (h2 : byteL r1 = (k, r2)) (h3 : byteL r2 = (s, r3)) (h4 : byteL r3 = (u, r4)) (h5 : byteL r4 = (m, r5)) (h6 : numL r5 = (nl, r6)) (h7 : itL byteL nl r6 = (zl, r7))
    (h8 : shL most r7 = (tx, r8)) (h9 : numL r8 = (np, r9)) (h10 : itL numL np r9 = (zp, r10)) (h11 : numL r10 = (d, some [])) :
    l = evB ⟨i, k, s, u, m, zl, tx, zp, d⟩ := by
  have e11 := numL_some (st := r10) (r := []) (by rw [h11])
  rw [h11] at e11
  have e10 := it_num_some np r9 _ (by rw [h10]; exact e11)
  rw [h10] at e10
  have e9 := numL_some (st := r8) (by rw [h9]; exact e10)
  rw [h9] at e9
  have e8 := shL_some (st := r7) (by rw [h8]; exact e9)
  rw [h8] at e8
  have e7 := it_byte_some nl r6 _ (by rw [h7]; exact e8)
  rw [h7] at e7
  have e6 := numL_some (st := r5) (by rw [h6]; exact e7)
  rw [h6] at e6
  have e5 := byteL_some (st := r4) (by rw [h5]; exact e6)
  rw [h5] at e5
  have e4 := byteL_some (st := r3) (by rw [h4]; exact e5)
  rw [h4] at e4
  have e3 := byteL_some (st := r2) (by rw [h3]; exact e4)
  rw [h3] at e3
  have e2 := byteL_some (st := r1) (by rw [h2]; exact e3)
  rw [h2] at e2
  have e1 := numL_some (st := some l) (by rw [h1]; exact e2)
  rw [h1] at e1
  have hl := Option.some.inj e1
  have l1 := itL_len byteL nl r6
  have l2 := itL_len numL np r9
  rw [h7] at l1
  rw [h10] at l2
  simp only at l1 l2 hl
  rw [hl]
  simp [evB, evBody, varZ, l1, l2]

theorem text_read {e : EvV} (he : EvIn e) {l : List UInt8} (hl : l = evB e) {most J K : Nat} (hm : 24 ≤ most) (hm2 : most ≤ 1000000000) {r1 r2 r3 r4 r5 r6 r7 r8 r9 r10 r11 : Lf} {i k s u m nl np d : Nat} {zl zp : List Int} {tx : List UInt8}
    (h1 : numL (some l) = (i, r1)) (h2 : byteL r1 = (k, r2)) (h3 : byteL r2 = (s, r3)) (h4 : byteL r3 = (u, r4)) (h5 : byteL r4 = (m, r5)) (h6 : numL r5 = (nl, r6)) (h7 : nl = e.levels.length → (∀ j, j ≤ nl → (itL byteL j r6).2 ≠ none) → itL byteL nl r6 = (zl, r7))
    (h8 : shL most r7 = (tx, r8)) (h9 : numL r8 = (np, r9)) (h10 : np = e.prev.length → (∀ j, j ≤ np → (itL numL j r9).2 ≠ none) → itL numL np r9 = (zp, r10)) (h11 : numL r10 = (d, r11)) :
    e = ⟨i, k, s, u, m, zl, tx, zp, d⟩ ∧ r11 = some [] := by
  have k1 := he.id
  have k2 := he.kind
  have k3 := he.sender
  have k4 := he.user
  have k5 := he.member
  have k6 := he.many
  have k7 := he.text
  have k8 := he.prevs
  have k9 := he.depth
  have hby : ∀ {z : Int}, 0 ≤ z ∧ z ≤ 255 → ((byB z).toNat : Int) = z := fun h => bz_byB h
  rw [hl] at h1
  unfold evB evBody at h1
  simp only [List.append_assoc, List.cons_append] at h1
  rw [show varZ e.id = varB e.id.toNat from rfl, numL_var (by omega)] at h1
  cases h1
  rw [byteL_cons] at h2
  cases h2
  rw [byteL_cons] at h3
  cases h3
  rw [byteL_cons] at h4
  cases h4
  rw [byteL_cons] at h5
  cases h5
  rw [numL_var (by omega)] at h6
  cases h6
  have t7 := fun j (hj : j ≤ e.levels.length) => it_byte_text j e.levels (shortB e.text ++ (varB e.prev.length ++ (e.prev.flatMap varZ ++ varZ e.depth))) hj (fun z hz => by have := he.levels z hz; omega)
  have h7' := h7 rfl (fun j hj => by rw [t7 j hj]; simp)
  rw [t7 _ (Nat.le_refl _)] at h7'
  simp only [List.take_length, List.drop_length, List.map_nil, List.nil_append] at h7'
  cases h7'
  rw [shL_short (by omega) hm2] at h8
  cases h8
  rw [numL_var (by omega)] at h9
  cases h9
  have t10 := fun j (hj : j ≤ e.prev.length) => it_num_text j e.prev (varZ e.depth) hj (fun z hz => by have := he.prev z hz; omega)
  have h10' := h10 rfl (fun j hj => by rw [t10 j hj]; simp)
  rw [t10 _ (Nat.le_refl _)] at h10'
  simp only [List.take_length, List.drop_length, List.flatMap_nil, List.nil_append] at h10'
  cases h10'
  have h11' := numL_var (n := e.depth.toNat) (by omega) []
  rw [List.append_nil] at h11'
  rw [show varZ e.depth = varB e.depth.toNat from rfl, h11'] at h11
  cases h11
  refine ⟨?_, rfl⟩
  rw [hby (by omega), hby (by omega), hby (by omega), hby (by omega), show ((e.id.toNat : Nat) : Int) = e.id by omega, show ((e.depth.toNat : Nat) : Int) = e.depth by omega]

end Go.Proofs.YtckkfjmjcknjdaaGreatDoor.P12
