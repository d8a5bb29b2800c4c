/-
  Plain mathematics of chapter 9: events as values and as bytes, and what is read of a text; nothing of the program.
-/
import Derived.Test.YtckkfjmjcknjdaaGreatDoorPlain11
namespace Go.Proofs.YtckkfjmjcknjdaaGreatDoor.P12
open P1 P3 P9 P11
set_option linter.unusedVariables false

/-- An event. -/
structure EvV where
  id : Int
  kind : Int
  sender : Int
  user : Int
  member : Int
  levels : List Int
  text : List UInt8
  prev : List Int
  depth : Int
deriving DecidableEq

def inR (a lo hi : Int) : Bool := decide (lo ≤ a) && decide (a ≤ hi)
theorem inR_iff {a lo hi : Int} : inR a lo hi = true ↔ lo ≤ a ∧ a ≤ hi := by simp [inR]

/-- Levels are five numbers in 0 .. 100. -/
def lvOk (zs : List Int) : Bool := zs.all (fun z => inR z 0 100) && decide (zs.length = 5)

def memOk (e : EvV) : Bool := if e.kind = 2 then inR e.user 1 5 && inR e.member 0 3 else decide (e.user = 0) && decide (e.member = 0)
def lvsOk (e : EvV) : Bool := if e.kind = 3 then lvOk e.levels else decide (e.levels = [])
def txOk (e : EvV) : Bool := if e.kind = 4 ∨ e.kind = 5 then decide (e.text.length ≤ 24) else decide (e.text = [])
def bodyOk (e : EvV) : Bool := inR e.kind 1 5 && (inR e.sender 1 5 && (memOk e && (lvsOk e && txOk e)))

/-- Prev: ascending, each in 1 .. MaxIndex and not Id. -/
def pvOk (id : Int) : Option Int → List Int → Bool
  | _, [] => true
  | p, z :: r => (inR z 1 1000000 && (decide (z ≠ id) && after p z)) && pvOk id (some z) r

def prevOk (e : EvV) : Bool := decide (e.prev.length ≤ 3) && (decide (e.kind = 1 ↔ e.prev = []) && pvOk e.id none e.prev)
def evOk (e : EvV) : Bool := bodyOk e && (inR e.id 1 1000000 && (inR e.depth 0 1000000 && prevOk e))

def byB (n : Int) : UInt8 := UInt8.ofNat n.toNat
def varZ (n : Int) : List UInt8 := varB n.toNat

/-- What an event tells in bytes, but for its Id, Prev and Depth. -/
def evBody (e : EvV) : List UInt8 := byB e.kind :: byB e.sender :: byB e.user :: byB e.member :: (varB e.levels.length ++ (e.levels.map byB ++ shortB e.text))
def evB (e : EvV) : List UInt8 := varZ e.id ++ (evBody e ++ (varB e.prev.length ++ (e.prev.flatMap varZ ++ varZ e.depth)))

theorem pvOk_mem {id : Int} : ∀ (zs : List Int) (p : Option Int), pvOk id p zs = true → ∀ z ∈ zs, 1 ≤ z ∧ z ≤ 1000000
  | y :: r, p, h, z, hz => by
    simp only [pvOk, Bool.and_eq_true, inR_iff] at h
    rcases List.mem_cons.1 hz with rfl | hz
    · exact h.1.1
    · exact pvOk_mem r _ h.2 z hz

theorem lvOk_mem {zs : List Int} (h : lvOk zs = true) : ∀ z ∈ zs, 0 ≤ z ∧ z ≤ 100 := by
  unfold lvOk at h
  simp only [Bool.and_eq_true, List.all_eq_true] at h
  exact fun z hz => inR_iff.1 (h.1 z hz)

theorem lvsOk_mem {e : EvV} (h : lvsOk e = true) : (∀ z ∈ e.levels, 0 ≤ z ∧ z ≤ 100) ∧ e.levels.length ≤ 5 := by
  unfold lvsOk at h
  split at h
  · refine ⟨lvOk_mem h, ?_⟩
    unfold lvOk at h
    simp only [Bool.and_eq_true, decide_eq_true_eq] at h
    omega
  · have h := of_decide_eq_true h
    rw [h]
    simp

theorem txOk_len {e : EvV} (h : txOk e = true) : e.text.length ≤ 24 := by
  unfold txOk at h
  split at h
  · exact of_decide_eq_true h
  · have h := of_decide_eq_true h
    rw [h]
    simp

theorem memOk_in {e : EvV} (h : memOk e = true) : 0 ≤ e.user ∧ e.user ≤ 5 ∧ 0 ≤ e.member ∧ e.member ≤ 3 := by
  unfold memOk at h
  split at h
  · simp only [Bool.and_eq_true, inR_iff] at h
    omega
  · simp only [Bool.and_eq_true, decide_eq_true_eq] at h
    omega

/-- The limits of a right event. -/
structure EvIn (e : EvV) : Prop where
  id : 1 ≤ e.id ∧ e.id ≤ 1000000
  kind : 1 ≤ e.kind ∧ e.kind ≤ 5
  sender : 1 ≤ e.sender ∧ e.sender ≤ 5
  user : 0 ≤ e.user ∧ e.user ≤ 5
  member : 0 ≤ e.member ∧ e.member ≤ 3
  levels : ∀ z ∈ e.levels, 0 ≤ z ∧ z ≤ 100
  many : e.levels.length ≤ 5
  text : e.text.length ≤ 24
  prev : ∀ z ∈ e.prev, 1 ≤ z ∧ z ≤ 1000000
  prevs : e.prev.length ≤ 3
  depth : 0 ≤ e.depth ∧ e.depth ≤ 1000000

theorem evOk_in {e : EvV} (h : evOk e = true) : EvIn e := by
  unfold evOk bodyOk prevOk at h
  simp only [Bool.and_eq_true, inR_iff, decide_eq_true_eq] at h
  obtain ⟨⟨h1, h2, h3, h4, h5⟩, h6, h7, h8, -, h9⟩ := h
  have hm := memOk_in h3
  exact ⟨h6, h1, h2, ⟨hm.1, hm.2.1⟩, hm.2.2, (lvsOk_mem h4).1, (lvsOk_mem h4).2, txOk_len h5, pvOk_mem _ _ h9, h8, h7⟩

/-- n numbers at the beginning, and the rest. -/
def rdVs : Nat → List UInt8 → Option (List Int × List UInt8)
  | 0, l => some ([], l)
  | n + 1, l =>
    match rdV l with
    | none => none
    | some (v, r) =>
      match rdVs n r with
      | none => none
      | some (vs, q) => some ((v : Int) :: vs, q)

theorem rdVs_some : ∀ {n : Nat} {l r : List UInt8} {vs : List Int}, rdVs n l = some (vs, r) → l = vs.flatMap varZ ++ r ∧ vs.length = n
  | 0, l, r, vs, h => by cases h; exact ⟨rfl, rfl⟩
  | n + 1, l, r, vs, h => by
    unfold rdVs at h
    split at h
    · cases h
    · rename_i v q hv
      split at h
      · cases h
      · rename_i ws q2 hw
        cases h
        obtain ⟨e1, -⟩ := rdV_some hv
        obtain ⟨e2, e3⟩ := rdVs_some hw
        refine ⟨?_, by simp [e3]⟩
        rw [e1, e2]
        simp [varZ]

theorem rdVs_text : ∀ (vs : List Int) (r : List UInt8), (∀ z ∈ vs, 0 ≤ z ∧ z ≤ 1000000000) → rdVs vs.length (vs.flatMap varZ ++ r) = some (vs, r)
  | [], r, _ => rfl
  | z :: vs, r, h => by
    have hz := h z (by simp)
    have ih := rdVs_text vs r (fun y hy => h y (by simp [hy]))
    simp only [List.length_cons, List.flatMap_cons, List.append_assoc]
    unfold rdVs
    rw [show varZ z = varB z.toNat from rfl, rdV_var z.toNat (by omega)]
    simp only
    rw [ih]
    simp only [Option.some.injEq, Prod.mk.injEq, List.cons.injEq, and_true]
    omega

def bz (b : UInt8) : Int := (b.toNat : Int)

theorem byB_bz (b : UInt8) : byB (bz b) = b := by simp [byB, bz]
theorem bz_byB {z : Int} (h : 0 ≤ z ∧ z ≤ 255) : bz (byB z) = z := by
  unfold bz byB
  have : (UInt8.ofNat z.toNat).toNat = z.toNat := by simp [UInt8.toNat_ofNat']; omega
  rw [this]
  omega
theorem map_bz_byB {zs : List Int} (h : ∀ z ∈ zs, 0 ≤ z ∧ z ≤ 255) : (zs.map byB).map bz = zs := by
  induction zs with
  | nil => rfl
  | cons z r ih =>
    simp only [List.map_cons, bz_byB (h z (by simp))]
    rw [ih (fun y hy => h y (by simp [hy]))]
theorem map_byB_bz (l : List UInt8) : (l.map bz).map byB = l := by
  induction l with
  | nil => rfl
  | cons b r ih => simp only [List.map_cons, byB_bz, ih]

/-- What stands in a text behind the number Id, and what is left of it. -/
def rdBody (i : Nat) : List UInt8 → Option (EvV × List UInt8)
  | k :: s :: u :: m :: r =>
    match rdV r with
    | none => none
    | some (n, r1) =>
      if n ≤ r1.length then
        match rdS (r1.drop n) with
        | none => none
        | some (x, r2) => some (⟨i, bz k, bz s, bz u, bz m, (r1.take n).map bz, x, [], 0⟩, r2)
      else none
  | _ => none

theorem rdBody_some {i : Nat} {l r : List UInt8} {e : EvV} (h : rdBody i l = some (e, r)) : l = evBody e ++ r ∧ e.id = i ∧ e.prev = [] ∧ e.depth = 0 := by
  unfold rdBody at h
  split at h
  · rename_i k s u m q
    split at h
    · cases h
    · rename_i n r1 hv
      split at h
      · rename_i hn
        split at h
        · cases h
        · rename_i x r2 hs
          cases h
          obtain ⟨e1, -⟩ := rdV_some hv
          obtain ⟨e2, -⟩ := rdS_some hs
          have hl : (r1.take n).length = n := by rw [List.length_take]; omega
          refine ⟨?_, rfl, rfl, rfl⟩
          unfold evBody
          simp only [byB_bz, List.length_map, hl, map_byB_bz, List.cons_append, List.append_assoc]
          rw [← e2, List.take_append_drop, ← e1]
      · cases h
  · cases h

theorem rdBody_text {e : EvV} (he : EvIn e) (r : List UInt8) : rdBody e.id.toNat (evBody e ++ r) = some ({ e with prev := [], depth := 0 }, r) := by
  unfold evBody rdBody
  simp only [List.cons_append, List.append_assoc]
  rw [rdV_var _ (by have := he.many; omega)]
  simp only
  have hl : e.levels.length ≤ (e.levels.map byB ++ (shortB e.text ++ r)).length := by simp
  rw [if_pos hl]
  have e1 : (e.levels.map byB ++ (shortB e.text ++ r)).drop e.levels.length = shortB e.text ++ r := by
    rw [List.drop_append_of_le_length (by simp)]
    simp
  have e2 : (e.levels.map byB ++ (shortB e.text ++ r)).take e.levels.length = e.levels.map byB := by
    rw [List.take_append_of_le_length (by simp), List.take_of_length_le (by simp)]
  rw [e1, e2, rdS_short _ (by have := he.text; omega)]
  simp only
  have k1 := he.kind
  have k2 := he.sender
  have k3 := he.user
  have k4 := he.member
  have k5 := he.id
  rw [map_bz_byB (fun z hz => by have := he.levels z hz; omega), bz_byB (by omega), bz_byB (by omega), bz_byB (by omega), bz_byB (by omega), show ((e.id.toNat : Nat) : Int) = e.id by omega]

/-- The event of a text, right or not, and what is left. -/
def rdEvB (l : List UInt8) : Option (EvV × List UInt8) :=
  match rdV l with
  | none => none
  | some (i, r1) =>
    match rdBody i r1 with
    | none => none
    | some (e, r2) =>
      match rdV r2 with
      | none => none
      | some (n, r3) =>
        match rdVs n r3 with
        | none => none
        | some (ps, r4) =>
          match rdV r4 with
          | none => none
          | some (d, r5) => some ({ e with prev := ps, depth := d }, r5)

theorem rdEvB_some {l r : List UInt8} {e : EvV} (h : rdEvB l = some (e, r)) : l = evB e ++ r := by
  unfold rdEvB at h
  split at h
  · cases h
  · rename_i i r1 h1
    split at h
    · cases h
    · rename_i e0 r2 h2
      split at h
      · cases h
      · rename_i n r3 h3
        split at h
        · cases h
        · rename_i ps r4 h4
          split at h
          · cases h
          · rename_i d r5 h5
            cases h
            obtain ⟨a1, -⟩ := rdV_some h1
            obtain ⟨a2, a2i, -, -⟩ := rdBody_some h2
            obtain ⟨a3, -⟩ := rdV_some h3
            obtain ⟨a4, a4n⟩ := rdVs_some h4
            obtain ⟨a5, -⟩ := rdV_some h5
            rw [a1, a2, a3, a4, a5]
            unfold evB
            simp only [varZ, a2i, a4n, Int.toNat_natCast, List.append_assoc]
            rfl

theorem rdEvB_text {e : EvV} (he : EvIn e) (r : List UInt8) : rdEvB (evB e ++ r) = some (e, r) := by
  have k1 := he.id
  have k2 := he.prevs
  have k3 := he.depth
  unfold evB rdEvB
  simp only [List.append_assoc]
  rw [show varZ e.id = varB e.id.toNat from rfl, rdV_var _ (by omega)]
  simp only
  rw [rdBody_text he]
  simp only
  rw [rdV_var _ (by omega)]
  simp only
  rw [rdVs_text e.prev _ (fun z hz => by have := he.prev z hz; omega)]
  simp only
  rw [show varZ e.depth = varB e.depth.toNat from rfl, rdV_var _ (by omega)]
  simp only [Option.some.injEq, Prod.mk.injEq, and_true]
  rw [show ((e.depth.toNat : Nat) : Int) = e.depth by omega]

def evText (e : EvV) : Option (List UInt8) := if evOk e = true then some (evB e) else none

/-- The right event of a text. -/
def rdEvent (l : List UInt8) : Option EvV :=
  match rdEvB l with
  | none => none
  | some (e, r) => if r = [] ∧ evOk e = true then some e else none

theorem rdEvent_iff {l : List UInt8} {e : EvV} : rdEvent l = some e ↔ evText e = some l := by
  constructor
  · intro h
    unfold rdEvent at h
    split at h
    · cases h
    · rename_i e' r hr
      split at h
      · rename_i hc
        cases h
        have := rdEvB_some hr
        rw [hc.1, List.append_nil] at this
        unfold evText
        rw [if_pos hc.2, this]
      · cases h
  · intro h
    unfold evText at h
    split at h
    · rename_i hc
      cases h
      have := rdEvB_text (evOk_in hc) []
      rw [List.append_nil] at this
      unfold rdEvent
      rw [this]
      simp [hc]
    · cases h

/-- No right event has this text: then none is read. -/
theorem rdEvent_none {l : List UInt8} (h : ∀ e, evOk e = true → evB e ≠ l) : rdEvent l = none := by
  cases hr : rdEvent l with
  | none => rfl
  | some e =>
    have := rdEvent_iff.1 hr
    unfold evText at this
    split at this
    · rename_i hc
      cases this
      exact absurd rfl (h e hc)
    · cases this

/-- What of the state an event tells. -/
def keyOf (e : EvV) : Int :=
  if e.kind = 1 then 1 else if e.kind = 3 then 2 else if e.kind = 4 then 3 else if e.kind = 2 ∧ inR e.user 1 5 = true then 10 + e.user else 0

end Go.Proofs.YtckkfjmjcknjdaaGreatDoor.P12
