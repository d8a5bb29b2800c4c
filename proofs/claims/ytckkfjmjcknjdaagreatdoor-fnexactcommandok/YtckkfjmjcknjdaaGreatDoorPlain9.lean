/-
  Plain mathematics of chapter 5: confs and entries, as lists of numbers and of bytes; nothing of the program.
-/
import Derived.Test.YtckkfjmjcknjdaaGreatDoorPlain4
namespace Go.Proofs.YtckkfjmjcknjdaaGreatDoor.P9
open P1

/-- Numbers in lo .. hi, each greater than the one ahead of it. -/
def after : Option Int → Int → Bool
  | none, _ => true
  | some y, z => decide (y < z)

def riseF (lo hi : Int) : Option Int → List Int → Bool
  | _, [] => true
  | p, z :: r => (decide (lo ≤ z) && decide (z ≤ hi) && after p z) && riseF lo hi (some z) r

/-- The number ahead of place j. -/
def pv (zs : List Int) : Nat → Option Int
  | 0 => none
  | j + 1 => zs[j]?

def confOk (zs : List Int) : Bool := decide (1 ≤ zs.length ∧ zs.length ≤ 4) && riseF 1 4 none zs

theorem riseF_at {lo hi : Int} {zs : List Int} {j : Nat} {z : Int} (h : zs[j]? = some z) : riseF lo hi (pv zs j) (zs.drop j) = ((decide (lo ≤ z) && decide (z ≤ hi) && after (pv zs j) z) && riseF lo hi (pv zs (j + 1)) (zs.drop (j + 1))) := by
  obtain ⟨hj, he⟩ := List.getElem?_eq_some_iff.1 h
  rw [List.drop_eq_getElem_cons hj, he]
  simp only [riseF, pv, h]

theorem riseF_mem {lo hi : Int} : ∀ (zs : List Int) (p : Option Int), riseF lo hi p zs = true → ∀ z ∈ zs, lo ≤ z ∧ z ≤ hi
  | y :: r, p, h, z, hz => by
    simp only [riseF, Bool.and_eq_true, decide_eq_true_eq] at h
    rcases List.mem_cons.1 hz with rfl | hz
    · exact ⟨h.1.1.1, h.1.1.2⟩
    · exact riseF_mem r _ h.2 z hz

theorem confOk_mem {zs : List Int} (h : confOk zs = true) : ∀ z ∈ zs, 1 ≤ z ∧ z ≤ 4 := by
  unfold confOk at h
  simp only [Bool.and_eq_true] at h
  exact riseF_mem zs none h.2

theorem confOk_len {zs : List Int} (h : confOk zs = true) : 1 ≤ zs.length ∧ zs.length ≤ 4 := by
  unfold confOk at h
  simp only [Bool.and_eq_true, decide_eq_true_eq] at h
  exact h.1

theorem confOk_short {zs : List Int} (h : ¬ (1 ≤ zs.length ∧ zs.length ≤ 4)) : confOk zs = false := by
  unfold confOk
  simp [h]

theorem confOk_mid {zs : List Int} (h : 1 ≤ zs.length ∧ zs.length ≤ 4) : confOk zs = riseF 1 4 none zs := by
  unfold confOk
  simp [h]

/-- A conf as bytes, and back. -/
def confB (zs : List Int) : List UInt8 := zs.map fun z => UInt8.ofNat z.toNat
def confZ (l : List UInt8) : List Int := l.map fun b => (b.toNat : Int)

theorem confB_snoc (zs : List Int) (z : Int) : confB (zs ++ [z]) = confB zs ++ [UInt8.ofNat z.toNat] := by simp [confB]
theorem confZ_snoc (l : List UInt8) (b : UInt8) : confZ (l ++ [b]) = confZ l ++ [(b.toNat : Int)] := by simp [confZ]
theorem confB_length (zs : List Int) : (confB zs).length = zs.length := by simp [confB]
theorem confZ_length (l : List UInt8) : (confZ l).length = l.length := by simp [confZ]
theorem confB_confZ (l : List UInt8) : confB (confZ l) = l := by
  induction l with
  | nil => rfl
  | cons b l ih =>
    simp only [confB, confZ, List.map_cons, List.map_map] at ih ⊢
    rw [ih]
    simp
theorem confZ_confB {zs : List Int} (h : ∀ z ∈ zs, 1 ≤ z ∧ z ≤ 4) : confZ (confB zs) = zs := by
  induction zs with
  | nil => rfl
  | cons z l ih =>
    have h1 := h z (by simp)
    have h2 := ih (fun y hy => h y (by simp [hy]))
    simp only [confB, confZ, List.map_cons] at h2 ⊢
    rw [h2]
    have : (UInt8.ofNat z.toNat).toNat = z.toNat := by simp [UInt8.toNat_ofNat']; omega
    rw [this]
    congr 1
    omega

/-- Is this a right content of an entry of a kind? -/
def contOk (k : Int) (l : List UInt8) : Bool :=
  if k = 1 then decide (l.length = 0) else if k = 2 then confOk (confZ l) else if k = 3 then decide (l.length ≤ 120) else false

def termOk (t : Int) : Bool := decide (0 ≤ t) && decide (t ≤ 100000)
def indexOk (i : Int) : Bool := decide (1 ≤ i) && decide (i ≤ 1000000)
def entryOk (t k : Int) (l : List UInt8) : Bool := contOk k l && termOk t

theorem contOk_kind {k : Int} {l : List UInt8} (h : contOk k l = true) : k = 1 ∧ l = [] ∨ k = 2 ∧ confOk (confZ l) = true ∨ k = 3 ∧ l.length ≤ 120 := by
  unfold contOk at h
  split at h
  · left; exact ⟨by assumption, List.eq_nil_of_length_eq_zero (by simpa using h)⟩
  · split at h
    · right; left; exact ⟨by assumption, h⟩
    · split at h
      · right; right; exact ⟨by assumption, by simpa using h⟩
      · cases h

theorem contOk_len {k : Int} {l : List UInt8} (h : contOk k l = true) : l.length ≤ 120 ∧ 1 ≤ k ∧ k ≤ 3 := by
  rcases contOk_kind h with ⟨rfl, rfl⟩ | ⟨rfl, h⟩ | ⟨rfl, h⟩
  · simp
  · have := confOk_len h
    rw [confZ_length] at this
    omega
  · omega

/-- The text of an entry. -/
def entryB (i t k : Nat) (l : List UInt8) : List UInt8 := 69 :: (varB i ++ (varB t ++ (UInt8.ofNat k :: l)))

/-- What is read by ReadVar is written so. -/
theorem rdGo_is : ∀ (f : Nat) (pre r : List UInt8) (v c : Nat), pre.length + f ≤ 9 → (∀ b ∈ pre, 128 ≤ b.toNat) → rdGo f pre r = some (v, c) → varB v = (pre ++ r).take c
  | 0, _, _, _, _, _, _, h => by simp [rdGo] at h
  | _ + 1, _, [], _, _, _, _, h => by simp [rdGo] at h
  | f + 1, pre, b :: r, v, c, hl, hp, h => by
    unfold rdGo at h
    split at h
    · rename_i hb
      split at h
      · rename_i h2
        simp at h
        obtain ⟨rfl, rfl⟩ := h
        unfold varB
        rw [varF_raw pre b hb hp h2.1 9 (by omega)]
        have : pre ++ b :: r = (pre ++ [b]) ++ r := by simp
        rw [this, List.take_append_of_le_length (by simp), List.take_of_length_le (by simp)]
      · cases h
    · rename_i hb
      have := rdGo_is f (pre ++ [b]) r v c (by simp; omega) (fun x hx => by
        rcases List.mem_append.1 hx with hx | hx
        · exact hp x hx
        · simp at hx; subst hx; omega) h
      simpa using this

theorem rdGo_is5 {r : List UInt8} {v c : Nat} (h : rdGo 5 [] r = some (v, c)) : varB v = r.take c := by
  simpa using rdGo_is 5 [] r v c (by simp) (by simp) h

/-- What ReadEntry finds. -/
def rdEntry : List UInt8 → Option (Nat × Nat × Nat × List UInt8)
  | [] => none
  | h :: r =>
    match rdGo 5 [] r with
    | none => none
    | some (i, c1) =>
      match rdGo 5 [] (r.drop c1) with
      | none => none
      | some (t, c2) =>
        match (r.drop c1).drop c2 with
        | [] => none
        | k :: d => if h = 69 ∧ indexOk i = true ∧ entryOk t k.toNat d = true then some (i, t, k.toNat, d) else none

/-- The bytes are those of the entry that is found. -/
theorem parts_of_read {h : UInt8} {r d : List UInt8} {i t c1 c2 : Nat} {k : UInt8} (h1 : rdGo 5 [] r = some (i, c1)) (h2 : rdGo 5 [] (r.drop c1) = some (t, c2)) (h3 : (r.drop c1).drop c2 = k :: d) :
    entryB i t k.toNat d = h :: r ↔ h = 69 := by
  have e1 := rdGo_is5 h1
  have e2 := rdGo_is5 h2
  have : varB i ++ (varB t ++ (UInt8.ofNat k.toNat :: d)) = r := by
    rw [e1, e2]
    have hk : UInt8.ofNat k.toNat = k := by simp
    rw [hk, ← h3, List.take_append_drop, List.take_append_drop]
  unfold entryB
  rw [this]
  constructor
  · intro h; simp at h; exact h.symm
  · rintro rfl; rfl

theorem rdEntry_text {i t k : Nat} {l : List UInt8} (hi : indexOk i = true) (he : entryOk t k l = true) : rdEntry (entryB i t k l) = some (i, t, k, l) := by
  unfold entryB rdEntry
  have hi' := hi
  simp only [indexOk, Bool.and_eq_true, decide_eq_true_eq] at hi'
  have he' := he
  unfold entryOk termOk at he'
  simp only [Bool.and_eq_true, decide_eq_true_eq] at he'
  have hk := contOk_len he'.1
  simp only
  rw [rdGo_varB i (by omega)]
  simp only
  rw [List.drop_left, rdGo_varB t (by omega)]
  simp only
  rw [List.drop_left]
  simp only
  have : (UInt8.ofNat k).toNat = k := by simp [UInt8.toNat_ofNat']; omega
  rw [this, if_pos ⟨trivial, hi, he⟩]

/-- More than half of a conf. -/
def mostOf (conf list : List Int) : Bool := confOk conf && decide (conf.length < 2 * (conf.filter fun z => list.contains z).length)

end Go.Proofs.YtckkfjmjcknjdaaGreatDoor.P9
