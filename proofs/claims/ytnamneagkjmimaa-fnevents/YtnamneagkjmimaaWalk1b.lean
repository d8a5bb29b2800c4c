/-
  Walks of chapter 1: ReadVar, of the specification and of the program.
-/
import Derived.Test.YtnamneagkjmimaaWalk1a
import Derived.Deep.RegionWith
namespace Go.Proofs.Ytnamneagkjmimaa
open Go.RowKit P1 K
set_option linter.unusedVariables false

/-- The results of ReadVar as values. -/
def rvVal (a : Nat) : Option (Nat × Nat) → Value
  | none => .tuple #[.int .i64 0, .int .i64 0, .bool false]
  | some (v, c) => .tuple #[.int .i64 v, .int .i64 (a + c : Nat), .bool true]

/-- What the loops of ReadVar carry. -/
def RdRel (s : ByteArray) (a : Nat) (n sc p : Nat) : Prop :=
  ∃ (f : Nat) (pre : List UInt8), p = a + pre.length ∧ p ≤ s.size ∧ pre.length + f = 5 ∧ n = rawV pre ∧ sc = 128 ^ pre.length ∧ pre = ((bl s).drop a).take pre.length ∧ (∀ c ∈ pre, 128 ≤ c.toNat) ∧
    rdGo f pre ((bl s).drop p) = rdGo 5 [] ((bl s).drop a)

theorem RdRel.bounds {s : ByteArray} {a n sc p : Nat} (h : RdRel s a n sc p) : a ≤ p ∧ p ≤ s.size ∧ p ≤ a + 5 ∧ n < 34359738368 ∧ sc ≤ 34359738368 ∧ (p < a + 5 → sc ≤ 268435456 ∧ n < 268435456) ∧ (p = a + 5 → sc = 34359738368) ∧ 1 ≤ sc ∧ (p = a → n = 0 ∧ sc = 1) := by
  obtain ⟨f, pre, rfl, h1, h2, rfl, rfl, _⟩ := h
  have h3 := rawV_lt pre
  rcases (show pre.length = 0 ∨ pre.length = 1 ∨ pre.length = 2 ∨ pre.length = 3 ∨ pre.length = 4 ∨ pre.length = 5 by omega) with e | e | e | e | e | e <;> (rw [e] at h3 ⊢; refine ⟨by omega, by omega, by omega, by omega, by omega, fun _ => ⟨by omega, by omega⟩, fun _ => by omega, by omega, fun _ => ⟨by omega, by omega⟩⟩)

theorem RdRel.start (s : ByteArray) (a : Nat) (ha : a ≤ s.size) : RdRel s a 0 1 a :=
  ⟨5, [], rfl, ha, rfl, rfl, rfl, by simp, by simp, rfl⟩

theorem RdRel.on {s : ByteArray} {a n sc p : Nat} (h : RdRel s a n sc p) (hp : p < s.size) (h5 : p < a + 5) (hb : 128 ≤ s[p].toNat) : RdRel s a (n + (s[p].toNat - 128) * sc) (sc * 128) (p + 1) := by
  obtain ⟨f, pre, rfl, h1, h2, rfl, rfl, h3, h4, h6⟩ := h
  cases f with
  | zero => omega
  | succ f =>
    refine ⟨f, pre ++ [s[a + pre.length]], by simp; omega, by omega, by simp; omega, by rw [rawV_snoc], by simp [Nat.pow_succ], ?_, ?_, ?_⟩
    · rw [List.length_append, List.length_singleton, List.take_succ_eq_append_getElem (by rw [List.length_drop, bl_length]; omega), ← h3]
      simp
      rfl
    · intro c hc
      rcases List.mem_append.1 hc with hc | hc
      · exact h4 c hc
      · simp at hc; subst hc; exact hb
    · rw [← h6, bl_drop s _ hp, rdGo_on _ _ _ _ (by omega)]

theorem RdRel.yes {s : ByteArray} {a n sc p : Nat} (h : RdRel s a n sc p) (hp : p < s.size) (h5 : p < a + 5) (hb : s[p].toNat < 128) (h0 : p = a ∨ s[p].toNat ≠ 0) (hm : n + s[p].toNat * sc ≤ 1000000000) :
    rdGo 5 [] ((bl s).drop a) = some (n + s[p].toNat * sc, p + 1 - a) ∧ varB (n + s[p].toNat * sc) = ((bl s).drop a).take (p + 1 - a) := by
  obtain ⟨f, pre, rfl, h1, h2, rfl, rfl, h3, h4, h6⟩ := h
  have hne : pre = [] ∨ s[a + pre.length].toNat ≠ 0 := by
    rcases h0 with h0 | h0
    · left; exact List.eq_nil_of_length_eq_zero (by omega)
    · right; exact h0
  have e1 : a + pre.length + 1 - a = pre.length + 1 := by omega
  cases f with
  | zero => omega
  | succ f =>
    constructor
    · rw [← h6, bl_drop s _ hp, rdGo_yes _ _ _ _ hb hne hm, e1]
    · unfold varB
      rw [varF_raw pre _ hb h4 hne 9 (by omega), e1, List.take_succ_eq_append_getElem (by rw [List.length_drop, bl_length]; omega), ← h3]
      simp
      rfl

theorem RdRel.long {s : ByteArray} {a n sc p : Nat} (h : RdRel s a n sc p) (hp : p < s.size) (h5 : p < a + 5) (hb : s[p].toNat = 0) (h0 : a < p) :
    rdGo 5 [] ((bl s).drop a) = none ∧ varB (n + s[p].toNat * sc) ≠ ((bl s).drop a).take (p + 1 - a) := by
  obtain ⟨f, pre, rfl, h1, h2, rfl, rfl, h3, h4, h6⟩ := h
  have hne : pre ≠ [] := by intro h; subst h; simp at h0
  have e1 : a + pre.length + 1 - a = pre.length + 1 := by omega
  cases f with
  | zero => omega
  | succ f =>
    constructor
    · rw [← h6, bl_drop s _ hp, rdGo_long _ _ _ _ hb hne]
    · rw [e1, List.take_succ_eq_append_getElem (by rw [List.length_drop, bl_length]; omega), ← h3]
      have := varB_longer pre s[a + pre.length] hb hne
      simp only [List.getElem_drop]
      exact this

theorem RdRel.great {s : ByteArray} {a n sc p : Nat} (h : RdRel s a n sc p) (hp : p < s.size) (h5 : p < a + 5) (hb : s[p].toNat < 128) (hm : 1000000000 < n + s[p].toNat * sc) :
    rdGo 5 [] ((bl s).drop a) = none := by
  obtain ⟨f, pre, rfl, h1, h2, rfl, rfl, h3, h4, h6⟩ := h
  cases f with
  | zero => omega
  | succ f => rw [← h6, bl_drop s _ hp, rdGo_great _ _ _ _ hb hm]

theorem RdRel.out {s : ByteArray} {a n sc p : Nat} (h : RdRel s a n sc p) (hp : s.size ≤ p ∨ a + 5 ≤ p) : rdGo 5 [] ((bl s).drop a) = none := by
  obtain ⟨f, pre, rfl, h1, h2, rfl, rfl, h3, h4, h6⟩ := h
  rcases hp with hp | hp
  · rw [← h6, List.drop_eq_nil_of_le (by rw [bl_length]; exact hp), rdGo_nil]
  · obtain rfl : f = 0 := by omega
    rw [← h6]; rfl

theorem ret_rv_no {a : Nat} {r : Option (Nat × Nat)} (h : r = none) : Ending.returned (.tuple #[.int .i64 0, .int .i64 0, .bool false]) = .returned (rvVal a r) := by rw [h]; rfl

theorem ret_rv_yes {a v c : Nat} {r : Option (Nat × Nat)} {x y : Int} (h : r = some (v, c)) (hx : x = (v : Int)) (hy : y = ((a + c : Nat) : Int)) :
    Ending.returned (.tuple #[.int .i64 x, .int .i64 y, .bool true]) = .returned (rvVal a r) := by rw [h, hx, hy]; rfl

end Go.Proofs.Ytnamneagkjmimaa
