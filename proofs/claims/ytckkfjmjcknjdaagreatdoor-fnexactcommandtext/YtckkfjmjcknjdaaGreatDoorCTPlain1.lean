/-
  Walks and mathematics of Plain1, Plain9, Plain11, Event1.
-/
import Derived.Lib.ItoaNum
import Derived.Lib.ItoaMem
import Derived.Lib.ItoaLen
namespace Go.Proofs.YtckkfjmjcknjdaaGreatDoor.P3
end Go.Proofs.YtckkfjmjcknjdaaGreatDoor.P3
namespace Go.Proofs.YtckkfjmjcknjdaaGreatDoor.P1

def varF : Nat → Nat → List UInt8
  | 0, n => [UInt8.ofNat n]
  | f + 1, n => if 127 < n then UInt8.ofNat (n % 128 + 128) :: varF f (n / 128) else [UInt8.ofNat n]

def varB (n : Nat) : List UInt8 := varF 9 n

theorem varF_hi (f n : Nat) (h : 127 < n) : varF (f + 1) n = UInt8.ofNat (n % 128 + 128) :: varF f (n / 128) := by
  simp [varF, h]

theorem varF_lo (f n : Nat) (h : n ≤ 127) : varF f n = [UInt8.ofNat n] := by
  cases f <;> simp [varF]; omega

theorem varF_length (f n : Nat) : (varF f n).length ≤ f + 1 := by
  induction f generalizing n with
  | zero => simp [varF]
  | succ f ih => unfold varF; split <;> simp; exact ih _

theorem varB_length (n : Nat) : (varB n).length ≤ 10 := varF_length 9 n

theorem var_step (f n m : Nat) (xs : List UInt8) (hm : m < 128 ^ (f + 1)) (h : xs ++ varF f m = varB n) (hi : 127 < m) :
    ∃ f', f = f' + 1 ∧ m / 128 < 128 ^ (f' + 1) ∧ (xs ++ [UInt8.ofNat (m % 128 + 128)]) ++ varF f' (m / 128) = varB n := by
  cases f with
  | zero => simp at hm; omega
  | succ f' =>
    refine ⟨f', rfl, ?_, ?_⟩
    · rw [Nat.div_lt_iff_lt_mul (by decide)]
      rw [Nat.pow_succ] at hm
      exact hm
    · rw [varF_hi f' m hi] at h
      simpa using h

theorem var_end (f n m : Nat) (xs : List UInt8) (h : xs ++ varF f m = varB n) (lo : m ≤ 127) : xs ++ [UInt8.ofNat m] = varB n := by
  rw [varF_lo f m lo] at h
  exact h

end Go.Proofs.YtckkfjmjcknjdaaGreatDoor.P1

namespace Go.Proofs.YtckkfjmjcknjdaaGreatDoor.P9
open P1

def after : Option Int → Int → Bool
  | none, _ => true
  | some y, z => decide (y < z)

def pv (zs : List Int) : Nat → Option Int
  | 0 => none
  | j + 1 => zs[j]?

end Go.Proofs.YtckkfjmjcknjdaaGreatDoor.P9

namespace Go.Proofs.YtckkfjmjcknjdaaGreatDoor.P11
open P1 P3 P9

def shortB (l : List UInt8) : List UInt8 := varB l.length ++ l

end Go.Proofs.YtckkfjmjcknjdaaGreatDoor.P11

namespace Go.Proofs.YtckkfjmjcknjdaaGreatDoor.P12
open P1 P3 P9 P11
set_option linter.unusedVariables false

structure EvV where
  id : Int
  kind : Int
  sender : Int
  user : Int
  member : Int
  levels : List Int
  text : List UInt8
  prev : List Int
  depth : Int
deriving DecidableEq

def inR (a lo hi : Int) : Bool := decide (lo ≤ a) && decide (a ≤ hi)

theorem inR_iff {a lo hi : Int} : inR a lo hi = true ↔ lo ≤ a ∧ a ≤ hi := by simp [inR]

def lvOk (zs : List Int) : Bool := zs.all (fun z => inR z 0 100) && decide (zs.length = 5)

def memOk (e : EvV) : Bool := if e.kind = 2 then inR e.user 1 5 && inR e.member 0 3 else decide (e.user = 0) && decide (e.member = 0)

def lvsOk (e : EvV) : Bool := if e.kind = 3 then lvOk e.levels else decide (e.levels = [])

def txOk (e : EvV) : Bool := if e.kind = 4 ∨ e.kind = 5 then decide (e.text.length ≤ 24) else decide (e.text = [])

def bodyOk (e : EvV) : Bool := inR e.kind 1 5 && (inR e.sender 1 5 && (memOk e && (lvsOk e && txOk e)))

def pvOk (id : Int) : Option Int → List Int → Bool
  | _, [] => true
  | p, z :: r => (inR z 1 1000000 && (decide (z ≠ id) && after p z)) && pvOk id (some z) r

def prevOk (e : EvV) : Bool := decide (e.prev.length ≤ 3) && (decide (e.kind = 1 ↔ e.prev = []) && pvOk e.id none e.prev)

def evOk (e : EvV) : Bool := bodyOk e && (inR e.id 1 1000000 && (inR e.depth 0 1000000 && prevOk e))

def byB (n : Int) : UInt8 := UInt8.ofNat n.toNat

def varZ (n : Int) : List UInt8 := varB n.toNat

def evBody (e : EvV) : List UInt8 := byB e.kind :: byB e.sender :: byB e.user :: byB e.member :: (varB e.levels.length ++ (e.levels.map byB ++ shortB e.text))

def evB (e : EvV) : List UInt8 := varZ e.id ++ (evBody e ++ (varB e.prev.length ++ (e.prev.flatMap varZ ++ varZ e.depth)))

theorem pvOk_mem {id : Int} : ∀ (zs : List Int) (p : Option Int), pvOk id p zs = true → ∀ z ∈ zs, 1 ≤ z ∧ z ≤ 1000000
  | y :: r, p, h, z, hz => by
    simp only [pvOk, Bool.and_eq_true, inR_iff] at h
    rcases List.mem_cons.1 hz with rfl | hz
    · exact h.1.1
    · exact pvOk_mem r _ h.2 z hz

theorem lvOk_mem {zs : List Int} (h : lvOk zs = true) : ∀ z ∈ zs, 0 ≤ z ∧ z ≤ 100 := by
  unfold lvOk at h
  simp only [Bool.and_eq_true, List.all_eq_true] at h
  exact fun z hz => inR_iff.1 (h.1 z hz)

theorem lvsOk_mem {e : EvV} (h : lvsOk e = true) : (∀ z ∈ e.levels, 0 ≤ z ∧ z ≤ 100) ∧ e.levels.length ≤ 5 := by
  unfold lvsOk at h
  split at h
  · refine ⟨lvOk_mem h, ?_⟩
    unfold lvOk at h
    simp only [Bool.and_eq_true, decide_eq_true_eq] at h
    omega
  · have h := of_decide_eq_true h
    rw [h]
    simp

theorem txOk_len {e : EvV} (h : txOk e = true) : e.text.length ≤ 24 := by
  unfold txOk at h
  split at h
  · exact of_decide_eq_true h
  · have h := of_decide_eq_true h
    rw [h]
    simp

theorem memOk_in {e : EvV} (h : memOk e = true) : 0 ≤ e.user ∧ e.user ≤ 5 ∧ 0 ≤ e.member ∧ e.member ≤ 3 := by
  unfold memOk at h
  split at h
  · simp only [Bool.and_eq_true, inR_iff] at h
    omega
  · simp only [Bool.and_eq_true, decide_eq_true_eq] at h
    omega

structure EvIn (e : EvV) : Prop where
  id : 1 ≤ e.id ∧ e.id ≤ 1000000
  kind : 1 ≤ e.kind ∧ e.kind ≤ 5
  sender : 1 ≤ e.sender ∧ e.sender ≤ 5
  user : 0 ≤ e.user ∧ e.user ≤ 5
  member : 0 ≤ e.member ∧ e.member ≤ 3
  levels : ∀ z ∈ e.levels, 0 ≤ z ∧ z ≤ 100
  many : e.levels.length ≤ 5
  text : e.text.length ≤ 24
  prev : ∀ z ∈ e.prev, 1 ≤ z ∧ z ≤ 1000000
  prevs : e.prev.length ≤ 3
  depth : 0 ≤ e.depth ∧ e.depth ≤ 1000000

theorem evOk_in {e : EvV} (h : evOk e = true) : EvIn e := by
  unfold evOk bodyOk prevOk at h
  simp only [Bool.and_eq_true, inR_iff, decide_eq_true_eq] at h
  obtain ⟨⟨h1, h2, h3, h4, h5⟩, h6, h7, h8, -, h9⟩ := h
  have hm := memOk_in h3
  exact ⟨h6, h1, h2, ⟨hm.1, hm.2.1⟩, hm.2.2, (lvsOk_mem h4).1, (lvsOk_mem h4).2, txOk_len h5, pvOk_mem _ _ h9, h8, h7⟩

def bz (b : UInt8) : Int := (b.toNat : Int)

theorem bz_byB {z : Int} (h : 0 ≤ z ∧ z ≤ 255) : bz (byB z) = z := by
  unfold bz byB
  have : (UInt8.ofNat z.toNat).toNat = z.toNat := by simp [UInt8.toNat_ofNat']; omega
  rw [this]
  omega

def evText (e : EvV) : Option (List UInt8) := if evOk e = true then some (evB e) else none

end Go.Proofs.YtckkfjmjcknjdaaGreatDoor.P12
