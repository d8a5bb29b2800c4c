/-
  Walks and mathematics of Plain2, Event1, State1, Ids1.
-/
import Derived.Lib.ItoaNum
import Derived.Lib.ItoaMem
import Derived.Lib.ItoaLen
import Derived.Test.YthieilmjbefamaaQItemsArg
import Derived.Maps.OwnSet
namespace Go.Proofs.Ythieilmjbefamaa.P11
end Go.Proofs.Ythieilmjbefamaa.P11
namespace Go.Proofs.Ythieilmjbefamaa.P3
end Go.Proofs.Ythieilmjbefamaa.P3
namespace Go.Proofs.Ythieilmjbefamaa.P9
end Go.Proofs.Ythieilmjbefamaa.P9
namespace Go.Proofs.Ythieilmjbefamaa.P1
open Go

def DecRel (N m : Nat) (t : List UInt8) : Prop := (m = 0 → Lib.decDigits N = t) ∧ (m ≠ 0 → Lib.decDigits N = Lib.decDigits m ++ t)

theorem DecRel.length {N m : Nat} {t : List UInt8} (h : DecRel N m t) : t.length ≤ (Lib.decDigits N).length := by
  by_cases e : m = 0
  · rw [h.1 e]; exact Nat.le_refl _
  · rw [h.2 e]; simp

end Go.Proofs.Ythieilmjbefamaa.P1

namespace Go.Proofs.Ythieilmjbefamaa.P12
open P1 P3 P9 P11
set_option linter.unusedVariables false

structure EvV where
  id : Int
  kind : Int
  sender : Int
  user : Int
  member : Int
  levels : List Int
  text : List UInt8
  prev : List Int
  depth : Int
deriving DecidableEq

def inR (a lo hi : Int) : Bool := decide (lo ≤ a) && decide (a ≤ hi)
theorem inR_iff {a lo hi : Int} : inR a lo hi = true ↔ lo ≤ a ∧ a ≤ hi := by simp [inR]

structure EvIn (e : EvV) : Prop where
  id : 1 ≤ e.id ∧ e.id ≤ 1000000
  kind : 1 ≤ e.kind ∧ e.kind ≤ 5
  sender : 1 ≤ e.sender ∧ e.sender ≤ 5
  user : 0 ≤ e.user ∧ e.user ≤ 5
  member : 0 ≤ e.member ∧ e.member ≤ 3
  levels : ∀ z ∈ e.levels, 0 ≤ z ∧ z ≤ 100
  many : e.levels.length ≤ 5
  text : e.text.length ≤ 24
  prev : ∀ z ∈ e.prev, 1 ≤ z ∧ z ≤ 1000000
  prevs : e.prev.length ≤ 3
  depth : 0 ≤ e.depth ∧ e.depth ≤ 1000000

def bz (b : UInt8) : Int := (b.toNat : Int)

def keyOf (e : EvV) : Int :=
  if e.kind = 1 then 1 else if e.kind = 3 then 2 else if e.kind = 4 then 3 else if e.kind = 2 ∧ inR e.user 1 5 = true then 10 + e.user else 0

end Go.Proofs.Ythieilmjbefamaa.P12

namespace Go.Proofs.Ythieilmjbefamaa.P14
open P1 P3 P9 P11 P12
set_option linter.unusedVariables false

def evFind : List EvV → Int → Option EvV
  | [], _ => none
  | e :: r, i => if e.id = i then some e else evFind r i

end Go.Proofs.Ythieilmjbefamaa.P14

namespace Go.Proofs.Ythieilmjbefamaa
open Go.RowKit P14 K
set_option linter.unusedVariables false

def stFind : List (Int × Int) → Int → Option Int
  | [], _ => none
  | x :: r, k => if x.1 = k then some x.2 else stFind r k

def updI (F : Int → Option Int) (k : Int) (v : Option Int) : Int → Option Int := fun x => if x = k then v else F x
theorem updI_same (F : Int → Option Int) (k : Int) (v : Option Int) : updI F k v k = v := if_pos rfl
theorem updI_other (F : Int → Option Int) {k x : Int} (v : Option Int) (h : x ≠ k) : updI F k v x = F x := if_neg h

abbrev numD (i : Int) : DataW Unit := .lit (.int .i64 i)

structure IdTab (w : World) (b : Nat) (F : Int → Option Int) (m : Nat) (D : DataW Unit) : Prop where
  own : w.ownsMap Try.prog 3 (plainElem Try.prog 3) b m D
  size : Maps.size D = m
  no : ∀ k, F k = none → Maps.has D (.int .i64 k) = false
  yes : ∀ k i, F k = some i → Maps.has D (.int .i64 k) = true ∧ D.atKey (.int .i64 k) (numD 0) = numD i
  wide : ∀ k i, F k = some i → (Lit.int .i64 k).wf = true ∧ (Lit.int .i64 i).wf = true

theorem ids_tight {w : World} {b n : Nat} {D : DataW Unit} (h : w.ownsMap Try.prog 3 (plainElem Try.prog 3) b n D) : w.ownsMap Try.prog 3 (plainElem Try.prog 3) b (Maps.size D) D := by
  obtain ⟨es, clock, hb, F, hs, rfl⟩ := h
  exact ⟨es, clock, hb, F, by simp [Maps.size, length_sorted], rfl⟩

variable {w w' : World} {b m : Nat} {F : Int → Option Int} {D : DataW Unit}

theorem IdTab.kept (h : IdTab w b F m D) {row : Option Nat} (hg : w.grownBy w' row) (hr : some b ≠ row) : IdTab w' b F m D :=
  ⟨h.own.kept hg hr, h.size, h.no, h.yes, h.wide⟩

theorem IdTab.below (h : IdTab w b F m D) (hb : Below w.heap.size w w') : IdTab w' b F m D := h.kept (row := none) (grown_below hb) (fun e => by cases e)

theorem IdTab.lt (h : IdTab w b F m D) : b < w.heap.size := h.own.lt

theorem isKeyI (k : Int) : WideAt.IsKeyLit (.int .i64 k) := by simp [WideAt.IsKeyLit]
theorem keyI_ne {x y : Int} (h : x ≠ y) : (Lit.int .i64 x) ≠ .int .i64 y := fun e => h (by cases e; rfl)
theorem keyI {k : Int} (hk : (Lit.int .i64 k).wf = true) : keyOf Try.prog 3 (.int .i64 k) = some (.int .i64 k) := Maps.keyOf_int_mk Try.underlying3 hk
theorem wf_zero : (Lit.int .i64 0).wf = true := by decide

theorem IdTab.store (h : IdTab w b F m D) {k i : Int} (hk : (Lit.int .i64 k).wf = true) (hi : (Lit.int .i64 i).wf = true) {n : Nat} (ho : w'.ownsMap Try.prog 3 (plainElem Try.prog 3) b n (D.put (.int .i64 k) (numD i))) :
    IdTab w' b (updI F k (some i)) (if (F k).isSome then m else m + 1) (D.put (.int .i64 k) (numD i)) := by
  have hD := h.own.isMap
  have hT := h.own.tidy (Maps.int_keyed Try.underlying3)
  have hsz : Maps.size (D.put (.int .i64 k) (numD i)) = if (F k).isSome then m else m + 1 := by
    rw [Maps.size_put hT, h.size]
    cases hF : F k with
    | none => rw [h.no k hF]; rfl
    | some f0 => rw [(h.yes k f0 hF).1]; rfl
  refine ⟨?_, hsz, fun x hx => ?_, fun x j hx => ?_, fun x j hx => ?_⟩
  · rw [← hsz]; exact ids_tight ho
  · by_cases e : x = k
    · subst e; rw [updI_same] at hx; cases hx
    · rw [updI_other _ _ e] at hx
      rw [Maps.has_put_other (keyI_ne e)]
      exact h.no x hx
  · by_cases e : x = k
    · subst e
      rw [updI_same] at hx
      cases hx
      rw [Maps.has_put_same hD (isKeyI x), Maps.atKey_put_same hD (isKeyI x)]
      exact ⟨rfl, rfl⟩
    · rw [updI_other _ _ e] at hx
      rw [Maps.has_put_other (keyI_ne e), Maps.atKey_put_other (keyI_ne e)]
      exact h.yes x j hx
  · by_cases e : x = k
    · subst e
      rw [updI_same] at hx
      cases hx
      exact ⟨hk, hi⟩
    · rw [updI_other _ _ e] at hx
      exact h.wide x j hx

end Go.Proofs.Ythieilmjbefamaa
