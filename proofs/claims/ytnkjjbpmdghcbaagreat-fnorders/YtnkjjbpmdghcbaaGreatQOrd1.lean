/-
  Walks and mathematics of Ord1, Ord2, Res2, Ord5.
-/
import Derived.Test.YtnkjjbpmdghcbaaGreatQWalk10d
namespace Go.Proofs.YtnkjjbpmdghcbaaGreat.P11
end Go.Proofs.YtnkjjbpmdghcbaaGreat.P11
namespace Go.Proofs.YtnkjjbpmdghcbaaGreat.P3
end Go.Proofs.YtnkjjbpmdghcbaaGreat.P3
namespace Go.Proofs.YtnkjjbpmdghcbaaGreat.P16
open P1 P3 P9 P11 P12 P14 P15
set_option linter.unusedVariables false

abbrev known (es : List EvV) (z : Int) : Prop := (evFind es z).isSome = true

inductive Ahead (es : List EvV) : Int → Int → Prop
 | one {z id : Int} (h : z ∈ (evOf es id).prev) (hz : known es z) : Ahead es z id
 | more {z p id : Int} (h : p ∈ (evOf es id).prev) (hp : known es p) (hz : Ahead es z p) : Ahead es z id

theorem Ahead.trans {es : List EvV} {z p id : Int} (h1 : Ahead es z p) (h2 : Ahead es p id) : Ahead es z id := by
 induction h2 with
 | one h hz => exact .more h hz h1
 | more h hp hz ih => exact .more h hp ih

theorem behOne_mem {es : List EvV} {p : List Int × List Int} {x z : Int} : z ∈ (behOne es p x).1 ↔ z ∈ p.1 ∨ (z = x ∧ known es x) := by
 unfold behOne
 cases hk : (evFind es x).isSome with
 | false => simp [P16.known, hk]
 | true =>
  cases hc : p.1.contains x with
  | true =>
   have hx : x ∈ p.1 := List.contains_iff_mem.1 hc
   simp only [Bool.not_true, Bool.and_false, Bool.false_eq_true, ↓reduceIte]
   exact ⟨.inl, fun h => h.elim id (fun h => by rw [h.1]; exact hx)⟩
  | false =>
   simp [P16.known, hk]

theorem behOne_todo {es : List EvV} {p : List Int × List Int} {x z : Int} (h : z ∈ (behOne es p x).1) : z ∈ p.1 ∨ z ∈ (behOne es p x).2 := by
 unfold behOne at h ⊢
 split
 ·rename_i hc
  rw [if_pos hc] at h
  rcases List.mem_append.1 h with h | h
  ·exact .inl h
  ·exact .inr (List.mem_append.2 (.inr h))
 ·rename_i hc
  rw [if_neg hc] at h
  exact .inl h

theorem behOne_keeps {es : List EvV} {p : List Int × List Int} {x z : Int} (h : z ∈ p.2) : z ∈ (behOne es p x).2 := by
 unfold behOne
 split
 ·exact List.mem_append.2 (.inl h)
 ·exact h

theorem behAll_mem {es : List EvV} : ∀ (zs : List Int) {p : List Int × List Int} {z : Int}, z ∈ (behAll es p zs).1 ↔ z ∈ p.1 ∨ (z ∈ zs ∧ known es z)
 | [], p, z => by simp [behAll]
 | x :: r, p, z => by
  have e : behAll es p (x :: r) = behAll es (behOne es p x) r := rfl
  rw [e, behAll_mem r, behOne_mem]
  constructor
  ·rintro ((h | ⟨h1, h2⟩) | ⟨h1, h2⟩)
   ·exact .inl h
   ·exact .inr ⟨by rw [h1]; exact List.mem_cons_self, by rw [h1]; exact h2⟩
   ·exact .inr ⟨List.mem_cons_of_mem _ h1, h2⟩
  ·rintro (h | ⟨h1, h2⟩)
   ·exact .inl (.inl h)
   ·rcases List.mem_cons.1 h1 with h1 | h1
    ·exact .inl (.inr ⟨h1, by rw [← h1]; exact h2⟩)
    ·exact .inr ⟨h1, h2⟩

theorem behAll_keeps {es : List EvV} : ∀ (zs : List Int) {p : List Int × List Int} {z : Int}, z ∈ p.2 → z ∈ (behAll es p zs).2
 | [], p, z, h => h
 | x :: r, p, z, h => behAll_keeps r (p := behOne es p x) (behOne_keeps h)

theorem behAll_todo {es : List EvV} : ∀ (zs : List Int) {p : List Int × List Int} {z : Int}, z ∈ (behAll es p zs).1 → z ∈ p.1 ∨ z ∈ (behAll es p zs).2
 | [], p, z, h => .inl h
 | x :: r, p, z, h => by
  rcases behAll_todo r (p := behOne es p x) h with h | h
  ·rcases behOne_todo h with h | h
   ·exact .inl h
   ·exact .inr (behAll_keeps r h)
  ·exact .inr h

theorem behAll_from {es : List EvV} : ∀ (zs : List Int) {p : List Int × List Int} {z : Int}, z ∈ (behAll es p zs).2 → z ∈ p.2 ∨ (z ∈ zs ∧ known es z)
 | [], p, z, h => .inl h
 | x :: r, p, z, h => by
  rcases behAll_from r (p := behOne es p x) h with h | ⟨h1, h2⟩
  ·unfold behOne at h
   split at h
   ·rename_i hc
    simp only [Bool.and_eq_true] at hc
    rcases List.mem_append.1 h with h | h
    ·exact .inl h
    ·simp only [List.mem_singleton] at h
     exact .inr ⟨by rw [h]; exact List.mem_cons_self, by rw [h]; exact hc.1⟩
   ·exact .inl h
  ·exact .inr ⟨List.mem_cons_of_mem _ h1, h2⟩

theorem behGo_sound {es : List EvV} {id : Int} : ∀ (f : Nat) {out todo : List Int}, (∀ z ∈ out, Ahead es z id) → (∀ y ∈ todo, y = id ∨ Ahead es y id) → ∀ z ∈ behGo es f out todo, Ahead es z id
 | 0, out, todo, h1, h2, z, hz => h1 z hz
 | f + 1, out, [], h1, h2, z, hz => h1 z hz
 | f + 1, out, h :: t, h1, h2, z, hz => by
  have step : ∀ p ∈ (evOf es h).prev, known es p → Ahead es p id := fun p hp hk => by
   rcases h2 h List.mem_cons_self with q | q
   ·subst q; exact .one hp hk
   ·exact Ahead.trans (.one hp hk) q
  refine behGo_sound f (fun z hz => ?_) (fun y hy => ?_) z hz
  ·rcases (behAll_mem _).1 hz with h3 | ⟨h3, h4⟩
   ·exact h1 z h3
   ·exact step z h3 h4
  ·rcases behAll_from _ hy with h3 | ⟨h3, h4⟩
   ·exact h2 y (List.mem_cons_of_mem _ h3)
   ·exact .inr (step y h3 h4)

theorem behGo_closed {es : List EvV} {id : Int} : ∀ (f : Nat) {out todo : List Int}, BehOk es out → todo.length + es.length ≤ f + out.length → (∀ y, (y = id ∨ y ∈ out) → y ∈ todo ∨ ∀ p ∈ (evOf es y).prev, known es p → p ∈ out) → ∀ y, (y = id ∨ y ∈ behGo es f out todo) → ∀ p ∈ (evOf es y).prev, known es p → p ∈ behGo es f out todo
 | 0, out, todo, hok, hf, hc, y, hy, p, hp, hk => by
  have := hok.len
  have ht : todo = [] := List.eq_nil_of_length_eq_zero (by omega)
  subst ht
  rcases hc y hy with h | h
  ·cases h
  ·exact h p hp hk
 | f + 1, out, [], hok, hf, hc, y, hy, p, hp, hk => by
  rcases hc y hy with h | h
  ·cases h
  ·exact h p hp hk
 | f + 1, out, h :: t, hok, hf, hc, y, hy, p, hp, hk => by
  obtain ⟨h1, h2⟩ := behAll_ok (p := (out, t)) (evOf es h).prev hok
  simp only [List.length_cons] at hf
  simp only at h2
  refine behGo_closed f h1 (by omega) (fun y hy => ?_) y hy p hp hk
  by_cases hyh : y = h
  ·subst hyh
   exact .inr (fun p hp hk => (behAll_mem _).2 (.inr ⟨hp, hk⟩))
  ·have old : (y = id ∨ y ∈ out) → y ∈ (behAll es (out, t) (evOf es h).prev).2 ∨ ∀ p ∈ (evOf es y).prev, known es p → p ∈ (behAll es (out, t) (evOf es h).prev).1 := fun q => by
    rcases hc y q with q | q
    ·rcases List.mem_cons.1 q with q | q
     ·exact absurd q hyh
     ·exact .inl (behAll_keeps _ q)
    ·exact .inr (fun p hp hk => (behAll_mem _).2 (.inl (q p hp hk)))
   rcases hy with hy | hy
   ·exact old (.inl hy)
   ·rcases behAll_todo _ hy with h3 | h3
    ·exact old (.inr h3)
    ·exact .inl h3

theorem behind_iff {es : List EvV} {z id : Int} : z ∈ behind es id ↔ Ahead es z id := by
 constructor
 ·intro h
  exact behGo_sound _ (fun z hz => by cases hz) (fun y hy => .inl (by simpa using hy)) z h
 ·intro h
  have hcl := behGo_closed (es := es) (id := id) (es.length + 2) (out := []) (todo := [id]) ⟨List.nodup_nil, fun z hz => by cases hz⟩ (by simp; omega) (fun y hy => .inl (by
   rcases hy with hy | hy
   ·simp [hy]
   ·cases hy))
  have : ∀ y, Ahead es z y → (y = id ∨ y ∈ behind es id) → z ∈ behind es id := by
   intro y hy
   induction hy with
   | one h hz => exact fun q => hcl _ q _ h hz
   | more h hp hz ih => exact fun q => ih (.inr (hcl _ q _ h hp))
  exact this id h (.inl rfl)

structure Near (es : List EvV) (left : List Int) (id : Int) (seen found open_ : List Int) : Prop where
 nd : found.Nodup
 mem : ∀ x, x ∈ found ↔ x ∈ seen ∧ x ∈ left
 snd : ∀ x, x ∈ seen ∨ x ∈ open_ → known es x → Ahead es x id
 top : ∀ p ∈ (evOf es id).prev, p ∈ seen ∨ p ∈ open_
 cls : ∀ y ∈ seen, y ∉ left → ∀ p ∈ (evOf es y).prev, p ∈ seen ∨ p ∈ open_

theorem Near.start (es : List EvV) (left : List Int) (id : Int) : Near es left id [] [] (evOf es id).prev :=
 ⟨List.nodup_nil, fun x => by simp, fun x hx hk => by
  rcases hx with h | h
  ·cases h
  ·exact .one h hk, fun p hp => .inr hp, fun y hy => by cases hy⟩

section
variable {es : List EvV} {left : List Int} {id x : Int} {seen found op : List Int}

theorem Near.skip (h : Near es left id seen found (op ++ [x])) (hx : x ∈ seen) : Near es left id seen found op := by
 refine ⟨h.nd, h.mem, fun y hy hk => h.snd y (hy.imp (fun q => q) (fun q => List.mem_append.2 (.inl q))) hk, fun p hp => ?_, fun y hy hn p hp => ?_⟩
 ·rcases h.top p hp with q | q
  ·exact .inl q
  ·rcases List.mem_append.1 q with q | q
   ·exact .inr q
   ·simp only [List.mem_singleton] at q; rw [q]; exact .inl hx
 ·rcases h.cls y hy hn p hp with q | q
  ·exact .inl q
  ·rcases List.mem_append.1 q with q | q
   ·exact .inr q
   ·simp only [List.mem_singleton] at q; rw [q]; exact .inl hx

theorem Near.wait (h : Near es left id seen found (op ++ [x])) (hx : x ∉ seen) (hl : x ∈ left) : Near es left id (x :: seen) (found ++ [x]) op := by
 have hf : x ∉ found := fun q => hx ((h.mem x).1 q).1
 have mv : ∀ p, p ∈ seen ∨ p ∈ op ++ [x] → p ∈ x :: seen ∨ p ∈ op := fun p q => by
  rcases q with q | q
  ·exact .inl (List.mem_cons_of_mem _ q)
  ·rcases List.mem_append.1 q with q | q
   ·exact .inr q
   ·simp only [List.mem_singleton] at q; rw [q]; exact .inl List.mem_cons_self
 refine ⟨?_, fun y => ?_, fun y hy hk => ?_, fun p hp => mv p (h.top p hp), fun y hy hn p hp => ?_⟩
 ·rw [List.nodup_append]
  exact ⟨h.nd, by simp, fun a ha b hb => by simp at hb; subst hb; exact fun e => hf (e ▸ ha)⟩
 ·simp only [List.mem_append, h.mem, List.mem_cons, List.not_mem_nil, or_false]
  constructor
  ·rintro (q | q)
   ·exact ⟨.inr q.1, q.2⟩
   ·exact ⟨.inl q, by rw [q]; exact hl⟩
  ·rintro ⟨q | q, q2⟩
   ·exact .inr q
   ·exact .inl ⟨q, q2⟩
 ·refine h.snd y ?_ hk
  rcases hy with q | q
  ·rcases List.mem_cons.1 q with q | q
   ·rw [q]; exact .inr (List.mem_append.2 (.inr (by simp)))
   ·exact .inl q
  ·exact .inr (List.mem_append.2 (.inl q))
 ·rcases List.mem_cons.1 hy with q | q
  ·rw [q] at hn; exact absurd hl hn
  ·exact mv p (h.cls y q hn p hp)

theorem Near.on (h : Near es left id seen found (op ++ [x])) (hx : x ∉ seen) (hl : x ∉ left) : Near es left id (x :: seen) found (op ++ (evOf es x).prev) := by
 have mv : ∀ p, p ∈ seen ∨ p ∈ op ++ [x] → p ∈ x :: seen ∨ p ∈ op ++ (evOf es x).prev := fun p q => by
  rcases q with q | q
  ·exact .inl (List.mem_cons_of_mem _ q)
  ·rcases List.mem_append.1 q with q | q
   ·exact .inr (List.mem_append.2 (.inl q))
   ·simp only [List.mem_singleton] at q; rw [q]; exact .inl List.mem_cons_self
 refine ⟨h.nd, fun y => ?_, fun y hy hk => ?_, fun p hp => mv p (h.top p hp), fun y hy hn p hp => ?_⟩
 ·rw [h.mem, List.mem_cons]
  constructor
  ·exact fun q => ⟨.inr q.1, q.2⟩
  ·rintro ⟨q | q, q2⟩
   ·rw [q] at q2; exact absurd q2 hl
   ·exact ⟨q, q2⟩
 ·have hxx : known es x → Ahead es x id := fun hk => h.snd x (.inr (List.mem_append.2 (.inr (by simp)))) hk
  rcases hy with q | q
  ·rcases List.mem_cons.1 q with q | q
   ·rw [q] at hk ⊢; exact hxx hk
   ·exact h.snd y (.inl q) hk
  ·rcases List.mem_append.1 q with q | q
   ·exact h.snd y (.inr (List.mem_append.2 (.inl q))) hk
   ·have hkx : known es x := by
     unfold evOf at q
     cases hf : evFind es x with
     | none => rw [hf] at q; cases q
     | some e => simp [P16.known, hf]
    exact Ahead.trans (.one q hk) (hxx hkx)
 ·rcases List.mem_cons.1 hy with q | q
  ·rw [q] at hp; exact .inr (List.mem_append.2 (.inr hp))
  ·exact mv p (h.cls y q hn p hp)
end

structure NearOk (es : List EvV) (left : List Int) (id : Int) (near : List Int) : Prop where
 nd : near.Nodup
 sub : ∀ x ∈ near, x ∈ left ∧ Ahead es x id
 all : ∀ z ∈ left, Ahead es z id → ∃ y ∈ near, z = y ∨ Ahead es z y

theorem Near.done {es : List EvV} {left : List Int} {id : Int} {seen found : List Int} (h : Near es left id seen found []) (hk : ∀ x ∈ left, known es x) : NearOk es left id found := by
 refine ⟨h.nd, fun x hx => ?_, fun z hz ha => ?_⟩
 ·have := (h.mem x).1 hx
  exact ⟨this.2, h.snd x (.inl this.1) (hk x this.2)⟩
 ·have go : ∀ y, Ahead es z y → (y = id ∨ (y ∈ seen ∧ y ∉ left)) → ∃ y ∈ found, z = y ∨ Ahead es z y := by
   intro y hy
   have inS : ∀ {y p : Int}, (y = id ∨ (y ∈ seen ∧ y ∉ left)) → p ∈ (evOf es y).prev → p ∈ seen := fun {y p} q hp => by
    rcases q with q | q
    ·rw [q] at hp
     exact (h.top p hp).resolve_right (by simp)
    ·exact (h.cls y q.1 q.2 p hp).resolve_right (by simp)
   induction hy with
   | one hp hk1 => exact fun q => ⟨_, (h.mem _).2 ⟨inS q hp, hz⟩, .inl rfl⟩
   | @more p id' hp hk1 hz1 ih =>
    intro q
    have hs := inS q hp
    by_cases hl : p ∈ left
    ·exact ⟨p, (h.mem p).2 ⟨hs, hl⟩, .inr hz1⟩
    ·exact ih (.inr ⟨hs, hl⟩)
  exact go id ha (.inl rfl)

end Go.Proofs.YtnkjjbpmdghcbaaGreat.P16

namespace Go.Proofs.YtnkjjbpmdghcbaaGreat.P16
open P1 P3 P9 P11 P12 P14 P15
set_option linter.unusedVariables false

structure OutOk (es : List EvV) (left out : List Int) : Prop where
 nd : out.Nodup
 sub : ∀ x ∈ out, x ∈ left
 cl : ∀ y ∈ out, ∀ z ∈ left, Ahead es z y → z ∈ out

theorem OutOk.nil (es : List EvV) (left : List Int) : OutOk es left [] := ⟨List.nodup_nil, fun x hx => (by cases hx), fun y hy => (by cases hy)⟩

theorem ready_iff {es : List EvV} {left out : List Int} {id : Int} : ready (behind es id) left out = true ↔ ∀ z ∈ left, Ahead es z id → z ∈ out := by
 unfold ready
 rw [List.all_eq_true]
 constructor
 ·intro h z hz ha
  have := h z (behind_iff.2 ha)
  simp only [Bool.or_eq_true, Bool.not_eq_true', List.contains_iff_mem] at this
  rcases this with q | q
  ·rw [← List.contains_iff_mem, q] at hz
   cases hz
  ·exact q
 ·intro h z hz
  simp only [Bool.or_eq_true, Bool.not_eq_true', List.contains_iff_mem]
  by_cases hl : z ∈ left
  ·exact .inr (h z hl (behind_iff.1 hz))
  ·refine .inl ?_
   rw [Bool.eq_false_iff]
   exact fun q => hl (List.contains_iff_mem.1 q)

theorem ready_near {es : List EvV} {left out near : List Int} {id : Int} (ho : OutOk es left out) (hn : NearOk es left id near) : ready (behind es id) left out = true ↔ ∀ y ∈ near, y ∈ out := by
 rw [ready_iff]
 constructor
 ·exact fun h y hy => h y (hn.sub y hy).1 (hn.sub y hy).2
 ·intro h z hz ha
  obtain ⟨y, hy, q | q⟩ := hn.all z hz ha
  ·rw [q]; exact h y hy
  ·exact ho.cl y (h y hy) z hz q

def freeL (es : List EvV) (left out : List Int) : List Int := left.filter (fun z => !(out.contains z || !ready (behind es z) left out))

theorem freeL_mem {es : List EvV} {left out : List Int} {z : Int} : z ∈ freeL es left out ↔ z ∈ left ∧ z ∉ out ∧ ready (behind es z) left out = true := by
 unfold freeL
 rw [List.mem_filter]
 simp only [Bool.not_or, Bool.not_not, Bool.and_eq_true, Bool.not_eq_true']
 constructor
 ·rintro ⟨h1, h2, h3⟩
  exact ⟨h1, (fun q => by rw [← List.contains_iff_mem, h2] at q; cases q), h3⟩
 ·rintro ⟨h1, h2, h3⟩
  exact ⟨h1, (by rw [Bool.eq_false_iff]; exact fun q => h2 (List.contains_iff_mem.1 q)), h3⟩

def upd (es : List EvV) (s : St) (b : Option EvV) (z : Int) : Option EvV := match b with
 | none => some (evOf es z)
 | some y => if heavier es s (evOf es z) y then some (evOf es z) else some y

theorem nextOf_fold (es : List EvV) (s : St) (left out : List Int) : ∀ (l : List Int) (b : Option EvV), nextOf es s left out l b = (l.filter (fun z => !(out.contains z || !ready (behind es z) left out))).foldl (upd es s) b
 | [], b => rfl
 | z :: r, b => by
  unfold nextOf
  rw [List.filter_cons]
  cases h : (out.contains z || !ready (behind es z) left out) with
  | true => simp only [↓reduceIte, Bool.not_true, Bool.false_eq_true]; exact nextOf_fold es s left out r b
  | false =>
   simp only [Bool.false_eq_true, ↓reduceIte, Bool.not_false, List.foldl_cons]
   exact nextOf_fold es s left out r _

theorem heavier_asym {es : List EvV} {s : St} {a b : EvV} (h : heavier es s a b = true) : heavier es s b a = false := by
 unfold heavier at h ⊢
 by_cases h1 : heavy a = heavy b
 ·rw [if_pos h1] at h
  rw [if_pos h1.symm]
  by_cases h2 : levOf es s a.sender = levOf es s b.sender
  ·rw [if_pos h2] at h
   rw [if_pos h2.symm]
   by_cases h3 : a.depth = b.depth
   ·rw [if_pos h3] at h
    rw [if_pos h3.symm]
    simp only [decide_eq_true_eq] at h
    simp only [decide_eq_false_iff_not]
    omega
   ·rw [if_neg h3] at h
    rw [if_neg (fun q => h3 q.symm)]
    simp only [decide_eq_true_eq] at h
    simp only [decide_eq_false_iff_not]
    omega
  ·rw [if_neg h2] at h
   rw [if_neg (fun q => h2 q.symm)]
   simp only [decide_eq_true_eq] at h
   simp only [decide_eq_false_iff_not]
   omega
 ·rw [if_neg h1] at h
  rw [if_neg (fun q => h1 q.symm)]
  cases hb : heavy b with
  | false => rfl
  | true => rw [h, hb] at h1; exact absurd rfl h1

theorem heavier_total {es : List EvV} {s : St} {a b : EvV} (hne : a.id ≠ b.id) (h : heavier es s a b = false) : heavier es s b a = true := by
 unfold heavier at h ⊢
 by_cases h1 : heavy a = heavy b
 ·rw [if_pos h1] at h
  rw [if_pos h1.symm]
  by_cases h2 : levOf es s a.sender = levOf es s b.sender
  ·rw [if_pos h2] at h
   rw [if_pos h2.symm]
   by_cases h3 : a.depth = b.depth
   ·rw [if_pos h3] at h
    rw [if_pos h3.symm]
    simp only [decide_eq_false_iff_not] at h
    simp only [decide_eq_true_eq]
    omega
   ·rw [if_neg h3] at h
    rw [if_neg (fun q => h3 q.symm)]
    simp only [decide_eq_false_iff_not] at h
    simp only [decide_eq_true_eq]
    omega
  ·rw [if_neg h2] at h
   rw [if_neg (fun q => h2 q.symm)]
   simp only [decide_eq_false_iff_not] at h
   simp only [decide_eq_true_eq]
   omega
 ·rw [if_neg h1] at h
  rw [if_neg (fun q => h1 q.symm)]
  cases hb : heavy b with
  | true => rfl
  | false => rw [h, hb] at h1; exact absurd rfl h1

theorem fold_best {es : List EvV} {s : St} {t : Int} : ∀ (l : List Int) (b : Option EvV), (∀ y ∈ l, y = t ∨ heavier es s (evOf es t) (evOf es y) = true) → (b = none ∨ ∃ y, b = some (evOf es y) ∧ (y = t ∨ heavier es s (evOf es t) (evOf es y) = true)) → (t ∈ l ∨ b = some (evOf es t)) → l.foldl (upd es s) b = some (evOf es t)
 | [], b, h1, h2, h3 => h3.resolve_left (by simp)
 | z :: r, b, h1, h2, h3 => by
  rw [List.foldl_cons]
  have hz := h1 z List.mem_cons_self
  have hself : heavier es s (evOf es t) (evOf es t) = false := by
   cases h : heavier es s (evOf es t) (evOf es t) with
   | false => rfl
   | true => exact (by have := heavier_asym h; rw [h] at this; cases this)
  refine fold_best r _ (fun y hy => h1 y (List.mem_cons_of_mem _ hy)) ?_ ?_
  ·right
   rcases h2 with rfl | ⟨y, rfl, hy⟩
   ·exact ⟨z, rfl, hz⟩
   ·simp only [upd]
    split
    ·exact ⟨z, rfl, hz⟩
    ·exact ⟨y, rfl, hy⟩
  ·rcases hz with rfl | hz
   ·right
    rcases h2 with rfl | ⟨y, rfl, hy⟩
    ·rfl
    ·rcases hy with rfl | hy
     ·simp [upd, hself]
     ·simp [upd, hy]
   ·rcases h3 with h3 | rfl
    ·rcases List.mem_cons.1 h3 with rfl | h3
     ·rw [hself] at hz; cases hz
     ·exact .inl h3
    ·right
     simp [upd, heavier_asym hz]

theorem evOf_id {es : List EvV} {z : Int} (h : known es z) : (evOf es z).id = z := by
 unfold evOf
 cases hf : evFind es z with
 | none => simp [P16.known, hf] at h
 | some e => exact (evFind_mem hf).2

theorem ordGo_done {es : List EvV} {s : St} {left out : List Int} (f : Nat) (h : freeL es left out = []) : ordGo es s left f out = out := by
 cases f with
 | zero => rfl
 | succ f =>
  unfold ordGo
  rw [nextOf_fold]
  unfold freeL at h
  rw [h]
  simp

theorem ordGo_step {es : List EvV} {s : St} {left out : List Int} {t : Int} (f : Nat) (hk : ∀ x ∈ left, known es x) (ho : OutOk es left out) (ht : t ∈ freeL es left out) (hbest : ∀ y ∈ freeL es left out, y = t ∨ heavier es s (evOf es t) (evOf es y) = true) : ordGo es s left (f + 1) out = ordGo es s left f (out ++ [t]) := by
 obtain ⟨h1, h2, h3⟩ := freeL_mem.1 ht
 have hlen : out.length < left.length := by
  have := nodup_len (l := t :: out) (m := left) (List.nodup_cons.2 ⟨h2, ho.nd⟩) (fun z hz => by
   rcases List.mem_cons.1 hz with q | q
   ·rw [q]; exact h1
   ·exact ho.sub z q)
  simp only [List.length_cons] at this
  omega
 have hn : nextOf es s left out left none = some (evOf es t) := by
  rw [nextOf_fold]
  exact fold_best _ _ hbest (.inl rfl) (.inl ht)
 show (if out.length < left.length then (match nextOf es s left out left none with | none => out | some b => ordGo es s left f (out ++ [b.id])) else out) = _
 rw [if_pos hlen, hn]
 simp only [evOf_id (hk t h1)]

theorem OutOk.next {es : List EvV} {left out : List Int} {t : Int} (ho : OutOk es left out) (ht : t ∈ freeL es left out) : OutOk es left (out ++ [t]) := by
 obtain ⟨h1, h2, h3⟩ := freeL_mem.1 ht
 refine ⟨?_, fun x hx => ?_, fun y hy z hz ha => ?_⟩
 ·rw [List.nodup_append]
  exact ⟨ho.nd, by simp, fun a ha b hb => by simp at hb; subst hb; exact fun e => h2 (e ▸ ha)⟩
 ·rcases List.mem_append.1 hx with q | q
  ·exact ho.sub x q
  ·simp at q; rw [q]; exact h1
 ·rcases List.mem_append.1 hy with q | q
  ·exact List.mem_append.2 (.inl (ho.cl y q z hz ha))
  ·simp at q
   rw [q] at ha
   exact List.mem_append.2 (.inl (ready_iff.1 h3 z hz ha))

def freedL (near : Int → List Int) (left out : List Int) (t : Int) : List Int := (left.filter (fun b => (near b).contains t)).filter (fun b => (near b).all (fun y => (out ++ [t]).contains y))

theorem free_next {es : List EvV} {left out : List Int} {t : Int} {near : Int → List Int} (hnd : left.Nodup) (hn : ∀ b ∈ left, NearOk es left b (near b)) (ho : OutOk es left out) (ht : t ∈ freeL es left out) : (freeL es left (out ++ [t])).Perm ((freeL es left out).erase t ++ freedL near left out t) := by
 have ho' := ho.next ht
 obtain ⟨h1, h2, h3⟩ := freeL_mem.1 ht
 have hfn : (freeL es left out).Nodup := hnd.filter _
 have hdn : (freedL near left out t).Nodup := (hnd.filter _).filter _
 have hfr : ∀ b, b ∈ freedL near left out t ↔ b ∈ left ∧ t ∈ near b ∧ ∀ y ∈ near b, y ∈ out ++ [t] := fun b => by
  unfold freedL
  rw [List.mem_filter, List.mem_filter, List.all_eq_true]
  simp only [List.contains_iff_mem]
  constructor
  ·rintro ⟨⟨q1, q2⟩, q3⟩; exact ⟨q1, q2, q3⟩
  ·rintro ⟨q1, q2, q3⟩; exact ⟨⟨q1, q2⟩, q3⟩
 refine (List.perm_ext_iff_of_nodup (hnd.filter _) ?_).2 (fun b => ?_)
 ·rw [List.nodup_append]
  refine ⟨hfn.erase _, hdn, fun a ha b hb e => ?_⟩
  subst e
  have ha' := (hfn.mem_erase_iff).1 ha
  obtain ⟨q1, q2, q3⟩ := freeL_mem.1 ha'.2
  exact h2 ((ready_near ho (hn a q1)).1 q3 t ((hfr a).1 hb).2.1)
 ·rw [List.mem_append, hfn.mem_erase_iff, hfr]
  constructor
  ·intro hb
   obtain ⟨q1, q2, q3⟩ := freeL_mem.1 hb
   have hall := (ready_near ho' (hn b q1)).1 q3
   by_cases htn : t ∈ near b
   ·exact .inr ⟨q1, htn, hall⟩
   ·refine .inl ⟨fun e => q2 (by rw [e]; exact List.mem_append.2 (.inr (by simp))), freeL_mem.2 ⟨q1, fun q => q2 (List.mem_append.2 (.inl q)), (ready_near ho (hn b q1)).2 (fun y hy => ?_)⟩⟩
    rcases List.mem_append.1 (hall y hy) with q | q
    ·exact q
    ·simp at q; rw [q] at hy; exact absurd hy htn
  ·rintro (⟨q1, q2⟩ | ⟨q1, q2, q3⟩)
   ·obtain ⟨p1, p2, p3⟩ := freeL_mem.1 q2
    refine freeL_mem.2 ⟨p1, fun q => ?_, (ready_near ho' (hn b p1)).2 (fun y hy => List.mem_append.2 (.inl ((ready_near ho (hn b p1)).1 p3 y hy)))⟩
    rcases List.mem_append.1 q with q | q
    ·exact p2 q
    ·simp at q; exact q1 q
   ·refine freeL_mem.2 ⟨q1, fun q => ?_, (ready_near ho' (hn b q1)).2 q3⟩
    rcases List.mem_append.1 q with q | q
    ·exact h2 (ho.cl b q t h1 ((hn b q1).sub t q2).2)
    ·simp at q
     rw [q] at q2
     exact h2 (((ready_near ho (hn t h1)).1 h3) t q2)

def waitN (near : Int → List Int) (out : List Int) (b : Int) : Nat := ((near b).filter (fun y => !out.contains y)).length

theorem waitN_zero {near : Int → List Int} {out : List Int} {b : Int} : waitN near out b = 0 ↔ ∀ y ∈ near b, y ∈ out := by
 unfold waitN
 rw [List.length_eq_zero_iff, List.filter_eq_nil_iff]
 constructor
 ·intro h y hy
  have := h y hy
  simpa using this
 ·intro h y hy
  simpa using h y hy

theorem waitN_next {near : Int → List Int} {out : List Int} {t b : Int} (hnd : (near b).Nodup) (ht : t ∉ out) : waitN near (out ++ [t]) b + (if (near b).contains t then 1 else 0) = waitN near out b := by
 unfold waitN
 generalize near b = l at hnd
 induction l with
 | nil => simp
 | cons y r ih =>
  rw [List.nodup_cons] at hnd
  have ih := ih hnd.2
  by_cases hy : y = t
  ·subst hy
   have hc : r.contains y = false := by rw [Bool.eq_false_iff]; exact fun q => hnd.1 (List.contains_iff_mem.1 q)
   rw [hc] at ih
   have h1 : out.contains y = false := by rw [Bool.eq_false_iff]; exact fun q => ht (List.contains_iff_mem.1 q)
   have h2 : (out ++ [y]).contains y = true := List.contains_iff_mem.2 (List.mem_append.2 (.inr (by simp)))
   rw [List.filter_cons, List.filter_cons, h1, h2]
   simp only [Bool.false_eq_true, ↓reduceIte, Bool.not_true, Bool.not_false, List.length_cons, List.contains_cons, BEq.rfl, Bool.true_or] at ih ⊢
   omega
  ·have hc : (y :: r).contains t = r.contains t := by
    rw [List.contains_cons]
    simp [show (t == y) = false from by simp; exact fun q => hy q.symm]
   have h2 : (out ++ [t]).contains y = out.contains y := by
    rw [Bool.eq_iff_iff, List.contains_iff_mem, List.contains_iff_mem, List.mem_append]
    simp [hy]
   rw [hc, List.filter_cons, List.filter_cons, h2]
   cases out.contains y <;> simp only [Bool.not_true, Bool.not_false, Bool.false_eq_true, ↓reduceIte, List.length_cons] <;> omega

end Go.Proofs.YtnkjjbpmdghcbaaGreat.P16

namespace Go.Proofs.YtnkjjbpmdghcbaaGreat.P15
open P1 P3 P9 P11 P12 P14
set_option linter.unusedVariables false

theorem addGo_sub (x : Int) : ∀ (l : List Int), (addGo x l true).Sublist l
 | [] => by simp [addGo]
 | y :: r => by
  have ih := addGo_sub x r
  by_cases h : y = x
  ·simp only [addGo, h, Bool.not_true, Bool.and_false, Bool.false_eq_true, ↓reduceIte, List.nil_append, Bool.true_or]
   exact ih.cons _
  ·simp only [addGo, h, Bool.not_true, Bool.and_false, Bool.false_eq_true, ↓reduceIte, List.nil_append, Bool.true_or, List.cons_append]
   exact ih.cons_cons _

theorem addGo_up (x : Int) : ∀ (l : List Int), l.Pairwise (· < ·) → (addGo x l false).Pairwise (· < ·)
 | [], _ => by simp [addGo]
 | y :: r, h => by
  rw [List.pairwise_cons] at h
  have h1 := h.2.sublist (addGo_sub x r)
  have h2 := addGo_up x r h.2
  have h3 : ∀ z ∈ addGo x r true, y < z := fun z hz => h.1 z ((addGo_sub x r).mem hz)
  by_cases hxy : x ≤ y
  ·by_cases e : y = x
   ·subst e
    have e1 : addGo y (y :: r) false = y :: addGo y r true := by simp [addGo]
    rw [e1, List.pairwise_cons]
    exact ⟨h3, h1⟩
   ·have e1 : addGo x (y :: r) false = x :: y :: addGo x r true := by simp [addGo, hxy, e]
    rw [e1, List.pairwise_cons, List.pairwise_cons]
    refine ⟨fun z hz => ?_, h3, h1⟩
    rcases List.mem_cons.1 hz with q | q
    ·omega
    ·have := h3 z q
     omega
  ·have e : ¬ y = x := by omega
   have e1 : addGo x (y :: r) false = y :: addGo x r false := by simp [addGo, hxy, e]
   rw [e1, List.pairwise_cons]
   refine ⟨fun z hz => ?_, h2⟩
   rcases (addGo_mem x z r false).1 hz with q | q
   ·exact h.1 z q.1
   ·omega

theorem addI_up {l : List Int} (h : l.Pairwise (· < ·)) (x : Int) : (addI l x).Pairwise (· < ·) := addGo_up x l h

theorem up_ext : ∀ {l m : List Int}, l.Pairwise (· < ·) → m.Pairwise (· < ·) → (∀ z, z ∈ l ↔ z ∈ m) → l = m
 | [], [], _, _, _ => rfl
 | [], b :: m, _, _, h => absurd ((h b).2 List.mem_cons_self) (by simp)
 | a :: l, [], _, _, h => absurd ((h a).1 List.mem_cons_self) (by simp)
 | a :: l, b :: m, hl, hm, h => by
  rw [List.pairwise_cons] at hl hm
  have e : a = b := by
   rcases List.mem_cons.1 ((h a).1 List.mem_cons_self) with q | q
   ·exact q
   ·rcases List.mem_cons.1 ((h b).2 List.mem_cons_self) with p | p
    ·exact p.symm
    ·have := hm.1 a q
     have := hl.1 b p
     omega
  subst e
  congr 1
  refine up_ext hl.2 hm.2 (fun z => ⟨fun q => ?_, fun q => ?_⟩)
  ·rcases List.mem_cons.1 ((h z).1 (List.mem_cons_of_mem _ q)) with p | p
   ·have := hl.1 z q
    omega
   ·exact p
  ·rcases List.mem_cons.1 ((h z).2 (List.mem_cons_of_mem _ q)) with p | p
   ·have := hm.1 z q
    omega
   ·exact p

theorem leftOf_up {es : List EvV} : ∀ (ids : List Int) {l : List Int}, l.Pairwise (· < ·) → (leftOf es ids l).Pairwise (· < ·)
 | [], _, h => h
 | z :: r, l, h => by
  unfold leftOf
  refine leftOf_up r ?_
  split
  ·exact addI_up h z
  ·exact h

theorem leftOf_mem {es : List EvV} {x : Int} : ∀ (ids : List Int) {l : List Int}, x ∈ leftOf es ids l ↔ x ∈ l ∨ (x ∈ ids ∧ (evFind es x).isSome = true)
 | [], l => by simp [leftOf]
 | z :: r, l => by
  unfold leftOf
  rw [leftOf_mem r]
  by_cases h : (evFind es z).isSome = true
  ·rw [if_pos h, addI_mem, List.mem_cons]
   constructor
   ·rintro ((q | q) | q)
    ·exact .inl q
    ·exact .inr ⟨.inl q, by rw [q]; exact h⟩
    ·exact .inr ⟨.inr q.1, q.2⟩
   ·rintro (q | ⟨q | q, q2⟩)
    ·exact .inl (.inl q)
    ·exact .inl (.inr q)
    ·exact .inr ⟨q, q2⟩
  ·rw [if_neg h, List.mem_cons]
   constructor
   ·rintro (q | q)
    ·exact .inl q
    ·exact .inr ⟨.inr q.1, q.2⟩
   ·rintro (q | ⟨q | q, q2⟩)
    ·exact .inl q
    ·rw [q] at q2; exact absurd q2 h
    ·exact .inr ⟨q, q2⟩

theorem left_mem {es : List EvV} {ids : List Int} {x : Int} : x ∈ leftOf es ids [] ↔ x ∈ ids ∧ (evFind es x).isSome = true := by
 rw [leftOf_mem]; simp

theorem left_up (es : List EvV) (ids : List Int) : (leftOf es ids []).Pairwise (· < ·) := leftOf_up ids List.Pairwise.nil

theorem left_nodup (es : List EvV) (ids : List Int) : (leftOf es ids []).Nodup := (left_up es ids).imp (fun h => by omega)

theorem left_len (es : List EvV) (ids : List Int) : (leftOf es ids []).length ≤ es.length := by
 have := nodup_len (left_nodup es ids) (m := es.map (·.id)) (fun z hz => evFind_isSome.1 (left_mem.1 hz).2)
 simpa using this

theorem order_set {es : List EvV} {s : St} {ids ids' : List Int} (h : ∀ z, z ∈ ids ↔ z ∈ ids') : order es s ids = order es s ids' := by
 have e : leftOf es ids [] = leftOf es ids' [] := up_ext (left_up es ids) (left_up es ids') (fun z => by rw [left_mem, left_mem, h])
 unfold order
 rw [e]

section
variable {ss ts : List St}

def resMany (es : List EvV) (ss : List St) : St := (order es (agreed ss) (idsOf ss (clash ss))).foldl (tell es) (agreed ss)

theorem resolve_many (es : List EvV) (h : 2 ≤ ss.length) : resolve es ss = resMany es ss := by
 match ss, h with
 | s :: t :: r, _ => rfl

end

end Go.Proofs.YtnkjjbpmdghcbaaGreat.P15

namespace Go.Proofs.YtnkjjbpmdghcbaaGreat.P16
open P1 P3 P9 P11 P12 P14 P15
set_option linter.unusedVariables false

theorem fold_from {es : List EvV} {s : St} : ∀ (l : List Int) (b : Option EvV), (l.foldl (upd es s) b = b ∧ (b = none → l = [])) ∨ ∃ t ∈ l, l.foldl (upd es s) b = some (evOf es t)
 | [], b => .inl ⟨rfl, fun _ => rfl⟩
 | z :: r, b => by
  rw [List.foldl_cons]
  have h0 : upd es s b z = b ∧ b ≠ none ∨ upd es s b z = some (evOf es z) := by
   cases b with
   | none => exact .inr rfl
   | some y =>
    simp only [upd]
    split
    ·exact .inr rfl
    ·exact .inl ⟨rfl, by simp⟩
  rcases fold_from r (upd es s b z) with ⟨h1, h2⟩ | ⟨t, h1, h2⟩
  ·rcases h0 with ⟨h3, h4⟩ | h3
   ·exact .inl ⟨by rw [h1, h3], fun e => absurd e h4⟩
   ·exact .inr ⟨z, List.mem_cons_self, by rw [h1, h3]⟩
  ·exact .inr ⟨t, List.mem_cons_of_mem _ h1, h2⟩

theorem next_free {es : List EvV} {s : St} {left out : List Int} : (nextOf es s left out left none = none ∧ freeL es left out = []) ∨ ∃ t ∈ freeL es left out, nextOf es s left out left none = some (evOf es t) := by
 rw [nextOf_fold]
 rcases fold_from (es := es) (s := s) (freeL es left out) none with ⟨h1, h2⟩ | ⟨t, h1, h2⟩
 ·exact .inl ⟨h1, h2 rfl⟩
 ·exact .inr ⟨t, h1, h2⟩

def PosOk (es : List EvV) (left out : List Int) : Prop := ∀ i t, out[i]? = some t → ∀ z ∈ left, Ahead es z t → z ∈ out.take i

theorem PosOk.next {es : List EvV} {left out : List Int} {t : Int} (h : PosOk es left out) (ht : t ∈ freeL es left out) : PosOk es left (out ++ [t]) := fun i u hu z hz ha => by
 obtain ⟨h1, h2, h3⟩ := freeL_mem.1 ht
 by_cases hi : i < out.length
 ·rw [List.getElem?_append_left hi] at hu
  have := h i u hu z hz ha
  rw [List.take_append_of_le_length (by omega)]
  exact this
 ·rw [List.getElem?_append_right (by omega)] at hu
  have hi0 : i - out.length = 0 := by
   cases hq : i - out.length with
   | zero => rfl
   | succ n => rw [hq] at hu; simp at hu
  rw [hi0] at hu
  simp only [List.getElem?_cons_zero, Option.some.injEq] at hu
  subst hu
  have e : i = out.length := by omega
  rw [e, List.take_left' rfl]
  exact ready_iff.1 h3 z hz ha

theorem ordGo_inv {es : List EvV} {s : St} {left : List Int} (hk : ∀ x ∈ left, known es x) : ∀ (f : Nat) (out : List Int), OutOk es left out → PosOk es left out → left.length ≤ f + out.length → OutOk es left (ordGo es s left f out) ∧ PosOk es left (ordGo es s left f out) ∧ (freeL es left (ordGo es s left f out) = [] ∨ left.length ≤ (ordGo es s left f out).length)
 | 0, out, h1, h2, h3 => ⟨h1, h2, .inr (by simpa [ordGo] using h3)⟩
 | f + 1, out, h1, h2, h3 => by
  by_cases hlen : out.length < left.length
  ·rcases next_free (es := es) (s := s) (left := left) (out := out) with ⟨q1, q2⟩ | ⟨t, q1, q2⟩
   ·have e : ordGo es s left (f + 1) out = out := by
     show (if out.length < left.length then (match nextOf es s left out left none with | none => out | some b => ordGo es s left f (out ++ [b.id])) else out) = _
     rw [if_pos hlen, q1]
    rw [e]
    exact ⟨h1, h2, .inl q2⟩
   ·have e : ordGo es s left (f + 1) out = ordGo es s left f (out ++ [t]) := by
     show (if out.length < left.length then (match nextOf es s left out left none with | none => out | some b => ordGo es s left f (out ++ [b.id])) else out) = _
     rw [if_pos hlen, q2]
     simp only [evOf_id (hk t (freeL_mem.1 q1).1)]
    rw [e]
    exact ordGo_inv hk f (out ++ [t]) (h1.next q1) (h2.next q1) (by simp; omega)
  ·have e : ordGo es s left (f + 1) out = out := by
    show (if out.length < left.length then (match nextOf es s left out left none with | none => out | some b => ordGo es s left f (out ++ [b.id])) else out) = _
    rw [if_neg hlen]
   rw [e]
   exact ⟨h1, h2, .inr (by omega)⟩

theorem left_known {es : List EvV} {ids : List Int} : ∀ x ∈ P15.leftOf es ids [], known es x := fun x hx => (left_mem.1 hx).2

theorem order_inv (es : List EvV) (s : St) (ids : List Int) : OutOk es (P15.leftOf es ids []) (order es s ids) ∧ PosOk es (P15.leftOf es ids []) (order es s ids) ∧ (freeL es (P15.leftOf es ids []) (order es s ids) = [] ∨ (P15.leftOf es ids []).length ≤ (order es s ids).length) :=
 ordGo_inv left_known _ [] (OutOk.nil _ _) (fun i t h => by simp at h) (by simp)

theorem order_sub {es : List EvV} {s : St} {ids : List Int} {z : Int} (h : z ∈ order es s ids) : z ∈ ids ∧ known es z := left_mem.1 ((order_inv es s ids).1.sub z h)

def PrevUp (es : List EvV) : Prop := ∀ (i : Nat) (e : EvV), es[i]? = some e → ∀ p ∈ e.prev, p ∈ (es.take i).map (·.id)

theorem PrevUp.nil : PrevUp [] := fun i e h => by simp at h

theorem PrevUp.add {es : List EvV} {e : EvV} (h : PrevUp es) (he : ∀ p ∈ e.prev, p ∈ es.map (·.id)) : PrevUp (es ++ [e]) := fun i x hx p hp => by
 by_cases hi : i < es.length
 ·rw [List.getElem?_append_left hi] at hx
  rw [List.take_append_of_le_length (by omega)]
  exact h i x hx p hp
 ·rw [List.getElem?_append_right (by omega)] at hx
  have hi0 : i - es.length = 0 := by
   cases hq : i - es.length with
   | zero => rfl
   | succ n => rw [hq] at hx; simp at hx
  rw [hi0] at hx
  simp only [List.getElem?_cons_zero, Option.some.injEq] at hx
  subst hx
  have e1 : i = es.length := by omega
  rw [e1, List.take_left' rfl]
  exact he p hp

theorem idx_lt_of_take : ∀ {l : List Int} {i : Nat} {p : Int}, p ∈ l.take i → l.idxOf p < i
 | [], i, p, h => by simp at h
 | a :: r, 0, p, h => by simp at h
 | a :: r, i + 1, p, h => by
  rw [List.take_succ_cons] at h
  by_cases e : a = p
  ·subst e; simp
  ·rcases List.mem_cons.1 h with q | q
   ·exact absurd q.symm e
   ·have := idx_lt_of_take q
    rw [List.idxOf_cons]
    have hb : (a == p) = false := by simpa using e
    rw [hb]
    simp only [cond_false]
    omega

theorem idx_at : ∀ {l : List Int} {i : Nat} {p : Int}, l.Nodup → l[i]? = some p → l.idxOf p = i
 | [], i, p, _, h => by simp at h
 | a :: r, 0, p, _, h => by
  simp only [List.getElem?_cons_zero, Option.some.injEq] at h
  subst h
  simp
 | a :: r, i + 1, p, hn, h => by
  rw [List.nodup_cons] at hn
  simp only [List.getElem?_cons_succ] at h
  have := idx_at hn.2 h
  have hm := List.mem_of_getElem? h
  have hb : (a == p) = false := by
   rw [beq_eq_false_iff_ne]
   intro e
   rw [e] at hn
   exact hn.1 hm
  rw [List.idxOf_cons, hb]
  simp only [cond_false]
  omega

theorem prev_idx {es : List EvV} (hn : (es.map (·.id)).Nodup) (h : PrevUp es) {t p : Int} (hp : p ∈ (evOf es t).prev) : (es.map (·.id)).idxOf p < (es.map (·.id)).idxOf t := by
 unfold evOf at hp
 cases hf : evFind es t with
 | none => rw [hf] at hp; simp at hp
 | some e =>
  rw [hf] at hp
  simp only [Option.getD_some] at hp
  obtain ⟨he, hid⟩ := evFind_mem hf
  obtain ⟨i, hi⟩ := List.getElem?_of_mem he
  have h1 := h i e hi p hp
  rw [List.map_take] at h1
  have h2 := idx_lt_of_take h1
  have h3 : (es.map (·.id))[i]? = some t := by rw [List.getElem?_map, hi]; simp [hid]
  rw [idx_at hn h3]
  exact h2

theorem ahead_idx {es : List EvV} (hn : (es.map (·.id)).Nodup) (h : PrevUp es) {z t : Int} (ha : Ahead es z t) : (es.map (·.id)).idxOf z < (es.map (·.id)).idxOf t := by
 induction ha with
 | one hp _ => exact prev_idx hn h hp
 | more hp _ _ ih => exact Nat.lt_trans ih (prev_idx hn h hp)

theorem order_all {es : List EvV} {s : St} {ids : List Int} (hn : (es.map (·.id)).Nodup) (h : PrevUp es) : ∀ z ∈ P15.leftOf es ids [], z ∈ order es s ids := by
 obtain ⟨h1, h2, h3⟩ := order_inv es s ids
 rcases h3 with h3 | h3
 ·have go : ∀ (n : Nat) (z : Int), (es.map (·.id)).idxOf z ≤ n → z ∈ P15.leftOf es ids [] → z ∈ order es s ids := by
   intro n
   induction n with
   | zero =>
    intro z hz hl
    refine Classical.byContradiction (fun hno => ?_)
    have : z ∈ freeL es (P15.leftOf es ids []) (order es s ids) := freeL_mem.2 ⟨hl, hno, ready_iff.2 (fun y hy ha => by have := ahead_idx hn h ha; omega)⟩
    rw [h3] at this
    simp at this
   | succ n ih =>
    intro z hz hl
    refine Classical.byContradiction (fun hno => ?_)
    have : z ∈ freeL es (P15.leftOf es ids []) (order es s ids) := freeL_mem.2 ⟨hl, hno, ready_iff.2 (fun y hy ha => ih y (by have := ahead_idx hn h ha; omega) hy)⟩
    rw [h3] at this
    simp at this
  exact fun z hz => go _ z (Nat.le_refl _) hz
 ·intro z hz
  refine Classical.byContradiction (fun hno => ?_)
  have := nodup_len (l := z :: order es s ids) (m := P15.leftOf es ids []) (List.nodup_cons.2 ⟨hno, h1.nd⟩) (fun x hx => by
   rcases List.mem_cons.1 hx with q | q
   ·rw [q]; exact hz
   ·exact h1.sub x q)
  simp only [List.length_cons] at this
  omega

theorem order_room {es : List EvV} {s : St} (hn : (es.map (·.id)).Nodup) (h : PrevUp es) : (order es s (es.map (·.id))).length = es.length ∧ ∀ i t, (order es s (es.map (·.id)))[i]? = some t → ∀ p ∈ (evOf es t).prev, p ∈ (order es s (es.map (·.id))).take i := by
 obtain ⟨h1, h2, h3⟩ := order_inv es s (es.map (·.id))
 have hall := order_all (s := s) (ids := es.map (·.id)) hn h
 have hmem : ∀ z, z ∈ P15.leftOf es (es.map (·.id)) [] ↔ z ∈ es.map (·.id) := fun z => by
  rw [left_mem, evFind_isSome]
  exact ⟨fun q => q.1, fun q => ⟨q, q⟩⟩
 constructor
 ·have a1 := nodup_len h1.nd (m := es.map (·.id)) (fun z hz => (hmem z).1 (h1.sub z hz))
  have a2 := nodup_len hn (m := order es s (es.map (·.id))) (fun z hz => hall z ((hmem z).2 hz))
  rw [List.length_map] at a1 a2
  omega
 ·intro i t ht p hp
  have hpk : p ∈ es.map (·.id) := by
   unfold evOf at hp
   cases hf : evFind es t with
   | none => rw [hf] at hp; simp at hp
   | some e =>
    rw [hf] at hp
    obtain ⟨he, _⟩ := evFind_mem hf
    obtain ⟨j, hj⟩ := List.getElem?_of_mem he
    have := h j e hj p hp
    rw [List.map_take] at this
    exact List.mem_of_mem_take this
  exact h2 i t ht p ((hmem p).2 hpk) (.one hp (evFind_isSome.2 hpk))

end Go.Proofs.YtnkjjbpmdghcbaaGreat.P16
