/-
  Walks and mathematics of HeldMore, Box, RowK.
-/
import Derived.Deep.RegionHeld3
import Derived.Deep.DrawnRows
import Derived.Test.YtmllcomppjkhhaaGreatDoorRKit
import Derived.WalkSmall
import Derived.Laws.IdiomCopy
import Derived.Test.YtmllcomppjkhhaaGreatDoorRInts
import Derived.Laws.OwnMore
import Derived.Deep.MidRow
namespace Go.Proofs.YtmllcomppjkhhaaGreatDoor.K
open Go

theorem held_more {P : Program} {md : Region.Mode} {ops : Array Oper} {Q : Exit → Act → World → Prop} {S S' : World → Prop} (h : ∀ w, S' w → S w) :
    ∀ (fuel : Nat) (listed : Array Bool) (a : Act) (w : World), wpAnyH P md ops Q S' fuel listed a w → wpAnyH P md ops Q S fuel listed a w
  | 0, _, _, _, k => k
  | fuel + 1, _, _, _, k => ⟨k.1, fun i hi => wpOp_mono (fun a' w' h' => ⟨h w' h'.1, held_more h fuel _ a' w' h'.2⟩) (k.2 i hi)⟩

end Go.Proofs.YtmllcomppjkhhaaGreatDoor.K

namespace Go.Proofs.YtmllcomppjkhhaaGreatDoor
open Go.RowKit K
set_option linter.unusedVariables false

theorem blk_cell {w : World} {b : Nat} {cs : Array Value} {t : TypeId} (h : w.heap[b]? = some (.cells cs t (0, 0))) (j : Nat) {u : Value} (hu : cs[j]? = some u) : w.cell? ⟨b, j, none⟩ = some u := by
  rw [cell_of_row w b j _ _ _ h]; exact hu

theorem blk_free {w : World} {b : Nat} {cs : Array Value} {t : TypeId} (h : w.heap[b]? = some (.cells cs t (0, 0))) (j : Nat) : w.frozen? ⟨b, j, none⟩ = false := by
  simp [World.frozen?, h]

theorem blk_lt {w : World} {b : Nat} {x : Obj} (h : w.heap[b]? = some x) : b < w.heap.size := (Array.getElem?_eq_some_iff.1 h).1

theorem blk_set {w : World} {p k : Nat} {cs : Array Value} {e : TypeId} (v : Value) (h : w.heap[p]? = some (.cells cs e (0, 0))) : (w.setCell ⟨p, k, none⟩ v).heap[p]? = some (.cells (cs.setIfInBounds k v) e (0, 0)) := by
  simp only [World.setCell, Array.getElem?_modify, if_true, h]
  rfl

theorem blk_grown (w : World) (p k : Nat) (v : Value) : w.grownBy (w.setCell ⟨p, k, none⟩ v) (some p) :=
  ⟨rfl, rfl, rfl, by simp [World.setCell], fun j hj hne => Below.heap_setCell _ _ _ _ (fun e => hne (by rw [e]))⟩

def setArr (cs : Array Value) : Nat → List Value → Array Value
  | _, [] => cs
  | o, v :: r => setArr (cs.setIfInBounds o v) (o + 1) r

theorem blk_setAll {p : Nat} {e : TypeId} : ∀ (vs : List Value) (w : World) (cs : Array Value) (o : Nat), w.heap[p]? = some (.cells cs e (0, 0)) →
    (w.setCells p o vs).heap[p]? = some (.cells (setArr cs o vs) e (0, 0)) ∧ w.grownBy (w.setCells p o vs) (some p)
  | [], w, cs, o, h => ⟨h, World.grownBy.refl _ _⟩
  | v :: r, w, cs, o, h => by
    have h1 := blk_setAll r (w.setCell ⟨p, o, none⟩ v) (cs.setIfInBounds o v) (o + 1) (blk_set (k := o) v h)
    exact ⟨h1.1, grown_trans (blk_grown w p o v) h1.2⟩

theorem row_form {w : World} {base : Nat} {e : TypeId} {size : Nat} {v : Value} {n : Nat} {xs : List Value} (h : w.ownsRow base e size v n xs) : ∃ oa cap, v = .slice oa n cap := by
  rcases h.2 with ⟨rfl, rfl⟩ | ⟨g, cap, cur, rfl, _⟩
  · exact ⟨_, _, rfl⟩
  · exact ⟨_, _, rfl⟩

def BoxS (w : World) (cs : Array Value) (t : TypeId) (w' : World) : Prop := Below w.heap.size w w' ∧ w'.heap[w.heap.size]? = some (.cells cs t (0, 0))

theorem BoxS.new (w : World) (cs : Array Value) (t : TypeId) : BoxS w cs t (w.alloc (.cells cs t)) := ⟨(Below.refl _ _).alloc (Nat.le_refl _) _, heap_alloc_new _ _⟩

theorem BoxS.lt {w : World} {cs : Array Value} {t : TypeId} {w' : World} (h : BoxS w cs t w') : w.heap.size < w'.heap.size := blk_lt h.2

theorem BoxS.call {w : World} {cs : Array Value} {t : TypeId} {w' w'' : World} (h : BoxS w cs t w') (hb : Below w'.heap.size w' w'') : BoxS w cs t w'' :=
  ⟨h.1.trans (hb.mono (Nat.le_of_lt h.lt)), (hb.block _ h.lt).trans h.2⟩

theorem BoxS.alloc {w : World} {cs : Array Value} {t : TypeId} {w' : World} (h : BoxS w cs t w') (o : Obj) : BoxS w cs t (w'.alloc o) := h.call ((Below.refl _ _).alloc (Nat.le_refl _) _)

theorem BoxS.drew {w : World} {cs : Array Value} {t : TypeId} {w' : World} (h : BoxS w cs t w') : BoxS w cs t w'.drew := h.call (Below.refl _ _).drew

theorem BoxS.cell {w : World} {cs : Array Value} {t : TypeId} {w' : World} (h : BoxS w cs t w') (j : Nat) {u : Value} (hu : cs[j]? = some u) : w'.cell? ⟨w.heap.size, j, none⟩ = some u := blk_cell h.2 j hu

end Go.Proofs.YtmllcomppjkhhaaGreatDoor

namespace Go.Proofs.YtmllcomppjkhhaaGreatDoor
open Go.RowKit K
set_option linter.unusedVariables false
set_option linter.unusedSimpArgs false

section
variable {α : Type} {k : Nat} {cf : α → List Value}

structure RowsAt (k : Nat) (cf : α → List Value) (w : World) (oa : Option Addr) (n cap : Nat) (xs : List α) : Prop where
  len : xs.length = n
  room : n ≤ cap
  most : cap ≤ maxLen
  at_ : ∀ (i : Nat) (x : α), xs[i]? = some x → ∃ b o, oa = some ⟨b, o, none⟩ ∧ ∀ (j : Nat) u, (cf x)[j]? = some u → w.cell? ⟨b, o + i * k + j, none⟩ = some u

theorem RowsAt.below {w w' : World} {oa : Option Addr} {n cap : Nat} {xs : List α} (h : RowsAt k cf w oa n cap xs) (hb : Below w.heap.size w w') : RowsAt k cf w' oa n cap xs :=
  ⟨h.len, h.room, h.most, fun i f hf => by
    obtain ⟨b, o, ha, hc⟩ := h.at_ i f hf
    refine ⟨b, o, ha, fun j u hu => ?_⟩
    have h1 := hc j u hu
    rw [hb.cell (cell_lt h1)]
    exact h1⟩

theorem RowsAt.nil (w : World) (oa : Option Addr) (cap : Nat) (hm : cap ≤ maxLen) : RowsAt k cf w oa 0 cap [] :=
  ⟨rfl, Nat.zero_le _, hm, fun i f hf => by simp at hf⟩

theorem RowsAt.get {w : World} {oa : Option Addr} {n cap : Nat} {xs : List α} (h : RowsAt k cf w oa n cap xs) {P : Program} {t e : TypeId} (ht : P.underlying t = some (.slice e)) (hi : (P.info? e).map (·.size) = some k) (hk : ∀ x, (cf x).length = k) (hp : 0 < k) (i : Nat) (hin : i < n) :
    ∃ x b q, xs[i]? = some x ∧ (∀ wx, (Instr.indexAt t (.slice oa n cap) (.int .i64 (i : Int))).run P wx = .ok (.pointer (some ⟨b, q, none⟩)) wx) ∧ b < w.heap.size ∧ ∀ (j : Nat) u, (cf x)[j]? = some u → w.cell? ⟨b, q + j, none⟩ = some u := by
  obtain ⟨x, hx⟩ : ∃ x, xs[i]? = some x := ⟨_, List.getElem?_eq_getElem (by rw [h.len]; exact hin)⟩
  obtain ⟨b, o, rfl, hc⟩ := h.at_ i x hx
  obtain ⟨u, hu⟩ : ∃ u, (cf x)[0]? = some u := ⟨_, List.getElem?_eq_getElem (by rw [hk]; exact hp)⟩
  exact ⟨x, b, o + i * k, hx, fun wx => run_indexAt_slice wx t e k ht hi b o n cap i hin, cell_lt (hc 0 u hu), hc⟩

theorem rowsAt_of_own (hk : ∀ x, (cf x).length = k) (hp : 0 < k) {w : World} {base : Nat} {e : TypeId} {v : Value} {n : Nat} {xs : List α} (h : w.ownsRow base e k v n (xs.flatMap cf)) :
    ∃ oa cap, v = .slice oa n cap ∧ RowsAt k cf w oa n cap xs := by
  have hlen : xs.length = n := by
    have := h.1
    rw [flat_length cf k hk] at this
    exact Nat.eq_of_mul_eq_mul_right hp this
  rcases h.2 with ⟨rfl, rfl⟩ | ⟨g, cap, cur, rfl, hb, hg, hnc, hcm, hcs, htake⟩
  · have : xs = [] := List.eq_nil_of_length_eq_zero hlen
    subst this
    exact ⟨none, 0, rfl, RowsAt.nil _ _ _ (by unfold maxLen; omega)⟩
  · refine ⟨some ⟨g, 0, none⟩, cap, rfl, ⟨hlen, hnc, hcm, fun i f hf => ⟨g, 0, rfl, fun j u hu => ?_⟩⟩⟩
    have hi : i < xs.length := (List.getElem?_eq_some_iff.1 hf).1
    have hfe : xs[i] = f := (List.getElem?_eq_some_iff.1 hf).2
    have hj : j < k := by have := (List.getElem?_eq_some_iff.1 hu).1; rw [hk] at this; exact this
    have h3 := flat_get cf k hk xs i j hi hj
    rw [hfe, hu] at h3
    rw [Nat.zero_add]
    have hlt : i * k + j < n * k := by
      have h1 : (i + 1) * k ≤ n * k := Nat.mul_le_mul_right k (by omega)
      have h2 : (i + 1) * k = i * k + k := by rw [Nat.add_mul, Nat.one_mul]
      omega
    rw [h.cellAt (i * k + j) hlt, h3]

end

theorem wpList_pushK {P : Program} {W0 : World} {ops : Array Oper} {rest : List Oper} {o : Oper} {a : Act} {Q : Exit → Act → World → Prop} (hgd : o.guard = none) (s x : Operand) (t : TypeId)
    (ho : o.op = .call { callee := .builtin .append, args := #[s, x], argTypes := #[t, t] })
    {base k : Nat} (hk0 : 0 < k) {e : TypeId} {z : Value} {bytes : Nat} (ht : P.underlying t = some (.slice e)) (hi : (P.info? e).map (fun i => (i.zero, i.size, i.bytes)) = some (some z, k, bytes)) (hzs : z.cells.size = k)
    {v : Value} {n : Nat} {xs : List Value} (hs : a.eval s = v) (hown : W0.ownsRow base e k v n xs)
    {cs : Array Value} (hx : a.eval x = .slice (some ⟨W0.heap.size, 0, none⟩) 1 1) (hm : cs.toList.length = k) (hu : ∀ u ∈ cs.toList, u.oneCell' = true)
    {W : World} (hbel : Below base W W0) (hbase : base ≤ W0.heap.size) (h63 : n + 1 ≤ maxLen) (hbytes : (n + 1) * bytes ≤ 140737488355328)
    (h : ∀ v' w', w'.ownsRow base e k v' (n + 1) (xs ++ cs.toList) → Below base W w' → W0.heap.size ≤ w'.heap.size → wpList P ops Q rest (a.put o.dst v') w') : wpList P ops Q (o :: rest) a (W0.alloc (.cells cs e)) := by
  obtain ⟨i, hi, hz, h1, h2⟩ := info_parts hi
  refine wpList_append_own _ hgd s x t ho base e i z k bytes ht hi hz h1 h2 hzs hk0 v n xs hs (hown.alloc _) ⟨W0.heap.size, 0, none⟩ 1 1 cs.toList hx (by rw [hm]; omega) (World.news_of_block (heap_alloc_new W0 _)) hu h63 hbytes (by simp; omega) ?_
  intro v' w' hown' hgrow _
  refine h v' w' hown' ?_ ?_
  · refine (hbel.alloc hbase _).grown hgrow (by simp; omega) ?_
    intro q hq
    exact (hown.lt q hq).1
  · have := hgrow.size; simp at this; omega

end Go.Proofs.YtmllcomppjkhhaaGreatDoor
