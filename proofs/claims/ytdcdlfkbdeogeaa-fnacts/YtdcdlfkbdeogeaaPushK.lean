/-
  What a loop carries that pushes structs that it draws.
-/
import Derived.Test.YtdcdlfkbdeogeaaRowK
import Derived.Test.YtdcdlfkbdeogeaaPack3
namespace Go.Proofs.Ytdcdlfkbdeogeaa
open Go.RowKit P1 K
set_option linter.unusedVariables false

/-- 'out = append(out, x)' of one struct of k cells; the world told by 'grownBy'. -/
theorem wpList_push_rawK {P : Program} {W0 : World} {ops : Array Oper} {rest : List Oper} {o : Oper} {a : Act} {Q : Exit → Act → World → Prop} (hgd : o.guard = none) (s x : Operand) (t : TypeId)
    (ho : o.op = .call { callee := .builtin .append, args := #[s, x], argTypes := #[t, t] })
    {base k : Nat} (hk0 : 0 < k) {e : TypeId} {z : Value} {bytes : Nat} (ht : P.underlying t = some (.slice e)) (hi : (P.info? e).map (fun i => (i.zero, i.size, i.bytes)) = some (some z, k, bytes)) (hzs : z.cells.size = k)
    {v : Value} {n : Nat} {xs : List Value} (hs : a.eval s = v) (hown : W0.ownsRow base e k v n xs)
    {cs : Array Value} (hx : a.eval x = .slice (some ⟨W0.heap.size, 0, none⟩) 1 1) (hm : cs.toList.length = k) (hu : ∀ u ∈ cs.toList, u.oneCell' = true)
    (hbase : base ≤ W0.heap.size) (h63 : n + 1 ≤ maxLen) (hbytes : (n + 1) * bytes ≤ 140737488355328)
    (h : ∀ v' w', w'.ownsRow base e k v' (n + 1) (xs ++ cs.toList) → W0.grownBy w' v.ownBlock → wpList P ops Q rest (a.put o.dst v') w') : wpList P ops Q (o :: rest) a (W0.alloc (.cells cs e)) := by
  obtain ⟨i, hi, hz, h1, h2⟩ := info_parts hi
  refine wpList_append_own _ hgd s x t ho base e i z k bytes ht hi hz h1 h2 hzs hk0 v n xs hs (hown.alloc _) ⟨W0.heap.size, 0, none⟩ 1 1 cs.toList hx (by rw [hm]; omega) (World.news_of_block (heap_alloc_new W0 _)) hu h63 hbytes (by simp; omega) ?_
  intro v' w' hown' hgrow _
  refine h v' w' hown' ⟨hgrow.os, hgrow.tape, hgrow.output, ?_, ?_⟩
  · have := hgrow.size; simp at this; omega
  · intro q hq hne
    rw [hgrow.block q (by simp; omega) hne]
    exact Below.heap_alloc W0 _ q hq

/-- The cursor, and a row of structs of k cells in new memory. -/
structure DrawingK (B p : Nat) (a : Option Addr) (len cap : Nat) (w : World) (e : TypeId) (k : Nat) (v : Value) (n : Nat) (xs : List Value) (wr : World) : Prop where
  own : wr.ownsRow w.heap.size e k v n xs
  cur : CurAt B wr p a len cap
  grown : w.grownBy wr (some p)
  lt : p < w.heap.size

section
variable {B p : Nat} {a : Option Addr} {len cap : Nat} {w : World} {e : TypeId} {k : Nat} {v v' : Value} {n m : Nat} {xs ys : List Value} {w1 w2 : World}

theorem DrawingK.drawn (h : DrawingK B p a len cap w e k v n xs w1) (hc : CurAt B w2 p a len cap) (hg : w1.grownBy w2 (some p)) : DrawingK B p a len cap w e k v n xs w2 :=
  ⟨h.own.kept hg (by
    cases hv : v.ownBlock with
    | none => exact Or.inl rfl
    | some q =>
      right
      intro e1
      cases e1
      have := (h.own.lt p hv).1
      have := h.lt
      omega), hc, grownBy_trans h.grown hg, h.lt⟩

theorem DrawingK.pushed (h : DrawingK B p a len cap w e k v n xs w1) (hB : B ≤ w.heap.size) (ho : w2.ownsRow w.heap.size e k v' m ys) (hg : w1.grownBy w2 v.ownBlock) : DrawingK B p a len cap w e k v' m ys w2 := by
  have hlt := h.lt
  have hne : ∀ q, q < w.heap.size → some q ≠ v.ownBlock := fun q hq e1 => by have := (h.own.lt q e1.symm).1; omega
  have hs := h.grown.size
  refine ⟨ho, h.cur.kept ⟨hg.os, hg.tape, hg.output, hg.size, fun q hq => hg.block q (by omega) (hne q (by omega))⟩ (hg.block p (by omega) (hne p hlt)), ?_, hlt⟩
  exact ⟨hg.os.trans h.grown.os, hg.tape.trans h.grown.tape, hg.output.trans h.grown.output, Nat.le_trans hs hg.size, fun q hq hn => (hg.block q (by omega) (hne q hq)).trans (h.grown.block q hq hn)⟩

/-- What is made in new memory leaves it as it is. -/
theorem DrawingK.on (h : DrawingK B p a len cap w e k v n xs w1) (hB : B ≤ w.heap.size) (hb : Below w1.heap.size w1 w2) : DrawingK B p a len cap w e k v n xs w2 := by
  have h1 := h.lt
  have h2 := h.grown.size
  exact h.drawn (h.cur.kept (hb.mono (by omega)) (hb.block p (by omega))) (grown_below hb)
end

end Go.Proofs.Ytdcdlfkbdeogeaa
