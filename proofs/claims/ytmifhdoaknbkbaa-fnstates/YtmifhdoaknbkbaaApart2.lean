/-
  Several rows of one type that a call makes: each in a block of its own; what is appended to one leaves the others, and lies apart from them.
-/
import Derived.Test.YtmifhdoaknbkbaaPkEv3
import Derived.Test.YtmifhdoaknbkbaaPkHeldMore
import Derived.Maps.AppendAt
namespace Go.Proofs.Ytmifhdoaknbkbaa
open Go.RowKit K
set_option linter.unusedVariables false

/-- Two rows do not lie in one block. -/
def Aside2 (v1 v2 : Value) : Prop := ∀ q, v1.ownBlock = some q → v2.ownBlock ≠ some q

theorem Aside2.symm {v1 v2 : Value} (h : Aside2 v1 v2) : Aside2 v2 v1 := fun q h1 h2 => h q h2 h1

/-- 'out = append(out, x)' of one struct of k cells, in a region that does not draw: what the append turned, and where the row lies. -/
theorem wpList_pushL {P : Program} {W0 : World} {ops : Array Oper} {rest : List Oper} {o : Oper} {a : Act} {Q : Exit → Act → World → Prop} (hgd : o.guard = none) (s x : Operand) (t : TypeId)
    (ho : o.op = .call { callee := .builtin .append, args := #[s, x], argTypes := #[t, t] })
    {base k : Nat} (hk0 : 0 < k) {e : TypeId} {z : Value} {bytes : Nat} (ht : P.underlying t = some (.slice e)) (hi : (P.info? e).map (fun i => (i.zero, i.size, i.bytes)) = some (some z, k, bytes)) (hzs : z.cells.size = k)
    {v : Value} {n : Nat} {xs : List Value} (hs : a.eval s = v) (hown : W0.ownsRow base e k v n xs)
    {cs : Array Value} (hx : a.eval x = .slice (some ⟨W0.heap.size, 0, none⟩) 1 1) (hm : cs.toList.length = k) (hu : ∀ u ∈ cs.toList, u.oneCell' = true)
    (hbase : base ≤ W0.heap.size) (h63 : n + 1 ≤ maxLen) (hbytes : (n + 1) * bytes ≤ 140737488355328)
    (h : ∀ v' w', w'.ownsRow base e k v' (n + 1) (xs ++ cs.toList) → (W0.alloc (.cells cs e)).grownBy w' v.ownBlock → (v'.ownBlock = v.ownBlock ∨ v'.ownBlock = some (W0.heap.size + 1)) → wpList P ops Q rest (a.put o.dst v') w') : wpList P ops Q (o :: rest) a (W0.alloc (.cells cs e)) := by
  obtain ⟨i, hi, hz, h1, h2⟩ := info_parts hi
  refine wpList_append_own_at _ hgd s x t ho base e i z k bytes ht hi hz h1 h2 hzs hk0 v n xs hs (hown.alloc _) ⟨W0.heap.size, 0, none⟩ 1 1 cs.toList hx (by rw [hm]; omega) (World.news_of_block (heap_alloc_new W0 _)) hu h63 hbytes (by simp; omega) ?_
  intro v' w' hown' hgrow _ hloc
  refine h v' w' hown' hgrow ?_
  rw [World.size_alloc] at hloc
  exact hloc

/-- A row beside one that was appended to. -/
theorem beside {W0 w' : World} {b2 : Nat} {e2 : TypeId} {k2 : Nat} {v v' v2 : Value} {n2 : Nat} {xs2 : List Value} {o : Obj} (h2 : W0.ownsRow b2 e2 k2 v2 n2 xs2) (hap : Aside2 v2 v) (hg : (W0.alloc o).grownBy w' v.ownBlock) (hloc : v'.ownBlock = v.ownBlock ∨ v'.ownBlock = some (W0.heap.size + 1)) :
    w'.ownsRow b2 e2 k2 v2 n2 xs2 ∧ Aside2 v2 v' := by
  refine ⟨(h2.alloc o).kept hg ?_, fun q hq => ?_⟩
  · cases hv : v2.ownBlock with
    | none => exact Or.inl rfl
    | some g => exact Or.inr (fun e => hap g hv e.symm)
  · rcases hloc with hl | hl
    · rw [hl]; exact hap q hq
    · rw [hl]
      intro e
      have := (h2.lt q hq).2
      cases e
      omega

theorem grown_up {B : Nat} {w W0 w' : World} {base : Nat} {e : TypeId} {k : Nat} {v : Value} {n : Nat} {xs : List Value} {o : Obj} (hb : Below B w W0) (hB : B ≤ W0.heap.size) (hown : W0.ownsRow base e k v n xs) (hbase : B ≤ base) (hg : (W0.alloc o).grownBy w' v.ownBlock) : Below B w w' :=
  (hb.alloc hB o).grown hg (by simp; omega) (fun q hq => Nat.le_trans hbase (hown.lt q hq).1)

/-- A new row lies beside an older one. -/
theorem aside_new {w w2 : World} {b1 b2 : Nat} {e1 e2 : TypeId} {k1 k2 n1 n2 : Nat} {v1 v2 : Value} {xs1 xs2 : List Value} (h1 : w.ownsRow b1 e1 k1 v1 n1 xs1) (h2 : w2.ownsRow b2 e2 k2 v2 n2 xs2) (hb : w.heap.size ≤ b2) : Aside2 v1 v2 := by
  intro k q1 q2
  have := (h1.lt k q1).2
  have := (h2.lt k q2).1
  omega

theorem map_snoc {l : List Int} {x : Int} : (l ++ [x]).map icell = l.map icell ++ [.int .i64 x] := by simp [icell]
theorem len_snoc {α : Type} {l : List α} {x : α} : (l ++ [x]).length = l.length + 1 := by simp

end Go.Proofs.Ytmifhdoaknbkbaa
