/-
  Walks and mathematics of Apart2, Win, Walk11g.
-/
import Derived.Test.YthieilmjbefamaaQEv3
import Derived.Test.YthieilmjbefamaaQBox
import Derived.Maps.AppendAt
import Derived.Laws.Slices
import Derived.Test.YthieilmjbefamaaQWalk10c
import Derived.Test.YthieilmjbefamaaQWalk10b
import Derived.Deep.AppendLies
import Derived.Deep.AppendSrc
import Derived.Test.YthieilmjbefamaaQRes1
import Derived.Test.YthieilmjbefamaaQWalk10n
import Derived.Test.YthieilmjbefamaaQIntsMark
namespace Go.Proofs.Ythieilmjbefamaa.P11
end Go.Proofs.Ythieilmjbefamaa.P11
namespace Go.Proofs.Ythieilmjbefamaa.P3
end Go.Proofs.Ythieilmjbefamaa.P3
namespace Go.Proofs.Ythieilmjbefamaa.P9
end Go.Proofs.Ythieilmjbefamaa.P9
namespace Go.Proofs.Ythieilmjbefamaa
open Go.RowKit K
set_option linter.unusedVariables false

def Aside2 (v1 v2 : Value) : Prop := ∀ q, v1.ownBlock = some q → v2.ownBlock ≠ some q

theorem Aside2.symm {v1 v2 : Value} (h : Aside2 v1 v2) : Aside2 v2 v1 := fun q h1 h2 => h q h2 h1

theorem wpList_pushL {P : Program} {W0 : World} {ops : Array Oper} {rest : List Oper} {o : Oper} {a : Act} {Q : Exit → Act → World → Prop} (hgd : o.guard = none) (s x : Operand) (t : TypeId)
    (ho : o.op = .call { callee := .builtin .append, args := #[s, x], argTypes := #[t, t] })
    {base k : Nat} (hk0 : 0 < k) {e : TypeId} {z : Value} {bytes : Nat} (ht : P.underlying t = some (.slice e)) (hi : (P.info? e).map (fun i => (i.zero, i.size, i.bytes)) = some (some z, k, bytes)) (hzs : z.cells.size = k)
    {v : Value} {n : Nat} {xs : List Value} (hs : a.eval s = v) (hown : W0.ownsRow base e k v n xs)
    {cs : Array Value} (hx : a.eval x = .slice (some ⟨W0.heap.size, 0, none⟩) 1 1) (hm : cs.toList.length = k) (hu : ∀ u ∈ cs.toList, u.oneCell' = true)
    (hbase : base ≤ W0.heap.size) (h63 : n + 1 ≤ maxLen) (hbytes : (n + 1) * bytes ≤ 140737488355328)
    (h : ∀ v' w', w'.ownsRow base e k v' (n + 1) (xs ++ cs.toList) → (W0.alloc (.cells cs e)).grownBy w' v.ownBlock → (v'.ownBlock = v.ownBlock ∨ v'.ownBlock = some (W0.heap.size + 1)) → wpList P ops Q rest (a.put o.dst v') w') : wpList P ops Q (o :: rest) a (W0.alloc (.cells cs e)) := by
  obtain ⟨i, hi, hz, h1, h2⟩ := info_parts hi
  refine wpList_append_own_at _ hgd s x t ho base e i z k bytes ht hi hz h1 h2 hzs hk0 v n xs hs (hown.alloc _) ⟨W0.heap.size, 0, none⟩ 1 1 cs.toList hx (by rw [hm]; omega) (World.news_of_block (heap_alloc_new W0 _)) hu h63 hbytes (by simp; omega) ?_
  intro v' w' hown' hgrow _ hloc
  refine h v' w' hown' hgrow ?_
  rw [World.size_alloc] at hloc
  exact hloc

end Go.Proofs.Ythieilmjbefamaa

namespace Go.Proofs.Ythieilmjbefamaa
open Go.RowKit K
set_option linter.unusedVariables false
set_option linter.unusedSimpArgs false
set_option maxRecDepth 20000

structure WinN (w : World) (base g o cap : Nat) (l : List Int) : Prop where
  lo : base ≤ g
  room : l.length ≤ cap
  most : cap ≤ maxLen
  wf : ∀ z ∈ l, (Lit.int .i64 z).wf = true
  blk : ∃ cur, w.heap[g]? = some (.cells cur 3 (0, 0)) ∧ o + cap ≤ cur.size ∧ ∀ j z, l[j]? = some z → cur[o + j]? = some (.int .i64 z)

theorem WinN.lt {w : World} {base g o cap : Nat} {l : List Int} (h : WinN w base g o cap l) : g < w.heap.size := by
  obtain ⟨cur, hb, _⟩ := h.blk
  exact blk_lt hb

theorem WinN.kept {w w' : World} {base g o cap : Nat} {l : List Int} {row : Option Nat} (h : WinN w base g o cap l) (hg : w.grownBy w' row) (hne : row ≠ some g) : WinN w' base g o cap l := by
  obtain ⟨h1, h2, h3, h4, cur, hb, hc⟩ := h
  exact ⟨h1, h2, h3, h4, cur, (hg.block g (blk_lt hb) (fun e => hne e.symm)).trans hb, hc⟩

theorem WinN.below {w w' : World} {base g o cap : Nat} {l : List Int} (h : WinN w base g o cap l) (hb : Below w.heap.size w w') : WinN w' base g o cap l := h.kept (row := none) (grown_below hb) (fun e => by cases e)

theorem winN_new (w : World) (base : Nat) (x : Int) (hb : base ≤ w.heap.size) (hx : (Lit.int .i64 x).wf = true) : WinN (w.alloc (.cells #[.int .i64 x] 3)) base w.heap.size 0 1 [x] :=
  ⟨hb, by simp, by unfold maxLen; omega, fun z hz => by simp at hz; subst hz; exact hx, _, heap_alloc_new w _, by simp, fun j z hj => by
    match j, hj with
    | 0, hj => simpa using hj⟩

end Go.Proofs.Ythieilmjbefamaa

namespace Go.Proofs.Ythieilmjbefamaa
open Go.RowKit P1 P3 P5 P9 P11 P12 P14 P15 K
set_option linter.unusedVariables false
set_option linter.unusedSimpArgs false

structure Beh (es : List EvV) (w wr : World) (v : Value) (g o cap : Nat) (out todo : List Int) : Prop where
  own : wr.ownsRow w.heap.size 3 1 v out.length (out.map icell)
  win : WinN wr w.heap.size g o cap todo
  ap : v.ownBlock ≠ some g
  bel : Below w.heap.size w wr
  ok : BehOk es out
  wf : ∀ z ∈ out, (Lit.int .i64 z).wf = true
  few : todo.length ≤ out.length + 1

theorem Beh.below {es : List EvV} {w wr w2 : World} {v : Value} {g o cap : Nat} {out todo : List Int} (h : Beh es w wr v g o cap out todo) (hb : Below wr.heap.size wr w2) : Beh es w w2 v g o cap out todo :=
  ⟨own_below h.own hb, h.win.below hb, h.ap, h.bel.trans (hb.mono h.bel.size), h.ok, h.wf, h.few⟩

theorem Beh.new (es : List EvV) (w : World) (id : Int) (hid : (Lit.int .i64 id).wf = true) : Beh es w ((w.alloc (.cells #[] 3)).alloc (.cells #[.int .i64 id] 3)) (.slice (some ⟨w.heap.size, 0, none⟩) 0 0) (w.heap.size + 1) 0 1 [] [id] := by
  have hw := winN_new (w.alloc (.cells #[] 3)) w.heap.size id (by simp) hid
  rw [World.size_alloc] at hw
  refine ⟨(OutN.new w).own.alloc _, hw, ?_, ((Below.refl _ _).alloc (Nat.le_refl _) _).alloc (by simp) _, ⟨by simp, fun z hz => by simp at hz⟩, fun z hz => by simp at hz, by simp⟩
  intro e
  simp [Value.ownBlock] at e

structure Beh2 (es : List EvV) (w wr : World) (v : Value) (g o cap : Nat) (out todo : List Int) (be : Nat) (e : EvV) (xl xp : Value) : Prop where
  b : Beh es w wr v g o cap out todo
  e : EB wr be e.id e.kind e.sender e.user e.member e.depth xl xp e.text
  nv : v.ownBlock ≠ some be
  ng : g ≠ be

section
variable {es : List EvV} {w wr w1 w2 : World} {v v1 : Value} {g o cap g2 o2 cap2 be : Nat} {out todo : List Int} {e : EvV} {xl xp : Value} {z : Int} {ob : Obj}
theorem Beh2.below (h : Beh2 es w wr v g o cap out todo be e xl xp) (hb : Below wr.heap.size wr w2) : Beh2 es w w2 v g o cap out todo be e xl xp :=
  ⟨h.b.below hb, h.e.on hb h.e.lt, h.nv, h.ng⟩

end

end Go.Proofs.Ythieilmjbefamaa
