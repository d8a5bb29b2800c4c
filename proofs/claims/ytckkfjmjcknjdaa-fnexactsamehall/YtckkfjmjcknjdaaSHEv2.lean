/-
  Walks and mathematics of Ev2.
-/
import Derived.Test.YtckkfjmjcknjdaaSHPlain9
import Derived.Test.YtckkfjmjcknjdaaSHWalk3a
import Derived.Test.YtckkfjmjcknjdaaSHInts
import Derived.Test.YtckkfjmjcknjdaaSHBox
import Derived.Test.YtckkfjmjcknjdaaSHQuietIn
import Derived.Test.YtckkfjmjcknjdaaRows
import Derived.Test.YtckkfjmjcknjdaaSHKit
import Derived.Lib.SmallJoins
namespace Go.Proofs.Ytckkfjmjcknjdaa.P1
end Go.Proofs.Ytckkfjmjcknjdaa.P1
namespace Go.Proofs.Ytckkfjmjcknjdaa.P11
end Go.Proofs.Ytckkfjmjcknjdaa.P11
namespace Go.Proofs.Ytckkfjmjcknjdaa.P3
end Go.Proofs.Ytckkfjmjcknjdaa.P3
namespace Go.Proofs.Ytckkfjmjcknjdaa
open Go.RowKit P1 P3 P9 P11 P12 K
set_option linter.unusedVariables false
set_option linter.unusedSimpArgs false

abbrev evcells (id kd sn us mb dp : Int) (xl xp : Value) (tx : List UInt8) : Array Value := #[.int .i64 id, .int .i64 kd, .int .i64 sn, .int .i64 us, .int .i64 mb, xl, .string ⟨tx.toArray⟩, xp, .int .i64 dp]

abbrev evval (id kd sn us mb dp : Int) (xl xp : Value) (tx : List UInt8) : Value := .agg #[.int .i64 id, .int .i64 kd, .int .i64 sn, .int .i64 us, .int .i64 mb, xl, .string ⟨tx.toArray⟩, xp, .int .i64 dp]

structure EV (w : World) (b : Nat) (id kd sn us mb dp : Int) (xl xp : Value) (tx : List UInt8) : Prop where
  c0 : w.cell? ⟨b, 0, none⟩ = some (.int .i64 id)
  c1 : w.cell? ⟨b, 1, none⟩ = some (.int .i64 kd)
  c2 : w.cell? ⟨b, 2, none⟩ = some (.int .i64 sn)
  c3 : w.cell? ⟨b, 3, none⟩ = some (.int .i64 us)
  c4 : w.cell? ⟨b, 4, none⟩ = some (.int .i64 mb)
  c5 : w.cell? ⟨b, 5, none⟩ = some xl
  c6 : w.cell? ⟨b, 6, none⟩ = some (.string ⟨tx.toArray⟩)
  c7 : w.cell? ⟨b, 7, none⟩ = some xp
  c8 : w.cell? ⟨b, 8, none⟩ = some (.int .i64 dp)

section
variable {w w' : World} {b : Nat} {id kd sn us mb dp : Int} {xl xp : Value} {tx : List UInt8}

theorem EV.lt (h : EV w b id kd sn us mb dp xl xp tx) : b < w.heap.size := cell_lt h.c0

theorem EV.on (h : EV w b id kd sn us mb dp xl xp tx) (hb : Below w.heap.size w w') : EV w' b id kd sn us mb dp xl xp tx :=
  ⟨(hb.cell h.lt).trans h.c0, (hb.cell h.lt).trans h.c1, (hb.cell h.lt).trans h.c2, (hb.cell h.lt).trans h.c3, (hb.cell h.lt).trans h.c4, (hb.cell h.lt).trans h.c5, (hb.cell h.lt).trans h.c6, (hb.cell h.lt).trans h.c7, (hb.cell h.lt).trans h.c8⟩

theorem EV.drew (h : EV w b id kd sn us mb dp xl xp tx) : EV w.drew b id kd sn us mb dp xl xp tx := h.on (Below.refl _ _).drew

theorem EV.new (w : World) (id kd sn us mb dp : Int) (xl xp : Value) (tx : List UInt8) (ty : TypeId) : EV (w.alloc (.cells #[.int .i64 id, .int .i64 kd, .int .i64 sn, .int .i64 us, .int .i64 mb, xl, .string ⟨tx.toArray⟩, xp, .int .i64 dp] ty)) w.heap.size id kd sn us mb dp xl xp tx := ⟨by simp, by simp, by simp, by simp, by simp, by simp, by simp, by simp, by simp⟩
end

def EB (w : World) (b : Nat) (id kd sn us mb dp : Int) (xl xp : Value) (tx : List UInt8) : Prop := w.heap[b]? = some (.cells (evcells id kd sn us mb dp xl xp tx) 83 (0, 0))

section
variable {w w' : World} {b : Nat} {id kd sn us mb dp : Int} {xl xp : Value} {tx : List UInt8}

theorem EB.new (w : World) (id kd sn us mb dp : Int) (xl xp : Value) (tx : List UInt8) : EB (w.alloc (.cells (evcells id kd sn us mb dp xl xp tx) 83)) w.heap.size id kd sn us mb dp xl xp tx := heap_alloc_new _ _

theorem EB.lt (h : EB w b id kd sn us mb dp xl xp tx) : b < w.heap.size := blk_lt h

theorem EB.on {B : Nat} (h : EB w b id kd sn us mb dp xl xp tx) (hb : Below B w w') (hlt : b < B) : EB w' b id kd sn us mb dp xl xp tx := (hb.block b hlt).trans h

theorem EB.kept {row : Option Nat} (h : EB w b id kd sn us mb dp xl xp tx) (hg : w.grownBy w' row) (hne : row ≠ some b) : EB w' b id kd sn us mb dp xl xp tx := (hg.block b h.lt (fun e => hne e.symm)).trans h

theorem EB.ev (h : EB w b id kd sn us mb dp xl xp tx) : EV w b id kd sn us mb dp xl xp tx := ⟨blk_cell h 0 rfl, blk_cell h 1 rfl, blk_cell h 2 rfl, blk_cell h 3 rfl, blk_cell h 4 rfl, blk_cell h 5 rfl, blk_cell h 6 rfl, blk_cell h 7 rfl, blk_cell h 8 rfl⟩

theorem EB.free (h : EB w b id kd sn us mb dp xl xp tx) (j : Nat) : w.frozen? ⟨b, j, none⟩ = false := blk_free h j

theorem EB.set (h : EB w b id kd sn us mb dp xl xp tx) {k : Nat} {p : Nat} (v : Value) (hne : p ≠ b) : EB (w.setCell ⟨p, k, none⟩ v) b id kd sn us mb dp xl xp tx := h.kept (blk_grown w p k v) (fun e => hne (Option.some.inj e))

theorem EB.put0 (h : EB w b id kd sn us mb dp xl xp tx) (v : Int) : EB (w.setCell ⟨b, 0, none⟩ (.int .i64 v)) b v kd sn us mb dp xl xp tx := blk_set _ h

theorem EB.put1 (h : EB w b id kd sn us mb dp xl xp tx) (v : Int) : EB (w.setCell ⟨b, 1, none⟩ (.int .i64 v)) b id v sn us mb dp xl xp tx := blk_set _ h

theorem EB.put2 (h : EB w b id kd sn us mb dp xl xp tx) (v : Int) : EB (w.setCell ⟨b, 2, none⟩ (.int .i64 v)) b id kd v us mb dp xl xp tx := blk_set _ h

theorem EB.put3 (h : EB w b id kd sn us mb dp xl xp tx) (v : Int) : EB (w.setCell ⟨b, 3, none⟩ (.int .i64 v)) b id kd sn v mb dp xl xp tx := blk_set _ h

theorem EB.put4 (h : EB w b id kd sn us mb dp xl xp tx) (v : Int) : EB (w.setCell ⟨b, 4, none⟩ (.int .i64 v)) b id kd sn us v dp xl xp tx := blk_set _ h

theorem EB.put5 (h : EB w b id kd sn us mb dp xl xp tx) (v : Value) : EB (w.setCell ⟨b, 5, none⟩ v) b id kd sn us mb dp v xp tx := blk_set _ h

theorem EB.put6 (h : EB w b id kd sn us mb dp xl xp tx) (v : List UInt8) : EB (w.setCell ⟨b, 6, none⟩ (.string ⟨v.toArray⟩)) b id kd sn us mb dp xl xp v := blk_set _ h

theorem EB.put7 (h : EB w b id kd sn us mb dp xl xp tx) (v : Value) : EB (w.setCell ⟨b, 7, none⟩ v) b id kd sn us mb dp xl v tx := blk_set _ h

theorem EB.put8 (h : EB w b id kd sn us mb dp xl xp tx) (v : Int) : EB (w.setCell ⟨b, 8, none⟩ (.int .i64 v)) b id kd sn us mb v xl xp tx := blk_set _ h

theorem EB.all (h : EB w b id kd sn us mb dp xl xp tx) (id' kd' sn' us' mb' dp' : Int) (xl' xp' : Value) (tx' : List UInt8) : ∃ W', (((((((((w.setCell ⟨b, 0, none⟩ (.int .i64 id')).setCell ⟨b, 1, none⟩ (.int .i64 kd')).setCell ⟨b, 2, none⟩ (.int .i64 sn')).setCell ⟨b, 3, none⟩ (.int .i64 us')).setCell ⟨b, 4, none⟩ (.int .i64 mb')).setCell ⟨b, 5, none⟩ xl').setCell ⟨b, 6, none⟩ (.string ⟨tx'.toArray⟩)).setCell ⟨b, 7, none⟩ xp').setCell ⟨b, 8, none⟩ (.int .i64 dp')) = W' ∧ EB W' b id' kd' sn' us' mb' dp' xl' xp' tx' ∧ w.grownBy W' (some b) :=
  ⟨_, rfl, (((((((((h.put0 id').put1 kd').put2 sn').put3 us').put4 mb').put5 xl').put6 tx').put7 xp').put8 dp'), grown_trans (grown_trans (grown_trans (grown_trans (grown_trans (grown_trans (grown_trans (grown_trans (blk_grown _ _ _ _) (blk_grown _ _ _ _)) (blk_grown _ _ _ _)) (blk_grown _ _ _ _)) (blk_grown _ _ _ _)) (blk_grown _ _ _ _)) (blk_grown _ _ _ _)) (blk_grown _ _ _ _)) (blk_grown _ _ _ _)⟩
end

def EL (w : World) (b : Nat) (id kd sn us mb dp : Int) (xl xp : Value) (tx : List UInt8) : Prop := w.heap[b]? = some (.cells (evcells id kd sn us mb dp xl xp tx) 96 (0, 0))

section
variable {w w' : World} {b : Nat} {id kd sn us mb dp : Int} {xl xp : Value} {tx : List UInt8}

theorem EL.new (w : World) (id kd sn us mb dp : Int) (xl xp : Value) (tx : List UInt8) : EL (w.alloc (.cells (evcells id kd sn us mb dp xl xp tx) 96)) w.heap.size id kd sn us mb dp xl xp tx := heap_alloc_new _ _

theorem EL.lt (h : EL w b id kd sn us mb dp xl xp tx) : b < w.heap.size := blk_lt h

theorem EL.on {B : Nat} (h : EL w b id kd sn us mb dp xl xp tx) (hb : Below B w w') (hlt : b < B) : EL w' b id kd sn us mb dp xl xp tx := (hb.block b hlt).trans h

theorem EL.kept {row : Option Nat} (h : EL w b id kd sn us mb dp xl xp tx) (hg : w.grownBy w' row) (hne : row ≠ some b) : EL w' b id kd sn us mb dp xl xp tx := (hg.block b h.lt (fun e => hne e.symm)).trans h

theorem EL.ev (h : EL w b id kd sn us mb dp xl xp tx) : EV w b id kd sn us mb dp xl xp tx := ⟨blk_cell h 0 rfl, blk_cell h 1 rfl, blk_cell h 2 rfl, blk_cell h 3 rfl, blk_cell h 4 rfl, blk_cell h 5 rfl, blk_cell h 6 rfl, blk_cell h 7 rfl, blk_cell h 8 rfl⟩

theorem EL.set (h : EL w b id kd sn us mb dp xl xp tx) {k : Nat} {p : Nat} (v : Value) (hne : p ≠ b) : EL (w.setCell ⟨p, k, none⟩ v) b id kd sn us mb dp xl xp tx := h.kept (blk_grown w p k v) (fun e => hne (Option.some.inj e))
end

end Go.Proofs.Ytckkfjmjcknjdaa
