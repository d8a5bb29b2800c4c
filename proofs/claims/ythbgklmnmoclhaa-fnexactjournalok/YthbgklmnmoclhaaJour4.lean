/-
  A journal in a variable: its cells; what keeps them.
-/
import Derived.Test.YthbgklmnmoclhaaLog3
namespace Go.Proofs.Ythbgklmnmoclhaa
open Go.RowKit P1 P9 K
set_option linter.unusedVariables false

/-- A variable that holds a journal. -/
structure JV (w : World) (b : Nat) (n t v s u : Int) (x : Value) : Prop where
  c0 : w.cell? ⟨b, 0, none⟩ = some (.int .i64 n)
  c1 : w.cell? ⟨b, 1, none⟩ = some (.int .i64 t)
  c2 : w.cell? ⟨b, 2, none⟩ = some (.int .i64 v)
  c3 : w.cell? ⟨b, 3, none⟩ = some (.int .i64 s)
  c4 : w.cell? ⟨b, 4, none⟩ = some (.int .i64 u)
  c5 : w.cell? ⟨b, 5, none⟩ = some x

section
variable {w w' : World} {b : Nat} {n t v s u : Int} {x : Value}
theorem JV.lt (h : JV w b n t v s u x) : b < w.heap.size := cell_lt h.c0
theorem JV.on (h : JV w b n t v s u x) (hb : Below w.heap.size w w') : JV w' b n t v s u x :=
  ⟨(hb.cell h.lt).trans h.c0, (hb.cell h.lt).trans h.c1, (hb.cell h.lt).trans h.c2, (hb.cell h.lt).trans h.c3, (hb.cell h.lt).trans h.c4, (hb.cell h.lt).trans h.c5⟩
theorem JV.new (w : World) (n t v s u : Int) (x : Value) (ty : TypeId) : JV (w.alloc (.cells #[.int .i64 n, .int .i64 t, .int .i64 v, .int .i64 s, .int .i64 u, x] ty)) w.heap.size n t v s u x := ⟨by simp, by simp, by simp, by simp, by simp, by simp⟩
theorem JV.kept {row : Option Nat} (h : JV w b n t v s u x) (hg : w.grownBy w' row) (hne : row ≠ some b) : JV w' b n t v s u x := by
  have hb := hg.block b h.lt (fun e => hne e.symm)
  exact ⟨(cell_block hb).trans h.c0, (cell_block hb).trans h.c1, (cell_block hb).trans h.c2, (cell_block hb).trans h.c3, (cell_block hb).trans h.c4, (cell_block hb).trans h.c5⟩
end

theorem JV.under {w w' : World} {b B : Nat} {n t v s u : Int} {x : Value} (h : JV w b n t v s u x) (hb : Below B w w') (hlt : b < B) : JV w' b n t v s u x :=
  ⟨(hb.cell hlt).trans h.c0, (hb.cell hlt).trans h.c1, (hb.cell hlt).trans h.c2, (hb.cell hlt).trans h.c3, (hb.cell hlt).trans h.c4, (hb.cell hlt).trans h.c5⟩

theorem JV.drew {w : World} {b : Nat} {n t v s u : Int} {x : Value} (h : JV w b n t v s u x) : JV w.drew b n t v s u x := h.on (Below.refl _ _).drew

end Go.Proofs.Ythbgklmnmoclhaa
