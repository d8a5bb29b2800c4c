/-
  Walks and mathematics of Log3.
-/
import Derived.Test.YtoalbeiinlcgpaaKLog2
import Derived.Test.YtoalbeiinlcgpaaKWalk6a
import Derived.Deep.RegionHeld3
namespace Go.Proofs.Ytoalbeiinlcgpaa
open Go.RowKit P1 P9 K
set_option linter.unusedVariables false
set_option linter.unusedSimpArgs false

structure LV (w : World) (b : Nat) (s u : Int) (v : Value) : Prop where
  c0 : w.cell? ⟨b, 0, none⟩ = some (.int .i64 s)
  c1 : w.cell? ⟨b, 1, none⟩ = some (.int .i64 u)
  c2 : w.cell? ⟨b, 2, none⟩ = some v

theorem LV.lt {w : World} {b : Nat} {s u : Int} {v : Value} (h : LV w b s u v) : b < w.heap.size := cell_lt h.c0

theorem LV.on {w w' : World} {b : Nat} {s u : Int} {v : Value} (h : LV w b s u v) (hb : Below w.heap.size w w') : LV w' b s u v :=
  ⟨(hb.cell h.lt).trans h.c0, (hb.cell h.lt).trans h.c1, (hb.cell h.lt).trans h.c2⟩

theorem LV.drew {w : World} {b : Nat} {s u : Int} {v : Value} (h : LV w b s u v) : LV w.drew b s u v := h.on (Below.refl _ _).drew

theorem LV.new (w : World) (s u : Int) (v : Value) (t : TypeId) : LV (w.alloc (.cells #[.int .i64 s, .int .i64 u, v] t)) w.heap.size s u v := ⟨by simp, by simp, by simp⟩

theorem cell_block {w w' : World} {p : Addr} (h : w'.heap[p.block]? = w.heap[p.block]?) : w'.cell? p = w.cell? p := by
  unfold World.cell?
  rw [h]

theorem LV.kept {w w' : World} {b : Nat} {s u : Int} {v : Value} {row : Option Nat} (h : LV w b s u v) (hg : w.grownBy w' row) (hne : row ≠ some b) : LV w' b s u v := by
  have hb := hg.block b h.lt (fun e => hne e.symm)
  exact ⟨(cell_block hb).trans h.c0, (cell_block hb).trans h.c1, (cell_block hb).trans h.c2⟩

theorem own_form3 {w : World} {base : Nat} {e : TypeId} {size : Nat} {v : Value} {n : Nat} {xs : List Value} (h : w.ownsRow base e size v n xs) : ∃ oa cap, v = .slice oa n cap := by
  rcases h.2 with ⟨rfl, rfl⟩ | ⟨g, cap, cur, rfl, _⟩
  · exact ⟨_, _, rfl⟩
  · exact ⟨_, _, rfl⟩

theorem entsAt_own {w : World} {base : Nat} {e : TypeId} {v : Value} {n : Nat} {es : List EntV} (h : w.ownsRow base e 3 v n (es.flatMap ecells)) : ∃ oa cap, v = .slice oa n cap ∧ EntsAt w oa n cap es := rowsAt_of_own ecells_length (by omega) h

end Go.Proofs.Ytoalbeiinlcgpaa
