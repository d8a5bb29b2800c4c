/-
  Walks and mathematics of Log1, Walk6a, Log3.
-/
import Derived.Test.YtmllcomppjkhhaaGreatDoorROpenEntry
import Derived.Test.YtmllcomppjkhhaaGreatDoorRHeldMore
import Derived.Test.YtmllcomppjkhhaaGreatDoorRBase
import Derived.Lib.ItoaNum
import Derived.Lib.ItoaMem
import Derived.Lib.ItoaLen
import Derived.Test.YtmllcomppjkhhaaGreatDoorRPlain1
import Derived.WalkSmall
import Derived.Deep.RegionHeld3
import Derived.Deep.QuietTactic
import Derived.BigQuiet
import Derived.Test.YtmllcomppjkhhaaGreatDoorRIntsMark
namespace Go.Proofs.YtmllcomppjkhhaaGreatDoor
open Go.RowKit P1 P9 K
set_option linter.unusedVariables false
set_option linter.unusedSimpArgs false

theorem infoIE : (Tryz.prog.info? 56).map (·.size) = some 3 := by kernel_rfl

theorem infoIEz : (Tryz.prog.info? 56).map (fun i => (i.zero, i.size, i.bytes)) = some (some (.agg #[.int .i64 0, .int .i64 0, .string ⟨#[]⟩]), 3, 32) := by kernel_rfl

theorem ecells_length (e : EntV) : (ecells e).length = 3 := rfl

theorem ecells_one (e : EntV) : ∀ u ∈ ecells e, u.oneCell' = true := by
  intro u hu
  simp only [ecells, List.mem_cons, List.not_mem_nil, or_false] at hu
  rcases hu with rfl | rfl | rfl <;> rfl

abbrev EntsAt (w : World) (oa : Option Addr) (n cap : Nat) (es : List EntV) : Prop := RowsAt 3 ecells w oa n cap es

theorem RowsAt.get3 {w : World} {oa : Option Addr} {n cap : Nat} {es : List EntV} (h : EntsAt w oa n cap es) {P : Program} {t e : TypeId} (ht : P.underlying t = some (.slice e)) (hi : (P.info? e).map (·.size) = some 3) (i : Nat) (hin : i < n) :
    ∃ f b q, es[i]? = some f ∧ (∀ wx, (Instr.indexAt t (.slice oa n cap) (.int .i64 (i : Int))).run P wx = .ok (.pointer (some ⟨b, q, none⟩)) wx) ∧ b < w.heap.size ∧
      w.cell? ⟨b, q, none⟩ = some (.int .i64 f.term) ∧ w.cell? ⟨b, q + 1, none⟩ = some (.int .i64 f.kind) ∧ w.cell? ⟨b, q + 2, none⟩ = some (.string f.data) := by
  obtain ⟨f, b, q, hf, hx, hb, hc⟩ := h.get ht hi ecells_length (by omega) i hin
  exact ⟨f, b, q, hf, hx, hb, hc 0 _ rfl, hc 1 _ rfl, hc 2 _ rfl⟩

end Go.Proofs.YtmllcomppjkhhaaGreatDoor

namespace Go.Proofs.YtmllcomppjkhhaaGreatDoor
open Go.RowKit P1 P9 K
set_option linter.unusedVariables false
set_option linter.unusedSimpArgs false

theorem drop_at6 {es : List EntV} {j : Nat} {f : EntV} (h : es[j]? = some f) : es.drop j = f :: es.drop (j + 1) := by
  obtain ⟨hlt, he⟩ := List.getElem?_eq_some_iff.1 h
  rw [List.drop_eq_getElem_cons hlt, he]

end Go.Proofs.YtmllcomppjkhhaaGreatDoor

namespace Go.Proofs.YtmllcomppjkhhaaGreatDoor
open Go.RowKit P1 P9 K
set_option linter.unusedVariables false
set_option linter.unusedSimpArgs false

structure LV (w : World) (b : Nat) (s u : Int) (v : Value) : Prop where
  c0 : w.cell? ⟨b, 0, none⟩ = some (.int .i64 s)
  c1 : w.cell? ⟨b, 1, none⟩ = some (.int .i64 u)
  c2 : w.cell? ⟨b, 2, none⟩ = some v

theorem LV.lt {w : World} {b : Nat} {s u : Int} {v : Value} (h : LV w b s u v) : b < w.heap.size := cell_lt h.c0

theorem LV.on {w w' : World} {b : Nat} {s u : Int} {v : Value} (h : LV w b s u v) (hb : Below w.heap.size w w') : LV w' b s u v :=
  ⟨(hb.cell h.lt).trans h.c0, (hb.cell h.lt).trans h.c1, (hb.cell h.lt).trans h.c2⟩

theorem LV.drew {w : World} {b : Nat} {s u : Int} {v : Value} (h : LV w b s u v) : LV w.drew b s u v := h.on (Below.refl _ _).drew

theorem LV.new (w : World) (s u : Int) (v : Value) (t : TypeId) : LV (w.alloc (.cells #[.int .i64 s, .int .i64 u, v] t)) w.heap.size s u v := ⟨by simp, by simp, by simp⟩

theorem cell_block {w w' : World} {p : Addr} (h : w'.heap[p.block]? = w.heap[p.block]?) : w'.cell? p = w.cell? p := by
  unfold World.cell?
  rw [h]

theorem LV.kept {w w' : World} {b : Nat} {s u : Int} {v : Value} {row : Option Nat} (h : LV w b s u v) (hg : w.grownBy w' row) (hne : row ≠ some b) : LV w' b s u v := by
  have hb := hg.block b h.lt (fun e => hne e.symm)
  exact ⟨(cell_block hb).trans h.c0, (cell_block hb).trans h.c1, (cell_block hb).trans h.c2⟩

theorem own_form3 {w : World} {base : Nat} {e : TypeId} {size : Nat} {v : Value} {n : Nat} {xs : List Value} (h : w.ownsRow base e size v n xs) : ∃ oa cap, v = .slice oa n cap := by
  rcases h.2 with ⟨rfl, rfl⟩ | ⟨g, cap, cur, rfl, _⟩
  · exact ⟨_, _, rfl⟩
  · exact ⟨_, _, rfl⟩

theorem entsAt_own {w : World} {base : Nat} {e : TypeId} {v : Value} {n : Nat} {es : List EntV} (h : w.ownsRow base e 3 v n (es.flatMap ecells)) : ∃ oa cap, v = .slice oa n cap ∧ EntsAt w oa n cap es := rowsAt_of_own ecells_length (by omega) h

end Go.Proofs.YtmllcomppjkhhaaGreatDoor
