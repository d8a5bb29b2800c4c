/-
  A snapshot in memory: its four cells, in a variable or as a value; texts laid one behind the other.
-/
import Derived.Test.YtpenpbopehbncaaDoorSnap1
import Derived.Test.YtpenpbopehbncaaDoorWalk3a
import Derived.Test.YtpenpbopehbncaaDoorPack13
import Derived.Test.YtpenpbopehbncaaDoorPack15
import Derived.Test.YtpenpbopehbncaaDoorPack9
import Derived.Lib.SmallJoins
namespace Go.Proofs.YtpenpbopehbncaaDoor
open Go.RowKit P1 P3 P9 P11 K
set_option linter.unusedVariables false
set_option linter.unusedSimpArgs false

abbrev sncells (i t : Int) (x : Value) (b : List UInt8) : Array Value := #[.int .i64 i, .int .i64 t, x, .string ⟨b.toArray⟩]
abbrev snval (i t : Int) (x : Value) (b : List UInt8) : Value := .agg #[.int .i64 i, .int .i64 t, x, .string ⟨b.toArray⟩]

/-- A variable that holds a snapshot. -/
structure SV (w : World) (b : Nat) (i t : Int) (x : Value) (s : List UInt8) : Prop where
  c0 : w.cell? ⟨b, 0, none⟩ = some (.int .i64 i)
  c1 : w.cell? ⟨b, 1, none⟩ = some (.int .i64 t)
  c2 : w.cell? ⟨b, 2, none⟩ = some x
  c3 : w.cell? ⟨b, 3, none⟩ = some (.string ⟨s.toArray⟩)

section
variable {w w' : World} {b : Nat} {i t : Int} {x : Value} {s : List UInt8}
theorem SV.lt (h : SV w b i t x s) : b < w.heap.size := cell_lt h.c0
theorem SV.on (h : SV w b i t x s) (hb : Below w.heap.size w w') : SV w' b i t x s :=
  ⟨(hb.cell h.lt).trans h.c0, (hb.cell h.lt).trans h.c1, (hb.cell h.lt).trans h.c2, (hb.cell h.lt).trans h.c3⟩
theorem SV.new (w : World) (i t : Int) (x : Value) (s : List UInt8) (ty : TypeId) : SV (w.alloc (.cells #[.int .i64 i, .int .i64 t, x, .string ⟨s.toArray⟩] ty)) w.heap.size i t x s := ⟨by simp, by simp, by simp, by simp⟩
theorem SV.drew (h : SV w b i t x s) : SV w.drew b i t x s := h.on (Below.refl _ _).drew
theorem SV.under {B : Nat} (h : SV w b i t x s) (hb : Below B w w') (hlt : b < B) : SV w' b i t x s :=
  ⟨(hb.cell hlt).trans h.c0, (hb.cell hlt).trans h.c1, (hb.cell hlt).trans h.c2, (hb.cell hlt).trans h.c3⟩
end

/-- A block that holds a snapshot of the program's type. -/
def SB (w : World) (b : Nat) (i t : Int) (x : Value) (s : List UInt8) : Prop := w.heap[b]? = some (.cells (sncells i t x s) 30 (0, 0))

theorem SB.new (w : World) (i t : Int) (x : Value) (s : List UInt8) : SB (w.alloc (.cells (sncells i t x s) 30)) w.heap.size i t x s := heap_alloc_new _ _
theorem SB.lt {w : World} {b : Nat} {i t : Int} {x : Value} {s : List UInt8} (h : SB w b i t x s) : b < w.heap.size := blk_lt h
theorem SB.on {w w' : World} {b B : Nat} {i t : Int} {x : Value} {s : List UInt8} (h : SB w b i t x s) (hb : Below B w w') (hlt : b < B) : SB w' b i t x s := (hb.block b hlt).trans h
theorem SB.kept {w w' : World} {b : Nat} {row : Option Nat} {i t : Int} {x : Value} {s : List UInt8} (h : SB w b i t x s) (hg : w.grownBy w' row) (hne : row ≠ some b) : SB w' b i t x s := (hg.block b h.lt (fun e => hne e.symm)).trans h
theorem SB.sv {w : World} {b : Nat} {i t : Int} {x : Value} {s : List UInt8} (h : SB w b i t x s) : SV w b i t x s :=
  ⟨blk_cell h 0 rfl, blk_cell h 1 rfl, blk_cell h 2 rfl, blk_cell h 3 rfl⟩
theorem SB.free {w : World} {b : Nat} {i t : Int} {x : Value} {s : List UInt8} (h : SB w b i t x s) (j : Nat) : w.frozen? ⟨b, j, none⟩ = false := blk_free h j

theorem blk_setS {w : World} {p k : Nat} {cs : Array Value} {e : TypeId} (v : Value) (h : w.heap[p]? = some (.cells cs e (0, 0))) : (w.setCell ⟨p, k, none⟩ v).heap[p]? = some (.cells (cs.setIfInBounds k v) e (0, 0)) := by
  simp only [World.setCell, Array.getElem?_modify, if_true, h]
  rfl
theorem set_grown (w : World) (p k : Nat) (v : Value) : w.grownBy (w.setCell ⟨p, k, none⟩ v) (some p) :=
  ⟨rfl, rfl, rfl, by simp [World.setCell], fun j hj hne => Below.heap_setCell _ _ _ _ (fun e => hne (by rw [e]))⟩

section
variable {w : World} {b : Nat} {i t : Int} {x : Value} {s : List UInt8}
theorem SB.put0 (h : SB w b i t x s) (v : Int) : SB (w.setCell ⟨b, 0, none⟩ (.int .i64 v)) b v t x s := blk_setS _ h
theorem SB.put1 (h : SB w b i t x s) (v : Int) : SB (w.setCell ⟨b, 1, none⟩ (.int .i64 v)) b i v x s := blk_setS _ h
theorem SB.put2 (h : SB w b i t x s) (v : Value) : SB (w.setCell ⟨b, 2, none⟩ v) b i t v s := blk_setS _ h
theorem SB.put3 (h : SB w b i t x s) (v : List UInt8) : SB (w.setCell ⟨b, 3, none⟩ (.string ⟨v.toArray⟩)) b i t x v := blk_setS _ h
theorem SB.all (h : SB w b i t x s) (i' t' : Int) (x' : Value) (s' : List UInt8) :
    SB ((((w.setCell ⟨b, 0, none⟩ (.int .i64 i')).setCell ⟨b, 1, none⟩ (.int .i64 t')).setCell ⟨b, 2, none⟩ x').setCell ⟨b, 3, none⟩ (.string ⟨s'.toArray⟩)) b i' t' x' s' ∧
    w.grownBy ((((w.setCell ⟨b, 0, none⟩ (.int .i64 i')).setCell ⟨b, 1, none⟩ (.int .i64 t')).setCell ⟨b, 2, none⟩ x').setCell ⟨b, 3, none⟩ (.string ⟨s'.toArray⟩)) (some b) :=
  ⟨(((h.put0 i').put1 t').put2 x').put3 s', grown_trans (grown_trans (grown_trans (set_grown _ _ _ _) (set_grown _ _ _ _)) (set_grown _ _ _ _)) (set_grown _ _ _ _)⟩
end

/-- The results of SnapText. -/
def stVal (r : Option (List UInt8)) : Value := match r with | some x => .tuple #[.string ⟨x.toArray⟩, .bool true] | none => .tuple #[.string ⟨#[]⟩, .bool false]

theorem cat_two8 (x y : List UInt8) : (⟨x.toArray⟩ : ByteArray) ++ ⟨y.toArray⟩ = ⟨(x ++ y).toArray⟩ := by
  apply ByteArray.ext
  simp
theorem size_mk8 (l : List UInt8) : (⟨l.toArray⟩ : ByteArray).size = l.length := rfl
theorem bl_mk8 (l : List UInt8) : bl ⟨l.toArray⟩ = l := rfl

theorem cat4_facts (P : Program) (a b c d T : ByteArray) (h : a.size + b.size + c.size + d.size ≤ 1048576) (hT : a ++ b ++ c ++ d = T) :
    ∃ A1 A2 : ByteArray, (∀ wx, (Op.stringOp .add a b).run P wx = .ok (.string A1) wx) ∧ (∀ wx, (Op.stringOp .add A1 c).run P wx = .ok (.string A2) wx) ∧ (∀ wx, (Op.stringOp .add A2 d).run P wx = .ok (.string T) wx) := by
  subst hT
  exact ⟨_, _, fun wx => run_string_add_sum _ _ _ (by omega), fun wx => run_string_add_sum _ _ _ (by rw [ByteArray.size_append]; omega), fun wx => run_string_add_sum _ _ _ (by rw [ByteArray.size_append, ByteArray.size_append]; omega)⟩

theorem snap_parts (i t : Nat) (c b : List UInt8) : (⟨(varB i).toArray⟩ : ByteArray) ++ ⟨(varB t).toArray⟩ ++ ⟨(shortB c).toArray⟩ ++ ⟨(shortB b).toArray⟩ = ⟨(snapB i t c b).toArray⟩ := by
  rw [cat_two8, cat_two8, cat_two8]
  simp [snapB]

theorem shortB_length (l : List UInt8) : (shortB l).length ≤ l.length + 10 ∧ l.length ≤ (shortB l).length := by
  have := varB_length l.length
  simp only [shortB, List.length_append]
  omega

theorem snapB_length (i t : Nat) (c b : List UInt8) : (snapB i t c b).length ≤ c.length + b.length + 40 ∧ b.length ≤ (snapB i t c b).length := by
  have := varB_length i
  have := varB_length t
  have := shortB_length c
  have := shortB_length b
  simp only [snapB, List.length_append]
  omega

theorem snText_no {i t : Int} {z : List Int} {b : List UInt8} (h : snOk i t z = false ∨ ¬ (snapB i.toNat t.toNat (confB z) b).length + 4 ≤ 20000) : snText i t z b = none := by
  unfold snText
  rw [if_neg]
  rintro ⟨h1, h2⟩
  rcases h with h | h
  · rw [h] at h1; cases h1
  · exact h h2
theorem snText_yes {i t : Int} {z : List Int} {b : List UInt8} (h : snOk i t z = true) (h2 : (snapB i.toNat t.toNat (confB z) b).length + 4 ≤ 20000) : snText i t z b = some (sealL (snapB i.toNat t.toNat (confB z) b)) := if_pos ⟨h, h2⟩
theorem snOk_no {i t : Int} {z : List Int} (h : i < 0 ∨ 1000000 < i ∨ t < 0 ∨ 100000 < t ∨ confOk z = false) : snOk i t z = false := by
  cases hk : snOk i t z with
  | false => rfl
  | true =>
    obtain ⟨h1, h2, h3⟩ := snOk_iff.1 hk
    rcases h with h | h | h | h | h
    · omega
    · omega
    · omega
    · omega
    · rw [h] at h3; cases h3

end Go.Proofs.YtpenpbopehbncaaDoor
