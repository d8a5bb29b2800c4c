/-
  What the laws of chapter 8 keep in memory: a disk or a snapshot that came in, a disk's copy, rows of acts.
-/
import Derived.Test.YtpenpbopehbncaaDoorSnap4
import Derived.Test.YtpenpbopehbncaaDoorWalk8i
import Derived.Test.YtpenpbopehbncaaDoorActK
namespace Go.Proofs.YtpenpbopehbncaaDoor
open Go.RowKit P1 P3 P5 P9 P11 K
set_option linter.unusedVariables false
set_option linter.unusedSimpArgs false

theorem own_apart8 {w : World} {b1 b2 : Nat} {e1 e2 : TypeId} {k1 k2 : Nat} {v1 v2 : Value} {n1 n2 : Nat} {xs1 xs2 : List Value} (h1 : w.ownsRow b1 e1 k1 v1 n1 xs1) (h2 : w.ownsRow b2 e2 k2 v2 n2 xs2) (hne : e1 ≠ e2) : ∀ g, v1.ownBlock = some g → v2.ownBlock ≠ some g := by
  intro g hg1 hg2
  rcases h1.2 with ⟨rfl, -⟩ | ⟨g1, c1, u1, rfl, -, hb1, -⟩
  · cases hg1
  · cases hg1
    rcases h2.2 with ⟨rfl, -⟩ | ⟨g2, c2, u2, rfl, -, hb2, -⟩
    · cases hg2
    · cases hg2
      rw [hb1] at hb2
      cases hb2
      exact hne rfl
theorem own_stays8 {w w' : World} {b1 b2 : Nat} {e1 e2 : TypeId} {k1 k2 : Nat} {v1 v2 : Value} {n1 n2 : Nat} {xs1 xs2 : List Value} (h1 : w.ownsRow b1 e1 k1 v1 n1 xs1) (h2 : w.ownsRow b2 e2 k2 v2 n2 xs2) (hne : e1 ≠ e2) (hg : w.grownBy w' v2.ownBlock) : w'.ownsRow b1 e1 k1 v1 n1 xs1 := by
  refine h1.kept hg ?_
  cases hv : v1.ownBlock with
  | none => exact Or.inl rfl
  | some g => exact Or.inr (fun e => own_apart8 h1 h2 hne g hv e.symm)

/-- A block of one type stays where a row of another type is written. -/
theorem blk_row8 {w w' : World} {b : Nat} {cs : Array Value} {ty : TypeId} {base2 : Nat} {e2 : TypeId} {k2 : Nat} {v2 : Value} {n2 : Nat} {xs2 : List Value} (h : w.heap[b]? = some (.cells cs ty (0, 0))) (ho : w.ownsRow base2 e2 k2 v2 n2 xs2) (hne : e2 ≠ ty) (hg : w.grownBy w' v2.ownBlock) : w'.heap[b]? = some (.cells cs ty (0, 0)) := by
  refine (hg.block b (blk_lt h) (fun e1 => ?_)).trans h
  rcases ho.2 with ⟨rfl, -⟩ | ⟨g, cap, cur, rfl, -, hgb, -⟩
  · cases e1
  · cases e1
    rw [hgb] at h
    cases h
    exact hne rfl

/-- A disk that came in, in its variable. -/
def LD8 (w : World) (b : Nat) (x : Value) : Prop := w.heap[b]? = some (.cells #[x] 40 (0, 0))
theorem LD8.lt {w : World} {b : Nat} {x : Value} (h : LD8 w b x) : b < w.heap.size := blk_lt h
theorem LD8.on {w w' : World} {b : Nat} {x : Value} (h : LD8 w b x) (hb : Below w.heap.size w w') : LD8 w' b x := (hb.block b h.lt).trans h
theorem LD8.cell {w : World} {b : Nat} {x : Value} (h : LD8 w b x) : w.cell? ⟨b, 0, none⟩ = some x := blk_cell h 0 rfl
theorem LD8.row {w w' : World} {b : Nat} {x : Value} {base2 : Nat} {e2 : TypeId} {k2 : Nat} {v2 : Value} {n2 : Nat} {xs2 : List Value} (h : LD8 w b x) (ho : w.ownsRow base2 e2 k2 v2 n2 xs2) (hne : e2 ≠ 40) (hg : w.grownBy w' v2.ownBlock) : LD8 w' b x := blk_row8 h ho hne hg

/-- A snapshot that came in, in its variable. -/
def LS8 (w : World) (b : Nat) (i t : Int) (x : Value) (s : List UInt8) : Prop := w.heap[b]? = some (.cells (sncells i t x s) 26 (0, 0))
theorem LS8.lt {w : World} {b : Nat} {i t : Int} {x : Value} {s : List UInt8} (h : LS8 w b i t x s) : b < w.heap.size := blk_lt h
theorem LS8.on {w w' : World} {b : Nat} {i t : Int} {x : Value} {s : List UInt8} (h : LS8 w b i t x s) (hb : Below w.heap.size w w') : LS8 w' b i t x s := (hb.block b h.lt).trans h
theorem LS8.sv {w : World} {b : Nat} {i t : Int} {x : Value} {s : List UInt8} (h : LS8 w b i t x s) : SV w b i t x s := ⟨blk_cell h 0 rfl, blk_cell h 1 rfl, blk_cell h 2 rfl, blk_cell h 3 rfl⟩
theorem LS8.row {w w' : World} {b : Nat} {i t : Int} {x : Value} {s : List UInt8} {base2 : Nat} {e2 : TypeId} {k2 : Nat} {v2 : Value} {n2 : Nat} {xs2 : List Value} (h : LS8 w b i t x s) (ho : w.ownsRow base2 e2 k2 v2 n2 xs2) (hne : e2 ≠ 26) (hg : w.grownBy w' v2.ownBlock) : LS8 w' b i t x s := blk_row8 h ho hne hg

theorem DV8.new (w : World) (x : Value) : DV8 (w.alloc (.cells #[x] 47)) w.heap.size x := heap_alloc_new _ _
theorem DV8.on' {w w' : World} {b : Nat} {x : Value} (h : DV8 w b x) (hb : Below w.heap.size w w') : DV8 w' b x := h.on hb h.lt
theorem DV8.row {w w' : World} {b : Nat} {x : Value} {base2 : Nat} {e2 : TypeId} {k2 : Nat} {v2 : Value} {n2 : Nat} {xs2 : List Value} (h : DV8 w b x) (ho : w.ownsRow base2 e2 k2 v2 n2 xs2) (hne : e2 ≠ 47) (hg : w.grownBy w' v2.ownBlock) : DV8 w' b x := blk_row8 h ho hne hg

section
variable {w w' : World} {b base top : Nat} {i t : Int} {v : Value} {s : List UInt8} {m : Nat} {zs : List Int}
/-- A row of another type written leaves a snapshot and its row. -/
theorem KS.row {base2 : Nat} {e2 : TypeId} {k2 : Nat} {v2 : Value} {n2 : Nat} {xs2 : List Value} (h : KS w b base top i t v s m zs) (ho : w.ownsRow base2 e2 k2 v2 n2 xs2) (h1 : e2 ≠ 30) (h2 : 3 ≠ e2) (hg : w.grownBy w' v2.ownBlock) : KS w' b base top i t v s m zs :=
  h.kept ho h1 hg (own_apart8 h.own ho h2)
end

/-- A row of acts, from block 'base' on, ahead of block 'top'. -/
structure AR (w : World) (base top : Nat) (va : Value) (ma : Nat) (aa : List ActV) : Prop where
  own : w.ownsRow base 79 4 va ma (aa.flatMap akc)
  up : ∀ g, va.ownBlock = some g → base ≤ g ∧ g < top
section
variable {w w' : World} {base top : Nat} {va : Value} {ma : Nat} {aa : List ActV}
theorem AR.new (h : w.ownsRow base 79 4 va ma (aa.flatMap akc)) : AR w base w.heap.size va ma aa := ⟨h, h.lt⟩
theorem AR.on (h : AR w base top va ma aa) (hb : Below w.heap.size w w') : AR w' base top va ma aa := ⟨own_below h.own hb, h.up⟩
theorem AR.row {base2 : Nat} {e2 : TypeId} {k2 : Nat} {v2 : Value} {n2 : Nat} {xs2 : List Value} (h : AR w base top va ma aa) (ho : w.ownsRow base2 e2 k2 v2 n2 xs2) (hne : 79 ≠ e2) (hg : w.grownBy w' v2.ownBlock) : AR w' base top va ma aa := ⟨own_stays8 h.own ho hne hg, h.up⟩
theorem AR.other {base2 top2 : Nat} {va2 : Value} {ma2 : Nat} {aa2 : List ActV} (h : AR w base top va ma aa) (h2 : AR w base2 top2 va2 ma2 aa2) (hle : top ≤ base2) (hg : w.grownBy w' va2.ownBlock) : AR w' base top va ma aa := by
  refine ⟨h.own.kept hg ?_, h.up⟩
  cases hv : va.ownBlock with
  | none => exact Or.inl rfl
  | some g =>
    refine Or.inr (fun e => ?_)
    have k1 := h.up g hv
    have k2 := h2.up g e.symm
    omega
theorem AR.marked (h : AR w base top va ma aa) {bs : List ActV} (ho : w'.ownsRow base 79 4 va ma (bs.flatMap akc)) : AR w' base top va ma bs := ⟨ho, h.up⟩
end

theorem nw_small (fs : List FileV) : (nwR fs).2.2.1.length ≤ 4 ∧ ∀ z ∈ (nwR fs).2.2.1, (Lit.int .i64 z).wf = true := by
  unfold nwR
  split
  · cases h : snNewest fs with
    | none => exact ⟨by simp, by simp⟩
    | some s =>
      have hk := (newest_conf h).1
      refine ⟨(confOk_len hk).2, fun y hy => ?_⟩
      obtain ⟨h1, h2⟩ := confOk_mem hk y hy
      exact wf_small (by omega) (by omega)
  · exact ⟨by simp, by simp⟩

end Go.Proofs.YtpenpbopehbncaaDoor
