/-
  A snapshot in a variable, its nodes in a row of the call's own: what keeps it; what is read is small.
-/
import Derived.Test.YtpenpbopehbncaaDoorSnap3
import Derived.Test.YtpenpbopehbncaaDoorWalk8f
namespace Go.Proofs.YtpenpbopehbncaaDoor
open Go.RowKit P1 P3 P9 P11 K
set_option linter.unusedVariables false
set_option linter.unusedSimpArgs false

/-- A variable at block b that holds a snapshot whose nodes lie in a row from block 'base' on, ahead of block 'top'. -/
structure KS (w : World) (b base top : Nat) (i t : Int) (v : Value) (s : List UInt8) (m : Nat) (zs : List Int) : Prop where
  blk : SB w b i t v s
  own : w.ownsRow base 3 1 v m (zs.map icell)
  ahead : ∀ g, v.ownBlock = some g → base ≤ g ∧ g < top

section
variable {w w' : World} {b base top : Nat} {i t : Int} {v : Value} {s : List UInt8} {m : Nat} {zs : List Int}

theorem KS.new (ho : w.ownsRow base 3 1 v m (zs.map icell)) : KS (w.alloc (.cells (sncells i t v s) 30)) w.heap.size base w.heap.size i t v s m zs :=
  ⟨heap_alloc_new _ _, ho.alloc _, ho.lt⟩
theorem KS.on (h : KS w b base top i t v s m zs) (hb : Below w.heap.size w w') : KS w' b base top i t v s m zs :=
  ⟨h.blk.on hb h.blk.lt, own_below h.own hb, h.ahead⟩
theorem KS.lt (h : KS w b base top i t v s m zs) : b < w.heap.size := h.blk.lt

theorem sb_row {base2 : Nat} {e2 : TypeId} {k2 : Nat} {v2 : Value} {n2 : Nat} {xs2 : List Value} (hj : SB w b i t v s) (ho : w.ownsRow base2 e2 k2 v2 n2 xs2) (hne : e2 ≠ 30) : v2.ownBlock ≠ some b := by
  intro e1
  rcases ho.2 with ⟨rfl, -⟩ | ⟨g, cap, cur, rfl, -, hgb, -⟩
  · cases e1
  · cases e1
    unfold SB at hj
    rw [hgb] at hj
    injection hj with hj
    injection hj with h1 h2 h3
    exact hne h2

/-- Another row written leaves it. -/
theorem KS.kept {base2 : Nat} {e2 : TypeId} {k2 : Nat} {v2 : Value} {n2 : Nat} {xs2 : List Value} (h : KS w b base top i t v s m zs) (ho : w.ownsRow base2 e2 k2 v2 n2 xs2) (he : e2 ≠ 30) (hg : w.grownBy w' v2.ownBlock) (hne : ∀ g, v.ownBlock = some g → v2.ownBlock ≠ some g) : KS w' b base top i t v s m zs := by
  refine ⟨h.blk.kept hg (sb_row h.blk ho he), h.own.kept hg ?_, h.ahead⟩
  cases hv : v.ownBlock with
  | none => exact Or.inl rfl
  | some g => exact Or.inr (fun e => hne g hv e.symm)

/-- Its own row written leaves the variable. -/
theorem KS.marked (h : KS w b base top i t v s m zs) {ms : List Int} (ho : w'.ownsRow base 3 1 v m (ms.map icell)) (hg : w.grownBy w' v.ownBlock) : KS w' b base top i t v s m ms :=
  ⟨h.blk.kept hg (sb_row h.blk h.own (by decide)), ho, h.ahead⟩

/-- Two rows of which one was made behind the other are not the same. -/
theorem KS.part {w2 : World} {b2 base2 top2 : Nat} {i2 t2 : Int} {v2 : Value} {s2 : List UInt8} {m2 : Nat} {zs2 : List Int} (h : KS w b base top i t v s m zs) (h2 : KS w2 b2 base2 top2 i2 t2 v2 s2 m2 zs2) (hle : top ≤ base2) : ∀ g, v.ownBlock = some g → v2.ownBlock ≠ some g := by
  intro g hg e
  have k1 := h.ahead g hg
  have k2 := h2.ahead g e
  omega
end

theorem below_own8 {w w' W : World} {B base : Nat} {e : TypeId} {k : Nat} {v : Value} {n : Nat} {xs : List Value} (hb : Below B W w) (hB : B ≤ w.heap.size) (hle : B ≤ base) (ho : w.ownsRow base e k v n xs) (hg : w.grownBy w' v.ownBlock) : Below B W w' :=
  hb.grown hg hB (fun j hj => Nat.le_trans hle (ho.lt j hj).1)

theorem rs_small (l : List UInt8) : (rsR l).2.2.1.length ≤ 4 ∧ ∀ z ∈ (rsR l).2.2.1, (Lit.int .i64 z).wf = true := by
  unfold rsR
  cases h : rdSnap l with
  | none => exact ⟨by simp, by simp⟩
  | some q =>
    obtain ⟨i, t, z, b⟩ := q
    have hk := (rdSnap_bounds h).2.2.1
    refine ⟨(confOk_len hk).2, fun y hy => ?_⟩
    obtain ⟨h1, h2⟩ := confOk_mem hk y hy
    exact wf_small (by omega) (by omega)

end Go.Proofs.YtpenpbopehbncaaDoor
