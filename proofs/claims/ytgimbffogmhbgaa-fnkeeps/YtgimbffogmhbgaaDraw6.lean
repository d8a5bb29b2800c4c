/-
  Draws of chapter 3: a right disk.
-/
import Derived.Test.YtgimbffogmhbgaaDraw5
import Derived.Deep.RegionLaw
import Derived.Deep.CutRange
import Derived.Deep.Cut
import Derived.Deep.DeepCutAuto
namespace Go.Proofs.Ytgimbffogmhbgaa
open Go.RowKit P5 K
set_option linter.unusedVariables false
set_option linter.unusedSimpArgs false

/-- What the loop carries: the cursor, the answer's variable, the variable d. -/
structure RDisk (B p Kd : Nat) (a : Option Addr) (len cap : Nat) (w : World) (gs : List FileV) (ov : Option Addr) (cv : Nat) (wr : World) : Prop where
  cur : CurAt B wr p a len cap
  bel : Below w.heap.size w wr
  res : Boxed wr w.heap.size 29 (.slice none 0 0)
  out : Boxed wr Kd 29 (.slice ov gs.length cv)
  own : wr.ownsRow (Kd + 1) 37 3 (.slice ov gs.length cv) gs.length (gs.flatMap fcells)
  lp : w.heap.size < p
  lk : p < Kd
  hB : B ≤ w.heap.size

theorem RDisk.drawn {B p Kd : Nat} {a : Option Addr} {len cap : Nat} {w : World} {gs : List FileV} {ov : Option Addr} {cv : Nat} {w1 w2 : World} (h : RDisk B p Kd a len cap w gs ov cv w1) (hc : CurAt B w2 p a len cap) (hg : w1.grownBy w2 (some p)) : RDisk B p Kd a len cap w gs ov cv w2 := by
  have h1 := h.lp
  have h2 := h.lk
  refine ⟨hc, h.bel.grown hg h.bel.size (fun k hk => by cases hk; omega), h.res.kept hg (fun e => by have := Option.some.inj e; omega), h.out.kept hg (fun e => by have := Option.some.inj e; omega), ?_, h1, h2, h.hB⟩
  refine h.own.kept hg ?_
  cases hv : (Value.slice ov gs.length cv).ownBlock with
  | none => exact Or.inl rfl
  | some k =>
    right
    intro e
    have := (h.own.lt k hv).1
    have := Option.some.inj e
    omega

theorem RDisk.on {B p Kd : Nat} {a : Option Addr} {len cap : Nat} {w : World} {gs : List FileV} {ov : Option Addr} {cv : Nat} {w1 w2 : World} (h : RDisk B p Kd a len cap w gs ov cv w1) (hb : Below w1.heap.size w1 w2) : RDisk B p Kd a len cap w gs ov cv w2 := by
  have h1 := h.lp
  have h2 := h.lk
  have h3 := h.out.lt
  have h4 := h.hB
  have h5 := h.bel.size
  exact ⟨h.cur.kept (hb.mono (by omega)) (hb.block p (by omega)), h.bel.trans (hb.mono h5), (hb.block _ (by omega)).trans h.res, (hb.block _ h3).trans h.out, own_below h.own hb, h1, h2, h4⟩

theorem RDisk.undrew {B p Kd : Nat} {a : Option Addr} {len cap : Nat} {w : World} {gs : List FileV} {ov : Option Addr} {cv : Nat} {w1 : World} (h : RDisk B p Kd a len cap w gs ov cv w1) : RDisk B p Kd a len cap w gs ov cv w1.drew := h.on ((Below.refl _ _).drew)

theorem RDisk.put {B p Kd : Nat} {a : Option Addr} {len cap : Nat} {w : World} {gs hs : List FileV} {ov ov' : Option Addr} {cv cv' : Nat} {w1 w2 : World} (h : RDisk B p Kd a len cap w gs ov cv w1) (hb : Below w1.heap.size w1 w2) (ho : w2.ownsRow w1.heap.size 37 3 (.slice ov' hs.length cv') hs.length (hs.flatMap fcells)) :
    RDisk B p Kd a len cap w hs ov' cv' (w2.setCell ⟨Kd, 0, none⟩ (.slice ov' hs.length cv')) := by
  have h' := h.on hb
  have h1 := h.lp
  have h2 := h.lk
  have h3 := h.out.lt
  have h4 := h.hB
  have hg := grownBy_set w2 Kd 0 (.slice ov' hs.length cv')
  refine ⟨h'.cur.kept ((Below.refl _ _).setCell (by simp; omega) _) (Below.heap_setCell _ _ _ _ (by simp; omega)), h'.bel.setCell (by simp; omega) _, h'.res.kept hg (fun e => by have := Option.some.inj e; omega), h'.out.set _, own_base (own_setCell ho (by simp; omega) _) (by omega), h1, h2, h4⟩

theorem put_right {gs : List FileV} {f : FileV} {j : Nat} (h : diskOk gs = true) (hf : fileOk f = true) (hl : gs.length ≤ j) (hj : j < 6) : diskOk (put gs f) = true ∧ (put gs f).length ≤ j + 1 := by
  have h1 := length_put gs f ((diskOk_iff gs).1 h).2.2
  have h2 : (put gs f).length ≤ j + 1 := by
    rw [h1]
    split <;> omega
  exact ⟨(diskOk_put h f).2 ⟨hf, by omega⟩, h2⟩

theorem file_right {nm tx : List UInt8} {kp : Nat} (hn : nameOk nm = true) (ht : tx.length ≤ 30) (hk : kp < tx.length + 1) : fileOk ⟨nm, tx, (kp : Int)⟩ = true :=
  (fileOk_iff _).2 ⟨hn, by simp only; omega, by simp only; omega, by simp only; omega⟩

end Go.Proofs.Ytgimbffogmhbgaa
