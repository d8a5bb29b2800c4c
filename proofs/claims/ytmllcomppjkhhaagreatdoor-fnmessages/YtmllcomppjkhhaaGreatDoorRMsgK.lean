/-
  Walks and mathematics of MsgK.
-/
import Derived.Test.YtmllcomppjkhhaaGreatDoorRMsg11
namespace Go.Proofs.YtmllcomppjkhhaaGreatDoor.P18
end Go.Proofs.YtmllcomppjkhhaaGreatDoor.P18
namespace Go.Proofs.YtmllcomppjkhhaaGreatDoor.P3
end Go.Proofs.YtmllcomppjkhhaaGreatDoor.P3
namespace Go.Proofs.YtmllcomppjkhhaaGreatDoor
open Go.RowKit P1 P3 P9 P11 P12 P18 K
set_option linter.unusedVariables false
set_option linter.unusedSimpArgs false

structure KE15 (w : World) (b base top : Nat) (cs : Array Value) (vl vp : Value) (n m : Nat) (es : List EntV) (zs : List Int) : Prop where
  blk : XS b cs 27 w
  own : MgOwn w base vl vp n m es zs
  le : b < top
  lr : ∀ g, vl.ownBlock = some g → g < top
  pr : ∀ g, vp.ownBlock = some g → g < top

section
variable {w w' : World} {b base top : Nat} {cs : Array Value} {vl vp : Value} {n m : Nat} {es es' : List EntV} {zs zs' : List Int}

theorem KE15.new (cs : Array Value) (ho : MgOwn w base vl vp n m es zs) : KE15 (w.alloc (.cells cs 27)) w.heap.size base (w.heap.size + 1) cs vl vp n m es zs :=
  ⟨XS.new _ _ _, ho.on ((Below.refl _ _).alloc (Nat.le_refl _) _), by omega, fun g hg => by have := (ho.l.lt g hg).2; omega, fun g hg => by have := (ho.p.lt g hg).2; omega⟩

theorem KE15.on (h : KE15 w b base top cs vl vp n m es zs) (hb : Below w.heap.size w w') : KE15 w' b base top cs vl vp n m es zs := ⟨h.blk.on hb, h.own.on hb, h.le, h.lr, h.pr⟩

theorem own_low15 {v : Value} {e : TypeId} {k : Nat} {xs : List Value} {B : Nat} (h : w.ownsRow base e k v n xs) (hb : Below B w w') (hl : ∀ g, v.ownBlock = some g → g < B) : w'.ownsRow base e k v n xs := by
  obtain ⟨k1, k2⟩ := h
  refine ⟨k1, ?_⟩
  rcases k2 with k2 | ⟨g, cap, cur, hv, hg, hh, r⟩
  · exact Or.inl k2
  · exact Or.inr ⟨g, cap, cur, hv, hg, by rw [hb.block g (hl g (by rw [hv]; rfl))]; exact hh, r⟩

theorem KE15.low {B : Nat} (h : KE15 w b base top cs vl vp n m es zs) (hb : Below B w w') (hB : top ≤ B) : KE15 w' b base top cs vl vp n m es zs :=
  ⟨h.blk.low hb (Nat.lt_of_lt_of_le h.le hB), ⟨own_low15 h.own.l hb (fun g hg => Nat.lt_of_lt_of_le (h.lr g hg) hB), own_low15 h.own.p hb (fun g hg => Nat.lt_of_lt_of_le (h.pr g hg) hB)⟩, h.le, h.lr, h.pr⟩

end

theorem md_small (l : List UInt8) : (mdR l).1.es.length ≤ 4 ∧ (mdR l).1.cf.length ≤ 4 ∧ ∀ z ∈ (mdR l).1.cf, (Lit.int .i64 z).wf = true := by
  cases h : (mdR l).2 with
  | true =>
    have hin := msg_in (mdR_yes h).1
    exact ⟨hin.es.1, hin.conf.1, fun z hz => by have := hin.conf.2 z hz; exact wf_small (by omega) (by omega)⟩
  | false =>
    unfold mdR at h ⊢
    split
    · rename_i hc
      rw [if_pos hc] at h
      cases h
    · simp [zeroMsg]

end Go.Proofs.YtmllcomppjkhhaaGreatDoor
