/-
  Walks and mathematics of Rv.
-/
import Derived.Test.YtmllcomppjkhhaaGreatDoorRHeldMore
import Derived.Test.YtmllcomppjkhhaaGreatDoorRDraw1
namespace Go.Proofs.YtmllcomppjkhhaaGreatDoor
open Go.RowKit P1 K
set_option linter.unusedVariables false
set_option linter.unusedSimpArgs false

structure RvS (B p : Nat) (a : Option Addr) (len cap : Nat) (w : World) (Z : Array Value) (T : TypeId) (wr : World) : Prop where
  cur : CurAt B wr p a len cap
  gr : w.grownBy wr (some p)
  rb : wr.heap[w.heap.size]? = some (.cells Z T (0, 0))
  hp : p < w.heap.size
  hB : B ≤ w.heap.size

structure RvV (B p : Nat) (a : Option Addr) (len cap : Nat) (w : World) (Z : Array Value) (T : TypeId) (b : Nat) (X : Array Value) (U : TypeId) (wr : World) : Prop where
  rs : RvS B p a len cap w Z T wr
  xb : wr.heap[b]? = some (.cells X U (0, 0))
  hb : w.heap.size < b

section
variable {B p : Nat} {a : Option Addr} {len cap : Nat} {w : World} {Z : Array Value} {T : TypeId} {b : Nat} {X : Array Value} {U : TypeId} {w1 w2 : World}

theorem RvS.start (hB : B ≤ w.heap.size) (hc : CurAt B w p a len cap) (Z : Array Value) (T : TypeId) : RvS B p a len cap w Z T (w.alloc (.cells Z T)) := by
  have hb : Below w.heap.size w (w.alloc (.cells Z T)) := (Below.refl _ _).alloc (Nat.le_refl _) _
  exact ⟨hc.kept (hb.mono hB) (hb.block p hc.lt), grown_below hb, heap_alloc_new _ _, hc.lt, hB⟩

theorem RvS.size (h : RvS B p a len cap w Z T w1) : w.heap.size < w1.heap.size := blk_lt h.rb

theorem RvS.drawn (h : RvS B p a len cap w Z T w1) (hc : CurAt B w2 p a len cap) (hg : w1.grownBy w2 (some p)) : RvS B p a len cap w Z T w2 :=
  ⟨hc, grown_trans h.gr hg, (hg.block _ h.size (fun e => by have := Option.some.inj e; have := h.hp; omega)).trans h.rb, h.hp, h.hB⟩

theorem RvS.on (h : RvS B p a len cap w Z T w1) (hb : Below w1.heap.size w1 w2) : RvS B p a len cap w Z T w2 := by
  have h1 := h.hp
  have h2 := h.size
  have h3 := h.hB
  exact ⟨h.cur.kept (hb.mono (by omega)) (hb.block p (by omega)), grown_trans h.gr (grown_below hb), (hb.block _ h2).trans h.rb, h1, h3⟩

theorem RvS.alloc (h : RvS B p a len cap w Z T w1) (o : Obj) : RvS B p a len cap w Z T (w1.alloc o) := h.on ((Below.refl _ _).alloc (Nat.le_refl _) _)

theorem RvS.ret (h : RvS B p a len cap w Z T w1) (vs : List Value) :
    (w1.setCells w.heap.size 0 vs).heap[w.heap.size]? = some (.cells (setArr Z 0 vs) T (0, 0)) ∧ CurAt B (w1.setCells w.heap.size 0 vs) p a len cap ∧ w.grownBy (w1.setCells w.heap.size 0 vs) (some p) := by
  have h1 := h.hp
  have h3 := h.hB
  have hs := h.size
  obtain ⟨hx, hg⟩ := blk_setAll vs w1 _ 0 h.rb
  have hbel : Below B w1 (w1.setCells w.heap.size 0 vs) := (Below.refl B w1).grown hg (by omega) (fun k hk => by cases hk; omega)
  refine ⟨hx, h.cur.kept hbel (hg.block p (by omega) (fun e => by have := Option.some.inj e; omega)), ?_⟩
  exact ⟨hg.os.trans h.gr.os, hg.tape.trans h.gr.tape, hg.output.trans h.gr.output, Nat.le_trans h.gr.size hg.size, fun i hi hne => (hg.block i (Nat.lt_of_lt_of_le hi h.gr.size) (fun e => by have := Option.some.inj e; omega)).trans (h.gr.block i hi hne)⟩

theorem RvS.var (h : RvS B p a len cap w Z T w1) (X : Array Value) (U : TypeId) : RvV B p a len cap w Z T w1.heap.size X U (w1.alloc (.cells X U)) := ⟨h.alloc _, heap_alloc_new _ _, h.size⟩

theorem RvV.drawn (h : RvV B p a len cap w Z T b X U w1) (hc : CurAt B w2 p a len cap) (hg : w1.grownBy w2 (some p)) : RvV B p a len cap w Z T b X U w2 :=
  ⟨h.rs.drawn hc hg, (hg.block _ (blk_lt h.xb) (fun e => by have := Option.some.inj e; have := h.rs.hp; have := h.hb; omega)).trans h.xb, h.hb⟩

theorem RvV.on (h : RvV B p a len cap w Z T b X U w1) (hb : Below w1.heap.size w1 w2) : RvV B p a len cap w Z T b X U w2 := ⟨h.rs.on hb, (hb.block _ (blk_lt h.xb)).trans h.xb, h.hb⟩

theorem RvV.alloc (h : RvV B p a len cap w Z T b X U w1) (o : Obj) : RvV B p a len cap w Z T b X U (w1.alloc o) := h.on ((Below.refl _ _).alloc (Nat.le_refl _) _)

theorem RvV.put (h : RvV B p a len cap w Z T b X U w1) (o : Nat) (vs : List Value) : RvV B p a len cap w Z T b (setArr X o vs) U (w1.setCells b o vs) := by
  have h1 := h.rs.hp
  have h2 := h.hb
  have h3 := h.rs.hB
  have h4 := blk_lt h.xb
  obtain ⟨hx, hg⟩ := blk_setAll vs w1 X o h.xb
  have hbel : Below B w1 (w1.setCells b o vs) := (Below.refl B w1).grown hg (by omega) (fun k hk => by cases hk; omega)
  refine ⟨⟨h.rs.cur.kept hbel (hg.block p (by omega) (fun e => by have := Option.some.inj e; omega)), ?_, (hg.block _ (by omega) (fun e => by have := Option.some.inj e; omega)).trans h.rs.rb, h1, h3⟩, hx, h2⟩
  exact ⟨hg.os.trans h.rs.gr.os, hg.tape.trans h.rs.gr.tape, hg.output.trans h.rs.gr.output, Nat.le_trans h.rs.gr.size hg.size, fun i hi hne => (hg.block i (Nat.lt_of_lt_of_le hi h.rs.gr.size) (fun e => by have := Option.some.inj e; omega)).trans (h.rs.gr.block i hi hne)⟩
end

end Go.Proofs.YtmllcomppjkhhaaGreatDoor
