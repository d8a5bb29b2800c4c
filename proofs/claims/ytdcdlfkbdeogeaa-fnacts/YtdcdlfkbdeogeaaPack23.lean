/-
  Regions that draw their order, held: what is held may grow on the way.
  A struct that was handed over, in a block of its own: its cells, while only new memory is made.
  What a function carries that draws: the cursor, the answer's variable, one more variable.
-/
import Derived.Deep.RegionHeld3
import Derived.Deep.DrawnRows
import Derived.Test.YtdcdlfkbdeogeaaPack1
import Derived.WalkSmall
import Derived.Laws.IdiomCopy
import Derived.Test.YtdcdlfkbdeogeaaDraw1
namespace Go.Proofs.Ytdcdlfkbdeogeaa.K
open Go

/-- To hold more is enough. -/
theorem held_more {P : Program} {md : Region.Mode} {ops : Array Oper} {Q : Exit → Act → World → Prop} {S S' : World → Prop} (h : ∀ w, S' w → S w) :
    ∀ (fuel : Nat) (listed : Array Bool) (a : Act) (w : World), wpAnyH P md ops Q S' fuel listed a w → wpAnyH P md ops Q S fuel listed a w
  | 0, _, _, _, k => k
  | fuel + 1, _, _, _, k => ⟨k.1, fun i hi => wpOp_mono (fun a' w' h' => ⟨h w' h'.1, held_more h fuel _ a' w' h'.2⟩) (k.2 i hi)⟩

end Go.Proofs.Ytdcdlfkbdeogeaa.K

namespace Go.Proofs.Ytdcdlfkbdeogeaa
open Go.RowKit K
set_option linter.unusedVariables false

/-- A block that is known whole: a cell of it, and that it may be written. -/
theorem blk_cell {w : World} {b : Nat} {cs : Array Value} {t : TypeId} (h : w.heap[b]? = some (.cells cs t (0, 0))) (j : Nat) {u : Value} (hu : cs[j]? = some u) : w.cell? ⟨b, j, none⟩ = some u := by
  rw [cell_of_row w b j _ _ _ h]; exact hu
theorem blk_free {w : World} {b : Nat} {cs : Array Value} {t : TypeId} (h : w.heap[b]? = some (.cells cs t (0, 0))) (j : Nat) : w.frozen? ⟨b, j, none⟩ = false := by
  simp [World.frozen?, h]
theorem blk_lt {w : World} {b : Nat} {x : Obj} (h : w.heap[b]? = some x) : b < w.heap.size := (Array.getElem?_eq_some_iff.1 h).1
theorem blk_set {w : World} {p k : Nat} {cs : Array Value} {e : TypeId} (v : Value) (h : w.heap[p]? = some (.cells cs e (0, 0))) : (w.setCell ⟨p, k, none⟩ v).heap[p]? = some (.cells (cs.setIfInBounds k v) e (0, 0)) := by
  simp only [World.setCell, Array.getElem?_modify, if_true, h]
  rfl
theorem blk_grown (w : World) (p k : Nat) (v : Value) : w.grownBy (w.setCell ⟨p, k, none⟩ v) (some p) :=
  ⟨rfl, rfl, rfl, by simp [World.setCell], fun j hj hne => Below.heap_setCell _ _ _ _ (fun e => hne (by rw [e]))⟩

/-- Cells of a block written one behind the other. -/
def setArr (cs : Array Value) : Nat → List Value → Array Value
  | _, [] => cs
  | o, v :: r => setArr (cs.setIfInBounds o v) (o + 1) r

theorem blk_setAll {p : Nat} {e : TypeId} : ∀ (vs : List Value) (w : World) (cs : Array Value) (o : Nat), w.heap[p]? = some (.cells cs e (0, 0)) →
    (w.setCells p o vs).heap[p]? = some (.cells (setArr cs o vs) e (0, 0)) ∧ w.grownBy (w.setCells p o vs) (some p)
  | [], w, cs, o, h => ⟨h, World.grownBy.refl _ _⟩
  | v :: r, w, cs, o, h => by
    have h1 := blk_setAll r (w.setCell ⟨p, o, none⟩ v) (cs.setIfInBounds o v) (o + 1) (blk_set (k := o) v h)
    exact ⟨h1.1, grown_trans (blk_grown w p o v) h1.2⟩

/-- A row's value, written out. -/
theorem row_form {w : World} {base : Nat} {e : TypeId} {size : Nat} {v : Value} {n : Nat} {xs : List Value} (h : w.ownsRow base e size v n xs) : ∃ oa cap, v = .slice oa n cap := by
  rcases h.2 with ⟨rfl, rfl⟩ | ⟨g, cap, cur, rfl, _⟩
  · exact ⟨_, _, rfl⟩
  · exact ⟨_, _, rfl⟩

/-- What was handed over stands where it was laid: at the first new block. -/
def BoxS (w : World) (cs : Array Value) (t : TypeId) (w' : World) : Prop := Below w.heap.size w w' ∧ w'.heap[w.heap.size]? = some (.cells cs t (0, 0))

theorem BoxS.new (w : World) (cs : Array Value) (t : TypeId) : BoxS w cs t (w.alloc (.cells cs t)) := ⟨(Below.refl _ _).alloc (Nat.le_refl _) _, heap_alloc_new _ _⟩
theorem BoxS.lt {w : World} {cs : Array Value} {t : TypeId} {w' : World} (h : BoxS w cs t w') : w.heap.size < w'.heap.size := blk_lt h.2
theorem BoxS.call {w : World} {cs : Array Value} {t : TypeId} {w' w'' : World} (h : BoxS w cs t w') (hb : Below w'.heap.size w' w'') : BoxS w cs t w'' :=
  ⟨h.1.trans (hb.mono (Nat.le_of_lt h.lt)), (hb.block _ h.lt).trans h.2⟩
theorem BoxS.alloc {w : World} {cs : Array Value} {t : TypeId} {w' : World} (h : BoxS w cs t w') (o : Obj) : BoxS w cs t (w'.alloc o) := h.call ((Below.refl _ _).alloc (Nat.le_refl _) _)
theorem BoxS.drew {w : World} {cs : Array Value} {t : TypeId} {w' : World} (h : BoxS w cs t w') : BoxS w cs t w'.drew := h.call (Below.refl _ _).drew
theorem BoxS.cell {w : World} {cs : Array Value} {t : TypeId} {w' : World} (h : BoxS w cs t w') (j : Nat) {u : Value} (hu : cs[j]? = some u) : w'.cell? ⟨w.heap.size, j, none⟩ = some u := blk_cell h.2 j hu

end Go.Proofs.Ytdcdlfkbdeogeaa

namespace Go.Proofs.Ytdcdlfkbdeogeaa
open Go.RowKit P1 K
set_option linter.unusedVariables false
set_option linter.unusedSimpArgs false

/-- The cursor, and the answer's variable. -/
structure RvS (B p : Nat) (a : Option Addr) (len cap : Nat) (w : World) (Z : Array Value) (T : TypeId) (wr : World) : Prop where
  cur : CurAt B wr p a len cap
  gr : w.grownBy wr (some p)
  rb : wr.heap[w.heap.size]? = some (.cells Z T (0, 0))
  hp : p < w.heap.size
  hB : B ≤ w.heap.size

/-- And one more variable. -/
structure RvV (B p : Nat) (a : Option Addr) (len cap : Nat) (w : World) (Z : Array Value) (T : TypeId) (b : Nat) (X : Array Value) (U : TypeId) (wr : World) : Prop where
  rs : RvS B p a len cap w Z T wr
  xb : wr.heap[b]? = some (.cells X U (0, 0))
  hb : w.heap.size < b

section
variable {B p : Nat} {a : Option Addr} {len cap : Nat} {w : World} {Z : Array Value} {T : TypeId} {b : Nat} {X : Array Value} {U : TypeId} {w1 w2 : World}

theorem RvS.start (hB : B ≤ w.heap.size) (hc : CurAt B w p a len cap) (Z : Array Value) (T : TypeId) : RvS B p a len cap w Z T (w.alloc (.cells Z T)) := by
  have hb : Below w.heap.size w (w.alloc (.cells Z T)) := (Below.refl _ _).alloc (Nat.le_refl _) _
  exact ⟨hc.kept (hb.mono hB) (hb.block p hc.lt), grown_below hb, heap_alloc_new _ _, hc.lt, hB⟩

theorem RvS.size (h : RvS B p a len cap w Z T w1) : w.heap.size < w1.heap.size := blk_lt h.rb

theorem RvS.drawn (h : RvS B p a len cap w Z T w1) (hc : CurAt B w2 p a len cap) (hg : w1.grownBy w2 (some p)) : RvS B p a len cap w Z T w2 :=
  ⟨hc, grown_trans h.gr hg, (hg.block _ h.size (fun e => by have := Option.some.inj e; have := h.hp; omega)).trans h.rb, h.hp, h.hB⟩

theorem RvS.on (h : RvS B p a len cap w Z T w1) (hb : Below w1.heap.size w1 w2) : RvS B p a len cap w Z T w2 := by
  have h1 := h.hp
  have h2 := h.size
  have h3 := h.hB
  exact ⟨h.cur.kept (hb.mono (by omega)) (hb.block p (by omega)), grown_trans h.gr (grown_below hb), (hb.block _ h2).trans h.rb, h1, h3⟩

theorem RvS.alloc (h : RvS B p a len cap w Z T w1) (o : Obj) : RvS B p a len cap w Z T (w1.alloc o) := h.on ((Below.refl _ _).alloc (Nat.le_refl _) _)

theorem RvS.ret (h : RvS B p a len cap w Z T w1) (vs : List Value) :
    (w1.setCells w.heap.size 0 vs).heap[w.heap.size]? = some (.cells (setArr Z 0 vs) T (0, 0)) ∧ CurAt B (w1.setCells w.heap.size 0 vs) p a len cap ∧ w.grownBy (w1.setCells w.heap.size 0 vs) (some p) := by
  have h1 := h.hp
  have h3 := h.hB
  have hs := h.size
  obtain ⟨hx, hg⟩ := blk_setAll vs w1 _ 0 h.rb
  have hbel : Below B w1 (w1.setCells w.heap.size 0 vs) := (Below.refl B w1).grown hg (by omega) (fun k hk => by cases hk; omega)
  refine ⟨hx, h.cur.kept hbel (hg.block p (by omega) (fun e => by have := Option.some.inj e; omega)), ?_⟩
  exact ⟨hg.os.trans h.gr.os, hg.tape.trans h.gr.tape, hg.output.trans h.gr.output, Nat.le_trans h.gr.size hg.size, fun i hi hne => (hg.block i (Nat.lt_of_lt_of_le hi h.gr.size) (fun e => by have := Option.some.inj e; omega)).trans (h.gr.block i hi hne)⟩

theorem RvS.var (h : RvS B p a len cap w Z T w1) (X : Array Value) (U : TypeId) : RvV B p a len cap w Z T w1.heap.size X U (w1.alloc (.cells X U)) := ⟨h.alloc _, heap_alloc_new _ _, h.size⟩

theorem RvV.drawn (h : RvV B p a len cap w Z T b X U w1) (hc : CurAt B w2 p a len cap) (hg : w1.grownBy w2 (some p)) : RvV B p a len cap w Z T b X U w2 :=
  ⟨h.rs.drawn hc hg, (hg.block _ (blk_lt h.xb) (fun e => by have := Option.some.inj e; have := h.rs.hp; have := h.hb; omega)).trans h.xb, h.hb⟩

theorem RvV.on (h : RvV B p a len cap w Z T b X U w1) (hb : Below w1.heap.size w1 w2) : RvV B p a len cap w Z T b X U w2 := ⟨h.rs.on hb, (hb.block _ (blk_lt h.xb)).trans h.xb, h.hb⟩

theorem RvV.alloc (h : RvV B p a len cap w Z T b X U w1) (o : Obj) : RvV B p a len cap w Z T b X U (w1.alloc o) := h.on ((Below.refl _ _).alloc (Nat.le_refl _) _)

theorem RvV.put (h : RvV B p a len cap w Z T b X U w1) (o : Nat) (vs : List Value) : RvV B p a len cap w Z T b (setArr X o vs) U (w1.setCells b o vs) := by
  have h1 := h.rs.hp
  have h2 := h.hb
  have h3 := h.rs.hB
  have h4 := blk_lt h.xb
  obtain ⟨hx, hg⟩ := blk_setAll vs w1 X o h.xb
  have hbel : Below B w1 (w1.setCells b o vs) := (Below.refl B w1).grown hg (by omega) (fun k hk => by cases hk; omega)
  refine ⟨⟨h.rs.cur.kept hbel (hg.block p (by omega) (fun e => by have := Option.some.inj e; omega)), ?_, (hg.block _ (by omega) (fun e => by have := Option.some.inj e; omega)).trans h.rs.rb, h1, h3⟩, hx, h2⟩
  exact ⟨hg.os.trans h.rs.gr.os, hg.tape.trans h.rs.gr.tape, hg.output.trans h.rs.gr.output, Nat.le_trans h.rs.gr.size hg.size, fun i hi hne => (hg.block i (Nat.lt_of_lt_of_le hi h.rs.gr.size) (fun e => by have := Option.some.inj e; omega)).trans (h.rs.gr.block i hi hne)⟩
end

end Go.Proofs.Ytdcdlfkbdeogeaa
