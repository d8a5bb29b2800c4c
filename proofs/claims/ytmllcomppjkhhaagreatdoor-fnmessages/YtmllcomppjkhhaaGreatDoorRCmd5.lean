/-
  Walks and mathematics of Cmd5.
-/
import Derived.Test.YtmllcomppjkhhaaGreatDoorRCmd1
import Derived.Test.YtmllcomppjkhhaaGreatDoorRDraw1
namespace Go.Proofs.YtmllcomppjkhhaaGreatDoor
open Go.RowKit P1 P9 K
set_option linter.unusedVariables false
set_option linter.unusedSimpArgs false

def cmdC (o t s id kd sd : Int) (op : Option Addr) (cp : Nat) (d u : Int) : Array Value :=
  #[.int .i64 o, .int .i64 t, .int .i64 s, .int .i64 id, .int .i64 kd, .int .i64 sd, .int .i64 0, .int .i64 0, .slice none 0 0, .string ⟨#[]⟩, .slice op 0 cp, .int .i64 0, .int .i64 d, .int .i64 u]

structure CmS (B p : Nat) (a : Option Addr) (len cap : Nat) (gS : Nat) (tk ls : Nat) (oo : Option Addr) (no co : Nat) (w : World) (b5 : Nat) (X : Array Value) (wr : World) : Prop where
  cur : CurAt B wr p a len cap
  gr : w.grownBy wr (some p)
  hb : wr.heap[w.heap.size]? = some (.cells #[.slice (some ⟨gS, 0, none⟩) 1 1, .slice none 0 0, .slice none 0 0, .slice none 0 0, .slice oo no co] 151 (0, 0))
  rb : wr.heap[w.heap.size + 1]? = some (.cells (cmdC 0 0 0 0 0 0 none 0 0 0) 122 (0, 0))
  xb : wr.heap[b5]? = some (.cells X 122 (0, 0))
  sb : wr.heap[gS]? = some (.cells #[.int .i64 (tk : Int), .int .i64 (ls : Int), .string ⟨#[]⟩] 154 (0, 0))
  h5 : w.heap.size + 2 ≤ b5
  hS : gS < w.heap.size
  hne : gS ≠ p
  hp : p < w.heap.size
  hB : B ≤ w.heap.size

section
variable {B p : Nat} {a : Option Addr} {len cap gS tk ls : Nat} {oo : Option Addr} {no co : Nat} {w : World} {b5 : Nat} {X : Array Value} {w1 w2 : World}

theorem CmS.drawn (h : CmS B p a len cap gS tk ls oo no co w b5 X w1) (hc : CurAt B w2 p a len cap) (hg : w1.grownBy w2 (some p)) : CmS B p a len cap gS tk ls oo no co w b5 X w2 := by
  have h1 := h.hp
  have h2 := h.h5
  have h3 := h.hS
  have h4 := blk_lt h.xb
  exact ⟨hc, grown_trans h.gr hg, (hg.block _ (by omega) (fun e => by have := Option.some.inj e; omega)).trans h.hb, (hg.block _ (by omega) (fun e => by have := Option.some.inj e; omega)).trans h.rb, (hg.block _ h4 (fun e => by have := Option.some.inj e; omega)).trans h.xb, (hg.block _ (by omega) (fun e => h.hne (Option.some.inj e))).trans h.sb, h2, h3, h.hne, h1, h.hB⟩

theorem CmS.on (h : CmS B p a len cap gS tk ls oo no co w b5 X w1) (hb : Below w1.heap.size w1 w2) : CmS B p a len cap gS tk ls oo no co w b5 X w2 := by
  have h1 := h.hp
  have h2 := h.h5
  have h3 := h.hS
  have h4 := blk_lt h.xb
  have h5 := h.hB
  exact ⟨h.cur.kept (hb.mono (by omega)) (hb.block p (by omega)), grown_trans h.gr (grown_below hb), (hb.block _ (by omega)).trans h.hb, (hb.block _ (by omega)).trans h.rb, (hb.block _ h4).trans h.xb, (hb.block _ (by omega)).trans h.sb, h2, h3, h.hne, h1, h5⟩

theorem CmS.drew (h : CmS B p a len cap gS tk ls oo no co w b5 X w1) : CmS B p a len cap gS tk ls oo no co w b5 X w1.drew := h.on (Below.refl _ _).drew

theorem CmS.alloc (h : CmS B p a len cap gS tk ls oo no co w b5 X w1) (o : Obj) : CmS B p a len cap gS tk ls oo no co w b5 X (w1.alloc o) := h.on ((Below.refl _ _).alloc (Nat.le_refl _) _)

theorem CmS.other (h : CmS B p a len cap gS tk ls oo no co w b5 X w1) {q : Nat} (hg : w1.grownBy w2 (some q)) (hq : w.heap.size + 2 ≤ q) (hq5 : q ≠ b5) : CmS B p a len cap gS tk ls oo no co w b5 X w2 := by
  have h1 := h.hp
  have h2 := h.h5
  have h3 := h.hS
  have h4 := blk_lt h.xb
  have h5 := h.hB
  have hbel : Below B w1 w2 := (Below.refl B w1).grown hg (by omega) (fun k hk => by cases hk; omega)
  refine ⟨h.cur.kept hbel (hg.block p (by omega) (fun e => by have := Option.some.inj e; omega)), ?_, (hg.block _ (by omega) (fun e => by have := Option.some.inj e; omega)).trans h.hb, (hg.block _ (by omega) (fun e => by have := Option.some.inj e; omega)).trans h.rb, (hg.block _ h4 (fun e => hq5 (Option.some.inj e).symm)).trans h.xb, (hg.block _ (by omega) (fun e => by have := Option.some.inj e; omega)).trans h.sb, h2, h3, h.hne, h1, h5⟩
  exact ⟨hg.os.trans h.gr.os, hg.tape.trans h.gr.tape, hg.output.trans h.gr.output, Nat.le_trans h.gr.size hg.size, fun i hi hne => (hg.block i (Nat.lt_of_lt_of_le hi h.gr.size) (fun e => by have := Option.some.inj e; omega)).trans (h.gr.block i hi hne)⟩

theorem CmS.put (h : CmS B p a len cap gS tk ls oo no co w b5 X w1) (o : Nat) (vs : List Value) : CmS B p a len cap gS tk ls oo no co w b5 (setArr X o vs) (w1.setCells b5 o vs) := by
  have h1 := h.hp
  have h2 := h.h5
  have h3 := h.hS
  have h4 := blk_lt h.xb
  have h5 := h.hB
  obtain ⟨hx, hg⟩ := blk_setAll vs w1 X o h.xb
  have hbel : Below B w1 (w1.setCells b5 o vs) := (Below.refl B w1).grown hg (by omega) (fun k hk => by cases hk; omega)
  refine ⟨h.cur.kept hbel (hg.block p (by omega) (fun e => by have := Option.some.inj e; omega)), ?_, (hg.block _ (by omega) (fun e => by have := Option.some.inj e; omega)).trans h.hb, (hg.block _ (by omega) (fun e => by have := Option.some.inj e; omega)).trans h.rb, hx, (hg.block _ (by omega) (fun e => by have := Option.some.inj e; omega)).trans h.sb, h2, h3, h.hne, h1, h5⟩
  exact ⟨hg.os.trans h.gr.os, hg.tape.trans h.gr.tape, hg.output.trans h.gr.output, Nat.le_trans h.gr.size hg.size, fun i hi hne => (hg.block i (Nat.lt_of_lt_of_le hi h.gr.size) (fun e => by have := Option.some.inj e; omega)).trans (h.gr.block i hi hne)⟩

theorem CmS.size (h : CmS B p a len cap gS tk ls oo no co w b5 X w1) : w.heap.size + 2 < w1.heap.size := by have := blk_lt h.xb; have := h.h5; omega
end

def CmPost (B p : Nat) (a : Option Addr) (len cap : Nat) (w : World) (e : Ending) (w' : World) : Prop :=
  ∃ (o t s : Nat) (id kd sd : Int) (op : Option Addr) (cp : Nat) (d u : Int), CmdIn (o : Int) t s id kd sd op cp d u ∧ e = .returned (cmdV (o : Int) t s id kd sd op cp d u) ∧ CurAt B w' p a len cap ∧ w.grownBy w' (some p)

def opsL : List Int := [1, 2, 2, 2, 2, 2, 2, 3, 3, 4, 5]

theorem setArr_cmdC (o t s id kd sd : Int) (op : Option Addr) (cp : Nat) (d u : Int) (o' t' s' id' kd' sd' : Int) (op' : Option Addr) (cp' : Nat) (d' u' : Int) :
    setArr (cmdC o' t' s' id' kd' sd' op' cp' d' u') 0 (cmdC o t s id kd sd op cp d u).toList = cmdC o t s id kd sd op cp d u := by
  simp only [cmdC, setArr, List.setIfInBounds_toArray, List.set_cons_zero, List.set_cons_succ, Nat.zero_add, Nat.reduceAdd]

theorem CmS.ret {B p : Nat} {a : Option Addr} {len cap gS tk ls : Nat} {oo : Option Addr} {no co : Nat} {w : World} {b5 : Nat} {w1 : World} {o t s : Nat} {id kd sd : Int} {op : Option Addr} {cp : Nat} {d u : Int}
    (h : CmS B p a len cap gS tk ls oo no co w b5 (cmdC (o : Int) t s id kd sd op cp d u) w1) (hin : CmdIn (o : Int) t s id kd sd op cp d u) :
    (w1.setCells (w.heap.size + 1) 0 (cmdC (o : Int) t s id kd sd op cp d u).toList).heap[w.heap.size + 1]? = some (.cells (cmdC (o : Int) t s id kd sd op cp d u) 122 (0, 0)) ∧ CmPost B p a len cap w (.returned (cmdV (o : Int) t s id kd sd op cp d u)) (w1.setCells (w.heap.size + 1) 0 (cmdC (o : Int) t s id kd sd op cp d u).toList) := by
  have h1 := h.hp
  have h5 := h.hB
  have hs := h.size
  obtain ⟨hx, hg⟩ := blk_setAll (cmdC (o : Int) t s id kd sd op cp d u).toList w1 _ 0 h.rb
  rw [setArr_cmdC] at hx
  have hbel : Below B w1 (w1.setCells (w.heap.size + 1) 0 (cmdC (o : Int) t s id kd sd op cp d u).toList) := (Below.refl B w1).grown hg (by omega) (fun k hk => by cases hk; omega)
  refine ⟨hx, o, t, s, id, kd, sd, op, cp, d, u, hin, rfl, h.cur.kept hbel (hg.block p (by omega) (fun e => by have := Option.some.inj e; omega)), ?_⟩
  exact ⟨hg.os.trans h.gr.os, hg.tape.trans h.gr.tape, hg.output.trans h.gr.output, Nat.le_trans h.gr.size hg.size, fun i hi hne => (hg.block i (Nat.lt_of_lt_of_le hi h.gr.size) (fun e => by have := Option.some.inj e; omega)).trans (h.gr.block i hi hne)⟩

end Go.Proofs.YtmllcomppjkhhaaGreatDoor
