/-
  Walks and mathematics of Room5, Walk9b, Walk10rd.
-/
import Derived.Test.YtnkjjbpmdghcbaaGreatQRoom3
import Derived.Test.YtnkjjbpmdghcbaaGreatQEv2
import Derived.Test.YtnkjjbpmdghcbaaGreatQBase
import Derived.Laws.Small
import Derived.Laws.IdiomRangeMap
import Derived.LoopN
import Derived.Maps.RangeWalk
import Derived.Test.YtnkjjbpmdghcbaaGreatQEv4
import Derived.Lib.Strings
import Derived.Test.YtnkjjbpmdghcbaaGreatQIntsMark
import Derived.Laws.StructEq
import Derived.Test.YtnkjjbpmdghcbaaGreatQWalk12m
import Derived.Test.YtnkjjbpmdghcbaaGreatQDraw1
namespace Go.Proofs.YtnkjjbpmdghcbaaGreat.P11
end Go.Proofs.YtnkjjbpmdghcbaaGreat.P11
namespace Go.Proofs.YtnkjjbpmdghcbaaGreat.P3
end Go.Proofs.YtnkjjbpmdghcbaaGreat.P3
namespace Go.Proofs.YtnkjjbpmdghcbaaGreat
open Go.RowKit P1 P3 P5 P9 P11 P12 P14 P15 K
set_option linter.unusedVariables false
set_option linter.unusedSimpArgs false

section
variable {es : List EvV} {s : St}
theorem Sane.kn (h : Sane es s) (k : Int) : evKn es (stAt s k) = scKn es s k := by
 have h1 := h.find k
 rw [scKn_eq, ← h1]
 cases hf : evFind es (stAt s k) with
 | none => rw [evKn_none hf]
 | some c => rw [evKn_some hf]

theorem Sane.first (h : Sane es s) {e : EvV} : (match evFind es (stAt s 1) with
  | none => false
  | some c => decide (c.sender = e.sender) && stBare s) = (scMade es s e.sender && !(s.any fun x => inR x.1 11 15)) := by
 rw [h.find, h.bare]
 unfold scMade
 cases he : scEv es s 1 with
 | none => rfl
 | some c =>
  have := keyE_one (h.key he).1
  simp [this]

end

end Go.Proofs.YtnkjjbpmdghcbaaGreat

namespace Go.Proofs.YtnkjjbpmdghcbaaGreat
open Go.RowKit P1 P3 P9 P11 P12 K
set_option linter.unusedVariables false
set_option linter.unusedSimpArgs false
attribute [local go_sem ↓] Go.wp_at_zero Go.wp_at_succ

def NbS (b : Nat) (id kd sn us mb dp : Int) (w' : World) : Prop := w'.heap[b]? = some (.cells #[.int .i64 id, .int .i64 kd, .int .i64 sn, .int .i64 us, .int .i64 mb, .int .i64 dp] 185 (0, 0))

theorem NbS.alloc {b : Nat} {id kd sn us mb dp : Int} {w' : World} (h : NbS b id kd sn us mb dp w') (o : Obj) : NbS b id kd sn us mb dp (w'.alloc o) := (((Below.refl _ _).alloc (Nat.le_refl _) o).block _ (blk_lt h)).trans h

end Go.Proofs.YtnkjjbpmdghcbaaGreat

namespace Go.Proofs.YtnkjjbpmdghcbaaGreat
open Go.RowKit P1 P3 P5 P9 P11 P12 P14 P15 K
set_option linter.unusedVariables false
set_option linter.unusedSimpArgs false

theorem RoomR.ats {w : World} {B : Nat} {ve vs vg : Value} {es : List EvV} {sts : List St} (h : RoomR w B ve vs vg es sts) :
  ∃ oa ca so sc og cg, ve = .slice oa es.length ca ∧ vs = .slice so sts.length sc ∧ vg = .slice og es.length cg ∧ EvsAt w oa es.length ca es ∧ StsAt w so sts.length sc sts := by
 obtain ⟨⟨xs, h1, h2, h3⟩, ⟨ys, g1, g2⟩, zs, k1, k2⟩ := h
 obtain ⟨oa, ca, rfl, he⟩ := evsAt_of (own_src h1 h2) (fun i e he => by
  obtain ⟨vl, vp, q1, q2, q3, q4, q5, q6⟩ := h3 i e he
  obtain ⟨xa, xc, rfl, hl⟩ := ints_own q2 q4
  obtain ⟨ya, yc, rfl, hq⟩ := ints_own q3 q5
  exact ⟨xa, xc, ya, yc, q1, hl, hq, q6⟩)
 have hl : ys.length = sts.length := by have := g1.1; omega
 obtain ⟨so, sc, rfl, hs⟩ := stsAt_of (own_src g1 (fun u hu => by
  obtain ⟨i, hi⟩ := List.mem_iff_getElem?.1 hu
  have hi' := (List.getElem?_eq_some_iff.1 hi).1
  obtain ⟨vi, q1, q2⟩ := g2 i sts[i] (List.getElem?_eq_getElem (by omega))
  rw [hi] at q1
  cases q1
  obtain ⟨_, _, rfl⟩ := row_form q2
  rfl)) (fun i s hs => by
  obtain ⟨vi, q1, q2⟩ := g2 i s hs
  obtain ⟨xa, xc, rfl, hi⟩ := itemsAt_of_own q2
  exact ⟨xa, xc, q1, hi⟩)
 obtain ⟨og, cg, rfl⟩ := row_form k2
 exact ⟨oa, ca, so, sc, og, cg, rfl, rfl, rfl, he, hs⟩

structure OutK (w W : World) (br be : Nat) (oa : Option Addr) (ca : Nat) (es : List EvV) (vs vg : Value) (ob : Option Addr) (cb : Nat) (s : St) (e : EvV) (xa : Option Addr) (xc : Nat) (ya : Option Addr) (yc : Nat) : Prop where
 rm : W.heap[br]? = some (.cells #[.slice oa es.length ca, vs, vg] 41 (0, 0))
 eb : EB W be e.id e.kind e.sender e.user e.member e.depth (.slice xa e.levels.length xc) (.slice ya e.prev.length yc) e.text
 ev : EvsAt W oa es.length ca es
 it : ItemsAt W ob s.length cb s
 lx : IntsAt W xa e.levels.length xc e.levels
 ly : IntsAt W ya e.prev.length yc e.prev
 bl : Below w.heap.size w W

theorem OutK.on {w W W' : World} {br be : Nat} {oa : Option Addr} {ca : Nat} {es : List EvV} {vs vg : Value} {ob : Option Addr} {cb : Nat} {s : St} {e : EvV} {xa : Option Addr} {xc : Nat} {ya : Option Addr} {yc : Nat} (h : OutK w W br be oa ca es vs vg ob cb s e xa xc ya yc) (hb : Below W.heap.size W W') : OutK w W' br be oa ca es vs vg ob cb s e xa xc ya yc :=
 ⟨(hb.block br (blk_lt h.rm)).trans h.rm, h.eb.on hb h.eb.lt, h.ev.below hb, h.it.below hb, h.lx.below hb, h.ly.below hb, h.bl.trans (hb.mono h.bl.size)⟩

theorem drawn_sane {es : List EvV} {sts : List St} (h : Drawn es sts) : Sane es (stateOf es sts) := built_sane h (bef_right (built_right h.built).2 _)

theorem stOk_small {s : St} (h : stOk s = true) : s.length ≤ 8 ∧ ∀ y ∈ s, WideI y := by
 have h8 : s.length ≤ 8 := by
  unfold stOk at h
  simp only [Bool.and_eq_true, decide_eq_true_eq] at h
  exact h.1
 rw [stOk_eq] at h
 refine ⟨h8, fun y hy => ?_⟩
 have := stFrom_mem h y hy
 simp only [stKey, inR, Bool.or_eq_true, Bool.and_eq_true, decide_eq_true_eq] at this
 exact ⟨wide_id (by omega) (by omega), wide_id (by omega) (by omega)⟩

end Go.Proofs.YtnkjjbpmdghcbaaGreat
