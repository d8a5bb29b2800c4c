/-
  Walks and mathematics of Walk12m.
-/
import Derived.Test.YtnkjjbpmdghcbaaGreatQWalk12g
namespace Go.Proofs.YtnkjjbpmdghcbaaGreat.P11
end Go.Proofs.YtnkjjbpmdghcbaaGreat.P11
namespace Go.Proofs.YtnkjjbpmdghcbaaGreat.P3
end Go.Proofs.YtnkjjbpmdghcbaaGreat.P3
namespace Go.Proofs.YtnkjjbpmdghcbaaGreat
open Go.RowKit P1 P3 P5 P9 P11 P12 P14 P15 K
set_option linter.unusedVariables false
set_option linter.unusedSimpArgs false

theorem endsGo_len {es : List EvV} : ∀ (l : List EvV) (L : List Int), (endsGo es l L).length ≤ L.length + l.length
 | [], L => Nat.le_refl _
 | e :: r, L => by
  unfold endsGo
  have h1 := endsGo_len (es := es) r (if namedBy es e.id then L else addI L e.id)
  have h2 : (if namedBy es e.id then L else addI L e.id).length ≤ L.length + 1 := by
   split
   ·omega
   ·exact addI_len L e.id
  rw [List.length_cons]
  omega

theorem endsOf_len (es : List EvV) : (endsOf es).length ≤ es.length := by
 have := endsGo_len (es := es) es []
 simpa [endsOf] using this

def stateOf (es : List EvV) (sts : List St) : St := befS es sts (endsOf es)

def StPost (w : World) (s : St) (r : Ending) (w' : World) : Prop := ∃ v, r = .returned v ∧ w'.ownsRow w.heap.size 36 2 v s.length (s.flatMap icells) ∧ Below w.heap.size w w'

set_option maxHeartbeats 4000000 in
theorem specStateOf_any (oa : Option Addr) (ca : Nat) (es : List EvV) (so : Option Addr) (sc : Nat) (sts : List St) (og : Option Addr) (ng cg : Nat) (hinv : RInv es sts) (w : World) (hev : EvsAt w oa es.length ca es) (hst : StsAt w so sts.length sc sts) :
  Calls Tryz.prog 23 #[rmv (.slice oa es.length ca) (.slice so sts.length sc) (.slice og ng cg)] w (StPost w (stateOf es sts)) := by
 have hn40 := hinv.len
 obtain ⟨W0, hW0⟩ : ∃ W0, w.alloc (.cells #[.slice oa es.length ca, .slice so sts.length sc, .slice og ng cg] 41) = W0 := ⟨_, rfl⟩
 have hb0 : Below w.heap.size w W0 := by rw [← hW0]; exact (Below.refl _ _).alloc (Nat.le_refl _) _
 have hR0 : W0.heap[w.heap.size]? = some (.cells #[.slice oa es.length ca, .slice so sts.length sc, .slice og ng cg] 41 (0, 0)) := by rw [← hW0]; exact heap_alloc_new _ _
 have HEV := hide (hev.below hb0)
 have HST := hide (hst.below hb0)
 have HW0 := hide hW0
 have HB0 := hide hb0
 have hlr := blk_lt hR0
 have HEN := hide (fun W (h : Below W0.heap.size W0 W) => specEndsOf_any oa es.length ca es (.slice so sts.length sc) (.slice og ng cg) (by omega) (fun e he => by have := hinv.ids e he; exact wide_id (by omega) (by omega)) W (HEV.out.below h))
 have HBF := hide (fun W (h : Below W0.heap.size W0 W) (oc : Option Addr) (m cc : Nat) (pv : List Int) (hm : m ≤ 65536) (hq : IntsAt W oc m cc pv) => l12Before_any oa es.length ca es so sts.length sc sts (.slice og ng cg) oc m cc pv (by omega) hm hinv.fine (fun s hs => by have := (hinv.st s hs).len; omega) (fun s hs x hx => ((hinv.st s hs).wide x hx).2) W (HEV.out.below h) (HST.out.below h) hq)
 have hel := endsOf_len es
 have r0 := blk_cell hR0 0 rfl
 have r1 := blk_cell hR0 1 rfl
 have r2 := blk_cell hR0 2 rfl
 clear hev hst hb0 hW0 hinv
 go_enter Tryz.func23, Tryz.ntmps23
 go_upto_region 1 with fail
 rw [HW0.out]
 clear HW0
 go_region_law (first
  | (rw [if_pos (by rfl)]; go_simp; go_at_call 69; refine (HEN.out _ (Below.refl _ _).drew).mono ?_; rintro r w1 ⟨⟨v1, rfl, ho1, hb1'⟩, hwf1⟩; have hb1 : Below W0.heap.size W0 w1 := (Below.refl W0.heap.size W0).drew.trans hb1'; obtain ⟨o1, c1, rfl⟩ := row_form ho1; obtain ⟨_, _, heo, hi1⟩ := ints_own ho1 hwf1; cases heo; have s0 := (hb1.cell hlr).trans r0; have s1 := (hb1.cell hlr).trans r1; have s2 := (hb1.cell hlr).trans r2)
  | (rw [if_pos (by rfl)]; go_simp; go_at_call 68; refine (HBF.out w1 hb1 _ _ _ _ (by omega) hi1).mono ?_; rintro r w2 ⟨v2, rfl, ho2, hb2⟩; obtain ⟨o2, c2, rfl⟩ := row_form ho2))
 all_goals
  have hb02 := hb1.trans (hb2.mono hb1.size)
  have HO2 := hide (show w2.ownsRow w.heap.size 36 2 (.slice o2 (stateOf es sts).length c2) (stateOf es sts).length ((stateOf es sts).flatMap icells) from own_base ho2 (Nat.le_trans HB0.out.size hb1.size))
  have HB2 := hide (HB0.out.trans (hb02.mono HB0.out.size))
  clear ho2 hb2 hb02
  go_wp2_with fail
  go_ret
  exact ⟨_, rfl, HO2.out, HB2.out⟩

end Go.Proofs.YtnkjjbpmdghcbaaGreat
