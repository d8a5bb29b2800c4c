/-
  Walks of chapter 12 of the specification: the state of a room; a drawn room and an event that may come next.
  Walks of chapter 12 of the specification: a drawn room and an event that may come next to it.
-/
import Derived.Test.YtbhpalmbbhgamaaPkWalk12g
import Derived.Test.YtbhpalmbbhgamaaPkDraw1
namespace Go.Proofs.Ytbhpalmbbhgamaa
open Go.RowKit P1 P3 P5 P9 P11 P12 P14 P15 K
set_option linter.unusedVariables false
set_option linter.unusedSimpArgs false

theorem endsGo_len {es : List EvV} : ∀ (l : List EvV) (L : List Int), (endsGo es l L).length ≤ L.length + l.length
  | [], L => Nat.le_refl _
  | e :: r, L => by
    unfold endsGo
    have h1 := endsGo_len (es := es) r (if namedBy es e.id then L else addI L e.id)
    have h2 : (if namedBy es e.id then L else addI L e.id).length ≤ L.length + 1 := by
      split
      · omega
      · exact addI_len L e.id
    rw [List.length_cons]
    omega

theorem endsOf_len (es : List EvV) : (endsOf es).length ≤ es.length := by
  have := endsGo_len (es := es) es []
  simpa [endsOf] using this

/-- The state of a room. -/
def stateOf (es : List EvV) (sts : List St) : St := befS es sts (endsOf es)

def StPost (w : World) (s : St) (r : Ending) (w' : World) : Prop := ∃ v, r = .returned v ∧ w'.ownsRow w.heap.size 44 2 v s.length (s.flatMap icells) ∧ Below w.heap.size w w'

set_option maxHeartbeats 4000000 in
theorem specStateOf_any (oa : Option Addr) (ca : Nat) (es : List EvV) (so : Option Addr) (sc : Nat) (sts : List St) (og : Option Addr) (ng cg : Nat) (hinv : RInv es sts) (w : World) (hev : EvsAt w oa es.length ca es) (hst : StsAt w so sts.length sc sts) :
    Calls Try.prog 8 #[rmv (.slice oa es.length ca) (.slice so sts.length sc) (.slice og ng cg)] w (StPost w (stateOf es sts)) := by
  have hn40 := hinv.len
  obtain ⟨W0, hW0⟩ : ∃ W0, w.alloc (.cells #[.slice oa es.length ca, .slice so sts.length sc, .slice og ng cg] 28) = W0 := ⟨_, rfl⟩
  have hb0 : Below w.heap.size w W0 := by rw [← hW0]; exact (Below.refl _ _).alloc (Nat.le_refl _) _
  have hR0 : W0.heap[w.heap.size]? = some (.cells #[.slice oa es.length ca, .slice so sts.length sc, .slice og ng cg] 28 (0, 0)) := by rw [← hW0]; exact heap_alloc_new _ _
  have HEV := hide (hev.below hb0)
  have HST := hide (hst.below hb0)
  have HW0 := hide hW0
  have HB0 := hide hb0
  have hlr := blk_lt hR0
  have HEN := hide (fun W (h : Below W0.heap.size W0 W) => specEndsOf_any oa es.length ca es (.slice so sts.length sc) (.slice og ng cg) (by omega) (fun e he => by have := hinv.ids e he; exact wide_id (by omega) (by omega)) W (HEV.out.below h))
  have HBF := hide (fun W (h : Below W0.heap.size W0 W) (oc : Option Addr) (m cc : Nat) (pv : List Int) (hm : m ≤ 65536) (hq : IntsAt W oc m cc pv) => l12Before_any oa es.length ca es so sts.length sc sts (.slice og ng cg) oc m cc pv (by omega) hm hinv.fine (fun s hs => by have := (hinv.st s hs).len; omega) (fun s hs x hx => ((hinv.st s hs).wide x hx).2) W (HEV.out.below h) (HST.out.below h) hq)
  have hel := endsOf_len es
  have r0 := blk_cell hR0 0 rfl
  have r1 := blk_cell hR0 1 rfl
  have r2 := blk_cell hR0 2 rfl
  clear hev hst hb0 hW0 hinv
  go_enter Try.func8, Try.ntmps8
  go_upto_region 1 with fail
  rw [HW0.out]
  clear HW0
  go_region_law (first
    | (rw [if_pos (by rfl)]; go_simp; go_at_call 24; refine (HEN.out _ (Below.refl _ _).drew).mono ?_; rintro r w1 ⟨⟨v1, rfl, ho1, hb1'⟩, hwf1⟩; have hb1 : Below W0.heap.size W0 w1 := (Below.refl W0.heap.size W0).drew.trans hb1'; obtain ⟨o1, c1, rfl⟩ := row_form ho1; obtain ⟨_, _, heo, hi1⟩ := ints_own ho1 hwf1; cases heo; have s0 := (hb1.cell hlr).trans r0; have s1 := (hb1.cell hlr).trans r1; have s2 := (hb1.cell hlr).trans r2)
    | (rw [if_pos (by rfl)]; go_simp; go_at_call 23; refine (HBF.out w1 hb1 _ _ _ _ (by omega) hi1).mono ?_; rintro r w2 ⟨v2, rfl, ho2, hb2⟩; obtain ⟨o2, c2, rfl⟩ := row_form ho2))
  all_goals
    have hb02 := hb1.trans (hb2.mono hb1.size)
    have HO2 := hide (show w2.ownsRow w.heap.size 44 2 (.slice o2 (stateOf es sts).length c2) (stateOf es sts).length ((stateOf es sts).flatMap icells) from own_base ho2 (Nat.le_trans HB0.out.size hb1.size))
    have HB2 := hide (HB0.out.trans (hb02.mono HB0.out.size))
    clear ho2 hb2 hb02
    go_wp2_with fail
    go_ret
    exact ⟨_, rfl, HO2.out, HB2.out⟩

theorem EvsR.far {w w' : World} {B g : Nat} {v : Value} {es : List EvV} (h : EvsR w B v es) (hg : w.grownBy w' (some g)) (hlt : g < B) : EvsR w' B v es := by
  obtain ⟨xs, h1, h2, h3⟩ := h
  refine ⟨xs, h1.kept hg (row_far h1 hlt), h2, fun i e he => ?_⟩
  obtain ⟨vl, vp, q1, q2, q3, q4⟩ := h3 i e he
  exact ⟨vl, vp, q1, q2.kept hg (row_far q2 hlt), q3.kept hg (row_far q3 hlt), q4⟩
theorem StsR.far {w w' : World} {B g : Nat} {v : Value} {sts : List St} (h : StsR w B v sts) (hg : w.grownBy w' (some g)) (hlt : g < B) : StsR w' B v sts := by
  obtain ⟨ys, h1, h2⟩ := h
  refine ⟨ys, h1.kept hg (row_far h1 hlt), fun i s hs => ?_⟩
  obtain ⟨vi, q1, q2⟩ := h2 i s hs
  exact ⟨vi, q1, q2.kept hg (row_far q2 hlt)⟩
theorem RoomR.far {w w' : World} {B g : Nat} {ve vs vg : Value} {es : List EvV} {sts : List St} (h : RoomR w B ve vs vg es sts) (hg : w.grownBy w' (some g)) (hlt : g < B) : RoomR w' B ve vs vg es sts := by
  obtain ⟨h1, h2, zs, h3, h4⟩ := h
  exact ⟨h1.far hg hlt, h2.far hg hlt, zs, h3, h4.kept hg (row_far h4 hlt)⟩

end Go.Proofs.Ytbhpalmbbhgamaa

namespace Go.Proofs.Ytbhpalmbbhgamaa
open Go.RowKit P1 P3 P5 P9 P11 P12 P14 P15 K
set_option linter.unusedVariables false
set_option linter.unusedSimpArgs false

/-- A drawn room, and an event with rows of the call's own. -/
def DrawNextPost (w : World) (r : Ending) (w' : World) : Prop :=
  ∃ ve vs vg es sts, ∃ (e : EvV) (vl vp : Value), r = .returned (.tuple #[rmv ve vs vg, evv e vl vp]) ∧ RoomR w' w.heap.size ve vs vg es sts ∧ Drawn es sts ∧ w'.ownsRow w.heap.size 3 1 vl e.levels.length (e.levels.map icell) ∧ w'.ownsRow w.heap.size 3 1 vp e.prev.length (e.prev.map icell) ∧ (∀ z ∈ e.levels, (Lit.int .i64 z).wf = true) ∧ (∀ z ∈ e.prev, (Lit.int .i64 z).wf = true) ∧ e.id = 90 ∧ e.levels.length ≤ 5 ∧ e.prev.length ≤ 3 ∧ e.text.length ≤ 30 ∧ Below w.heap.size w w'

set_option maxRecDepth 100000 in
set_option maxHeartbeats 8000000 in
theorem drawNext_any (B : Nat) (a : Option Addr) (len cap : Nat) (w : World) (hlen : len ≤ 1048576) (hB : B ≤ w.heap.size) (hcode : CodeAt B w a len) :
    Calls Try.prog 7 #[.slice a len cap] w (DrawNextPost w) := by
  obtain ⟨W0, hW0⟩ : ∃ W0, ((w.alloc (.cells #[.slice none 0 0, .slice none 0 0, .slice none 0 0] 28)).alloc (.cells (evcells 0 0 0 0 0 0 (.slice none 0 0) (.slice none 0 0) []) 31)) = W0 := ⟨_, rfl⟩
  have hb0 : Below w.heap.size w W0 := by rw [← hW0]; exact ((Below.refl w.heap.size w).alloc (Nat.le_refl _) _).alloc (by simp) _
  have hQ0 : W0.heap[w.heap.size]? = some (.cells #[.slice none 0 0, .slice none 0 0, .slice none 0 0] 28 (0, 0)) := by
    rw [← hW0]
    exact (((Below.refl _ _).alloc (Nat.le_refl _) _ : Below (w.alloc (.cells #[.slice none 0 0, .slice none 0 0, .slice none 0 0] 28)).heap.size _ _).block w.heap.size (by simp)).trans (heap_alloc_new w _)
  have hE0 : EB W0 (w.heap.size + 1) 0 0 0 0 0 0 (.slice none 0 0) (.slice none 0 0) [] := by
    rw [← hW0]
    have := EB.new (w.alloc (.cells #[.slice none 0 0, .slice none 0 0, .slice none 0 0] 28)) 0 0 0 0 0 0 (.slice none 0 0) (.slice none 0 0) []
    rw [World.size_alloc] at this
    exact this
  have hs0 : W0.heap.size = w.heap.size + 2 := by rw [← hW0]; simp
  have HQ0 := hide hQ0
  have HE0 := hide hE0
  have HB0 := hide hb0
  have HCA := hide (hcode.below (hb0.mono hB))
  have HW0 := hide hW0
  clear hQ0 hE0 hb0 hcode hW0
  go_enter Try.func7, Try.ntmps7
  go_upto_region 1 with fail
  rw [HW0.out]
  clear HW0
  go_wp2_with fail
  refine (l01New_any B a len cap _ hlen (by omega) HCA.out).mono ?_
  rintro e w1 ⟨rfl, hc1, hb1⟩
  have hs1 := hb1.size
  have HQ1 := hide ((hb1.block w.heap.size (by omega)).trans HQ0.out)
  have HE1 := hide (HE0.out.on hb1 HE0.out.lt)
  have HB1 := hide (HB0.out.trans (hb1.mono (by omega)))
  have HC1 := hide hc1
  have hl1 := hc1.lt
  clear hc1 hb1 HQ0 HE0 HB0
  generalize hp0 : W0.heap.size = p at HC1 hl1 hs1 ⊢
  have hpw : w.heap.size + 2 ≤ p := by omega
  clear hp0
  go_upto_region 3 with (go_at_call 21; refine (l12Room_any B p a len cap hlen _ (by omega) HC1.out).mono ?_; rintro r w2 ⟨xe, xs, xg, es, sts, rfl, hrr, hD, hc2, hg2⟩; obtain ⟨o1, c1, o2, c2, o3, c3, rfl, rfl, rfl⟩ := hrr.form)
  have hs2 := hg2.size
  obtain ⟨W3, hW3⟩ : ∃ W3, w2.alloc (.cells #[.slice o1 es.length c1, .slice o2 sts.length c2, .slice o3 es.length c3] 28) = W3 := ⟨_, rfl⟩
  have hb3 : Below w2.heap.size w2 W3 := by rw [← hW3]; exact (Below.refl _ _).alloc (Nat.le_refl _) _
  have hR3 : W3.heap[w2.heap.size]? = some (.cells #[.slice o1 es.length c1, .slice o2 sts.length c2, .slice o3 es.length c3] 28 (0, 0)) := by rw [← hW3]; exact heap_alloc_new _ _
  have hs3 := hb3.size
  have hlR := blk_lt hR3
  have HQ3 := hide ((hb3.block w.heap.size (by omega)).trans ((hg2.block w.heap.size (by omega) (fun q => by have := Option.some.inj q; omega)).trans HQ1.out))
  have HE3 := hide ((HE1.out.kept hg2 (fun q => by have := Option.some.inj q; omega)).on hb3 (by omega))
  have HRR3 := hide (hrr.below hb3)
  have HC3 := hide (hc2.kept (hb3.mono (by omega)) (hb3.block p (by omega)))
  have HB3 := hide (show Below w.heap.size w W3 from (HB1.out.grown hg2 HB1.out.size (fun k hk => by cases hk; omega)).trans (hb3.mono (by omega)))
  have HD := hide hD
  have HR3 := hide hR3
  have r0 := blk_cell hR3 0 rfl
  have r1 := blk_cell hR3 1 rfl
  have r2 := blk_cell hR3 2 rfl
  have HW3 := hide hW3
  generalize hR : w2.heap.size = R at *
  clear hR3 hrr hD hc2 hg2 hb3 hW3 HQ1 HE1 HB1 HC1
  try rw [HW3.out]
  clear HW3
  go_region_law (first
    | (rw [if_pos (by rfl)]; go_simp; go_at_call 22; refine (l12Next_any B p a len cap _ _ _ es sts 90 HD.out.inv _ (by simp; omega) (HC3.out.kept (Below.refl B W3).drew rfl) ((HRR3.out.room (p := p) (by omega)).on (mask_below (Below.refl _ _).drew (by omega)))).mono ?_; rintro r w4 ⟨e, vl, vp, rfl, hl, hq, fl, fp, hid, nl, np, tx, hf, hc4, hg4'⟩; have hg4 : W3.grownBy w4 (some p) := grownBy_eq_l hg4'; have HID := hide hid; clear hid; obtain ⟨ol, cl, rfl⟩ := row_form hl; obtain ⟨oq, cq, rfl⟩ := row_form hq; have hs4 := hg4.size; have hQ4 := (hg4.block w.heap.size (by omega) (fun q => by have := Option.some.inj q; omega)).trans HQ3.out; have hE4 := HE3.out.kept hg4 (fun q => by have := Option.some.inj q; omega); have u0 := blk_cell ((hg4.block R hlR (fun q => by have := Option.some.inj q; omega)).trans HR3.out) 0 rfl; have u1 := blk_cell ((hg4.block R hlR (fun q => by have := Option.some.inj q; omega)).trans HR3.out) 1 rfl; have u2 := blk_cell ((hg4.block R hlR (fun q => by have := Option.some.inj q; omega)).trans HR3.out) 2 rfl; have q0 := blk_cell hQ4 0 rfl; have q1 := blk_cell hQ4 1 rfl; have q2 := blk_cell hQ4 2 rfl; have y0 := blk_free hQ4 0; have y1 := blk_free hQ4 1; have y2 := blk_free hQ4 2; obtain ⟨k0, k1, k2, k3, k4, k5, k6, k7, k8⟩ := hE4.ev; have z0 := hE4.free 0; have z1 := hE4.free 1; have z2 := hE4.free 2; have z3 := hE4.free 3; have z4 := hE4.free 4; have z5 := hE4.free 5; have z6 := hE4.free 6; have z7 := hE4.free 7; have z8 := hE4.free 8))
  all_goals
    have HQ4 := hide hQ4
    have HE4 := hide hE4
    have HG4 := hide hg4
    clear q0 q1 q2 y0 y1 y2 k0 k1 k2 k3 k4 k5 k6 k7 k8 z0 z1 z2 z3 z4 z5 z6 z7 z8 u0 u1 u2 hQ4 hE4 hg4 hg4' hc4
    obtain ⟨w5, hw5⟩ : ∃ w5, (((w4.setCell ⟨w.heap.size, 0, none⟩ (.slice o1 es.length c1)).setCell ⟨w.heap.size, 1, none⟩ (.slice o2 sts.length c2)).setCell ⟨w.heap.size, 2, none⟩ (.slice o3 es.length c3)) = w5 := ⟨_, rfl⟩
    obtain ⟨hr, hg5⟩ := blk_setAll [.slice o1 es.length c1, .slice o2 sts.length c2, .slice o3 es.length c3] w4 _ 0 HQ4.out
    rw [show w4.setCells w.heap.size 0 [.slice o1 es.length c1, .slice o2 sts.length c2, .slice o3 es.length c3] = w5 from hw5] at hr hg5
    rw [hw5]
    obtain ⟨w6, hw6, hE6, hg6⟩ := (HE4.out.kept hg5 (fun q => by have := Option.some.inj q; omega)).all e.id e.kind e.sender e.user e.member e.depth (.slice ol e.levels.length cl) (.slice oq e.prev.length cq) e.text
    rw [hw6]
    have hr6 : w6.heap[w.heap.size]? = some (.cells #[.slice o1 es.length c1, .slice o2 sts.length c2, .slice o3 es.length c3] 28 (0, 0)) := (hg6.block w.heap.size (blk_lt hr) (fun q => by have := Option.some.inj q; omega)).trans hr
    have q0 := blk_cell hr6 0 rfl
    have q1 := blk_cell hr6 1 rfl
    have q2 := blk_cell hr6 2 rfl
    obtain ⟨k0, k1, k2, k3, k4, k5, k6, k7, k8⟩ := hE6.ev
    go_wp2_with fail
    refine bodyPost_ret (v := .tuple #[rmv (.slice o1 es.length c1) (.slice o2 sts.length c2) (.slice o3 es.length c3), evv e (.slice ol e.levels.length cl) (.slice oq e.prev.length cq)]) (by simp [results, Try.results7, go_sem, q0, q1, q2, k0, k1, k2, k3, k4, k5, k6, k7, k8]) rfl ?_
    have hW3s : W3.drew.heap.size = W3.heap.size := rfl
    have hb4 : Below w.heap.size w w4 := HB3.out.grown HG4.out HB3.out.size (fun k hk => by cases hk; omega)
    have hb5 : Below w.heap.size w w5 := hb4.grown hg5 hb4.size (fun k hk => by cases hk; omega)
    have hb6 : Below w.heap.size w w6 := hb5.grown hg6 hb5.size (fun k hk => by cases hk; omega)
    have hl' := own_base hl (show W3.heap.size ≤ W3.drew.heap.size from Nat.le_refl _)
    have hq' := own_base hq (show W3.heap.size ≤ W3.drew.heap.size from Nat.le_refl _)
    have hl5 := hl'.kept hg5 (row_far hl' (by omega))
    have hq5 := hq'.kept hg5 (row_far hq' (by omega))
    have hl6 := hl5.kept hg6 (row_far hl5 (by omega))
    have hq6 := hq5.kept hg6 (row_far hq5 (by omega))
    exact ⟨_, _, _, es, sts, e, _, _, rfl, (((HRR3.out.far HG4.out (by omega)).far hg5 (by omega)).far hg6 (by omega)).down (by omega), HD.out, own_base hl6 (by omega), own_base hq6 (by omega), fl, fp, HID.out, nl, np, tx, hb6⟩

end Go.Proofs.Ytbhpalmbbhgamaa
