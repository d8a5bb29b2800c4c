/-
  Walks of chapter 10 of the program: MemberOf, LevelOf; what the laws on drawn rooms keep.
-/
import Derived.Test.YtbhpalmbbhgamaaWalk10rc
import Derived.Test.YtbhpalmbbhgamaaPkWalk12m
namespace Go.Proofs.Ytbhpalmbbhgamaa
open Go.RowKit P1 P3 P5 P9 P11 P12 P14 P15 K
set_option linter.unusedVariables false
set_option linter.unusedSimpArgs false

set_option maxHeartbeats 4000000 in
theorem implMemberOf_any (oa : Option Addr) (n cap : Nat) (es : List EvV) (ob : Option Addr) (m cb : Nat) (s : St) (u : Int) (hu : -1000000 ≤ u ∧ u ≤ 1000000) (hm20 : m ≤ 1048576) (hws : ∀ y ∈ s, WideI y) (w : World) (hev : EvsAt w oa n cap es) (hit : ItemsAt w ob m cb s) :
    Calls Try.prog 11 #[.slice oa n cap, .slice ob m cb, .int .i64 u] w fun r w' => r = .returned (.int .i64 (scMem es s u)) ∧ Below w.heap.size w w' := by
  have HSC := hide (sceneOf_any oa n cap es ob m cb s hm20 hws w hev hit)
  have HM := hide (fun b W (h : Scn W b oa n cap es s) => scMember_any b oa n cap es s u hu W h)
  clear hev hit hws
  go_enter Try.func11, Try.ntmps11
  go_wp2_with (first
    | (go_at_call 26; (with_reducible refine HSC.out.mono ?_); rintro r w1 ⟨b, rfl, hS, hb1⟩; have HS := hide hS)
    | (go_at_call 34; (with_reducible refine (HM.out b w1 HS.out).mono ?_); rintro r w2 ⟨rfl, hb2⟩))
  go_ret
  exact ⟨rfl, hb1.trans (hb2.mono hb1.size)⟩

set_option maxHeartbeats 4000000 in
theorem implLevelOf_any (oa : Option Addr) (n cap : Nat) (es : List EvV) (ob : Option Addr) (m cb : Nat) (s : St) (u : Int) (hm20 : m ≤ 1048576) (hws : ∀ y ∈ s, WideI y) (w : World) (hev : EvsAt w oa n cap es) (hit : ItemsAt w ob m cb s) :
    Calls Try.prog 12 #[.slice oa n cap, .slice ob m cb, .int .i64 u] w fun r w' => r = .returned (.int .i64 (scLev es s u)) ∧ Below w.heap.size w w' := by
  have HSC := hide (sceneOf_any oa n cap es ob m cb s hm20 hws w hev hit)
  have HM := hide (fun b W (h : Scn W b oa n cap es s) => scLevel_any b oa n cap es s u W h)
  clear hev hit hws
  go_enter Try.func12, Try.ntmps12
  go_wp2_with (first
    | (go_at_call 26; (with_reducible refine HSC.out.mono ?_); rintro r w1 ⟨b, rfl, hS, hb1⟩; have HS := hide hS)
    | (go_at_call 35; (with_reducible refine (HM.out b w1 HS.out).mono ?_); rintro r w2 ⟨rfl, hb2⟩))
  go_ret
  exact ⟨rfl, hb1.trans (hb2.mono hb1.size)⟩

theorem RoomR.ats {w : World} {B : Nat} {ve vs vg : Value} {es : List EvV} {sts : List St} (h : RoomR w B ve vs vg es sts) :
    ∃ oa ca so sc og cg, ve = .slice oa es.length ca ∧ vs = .slice so sts.length sc ∧ vg = .slice og es.length cg ∧ EvsAt w oa es.length ca es ∧ StsAt w so sts.length sc sts := by
  obtain ⟨⟨xs, h1, h2, h3⟩, ⟨ys, g1, g2⟩, zs, k1, k2⟩ := h
  obtain ⟨oa, ca, rfl, he⟩ := evsAt_of (own_src h1 h2) (fun i e he => by
    obtain ⟨vl, vp, q1, q2, q3, q4, q5, q6⟩ := h3 i e he
    obtain ⟨xa, xc, rfl, hl⟩ := ints_own q2 q4
    obtain ⟨ya, yc, rfl, hq⟩ := ints_own q3 q5
    exact ⟨xa, xc, ya, yc, q1, hl, hq, q6⟩)
  have hl : ys.length = sts.length := by have := g1.1; omega
  obtain ⟨so, sc, rfl, hs⟩ := stsAt_of (own_src g1 (fun u hu => by
    obtain ⟨i, hi⟩ := List.mem_iff_getElem?.1 hu
    have hi' := (List.getElem?_eq_some_iff.1 hi).1
    obtain ⟨vi, q1, q2⟩ := g2 i sts[i] (List.getElem?_eq_getElem (by omega))
    rw [hi] at q1
    cases q1
    obtain ⟨_, _, rfl⟩ := row_form q2
    rfl)) (fun i s hs => by
    obtain ⟨vi, q1, q2⟩ := g2 i s hs
    obtain ⟨xa, xc, rfl, hi⟩ := itemsAt_of_own q2
    exact ⟨xa, xc, q1, hi⟩)
  obtain ⟨og, cg, rfl⟩ := row_form k2
  exact ⟨oa, ca, so, sc, og, cg, rfl, rfl, rfl, he, hs⟩

/-- What the laws on a drawn room and an event keep: the room and the event in variables, the room's state. -/
structure OutK (w W : World) (br be : Nat) (oa : Option Addr) (ca : Nat) (es : List EvV) (vs vg : Value) (ob : Option Addr) (cb : Nat) (s : St) (e : EvV) (xa : Option Addr) (xc : Nat) (ya : Option Addr) (yc : Nat) : Prop where
  rm : W.heap[br]? = some (.cells #[.slice oa es.length ca, vs, vg] 28 (0, 0))
  eb : EB W be e.id e.kind e.sender e.user e.member e.depth (.slice xa e.levels.length xc) (.slice ya e.prev.length yc) e.text
  ev : EvsAt W oa es.length ca es
  it : ItemsAt W ob s.length cb s
  lx : IntsAt W xa e.levels.length xc e.levels
  ly : IntsAt W ya e.prev.length yc e.prev
  bl : Below w.heap.size w W

theorem OutK.on {w W W' : World} {br be : Nat} {oa : Option Addr} {ca : Nat} {es : List EvV} {vs vg : Value} {ob : Option Addr} {cb : Nat} {s : St} {e : EvV} {xa : Option Addr} {xc : Nat} {ya : Option Addr} {yc : Nat} (h : OutK w W br be oa ca es vs vg ob cb s e xa xc ya yc) (hb : Below W.heap.size W W') : OutK w W' br be oa ca es vs vg ob cb s e xa xc ya yc :=
  ⟨(hb.block br (blk_lt h.rm)).trans h.rm, h.eb.on hb h.eb.lt, h.ev.below hb, h.it.below hb, h.lx.below hb, h.ly.below hb, h.bl.trans (hb.mono h.bl.size)⟩

theorem drawn_sane {es : List EvV} {sts : List St} (h : Drawn es sts) : Sane es (stateOf es sts) := built_sane h (bef_right (built_right h.built).2 _)

theorem stOk_small {s : St} (h : stOk s = true) : s.length ≤ 8 ∧ ∀ y ∈ s, WideI y := by
  have h8 : s.length ≤ 8 := by
    unfold stOk at h
    simp only [Bool.and_eq_true, decide_eq_true_eq] at h
    exact h.1
  rw [stOk_eq] at h
  refine ⟨h8, fun y hy => ?_⟩
  have := stFrom_mem h y hy
  simp only [stKey, inR, Bool.or_eq_true, Bool.and_eq_true, decide_eq_true_eq] at this
  exact ⟨wide_id (by omega) (by omega), wide_id (by omega) (by omega)⟩

theorem two_vars (w1 : World) (v1 v2 v3 : Value) (id kd sn us mb dp : Int) (xl xp : Value) (tx : List UInt8) (W : World) (h : (w1.alloc (.cells #[v1, v2, v3] 28)).alloc (.cells (evcells id kd sn us mb dp xl xp tx) 31) = W) :
    Below w1.heap.size w1 W ∧ W.heap[w1.heap.size]? = some (.cells #[v1, v2, v3] 28 (0, 0)) ∧ EB W (w1.heap.size + 1) id kd sn us mb dp xl xp tx := by
  subst h
  refine ⟨((Below.refl w1.heap.size w1).alloc (Nat.le_refl _) _).alloc (by simp) _, ?_, ?_⟩
  · exact (((Below.refl _ _).alloc (Nat.le_refl _) _ : Below (w1.alloc (.cells #[v1, v2, v3] 28)).heap.size _ _).block w1.heap.size (by simp)).trans (heap_alloc_new w1 _)
  · have := EB.new (w1.alloc (.cells #[v1, v2, v3] 28)) id kd sn us mb dp xl xp tx
    rw [World.size_alloc] at this
    exact this

end Go.Proofs.Ytbhpalmbbhgamaa
