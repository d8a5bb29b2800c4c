/-
  Walks and mathematics of RoomW3.
-/
import Derived.Test.YtckkfjmjcknjdaaSHRoomW2
namespace Go.Proofs.Ytckkfjmjcknjdaa.P1
end Go.Proofs.Ytckkfjmjcknjdaa.P1
namespace Go.Proofs.Ytckkfjmjcknjdaa.P11
end Go.Proofs.Ytckkfjmjcknjdaa.P11
namespace Go.Proofs.Ytckkfjmjcknjdaa.P14
end Go.Proofs.Ytckkfjmjcknjdaa.P14
namespace Go.Proofs.Ytckkfjmjcknjdaa.P3
end Go.Proofs.Ytckkfjmjcknjdaa.P3
namespace Go.Proofs.Ytckkfjmjcknjdaa.P5
end Go.Proofs.Ytckkfjmjcknjdaa.P5
namespace Go.Proofs.Ytckkfjmjcknjdaa
open Go.RowKit P1 P3 P5 P9 P11 P12 P14 K
set_option linter.unusedVariables false
set_option linter.unusedSimpArgs false

theorem ints_up {w w' : World} {lo : Nat} {oa : Option Addr} {n cap : Nat} {zs xs : List Value} {ns : List Int} {m : Nat} (h : IntsAt w oa n cap ns) (ho : w.ownsRow lo 3 1 (.slice oa n cap) m xs) (hk : ∀ k, lo ≤ k → k < w.heap.size → w'.heap[k]? = w.heap[k]?) : IntsAt w' oa n cap ns :=
  ⟨h.len, h.room, h.most, h.fits, fun i z hz => by
    obtain ⟨b, o, ha, hc⟩ := h.at_ i z hz
    refine ⟨b, o, ha, ?_⟩
    subst ha
    exact (World.cell?_of_block (hk b (ho.lt b rfl).1 (cell_lt hc))).trans hc⟩

theorem evs_up {w w' : World} {lo hi g n : Nat} {es : List EvV} (h : EvsAt w (some ⟨g, 0, none⟩) n n es) (hs : EvSh w lo hi g es) (hsz : w.heap.size ≤ w'.heap.size) (hk : ∀ k, lo ≤ k → k < w.heap.size → w'.heap[k]? = w.heap[k]?) : EvsAt w' (some ⟨g, 0, none⟩) n n es ∧ EvSh w' lo hi g es := by
  obtain ⟨h1, h2, cs, h3, h4, h5⟩ := hs
  have hg := hk g h1 (blk_lt h3)
  have rowS : ∀ {v : Value} {m : Nat}, RowS w lo hi v m → RowS w' lo hi v m := fun {v m} hr => by
    obtain ⟨⟨xs, q1⟩, q2⟩ := hr
    refine ⟨⟨xs, ?_⟩, q2⟩
    refine ⟨q1.1, ?_⟩
    rcases q1.2 with hn | ⟨q, cap, cur, rfl, a1, a2, r⟩
    · exact .inl hn
    · exact .inr ⟨q, cap, cur, rfl, a1, (hk q a1 (blk_lt a2)).trans a2, r⟩
  refine ⟨⟨h.len, h.room, h.most, fun i e he => ?_⟩, h1, h2, cs, hg.trans h3, h4, fun i e he => ?_⟩
  · obtain ⟨b, o, xa, xc, ya, yc, ha, hev⟩ := h.at_ i e he
    cases ha
    obtain ⟨vl, vp, q1, q2, q3, q4⟩ := h5 i e he
    have c5 := hev.cell 5 _ rfl
    have c7 := hev.cell 7 _ rfl
    have e5 : w.cell? ⟨g, i * 9 + 5, none⟩ = some vl := blk_cell h3 _ q1
    have e7 : w.cell? ⟨g, i * 9 + 7, none⟩ = some vp := blk_cell h3 _ q2
    rw [Nat.zero_add] at c5 c7
    rw [e5] at c5
    rw [e7] at c7
    cases c5
    cases c7
    obtain ⟨⟨xs, o1⟩, _⟩ := q3
    obtain ⟨⟨ys, o2⟩, _⟩ := q4
    exact ⟨g, 0, xa, xc, ya, yc, rfl, ⟨fun j u hu => (World.cell?_of_block hg).trans (hev.cell j u hu), ints_up (zs := []) hev.lev o1 hk, ints_up (zs := []) hev.prv o2 hk, hev.txt⟩⟩
  · obtain ⟨vl, vp, q1, q2, q3, q4⟩ := h5 i e he
    exact ⟨vl, vp, q1, q2, rowS q3, rowS q4⟩

theorem own_upper {w w' : World} {lo : Nat} {e : TypeId} {k : Nat} {v : Value} {n : Nat} {xs : List Value} (h : w.ownsRow lo e k v n xs) (hk : ∀ k, lo ≤ k → k < w.heap.size → w'.heap[k]? = w.heap[k]?) : w'.ownsRow lo e k v n xs := by
  refine ⟨h.1, ?_⟩
  rcases h.2 with hn | ⟨q, cap, cur, rfl, a1, a2, r⟩
  · exact .inl hn
  · exact .inr ⟨q, cap, cur, rfl, a1, (hk q a1 (blk_lt a2)).trans a2, r⟩

theorem sts_up {w w' : World} {lo hi g k : Nat} {ss : List (List (Int × Int))} {xs : List Value} (h : StSh w lo hi g ss k xs) (hk : ∀ k, lo ≤ k → k < w.heap.size → w'.heap[k]? = w.heap[k]?) : StSh w' lo hi g ss k xs :=
  ⟨own_upper h.own hk, h.top, fun i s hi hs => by
    obtain ⟨q, q1, q2, q3⟩ := h.each i s hi hs
    exact ⟨q, q1, q2, own_upper q3 hk⟩⟩

structure RmSh (w : World) (lo hi g h k : Nat) (es : List EvV) (ss : List (List (Int × Int))) (gs : List Bool) (xs : List Value) : Prop where
  ev : EvsAt w (some ⟨g, 0, none⟩) es.length es.length es
  fine : ∃ m1 m2, lo ≤ m1 ∧ m1 ≤ m2 ∧ m2 ≤ hi ∧ EvSh w lo m1 g es ∧ StSh w m1 m2 h ss ss.length xs ∧ w.ownsRow m2 4 1 (.slice (some ⟨k, 0, none⟩) gs.length gs.length) gs.length (gs.map bcell)
  es : EvSh w lo hi g es
  sx : xs.length = ss.length
  ss : StSh w lo hi h ss ss.length xs
  gs : w.ownsRow lo 4 1 (.slice (some ⟨k, 0, none⟩) gs.length gs.length) gs.length (gs.map bcell)
  gt : k < hi

theorem RmSh.on {w w' : World} {lo hi g h k : Nat} {es : List EvV} {ss : List (List (Int × Int))} {gs : List Bool} {xs : List Value} (r : RmSh w lo hi g h k es ss gs xs) (hb : Below w.heap.size w w') : RmSh w' lo hi g h k es ss gs xs :=
  ⟨r.ev.below hb, by
    obtain ⟨m1, m2, a1, a2, a3, a4, a5, a6⟩ := r.fine
    exact ⟨m1, m2, a1, a2, a3, a4.on hb, a5.on hb (Nat.le_refl _), own_below a6 hb⟩, r.es.on hb, r.sx, r.ss.on hb (Nat.le_refl _), own_below r.gs hb, r.gt⟩

abbrev rmS (es : List EvV) (ss : List (List (Int × Int))) (gs : List Bool) (g h k : Nat) : Value := roomv (some ⟨g, 0, none⟩) es.length es.length (some ⟨h, 0, none⟩) ss.length ss.length (some ⟨k, 0, none⟩) gs.length gs.length

def ToRm (w : World) (es : List EvV) (ss : List (List (Int × Int))) (gs : List Bool) (e : Ending) (w' : World) : Prop := ∃ g h k xs, e = .returned (rmS es ss gs g h k) ∧ RmSh w' w.heap.size w'.heap.size g h k es ss gs xs ∧ Below w.heap.size w w'

theorem EvSh.wide {w : World} {lo lo' hi hi' g : Nat} {es : List EvV} (h : EvSh w lo hi g es) (h1 : lo' ≤ lo) (h2 : hi ≤ hi') : EvSh w lo' hi' g es := by
  obtain ⟨a1, a2, cs, a3, a4, a5⟩ := h
  have rw_ : ∀ {v : Value} {m : Nat}, RowS w lo hi v m → RowS w lo' hi' v m := fun {v m} hr => by
    obtain ⟨⟨xs, q1⟩, q2⟩ := hr
    exact ⟨⟨xs, own_base q1 h1⟩, fun q hq => Nat.lt_of_lt_of_le (q2 q hq) h2⟩
  exact ⟨Nat.le_trans h1 a1, Nat.lt_of_lt_of_le a2 h2, cs, a3, a4, fun i e he => by
    obtain ⟨vl, vp, q1, q2, q3, q4⟩ := a5 i e he
    exact ⟨vl, vp, q1, q2, rw_ q3, rw_ q4⟩⟩

theorem StSh.wide {w : World} {lo lo' hi hi' g k : Nat} {ss : List (List (Int × Int))} {xs : List Value} (h : StSh w lo hi g ss k xs) (h1 : lo' ≤ lo) (h2 : hi ≤ hi') : StSh w lo' hi' g ss k xs :=
  ⟨own_base h.own h1, Nat.lt_of_lt_of_le h.top h2, fun i s hi hs => by
    obtain ⟨q, q1, q2, q3⟩ := h.each i s hi hs
    exact ⟨q, q1, Nat.lt_of_lt_of_le q2 h2, own_base q3 h1⟩⟩

set_option maxRecDepth 100000 in
set_option maxHeartbeats 4000000 in
theorem toRoom_any (oa : Option Addr) (n cap : Nat) (es : List EvV) (so : Option Addr) (sn sc : Nat) (ss : List (List (Int × Int))) (go : Option Addr) (gn gc : Nat) (gs : List Bool) (hf : FineR es ss gs) (w : World) (hev : EvsAt w oa n cap es) (hst : StsAt w so sn sc ss) (hgs : BoolsAt w go gn gc gs) :
    Calls Try.prog 29 #[roomv oa n cap so sn sc go gn gc] w (ToRm w es ss gs) := by
  have hn := hev.len
  have hsn := hst.len
  have hgn := hgs.len
  subst hn
  subst hsn
  subst hgn
  obtain ⟨W0, hW0⟩ : ∃ W0, ((w.alloc (.cells #[.slice oa es.length cap, .slice so ss.length sc, .slice go gs.length gc] 39)).alloc (.cells #[.slice none 0 0, .slice none 0 0, .slice none 0 0] 27)).alloc (.cells #[.slice none 0 0, .slice none 0 0, .slice none 0 0] 27) = W0 := ⟨_, rfl⟩
  have hb0 : Below w.heap.size w W0 := by rw [← hW0]; exact (((Below.refl _ _).alloc (Nat.le_refl _) _).alloc (by simp) _).alloc (by simp; omega) _
  have hs0 : W0.heap.size = w.heap.size + 1 + 1 + 1 := by rw [← hW0]; simp
  have hA0 : W0.heap[w.heap.size]? = some (.cells #[.slice oa es.length cap, .slice so ss.length sc, .slice go gs.length gc] 39 (0, 0)) := by
    rw [← hW0]
    exact ((((Below.refl _ _).alloc (Nat.le_refl _) _).alloc (by simp) _ : Below (w.alloc (.cells #[.slice oa es.length cap, .slice so ss.length sc, .slice go gs.length gc] 39)).heap.size _ _).block w.heap.size (by simp)).trans (heap_alloc_new w _)
  have hR0 : W0.heap[w.heap.size + 1]? = some (.cells #[.slice none 0 0, .slice none 0 0, .slice none 0 0] 27 (0, 0)) := by
    rw [← hW0]
    have := heap_alloc_new (w.alloc (.cells #[.slice oa es.length cap, .slice so ss.length sc, .slice go gs.length gc] 39)) (.cells #[.slice none 0 0, .slice none 0 0, .slice none 0 0] 27)
    rw [World.size_alloc] at this
    exact (((Below.refl _ _).alloc (Nat.le_refl _) _ : Below ((w.alloc (.cells #[.slice oa es.length cap, .slice so ss.length sc, .slice go gs.length gc] 39)).alloc (.cells #[.slice none 0 0, .slice none 0 0, .slice none 0 0] 27)).heap.size _ _).block (w.heap.size + 1) (by simp)).trans this
  have hO0 : W0.heap[w.heap.size + 1 + 1]? = some (.cells #[.slice none 0 0, .slice none 0 0, .slice none 0 0] 27 (0, 0)) := by
    rw [← hW0]
    have := heap_alloc_new ((w.alloc (.cells #[.slice oa es.length cap, .slice so ss.length sc, .slice go gs.length gc] 39)).alloc (.cells #[.slice none 0 0, .slice none 0 0, .slice none 0 0] 27)) (.cells #[.slice none 0 0, .slice none 0 0, .slice none 0 0] 27)
    rw [World.size_alloc, World.size_alloc] at this
    exact this
  have r0 := blk_cell hA0 0 rfl
  have HTE := hide (toEventS_any oa es.length cap es hf.ev W0 (hev.below hb0))
  have HST := hide hst
  have HGS := hide hgs
  have HF := hide hf
  have HW0 := hide hW0
  have HA0 := hide hA0
  have HR0 := hide hR0
  have HO0 := hide hO0
  have HB0 := hide hb0
  obtain ⟨b, hbd⟩ : ∃ b, w.heap.size = b := ⟨_, rfl⟩
  clear hW0 hA0 hR0 hO0 hb0 hev hst hgs hf
  go_enter Try.func29, Try.ntmps29
  go_upto_region 2 with fail
  rw [HW0.out]
  clear HW0
  rw [hbd] at HA0 HR0 HO0 r0 hs0
  have HBD := hide hbd
  clear hbd
  have hltO := blk_lt HO0.out
  have hltA := blk_lt HA0.out
  go_upto_region 3 with (go_at_call 57; (with_reducible refine HTE.out.mono ?_); rintro r w1 ⟨g1, rfl, he1, hs1, hb1⟩; have hO1 := (hb1.block _ hltO).trans HO0.out; have o10 := blk_cell hO1 0 rfl; have f10 := blk_free hO1 0)
  obtain ⟨W1, hW1⟩ : ∃ W1, w1.setCell ⟨b + 1 + 1, 0, none⟩ (.slice (some ⟨g1, 0, none⟩) es.length es.length) = W1 := ⟨_, rfl⟩
  try rw [hW1]
  obtain ⟨hO2, hg1⟩ := blk_setAll [.slice (some ⟨g1, 0, none⟩) es.length es.length] w1 _ 0 hO1
  rw [show w1.setCells (b + 1 + 1) 0 [.slice (some ⟨g1, 0, none⟩) es.length es.length] = W1 from hW1] at hO2 hg1
  have hz1 := hb1.size
  have hzz1 := hg1.size
  have up1 : ∀ k, W0.heap.size ≤ k → k < w1.heap.size → W1.heap[k]? = w1.heap[k]? := fun k h1 h2 => hg1.block k h2 (fun e => by have := Option.some.inj e; omega)
  obtain ⟨he2, hs2⟩ := evs_up he1 hs1 hzz1 up1
  have dn1 : ∀ k, k < b + 1 + 1 → W1.heap[k]? = W0.heap[k]? := fun k hk => (hg1.block k (by omega) (fun e => by have := Option.some.inj e; omega)).trans (hb1.block k (by omega))
  have hb2 : Below (b + 1 + 1) W0 W1 := (hb1.mono (by omega)).grown hg1 (by omega) (fun k hk => by cases hk; exact Nat.le_refl _)
  have HE2 := hide he2
  have HS2 := hide hs2
  have HO2 := hide hO2
  have HB2 := hide hb2
  have r1 := (hb2.cell (p := ⟨b, 1, none⟩) (show b < b + 1 + 1 by omega)).trans (blk_cell HA0.out 1 rfl)
  have r2 := (hb2.cell (p := ⟨b, 2, none⟩) (show b < b + 1 + 1 by omega)).trans (blk_cell HA0.out 2 rfl)
  have hz01 : W0.heap.size ≤ W1.heap.size := by omega
  have hbw1 : Below w.heap.size w W1 := HB0.out.trans (hb2.mono (by rw [HBD.out]; omega))
  have HTI := hide (toItemSS_any so ss.length sc ss HF.out.sl HF.out.sw W1 (HST.out.below hbw1))
  have HBW1 := hide hbw1
  clear hb1 he1 hs1 hO1 hW1 hg1 he2 hs2 hO2 hb2 o10 f10 r0 HTE up1 dn1 hbw1
  go_upto_region 4 with (go_at_call 58; (with_reducible refine HTI.out.mono ?_); rintro r w2 ⟨g2, xs, hxl, rfl, hs2, hb2⟩; have hO3 := (hb2.block _ (by omega)).trans HO2.out; have o11 := blk_cell hO3 1 rfl; have f11 := blk_free hO3 1; have hz2 := hb2.size)
  obtain ⟨W2, hW2⟩ : ∃ W2, w2.setCell ⟨b + 1 + 1, 1, none⟩ (.slice (some ⟨g2, 0, none⟩) ss.length ss.length) = W2 := ⟨_, rfl⟩
  try rw [hW2]
  obtain ⟨hO4, hg2⟩ := blk_setAll [.slice (some ⟨g2, 0, none⟩) ss.length ss.length] w2 _ 1 hO3
  rw [show w2.setCells (b + 1 + 1) 1 [.slice (some ⟨g2, 0, none⟩) ss.length ss.length] = W2 from hW2] at hO4 hg2
  have hzz2 := hg2.size
  have up2 : ∀ k, W0.heap.size ≤ k → k < w2.heap.size → W2.heap[k]? = w2.heap[k]? := fun k h1 h2 => hg2.block k h2 (fun e => by have := Option.some.inj e; omega)
  obtain ⟨he4, hs4⟩ := evs_up (HE2.out.below hb2) (HS2.out.on hb2) hzz2 up2
  have HSS4 := hide (sts_up hs2 (fun k h1 h2 => up2 k (Nat.le_trans hz01 h1) h2))
  have hb4 : Below (b + 1 + 1) W0 W2 := (HB2.out.trans (hb2.mono (by omega))).grown hg2 (by omega) (fun k hk => by cases hk; exact Nat.le_refl _)
  have hbw2 : Below w.heap.size w W2 := HB0.out.trans (hb4.mono (by rw [HBD.out]; omega))
  have HE4 := hide he4
  have HS4 := hide hs4
  have HO4 := hide hO4
  have HB4 := hide hb4
  have r2' := (hb4.cell (p := ⟨b, 2, none⟩) (show b < b + 1 + 1 by omega)).trans (blk_cell HA0.out 2 rfl)
  have HTB := hide (toBoolS_any go gs.length gc gs HF.out.gl W2 (HGS.out.below hbw2))
  clear hb2 hs2 hO3 hW2 hg2 he4 hs4 hO4 hb4 o11 f11 r1 r2 HTI HE2 HS2 HO2 HB2 HBW1 up2 hbw2
  go_upto_region 5 with (go_at_call 59; (with_reducible refine HTB.out.mono ?_); rintro r w3 ⟨g3, rfl, hg3o, hb3⟩; have hO5 := (hb3.block _ (by omega)).trans HO4.out; have o12 := blk_cell hO5 2 rfl; have f12 := blk_free hO5 2; have hz3 := hb3.size)
  obtain ⟨W3, hW3⟩ : ∃ W3, w3.setCell ⟨b + 1 + 1, 2, none⟩ (.slice (some ⟨g3, 0, none⟩) gs.length gs.length) = W3 := ⟨_, rfl⟩
  try rw [hW3]
  obtain ⟨hO6, hg3⟩ := blk_setAll [.slice (some ⟨g3, 0, none⟩) gs.length gs.length] w3 _ 2 hO5
  rw [show w3.setCells (b + 1 + 1) 2 [.slice (some ⟨g3, 0, none⟩) gs.length gs.length] = W3 from hW3] at hO6 hg3
  have hzz3 := hg3.size
  have up3 : ∀ k, W0.heap.size ≤ k → k < w3.heap.size → W3.heap[k]? = w3.heap[k]? := fun k h1 h2 => hg3.block k h2 (fun e => by have := Option.some.inj e; omega)
  obtain ⟨he6, hs6⟩ := evs_up (HE4.out.below hb3) (HS4.out.on hb3) hzz3 up3
  have HSS6 := hide (sts_up (HSS4.out.on hb3 (Nat.le_refl _)) (fun k h1 h2 => up3 k (Nat.le_trans hz01 h1) h2))
  have hz02 : W0.heap.size ≤ W2.heap.size := by omega
  have HBO6 := hide (own_upper hg3o (fun k h1 h2 => up3 k (Nat.le_trans hz02 h1) h2))
  have HG3 := hide (show g3 < W3.heap.size from by have := (hg3o.lt g3 rfl).2; omega)
  have hb6 : Below (b + 1 + 1) W0 W3 := (HB4.out.trans (hb3.mono (by omega))).grown hg3 (by omega) (fun k hk => by cases hk; exact Nat.le_refl _)
  have hR6 := (hb6.block (b + 1) (by omega)).trans HR0.out
  have t0 : W3.cell? ⟨b + 1 + 1, 0, none⟩ = some (.slice (some ⟨g1, 0, none⟩) es.length es.length) := blk_cell hO6 0 rfl
  have t1 : W3.cell? ⟨b + 1 + 1, 1, none⟩ = some (.slice (some ⟨g2, 0, none⟩) ss.length ss.length) := blk_cell hO6 1 rfl
  have t2 : W3.cell? ⟨b + 1 + 1, 2, none⟩ = some (.slice (some ⟨g3, 0, none⟩) gs.length gs.length) := blk_cell hO6 2 rfl
  have u0 := blk_cell hR6 0 rfl
  have u1 := blk_cell hR6 1 rfl
  have u2 := blk_cell hR6 2 rfl
  have y0 := blk_free hR6 0
  have y1 := blk_free hR6 1
  have y2 := blk_free hR6 2
  have HE6 := hide he6
  have HS6 := hide hs6
  have HB6 := hide hb6
  have HR6 := hide hR6
  clear hb3 hg3o hO5 hW3 hg3 he6 hs6 hO6 hb6 o12 f12 r2' HTB HE4 HS4 HO4 HB4 up3 HSS4 hR6
  go_wp2_with fail
  obtain ⟨w9, hw9⟩ : ∃ w9, (((W3.setCell ⟨b + 1, 0, none⟩ (.slice (some ⟨g1, 0, none⟩) es.length es.length)).setCell ⟨b + 1, 1, none⟩ (.slice (some ⟨g2, 0, none⟩) ss.length ss.length)).setCell ⟨b + 1, 2, none⟩ (.slice (some ⟨g3, 0, none⟩) gs.length gs.length)) = w9 := ⟨_, rfl⟩
  obtain ⟨hr, hg9⟩ := blk_setAll [.slice (some ⟨g1, 0, none⟩) es.length es.length, .slice (some ⟨g2, 0, none⟩) ss.length ss.length, .slice (some ⟨g3, 0, none⟩) gs.length gs.length] W3 _ 0 HR6.out
  rw [show W3.setCells (b + 1) 0 [.slice (some ⟨g1, 0, none⟩) es.length es.length, .slice (some ⟨g2, 0, none⟩) ss.length ss.length, .slice (some ⟨g3, 0, none⟩) gs.length gs.length] = w9 from hw9] at hr hg9
  rw [hw9]
  clear u0 u1 u2
  have u0 : w9.cell? ⟨b + 1, 0, none⟩ = some (.slice (some ⟨g1, 0, none⟩) es.length es.length) := blk_cell hr 0 rfl
  have u1 : w9.cell? ⟨b + 1, 1, none⟩ = some (.slice (some ⟨g2, 0, none⟩) ss.length ss.length) := blk_cell hr 1 rfl
  have u2 : w9.cell? ⟨b + 1, 2, none⟩ = some (.slice (some ⟨g3, 0, none⟩) gs.length gs.length) := blk_cell hr 2 rfl
  refine bodyPost_ret (v := rmS es ss gs g1 g2 g3) (by simp [results, Try.results29, go_sem, u0, u1, u2]) rfl ?_
  have hzz9 := hg9.size
  have up9 : ∀ k, W0.heap.size ≤ k → k < W3.heap.size → w9.heap[k]? = W3.heap[k]? := fun k h1 h2 => hg9.block k h2 (fun e => by have := Option.some.inj e; omega)
  obtain ⟨he9, hs9⟩ := evs_up HE6.out HS6.out hzz9 up9
  have hbe := HBD.out
  have hb9 : Below (b + 1) W0 w9 := (HB6.out.mono (by omega)).grown hg9 (by omega) (fun k hk => by cases hk; exact Nat.le_refl _)
  have hgg := HG3.out
  have hSS9 := sts_up HSS6.out (fun k h1 h2 => up9 k (Nat.le_trans hz01 h1) h2)
  have hBO9 := own_upper HBO6.out (fun k h1 h2 => up9 k (Nat.le_trans hz02 h1) h2)
  exact ⟨g1, g2, g3, xs, rfl, ⟨he9, ⟨W1.heap.size, W2.heap.size, by omega, by omega, by omega, hs9.wide (by omega) (by omega), hSS9.wide (Nat.le_refl _) (by omega), hBO9⟩, hs9.wide (by omega) (by omega), hxl, hSS9.wide (by omega) (by omega), own_base hBO9 (by omega), by omega⟩, HB0.out.trans (hb9.mono (by omega))⟩

end Go.Proofs.Ytckkfjmjcknjdaa
