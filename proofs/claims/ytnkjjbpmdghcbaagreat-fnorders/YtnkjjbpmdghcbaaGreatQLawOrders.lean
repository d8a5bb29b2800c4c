/-
  Walks and mathematics of LawOrders.
-/
import Derived.Test.YtnkjjbpmdghcbaaGreatQLawOrd1
namespace Go.Proofs.YtnkjjbpmdghcbaaGreat.P11
end Go.Proofs.YtnkjjbpmdghcbaaGreat.P11
namespace Go.Proofs.YtnkjjbpmdghcbaaGreat.P3
end Go.Proofs.YtnkjjbpmdghcbaaGreat.P3
namespace Go.Proofs.YtnkjjbpmdghcbaaGreat
open Go.RowKit P1 P3 P5 P9 P11 P12 P14 P15 P16 P17 K
set_option linter.unusedVariables false
set_option linter.unusedSimpArgs false

theorem evFind_nodup : ∀ {es : List EvV} {j : Nat} {e : EvV}, (es.map (·.id)).Nodup → es[j]? = some e → evFind es e.id = some e
 | x :: r, 0, e, hn, he => by
  simp at he
  subst he
  unfold evFind
  rw [if_pos rfl]
 | x :: r, j + 1, e, hn, he => by
  simp only [List.getElem?_cons_succ] at he
  rw [List.map_cons, List.nodup_cons] at hn
  unfold evFind
  rw [if_neg (fun h => hn.1 (by rw [h]; exact List.mem_map.2 ⟨e, List.mem_of_getElem? he, rfl⟩))]
  exact evFind_nodup hn.2 he

theorem befGo_known {es : List EvV} {sts : List St} : ∀ (zs : List Int) (acc l : List St), befGo es sts zs acc = some l → ∀ p ∈ zs, p ∈ es.map (·.id)
 | [], _, _, _, p, hp => by simp at hp
 | z :: r, acc, l, h, p, hp => by
  unfold befGo at h
  cases hs : stHas es sts z with
  | none => rw [hs] at h; cases h
  | some s =>
   rw [hs] at h
   rcases List.mem_cons.1 hp with rfl | hp
   ·refine evFind_isSome.1 ?_
    cases hf : evFind es p with
    | some e => rfl
    | none =>
     exfalso
     unfold stHas at hs
     rw [hasI_none hf] at hs
     simp at hs
   ·exact befGo_known r _ l h p hp

theorem built_up {es : List EvV} {sts : List St} (h : Built es sts) : PrevUp es := by
 induction h with
 | nil => exact PrevUp.nil
 | @add es sts e hb hok ih =>
  refine ih.add (fun p hp => ?_)
  unfold addOk at hok
  simp only [Bool.and_eq_true] at hok
  have h1 := hok.1
  unfold befOf at h1
  cases hg : befGo es sts e.prev [] with
  | none => rw [hg] at h1; cases h1
  | some l => exact befGo_known _ _ _ hg p hp

theorem evOk_prev {e : EvV} (h : evOk e = true) : e.prev.length ≤ 3 := by
 unfold evOk prevOk at h
 simp only [Bool.and_eq_true, decide_eq_true_eq] at h
 exact h.2.2.2.1

structure TwoR (w wr : World) (B : Nat) (va vb : Value) (la lb : List Int) : Prop where
 a : wr.ownsRow B 3 1 va la.length (la.map icell)
 b : wr.ownsRow B 3 1 vb lb.length (lb.map icell)
 ap : Aside2 va vb
 bl : Below B w wr
 up : B ≤ wr.heap.size

theorem TwoR.pushA {w wr w2 : World} {B : Nat} {va va' vb : Value} {la lb : List Int} {x : Int} {X : Obj} (h : TwoR w wr B va vb la lb) (ho : w2.ownsRow B 3 1 va' (la.length + 1) (la.map icell ++ [.int .i64 x])) (hg : (wr.alloc X).grownBy w2 va.ownBlock) (hl : va'.ownBlock = va.ownBlock ∨ va'.ownBlock = some (wr.heap.size + 1)) : TwoR w w2 B va' vb (la ++ [x]) lb := by
 obtain ⟨h1, h2⟩ := beside h.b h.ap.symm hg hl
 have hb := (Below.refl wr.heap.size wr).alloc (Nat.le_refl _) X
 exact ⟨by rw [len_snoc, map_snoc]; exact ho, h1, h2.symm, grown_up h.bl h.up h.a (Nat.le_refl _) hg, Nat.le_trans h.up (Nat.le_trans hb.size hg.size)⟩

theorem TwoR.turn {w wr : World} {B : Nat} {va vb : Value} {la lb : List Int} (h : TwoR w wr B va vb la lb) : TwoR w wr B vb va lb la := ⟨h.b, h.a, h.ap.symm, h.bl, h.up⟩

structure OrK (w W : World) (br : Nat) (oa : Option Addr) (ca : Nat) (es : List EvV) (vs vg : Value) (ob : Option Addr) (cb : Nat) (s : St) : Prop where
 rm : W.heap[br]? = some (.cells #[.slice oa es.length ca, vs, vg] 41 (0, 0))
 ev : EvsAt W oa es.length ca es
 it : ItemsAt W ob s.length cb s
 bl : Below w.heap.size w W

theorem OrK.on {w W W' : World} {br : Nat} {oa : Option Addr} {ca : Nat} {es : List EvV} {vs vg : Value} {ob : Option Addr} {cb : Nat} {s : St} (h : OrK w W br oa ca es vs vg ob cb s) (hb : Below W.heap.size W W') : OrK w W' br oa ca es vs vg ob cb s :=
 ⟨(hb.block br (blk_lt h.rm)).trans h.rm, h.ev.below hb, h.it.below hb, h.bl.trans (hb.mono h.bl.size)⟩

theorem own_pre {w : World} {B n j cap : Nat} {oa : Option Addr} {zs : List Int} (h : w.ownsRow B 3 1 (.slice oa n cap) n (zs.map icell)) (hj : j ≤ n) (hw : ∀ z ∈ zs, (Lit.int .i64 z).wf = true) : IntsAt w oa j cap (zs.take j) := by
 obtain ⟨_, _, heo, hi⟩ := ints_own h hw
 cases heo
 have hl := hi.len
 exact ⟨by rw [List.length_take]; omega, Nat.le_trans hj hi.room, hi.most, fun z hz => hi.fits z (List.mem_of_mem_take hz), fun i z hz => by
  have hij : i < j := by have := (List.getElem?_eq_some_iff.1 hz).1; rw [List.length_take] at this; omega
  rw [List.getElem?_take_of_lt hij] at hz
  exact hi.at_ i z hz⟩

set_option maxRecDepth 100000 in
set_option maxHeartbeats 16000000 in
theorem FnOrders_walk (a0 : Option Addr) (len0 cap0 : Nat) (z0 : List Int) (w : World) (w0 : IsRow .u8 w a0 len0 cap0 z0) :
  Calls Tryz.prog 5 #[.slice a0 len0 cap0] w fun e w' => e = .returned (.bool true) ∧ Below w.heap.size w w' := by
 have HC := hide (codeAt_of_row w0)
 clear w0
 by_cases hbig : 1048576 < len0
 ·go_enter Tryz.func5, Tryz.ntmps5
  go_wp2_with (go_at_call 10; refine (big_yes a0 len0 cap0 hbig _).mono ?_; rintro e w1 ⟨rfl, rfl⟩)
  go_ret
  exact ⟨rfl, Below.refl _ _⟩
 ·have hlen : len0 ≤ 1048576 := by omega
  go_enter Tryz.func5, Tryz.ntmps5
  go_upto_region 4 with (first
   | (go_at_call 10; refine (big_no a0 len0 cap0 hlen _).mono ?_; rintro e w1 ⟨rfl, rfl⟩)
   | (go_at_call 22; refine (drawRoom_any w.heap.size a0 len0 cap0 _ hlen (Nat.le_refl _) HC.out).mono ?_; rintro e w1 ⟨ve, vs, vg, es, sts, rfl, hrr, hD, hb1⟩; obtain ⟨oa, ca, so, sc, og, cg, rfl, rfl, rfl, hev1, hst1⟩ := hrr.ats))
  obtain ⟨W2, hW2⟩ : ∃ W2, w1.alloc (.cells #[.slice oa es.length ca, .slice so sts.length sc, .slice og es.length cg] 41) = W2 := ⟨_, rfl⟩
  try rw [hW2]
  have hb2 : Below w1.heap.size w1 W2 := by rw [← hW2]; exact (Below.refl _ _).alloc (Nat.le_refl _) _
  have hR2 : W2.heap[w1.heap.size]? = some (.cells #[.slice oa es.length ca, .slice so sts.length sc, .slice og es.length cg] 41 (0, 0)) := by rw [← hW2]; exact heap_alloc_new _ _
  have r0 := blk_cell hR2 0 rfl
  have r1 := blk_cell hR2 1 rfl
  have r2 := blk_cell hR2 2 rfl
  have hn40 := hD.inv.len
  have HFI := hide hD.inv.fine
  have hSn := drawn_sane hD
  obtain ⟨hs8, hsw⟩ := stOk_small hSn.ok
  have HSN := hide hSn
  have HSW := hide hsw
  have HND := hide hD.inv.nod
  have hbr := built_right hD.built
  have HIDS := hide (show ∀ e ∈ es, (Lit.int .i64 e.id).wf = true from fun e he => by have := hD.inv.ids e he; exact wide_id (by omega) (by omega))
  have HPRV := hide (show ∀ e ∈ es, e.prev.length ≤ 3 from fun e he => evOk_prev (hbr.1 e he))
  have HUP := hide (built_up hD.built)
  have HSO := hide (specStateOf_any oa ca es so sc sts og es.length cg hD.inv W2 (hev1.below hb2) (hst1.below hb2))
  have HB2 := hide (hb1.trans (hb2.mono hb1.size))
  have HEV2 := hide (hev1.below hb2)
  have HR2 := hide hR2
  clear hrr hD hb1 hb2 hW2 hev1 hst1 hR2 hSn hsw hbr HC
  go_upto_region 5 with (go_at_call 23; (with_reducible refine HSO.out.mono ?_); rintro r w3 ⟨v3, rfl, ho3, hb3⟩; obtain ⟨ob, cb, rfl⟩ := row_form ho3)
  obtain ⟨s, hsd⟩ : ∃ s, stateOf es sts = s := ⟨_, rfl⟩
  rw [hsd] at ho3 HSN HSW hs8
  have HOK3 := hide (show OrK w w3 w1.heap.size oa ca es (.slice so sts.length sc) (.slice og es.length cg) ob cb s from ⟨(hb3.block _ (blk_lt HR2.out)).trans HR2.out, HEV2.out.below hb3, by
   obtain ⟨oa', c', e, hat⟩ := itemsAt_of_own ho3
   cases e
   exact hat, HB2.out.trans (hb3.mono HB2.out.size)⟩)
  simp only [hsd]
  generalize w1.heap.size = br at HOK3 ⊢
  clear ho3 hb3 hsd HSO HB2 HEV2 HR2 r0 r1 r2
  obtain ⟨W4, hW4⟩ : ∃ W4, (w3.alloc (.cells #[] 3)).alloc (.cells #[] 3) = W4 := ⟨_, rfl⟩
  have hb4 : Below w3.heap.size w3 W4 := by rw [← hW4]; exact ((Below.refl _ _).alloc (Nat.le_refl _) _).alloc (by simp) _
  have h2a := World.ownsRow_made (w := w3) (base := w3.heap.size) (e := 3) (size := 1) #[] 0 (Nat.le_refl _) (by decide) rfl
  have h2b := World.ownsRow_made (w := w3.alloc (.cells #[] 3)) (base := w3.heap.size) (e := 3) (size := 1) #[] 0 (by simp) (by decide) rfl
  rw [World.size_alloc] at h2b
  have HTW := hide (show TwoR w3 W4 w3.heap.size (.slice (some ⟨w3.heap.size, 0, none⟩) 0 0) (.slice (some ⟨w3.heap.size + 1, 0, none⟩) 0 0) [] [] from ⟨by rw [← hW4]; exact own_below h2a ((Below.refl _ _).alloc (Nat.le_refl _) _), by rw [← hW4]; exact h2b, (fun k h1 h2 => by have e1 := Option.some.inj h1; have e2 := Option.some.inj h2; simp only at e1 e2; omega), hb4, hb4.size⟩)
  have HW4 := hide hW4
  clear h2a h2b hW4 hb4
  go_upto_region 7 with fail
  rw [HW4.out]
  clear HW4
  obtain ⟨I, hI⟩ : ∃ I, es.map (·.id) = I := ⟨_, rfl⟩
  have hIl : I.length = es.length := by rw [← hI]; simp
  have HIW := hide (show ∀ z ∈ I, (Lit.int .i64 z).wf = true from fun z hz => by
   rw [← hI] at hz
   obtain ⟨e, he, rfl⟩ := List.mem_map.1 hz
   exact HIDS.out e he)
  have HI := hide hI
  clear hI
  go_wp2_with fail
  go_loopw [5, 6, 7] (fun x y i wr => ∃ (j : Nat) (o1 : Option Addr) (c1 : Nat) (o2 : Option Addr) (c2 : Nat), i = .int .i64 (j : Int) ∧ j ≤ es.length ∧ x = .slice o1 j c1 ∧ y = .slice o2 j c2 ∧ TwoR w3 wr w3.heap.size x y (I.take j) (I.reverse.take j)) (fun _ _ i _ => es.length - (intOf i).toNat)
  case atStart => exact ⟨0, _, _, _, _, rfl, Nat.zero_le _, rfl, rfl, by simpa using HTW.out⟩
  case round =>
   obtain ⟨j, o1, c1, o2, c2, rfl, hj, rfl, rfl, hT⟩ := hrel
   have HT := hide hT
   have hK := HOK3.out.on hT.bl
   have k0 := blk_cell hK.rm 0 rfl
   have HK := hide hK
   have hszr := hT.up
   have htl : (I.take j).length = j := by rw [List.length_take]; omega
   have htr : (I.reverse.take j).length = j := by rw [List.length_take, List.length_reverse]; omega
   clear hT hK HTW
   by_cases hlt : j < es.length
   ·have j0 : (j : Int) < (es.length : Int) := by omega
    obtain ⟨e, bi, qi, xa, xc, ya, yc, he, hidx, hev⟩ := HOK3.out.ev.get Tryz.underlying24 infoIV j hlt
    have hlt2 : es.length - 1 - j < es.length := by omega
    obtain ⟨f, bk, qk, ua, uc, va, vc, hf, hidf, hfv⟩ := HOK3.out.ev.get Tryz.underlying24 infoIV (es.length - 1 - j) hlt2
    have ei : wr.cell? ⟨bi, qi, none⟩ = some (.int .i64 e.id) := (HT.out.bl.cell hev.lt).trans (hev.cell 0 _ rfl)
    have FI := hide (show ∀ W, Below w3.heap.size w3 W → W.cell? ⟨bk, qk, none⟩ = some (.int .i64 f.id) from fun W h => (h.cell hfv.lt).trans (hfv.cell 0 _ rfl))
    have hw1 : ((es.length - 1 - j : Nat) : Int) = (es.length : Int) - 1 - (j : Int) := by omega
    rw [hw1] at hidf
    have HI1 := hide (show I.take (j + 1) = I.take j ++ [e.id] from take_snocI (by rw [← HI.out, List.getElem?_map, he]; rfl))
    have HI2 := hide (show I.reverse.take (j + 1) = I.reverse.take j ++ [f.id] from take_snocI (by
     rw [List.getElem?_reverse (by omega), hIl, ← HI.out, List.getElem?_map, hf]; rfl))
    have hown := HT.out.a
    rw [htl] at hown
    have HIDF := hide hidf
    clear hev he hf hfv hw1 hidf
    go_upto_region 11 with (at_builtin; refine wpList_pushL (cs := #[.int .i64 e.id]) rfl _ _ 32 rfl (by decide) Tryz.underlying32 infoIz rfl rfl hown rfl rfl (by simp [Value.oneCell']) hszr (by unfold maxLen; omega) (by omega) ?_; intro v5 w5 ho5 hg5 hl5; obtain ⟨o5, c5, rfl⟩ := row_form ho5)
    have HT5 := hide (show TwoR w3 w5 w3.heap.size (.slice o5 (j + 1) c5) (.slice o2 j c2) (I.take j ++ [e.id]) (I.reverse.take j) from HT.out.pushA (by rw [htl]; exact ho5) hg5 hl5)
    have hK5 := HOK3.out.on HT5.out.bl
    have k5 := blk_cell hK5.rm 0 rfl
    have fi := FI.out w5 HT5.out.bl
    have hidf := HIDF.out
    have hsz5 := HT5.out.up
    have hown2 := HT5.out.b
    rw [htr] at hown2
    clear ho5 hg5 hl5 hown hK5 k0 ei hidx HIDF FI HK
    go_wp2_with (at_builtin; refine wpList_pushL (cs := #[.int .i64 f.id]) rfl _ _ 32 rfl (by decide) Tryz.underlying32 infoIz rfl rfl hown2 rfl rfl (by simp [Value.oneCell']) hsz5 (by unfold maxLen; omega) (by omega) ?_; intro v6 w6 ho6 hg6 hl6; obtain ⟨o6, c6, rfl⟩ := row_form ho6)
    have HT6 := hide (show TwoR w3 w6 w3.heap.size (.slice o5 (j + 1) c5) (.slice o6 (j + 1) c6) (I.take (j + 1)) (I.reverse.take (j + 1)) from by
     rw [HI1.out, HI2.out]
     exact (HT5.out.turn.pushA (by rw [htr]; exact ho6) hg6 hl6).turn)
    clear ho6 hg6 hl6 hown2
    go_roundw
    case rel => exact ⟨j + 1, o5, c5, o6, c6, by go_num, by omega, rfl, rfl, HT6.out⟩
    case measure => simp [intOf]; omega
   ·have hjn : j = es.length := by omega
    subst hjn
    have hta : I.take es.length = I := List.take_of_length_le (by omega)
    have htb : I.reverse.take es.length = I.reverse := List.take_of_length_le (by rw [List.length_reverse]; omega)
    rw [hta, htb] at HT
    have HOA := hide (show wr.ownsRow w3.heap.size 3 1 (.slice o1 es.length c1) es.length (I.map icell) from by
     have h := HT.out.a
     rw [hIl] at h
     exact h)
    have HTA := hide hta
    have HIA := hide (show IntsAt wr o1 es.length c1 I from by
     have h := own_pre HOA.out (Nat.le_refl _) HIW.out
     rwa [hta] at h)
    have HOR := hide (fun W (hb : Below wr.heap.size wr W) => implOrder_any oa es.length ca es ob s.length cb s o1 es.length c1 I (by omega) HIDS.out HPRV.out (by omega) HSW.out (by omega) HSN.out W (HK.out.ev.below hb) (HK.out.it.below hb) (HIA.out.below hb))
    clear hta htb htl htr
    go_upto_region 13 with (go_at_call 24; (with_reducible refine (HOR.out _ (Below.refl _ _)).mono ?_); rintro r w7 ⟨v7, rfl, ho7, hb7⟩; obtain ⟨o7, c7, rfl⟩ := row_form ho7)
    obtain ⟨O, hO⟩ : ∃ O, order es s I = O := ⟨_, rfl⟩
    have hOR := order_room (s := s) HND.out HUP.out
    rw [HI.out, hO] at hOR
    obtain ⟨hOl, hOp⟩ := hOR
    have HTO := hide (show O.take es.length = O from List.take_of_length_le (by omega))
    have HOP := hide hOp
    have HOW := hide (show ∀ z ∈ O, (Lit.int .i64 z).wf = true from fun z hz => by
     rw [← hO] at hz
     exact HIW.out z (order_sub hz).1)
    have HOM := hide (show ∀ z ∈ O, z ∈ I from fun z hz => by rw [← hO] at hz; exact (order_sub hz).1)
    have HOE := hide hO
    have hK7 := HK.out.on hb7
    have HK7 := hide hK7
    have HB7 := hide hb7
    rw [hO, hOl] at ho7
    have HO7 := hide (show w7.ownsRow wr.heap.size 3 1 (.slice o7 es.length c7) es.length (O.map icell) from ho7)
    have HOL := hide hOl
    have hlb : I.reverse.length = es.length := by rw [List.length_reverse]; omega
    have hrow := own_below HT.out.b hb7
    rw [hlb] at hrow
    have hszr7 : w3.heap.size ≤ w7.heap.size := Nat.le_trans hszr hb7.size
    have HB37 := hide (show Below w3.heap.size w3 w7 from HT.out.bl.trans (hb7.mono hszr))
    simp only [hO, hOl]
    have hil2 := hIl
    clear hO hK7 hb7 ho7 hOp hOl HOR hIl
    have hord : ∀ w' o5 c5, w7.grownBy w' (Value.slice o2 I.reverse.length c2).ownBlock → w'.ownsRow w3.heap.size 3 1 (.slice o5 (I.reverse ++ I.reverse).length c5) (I.reverse ++ I.reverse).length ((I.reverse ++ I.reverse).map icell) → Calls Tryz.prog 24 #[.slice oa es.length ca, .slice ob s.length cb, .slice o5 (I.reverse ++ I.reverse).length c5] w' (IntPost w' O) := fun w' o5 c5 hg hr => by
     have hb : Below w3.heap.size w3 w' := HB37.out.grown hg hszr7 (fun k hk => by
      have h := own_below HT.out.b HB7.out
      exact (h.lt k (by first | (rw [← hk, hlb]; done) | (rw [← hk, hlb]; rfl))).1)
     have hwr2 : ∀ z ∈ I.reverse ++ I.reverse, (Lit.int .i64 z).wf = true := fun z hz => HIW.out z (by rcases List.mem_append.1 hz with q | q <;> exact List.mem_reverse.1 q)
     obtain ⟨_, _, heo, hi5⟩ := ints_own hr hwr2
     cases heo
     have hc := implOrder_any oa es.length ca es ob s.length cb s o5 (I.reverse ++ I.reverse).length c5 (I.reverse ++ I.reverse) (by omega) HIDS.out HPRV.out (by omega) HSW.out (by rw [List.length_append]; omega) HSN.out w' (HOK3.out.ev.below hb) (HOK3.out.it.below hb) hi5
     rw [order_set (ids := I.reverse ++ I.reverse) (ids' := I) (fun z => by simp), HOE.out] at hc
     exact hc
    refine twice_region (n := 0) (R := br) (B := w3.heap.size) (m := s.length) (cs := cb) (ca := ca) (cb := c2) (oa := oa) (os := ob) (ob := o2) (es := es) (zs := I.reverse) (O := O) (by kernel_rfl) (by kernel_rfl) (by kernel_rfl) (by kernel_rfl) (by kernel_rfl) (by kernel_rfl) (by kernel_rfl) (by kernel_rfl) (by kernel_rfl) (by simp) rfl rfl (by rw [hlb]; rfl) (by omega) hszr7 (by rw [hlb]; exact hrow) (fun w' hg => ?_) hord ?_
    ·have hb : Below w3.heap.size w3 w' := HB37.out.grown hg hszr7 (fun k hk => by
      have h := own_below HT.out.b HB7.out
      exact (h.lt k (by first | (rw [← hk, hlb]; done) | (rw [← hk, hlb]; rfl))).1)
     exact blk_cell (HOK3.out.on hb).rm 0 rfl
    ·intro V w9 w8 v9 hall g7 hg8 hb9 ho9
     have hb8 : Below w3.heap.size w3 w8 := HB37.out.grown hg8 hszr7 (fun k hk => by
      have h := own_below HT.out.b HB7.out
      exact (h.lt k (by first | (rw [← hk, hlb]; done) | (rw [← hk, hlb]; rfl))).1)
     have hs8' := hg8.size
     have hO8 : w9.ownsRow w3.heap.size 3 1 (.slice o7 es.length c7) es.length (O.map icell) := own_base (own_below (HO7.out.kept hg8 (by
      cases hv : (Value.slice o7 es.length c7).ownBlock with
      | none => exact .inl rfl
      | some g => exact .inr (fun e => by
        have h1 := (HO7.out.lt g hv).1
        have h2 := (HT.out.b.lt g (by first | (rw [e, hlb]; done) | (rw [e, hlb]; rfl))).2
        omega))) hb9) hszr
     have hI8 : w9.ownsRow w3.heap.size 3 1 (.slice o1 es.length c1) es.length (I.map icell) := own_below ((own_below HOA.out HB7.out).kept hg8 (by
      cases hv : (Value.slice o1 es.length c1).ownBlock with
      | none => exact .inl rfl
      | some g => exact .inr (fun e => HT.out.ap g hv (by first | (rw [e, hlb]; done) | (rw [e, hlb]; rfl))))) hb9
     have hK9 := HOK3.out.on (hb8.trans (hb9.mono (Nat.le_trans hszr7 hs8')))
     rw [HOL.out] at ho9
     obtain ⟨o9, c9, rfl⟩ := row_form ho9
     have hsz89 := hb9.size
     have hi9 : IntsAt w9 o9 es.length c9 O := by
      have h := own_pre ho9 (Nat.le_refl _) HOW.out
      rwa [HTO.out] at h
     have hi7 : IntsAt w9 o7 es.length c7 O := by
      have h := own_pre hO8 (Nat.le_refl _) HOW.out
      rwa [HTO.out] at h
     have hi1 : IntsAt w9 o1 es.length c1 I := by
      have h := own_pre hI8 (Nat.le_refl _) HIW.out
      rwa [HTA.out] at h
     have HK9 := hide hK9
     have HI7 := hide hi7
     have HROW7 := hide hO8
     have HSA := hide (fun W (h : Below w9.heap.size w9 W) => sameInts_yes o7 es.length c7 o9 c9 O (by omega) W (hi7.below h) (hi9.below h))
     have HSP := hide (fun W (h : Below w9.heap.size w9 W) => specOrder_any oa es.length ca es ob s.length cb s o1 es.length c1 I (by omega) (by omega) W ⟨hK9.ev.below h, hK9.it.below h⟩ (hi1.below h))
     rw [HOE.out] at HSP
     have HB9 := hide hK9.bl
     have k9 := blk_cell hK9.rm 0 rfl
     have hlr9 := blk_lt hK9.rm
     clear hg8 hb9 ho9 hb8 hs8' hO8 hI8 hK9 hi9 hi7 hi1 hord hrow hsz89
     obtain ⟨v0, g0'⟩ := hall 0 (by omega)
     obtain ⟨v1, g1'⟩ := hall 1 (by omega)
     obtain ⟨v2, g2'⟩ := hall 2 (by omega)
     obtain ⟨v3, g3'⟩ := hall 3 (by omega)
     obtain ⟨v4, g4'⟩ := hall 4 (by omega)
     obtain ⟨v5, g5'⟩ := hall 5 (by omega)
     obtain ⟨v6, g6'⟩ := hall 6 (by omega)
     simp only [actG, List.size_toArray, List.length_cons, List.length_nil, List.getElem?_toArray, List.getElem?_cons_zero, List.getElem?_cons_succ, g0', g1', g2', g3', g4', g5', g6', g7, Act.put, List.setIfInBounds_toArray, List.set_cons_zero, List.set_cons_succ]
     clear g0' g1' g2' g3' g4' g5' g6' hall
     go_wp2_with (first
      | (go_at_call 18; (with_reducible refine (HSA.out _ (Below.refl _ _)).mono ?_); rintro r w10 ⟨rfl, hb10⟩; have k10 := (hb10.cell hlr9).trans k9; have hs10 := hb10.size)
      | (go_at_call 25; (with_reducible refine (HSP.out _ hb10).mono ?_); rintro r w11 ⟨⟨v11, rfl, ho11, hb11⟩, hw11⟩; rw [HOL.out] at ho11; obtain ⟨o11, c11, rfl⟩ := row_form ho11; have hi11 : IntsAt w11 o11 es.length c11 O := (by have h := own_pre ho11 (Nat.le_refl _) HOW.out; rwa [HTO.out] at h); have hb911 : Below w9.heap.size w9 w11 := hb10.trans (hb11.mono hs10))
      | (go_at_call 18; (with_reducible refine (sameInts_yes o7 es.length c7 o11 c11 O (by omega) w11 (HI7.out.below hb911) hi11).mono ?_); rintro r w12 ⟨rfl, hb12⟩))
     have hb912 : Below w9.heap.size w9 w12 := hb911.trans (hb12.mono hb911.size)
     have HK12 := hide (HK9.out.on hb912)
     have HR12 := hide (own_below HROW7.out hb912)
     clear hb10 hs10 k10 ho11 hb11 hw11 hi11 hb911 hb12 hb912 HSA HSP k9 hlr9 HK9 HI7 HROW7 HB9
     go_loopw [10] (fun x wr => ∃ (j : Nat), x = .int .i64 (j : Int) ∧ j ≤ es.length ∧ Below w12.heap.size w12 wr) (fun x _ => es.length - (intOf x).toNat)
     case atStart => exact ⟨0, rfl, Nat.zero_le _, Below.refl _ _⟩
     case round =>
      obtain ⟨j, rfl, hj, hbel⟩ := hrel
      have HBEL := hide hbel
      have hsz := hbel.size
      have HKR := hide (HK12.out.on hbel)
      have HRR := hide (own_below HR12.out hbel)
      clear hbel
      by_cases hlt : j < es.length
      ·have j0 : (j : Int) < (es.length : Int) := by omega
       obtain ⟨t, ht⟩ : ∃ t, O[j]? = some t := ⟨_, List.getElem?_eq_getElem (by rw [HOL.out]; exact hlt)⟩
       obtain ⟨e, he⟩ : ∃ e ∈ es, e.id = t := by
        have := HOM.out t (List.mem_of_getElem? ht)
        rw [← HI.out] at this
        obtain ⟨e, h1, h2⟩ := List.mem_map.1 this
        exact ⟨e, h1, h2⟩
       obtain ⟨hee, het⟩ := he
       obtain ⟨ie, hie⟩ := List.getElem?_of_mem hee
       have hfd := evFind_nodup HND.out hie
       have hkn : evKn es e.id = (e, true) := evKn_some hfd
       have hpv : ∀ p ∈ e.prev, p ∈ O.take j := fun p hp => by
        have := HOP.out j t ht p
        unfold evOf at this
        rw [← het, hfd] at this
        exact this hp
       have HPV := hide hpv
       have hp3 := HPRV.out e hee
       have hio : IntsAt wr o7 es.length c7 O := by
        have h := own_pre HRR.out (Nat.le_refl _) HOW.out
        rwa [HTO.out] at h
       obtain ⟨t', bt, qt, ht', hidx, hbt, c0, hwt⟩ := hio.get Tryz.underlying32 infoI j hlt
       have htt : t' = e.id := by rw [ht] at ht'; rw [het]; exact (Option.some.inj ht').symm
       rw [htt] at c0
       have HPW := hide (show ∀ z ∈ e.prev, (Lit.int .i64 z).wf = true from fun z hz => HOW.out z (List.mem_of_mem_take (hpv z hz)))
       clear hee het hie hfd hpv ht ht' htt hio
       go_upto_region 19 with fail
       refine ask_region (R := br) (j := j) (b := bt) (q := qt) (n := es.length) (oa := oa) (ca := ca) (ob := o7) (cb := c7) (es := es) (e := e) (by kernel_rfl) (by kernel_rfl) (by kernel_rfl) (by kernel_rfl) (by kernel_rfl) (by kernel_rfl) (by kernel_rfl) (by kernel_rfl) (by kernel_rfl) (by simp) rfl rfl rfl HFI.out hkn hidx (fun w' hb => blk_cell (HKR.out.on hb).rm 0 rfl) (fun w' hb => (hb.cell hbt).trans c0) (fun w' hb => HKR.out.ev.below hb) ?_
       intro V w13 be ol cl oq cq hall g12 g10 hE hoq hb13
       have HE := hide hE
       have HB13 := hide hb13
       obtain ⟨_, _, heo, hpq⟩ := ints_own hoq HPW.out
       cases heo
       have HPQ := hide hpq
       have HR13 := hide (own_below HRR.out hb13)
       clear hE hb13 hpq hoq hidx c0
       obtain ⟨v0, g0'⟩ := hall 0 (by omega)
       obtain ⟨v1, g1'⟩ := hall 1 (by omega)
       obtain ⟨v2, g2'⟩ := hall 2 (by omega)
       obtain ⟨v3, g3'⟩ := hall 3 (by omega)
       obtain ⟨v4, g4'⟩ := hall 4 (by omega)
       obtain ⟨v5, g5'⟩ := hall 5 (by omega)
       obtain ⟨v6, g6'⟩ := hall 6 (by omega)
       obtain ⟨v7, g7'⟩ := hall 7 (by omega)
       obtain ⟨v8, g8'⟩ := hall 8 (by omega)
       obtain ⟨v9, g9'⟩ := hall 9 (by omega)
       obtain ⟨v11, g11'⟩ := hall 11 (by omega)
       simp only [actG, List.size_toArray, List.length_cons, List.length_nil, List.getElem?_toArray, List.getElem?_cons_zero, List.getElem?_cons_succ, g0', g1', g2', g3', g4', g5', g6', g7', g8', g9', g10, g11', g12, Act.put, List.setIfInBounds_toArray, List.set_cons_zero, List.set_cons_succ]
       clear g0' g1' g2' g3' g4' g5' g6' g7' g8' g9' g11' hall
       go_wp2_with fail
       go_loopw [13] (fun x wr' => ∃ (k : Nat), x = .int .i64 (k : Int) ∧ k ≤ e.prev.length ∧ Below w13.heap.size w13 wr') (fun x _ => e.prev.length - (intOf x).toNat)
       case atStart => exact ⟨0, rfl, Nat.zero_le _, Below.refl _ _⟩
       case round =>
        obtain ⟨k, rfl, hk, hbel2⟩ := hrel
        have HBE2 := hide hbel2
        have hE2 := HE.out.on hbel2 HE.out.lt
        have p7 := hE2.ev.c7
        have hel := hE2.lt
        have hsz2 := hbel2.size
        have hq2 := HPQ.out.below hbel2
        have hr2 := own_below HR13.out hbel2
        clear hbel2 hE2
        by_cases hkl : k < e.prev.length
        ·have kk0 : (k : Int) < (e.prev.length : Int) := by omega
         obtain ⟨p, bp, qp, hp, hidp, hbp, d0, hwp⟩ := hq2.get Tryz.underlying32 infoI k hkl
         have hin : inL (O.take j) p = true := inL_iff.2 (HPV.out p (List.mem_of_getElem? hp))
         have hpre := own_pre hr2 hj HOW.out
         have hslr : ∀ wx, (Instr.slice 32 (.slice o7 es.length c7) none (some (.int .i64 (j : Int))) none).run Tryz.prog wx = .ok (.slice o7 j c7) wx := fun wx => by
          have hjc : j ≤ c7 := Nat.le_trans hj (own_pre hr2 (Nat.le_refl _) HOW.out).room
          have hjc2 : (j : Int) ≤ (c7 : Int) := by omega
          simp [Instr.slice, run_underlying Tryz.underlying32, Instr.sliceBounds, go_sem, hjc, hjc2]
         have HIN := hide (fun W (h : Below wr.heap.size wr W) => lawIn_any o7 j c7 (O.take j) p W (hpre.below h))
         rw [hin] at HIN
         clear hp hin hpre hq2 hr2
         go_wp2_with fail
         refine wp_region_in (F := fun w' => Below wr.heap.size wr w') (by kernel_rfl) (by kernel_rfl) (Below.refl _ _).drew ?_
         have hne : Nonempty (InW (fun w' => Below wr.heap.size wr w')) := ⟨⟨_, Below.refl _ _⟩⟩
         have m7 : ∀ m : InW (fun w' => Below wr.heap.size wr w'), m.w.cell? ⟨be, 7, none⟩ = some (.slice oq e.prev.length cq) := fun m => (m.h.cell hel).trans p7
         have m0 : ∀ m : InW (fun w' => Below wr.heap.size wr w'), m.w.cell? ⟨bp, qp, none⟩ = some (.int .i64 p) := fun m => (m.h.cell hbp).trans d0
         repeat (go_big_quiet_step (first | (go_at_call 21; (with_reducible refine (HIN.out _ (InW.h (F := fun w' => Below wr.heap.size wr w') _)).mono ?_); rintro e' w4 ⟨rfl, rfl⟩; exact ⟨rfl, ⟨_, InW.h _⟩, rfl⟩)))
         refine wpQuiet_nil ?_
         intro _ hw'
         obtain ⟨nq, hw''⟩ := hw'
         subst hw''
         have hnq := nq.h
         generalize nq.w = w5 at hnq ⊢
         clear hne m7 m0 p7 d0 hidp hslr
         have HB5 := hide (HBE2.out.trans (hnq.mono hsz2))
         clear hnq
         go_wp2_with fail
         go_roundw
         case rel => exact ⟨k + 1, by go_num, by omega, HB5.out⟩
         case measure => simp [intOf]; omega
        ·have kk0 : ¬ ((k : Int) < (e.prev.length : Int)) := by omega
         have HB5 := hide (HBEL.out.trans ((HB13.out.trans (HBE2.out.mono HB13.out.size)).mono hsz))
         clear hq2 hr2
         go_wp2_with fail
         go_roundw
         case rel => exact ⟨j + 1, by go_num, by omega, HB5.out⟩
         case measure => simp [intOf]; omega
      ·go_wp2_with fail
       go_ret
       exact ⟨rfl, HKR.out.bl⟩

end Go.Proofs.YtnkjjbpmdghcbaaGreat
