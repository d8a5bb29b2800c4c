/-
  The law FnExactKnown: its walk (made by wip/tools/gen10k.py).
-/
import Derived.Test.YtijnejbfjpclhaaWalk10h
import Derived.Test.YtijnejbfjpclhaaEvs3
import Derived.Test.YtijnejbfjpclhaaEvK
namespace Go.Proofs.Ytijnejbfjpclhaa
open Go.RowKit P1 P3 P5 P9 P11 P12 P14 K
set_option linter.unusedVariables false
set_option linter.unusedSimpArgs false

theorem evKn_fits {w : World} {oa : Option Addr} {n cap : Nat} {es : List EvV} (h : EvsAt w oa n cap es) (id : Int) : (∀ z ∈ (evKn es id).1.levels, (Lit.int .i64 z).wf = true) ∧ ∀ z ∈ (evKn es id).1.prev, (Lit.int .i64 z).wf = true := by
  cases hf : evFind es id with
  | none => rw [evKn_none hf]; simp [noEv]
  | some e =>
    rw [evKn_some hf]
    obtain ⟨i, hi⟩ := List.getElem?_of_mem (evFind_mem hf).1
    obtain ⟨b, o, xa, xc, ya, yc, _, hev⟩ := h.at_ i e hi
    exact ⟨hev.lev.fits, hev.prv.fits⟩

theorem KE.within {w w' : World} {b base top lo hi : Nat} {id kd sn us mb dp : Int} {vl vp : Value} {tx : List UInt8} {n m : Nat} {zl zp : List Int} (h : KE w b base top id kd sn us mb dp vl vp tx n m zl zp) (hw : Within lo hi w w') (ho : top ≤ lo ∨ hi ≤ base ∧ hi ≤ b) : KE w' b base top id kd sn us mb dp vl vp tx n m zl zp := by
  refine ⟨hw.blk h.blk (by have := h.le; omega), ⟨hw.own h.own.l (fun q hq => ?_), hw.own h.own.p (fun q hq => ?_), h.own.ne⟩, h.le, h.lr, h.pr⟩
  · have := h.lr q hq
    have := (h.own.l.lt q hq).1
    omega
  · have := h.pr q hq
    have := (h.own.p.lt q hq).1
    omega

theorem below_low {B B2 : Nat} {a b c : World} (h : Below B a b) (k : Below B2 b c) (hB : B ≤ B2) : Below B a c := h.trans (k.mono hB)

set_option maxHeartbeats 16000000 in
theorem FnExactKnown_walk (oa : Option Addr) (n cap : Nat) (es : List EvV) (id : Int) (w : World) (hat : EvsAt w oa n cap es) (hid : (Lit.int .i64 id).wf = true) :
    Calls Try.prog 6 #[.slice oa n cap, .int .i64 id] w fun e w' => e = .returned (.bool true) ∧ Below w.heap.size w w' := by
  have HAT := hide hat
  clear hat hid
  go_enter Try.func6, Try.ntmps6
  go_wp2_with fail
  refine (szEventS_any oa n cap es 1048576 (by omega) (by omega) w HAT.out).mono ?_
  rintro r w1 ⟨z, rfl, hz1, hz2, hb1⟩
  by_cases c : z < 0
  · go_wp2_with fail
    go_ret
    exact ⟨rfl, hb1⟩
  · have hfine : FineE es := fineE_of_sz (z := z) (by omega) (by have := hz2 (by omega); omega)
    have hn20 : n ≤ 1048576 := by have := hfine.len; have := HAT.out.len; omega
    have HTO := hide (fun w hat => toEventS_any oa n cap es hfine w hat)
    have HSP := hide (fun g w hat => specKnown_any (some ⟨g, 0, none⟩) n n es id hfine w hat)
    have HIM := hide (fun g w hat => implKnown_any (some ⟨g, 0, none⟩) n n es id hfine w hat)
    have HEQ := hide (fun g g2 w hat hbt => eqEventS_same (some ⟨g, 0, none⟩) n n es (some ⟨g2, 0, none⟩) n hfine w hat hbt)
    have HMK := hide (fun g lo hi w hsh => markEventS_any g n lo hi es HAT.out.len hfine w hsh)
    obtain ⟨l1, l2, l3⟩ := evKn_fine hfine id
    have hfit := evKn_fits HAT.out id
    generalize (evKn es id).1 = e at HSP HIM l1 l2 l3 hfit
    generalize (evKn es id).2 = ok at HSP HIM
    have q0 : (ok == ok) = true := by simp
    obtain ⟨n1, hn1⟩ : ∃ n1, e.levels.length = n1 := ⟨_, rfl⟩
    obtain ⟨m1, hm1⟩ : ∃ m1, e.prev.length = m1 := ⟨_, rfl⟩
    unfold KnPost at HSP HIM
    rw [hn1, hm1] at HSP HIM
    rw [hn1] at l1
    rw [hm1] at l3
    have HFL := hide hfit.1
    have HFP := hide hfit.2
    have HB1 := hide hb1
    clear hb1 hfine hfit hz1 hz2 hn1 hm1
    go_wp2_with fail
    refine (HTO.out _ (HAT.out.below HB1.out)).mono ?_
    rintro r w2 ⟨g2, rfl, hatw2, hshw2, hbw2⟩
    clear hshw2
    have XA2 := hide hatw2
    clear hatw2
    have BBx11 := hide (HB1.out.trans (hbw2.mono HB1.out.size))
    clear hbw2 HB1
    go_wp2_with fail
    refine (HSP.out _ _ XA2.out).mono ?_
    rintro r w3 ⟨v3l, v3p, rfl, ho3, hb3⟩
    obtain ⟨o3l, c3l, rfl⟩ := row_form ho3.l
    obtain ⟨o3p, c3p, rfl⟩ := row_form ho3.p
    have HK0 := hide (KE.new (id := e.id) (kd := e.kind) (sn := e.sender) (us := e.user) (mb := e.member) (dp := e.depth) (tx := e.text) ho3)
    have hb34 := hb3.trans (((Below.refl w3.heap.size w3).alloc (Nat.le_refl _) (.cells #[.int .i64 e.id, .int .i64 e.kind, .int .i64 e.sender, .int .i64 e.user, .int .i64 e.member, .slice o3l n1 c3l, .string ⟨e.text.toArray⟩, .slice o3p m1 c3p, .int .i64 e.depth] 37)).mono hb3.size)
    have hz3 := hb3.size
    clear ho3 hb3 XA2
    have BBx12 := hide (BBx11.out.trans (hb34.mono BBx11.out.size))
    clear hb34 BBx11
    have HS0 := hide (show w3.heap.size + 1 = (w3.alloc (.cells #[.int .i64 e.id, .int .i64 e.kind, .int .i64 e.sender, .int .i64 e.user, .int .i64 e.member, .slice o3l n1 c3l, .string ⟨e.text.toArray⟩, .slice o3p m1 c3p, .int .i64 e.depth] 37)).heap.size by simp)
    go_wp2_with fail
    generalize w3.alloc (.cells #[.int .i64 e.id, .int .i64 e.kind, .int .i64 e.sender, .int .i64 e.user, .int .i64 e.member, .slice o3l n1 c3l, .string ⟨e.text.toArray⟩, .slice o3p m1 c3p, .int .i64 e.depth] 37) = w4 at BBx12 HK0 HS0 ⊢
    refine (HTO.out _ (HAT.out.below BBx12.out)).mono ?_
    rintro r w5 ⟨g5, rfl, hatw5, hshw5, hbw5⟩
    have hs0 := HS0.out
    have hz5 := hbw5.size
    have hw4 := BBx12.out.size
    have BBx13 := hide (BBx12.out.trans (hbw5.mono BBx12.out.size))
    have K0x14 := hide (HK0.out.on hbw5)
    clear hbw5 BBx12 HK0
    have XA5 := hide hatw5
    have SH5 := hide hshw5
    clear hatw5 hshw5
    go_wp2_with fail
    refine (HIM.out _ _ XA5.out).mono ?_
    rintro r w6 ⟨v6l, v6p, rfl, ho6, hb6⟩
    obtain ⟨o6l, c6l, rfl⟩ := row_form ho6.l
    obtain ⟨o6p, c6p, rfl⟩ := row_form ho6.p
    have HK1 := hide (KE.new (id := e.id) (kd := e.kind) (sn := e.sender) (us := e.user) (mb := e.member) (dp := e.depth) (tx := e.text) ho6)
    have hb67 := hb6.trans (((Below.refl w6.heap.size w6).alloc (Nat.le_refl _) (.cells #[.int .i64 e.id, .int .i64 e.kind, .int .i64 e.sender, .int .i64 e.user, .int .i64 e.member, .slice o6l n1 c6l, .string ⟨e.text.toArray⟩, .slice o6p m1 c6p, .int .i64 e.depth] 37)).mono hb6.size)
    have hz6 := hb6.size
    clear ho6 hb6
    have BBx15 := hide (BBx13.out.trans (hb67.mono BBx13.out.size))
    have K0x16 := hide (K0x14.out.on hb67)
    have XAx17 := hide (XA5.out.below hb67)
    have SHx18 := hide (SH5.out.on hb67)
    clear hb67 BBx13 K0x14 XA5 SH5
    obtain ⟨a0, a1, a2, a3, a4, a5, a6, a7, a8⟩ := HK1.out.blk.ev
    obtain ⟨b0, b1, b2, b3, b4, b5, b6, b7, b8⟩ := K0x16.out.blk.ev
    go_wp2_with fail
    clear a0 a1 a2 a3 a4 a5 a6 a7 a8 b0 b1 b2 b3 b4 b5 b6 b7 b8
    generalize w6.alloc (.cells #[.int .i64 e.id, .int .i64 e.kind, .int .i64 e.sender, .int .i64 e.user, .int .i64 e.member, .slice o6l n1 c6l, .string ⟨e.text.toArray⟩, .slice o6p m1 c6p, .int .i64 e.depth] 37) = w7 at BBx15 K0x16 XAx17 SHx18 HK1 ⊢
    obtain ⟨_, _, qA, hatA⟩ := intsAt_of_own HK1.out.own.l HFL.out
    cases qA
    obtain ⟨_, _, pA, hbtA⟩ := intsAt_of_own HK1.out.own.p HFP.out
    cases pA
    obtain ⟨_, _, qB, hatB⟩ := intsAt_of_own K0x16.out.own.l HFL.out
    cases qB
    obtain ⟨_, _, pB, hbtB⟩ := intsAt_of_own K0x16.out.own.p HFP.out
    cases pB
    refine (eqEvent_same e.id e.kind e.sender e.user e.member e.depth _ n1 _ e.text _ m1 _ e.levels e.prev _ _ _ _ l1 l3 _ hatA hatB hbtA hbtB).mono ?_
    rintro r w8 ⟨rfl, hbq⟩
    clear hatA hbtA hatB hbtB
    have BBx19 := hide (BBx15.out.trans (hbq.mono BBx15.out.size))
    have K0x20 := hide (K0x16.out.on hbq)
    have XAx21 := hide (XAx17.out.below hbq)
    have SHx22 := hide (SHx18.out.on hbq)
    have K1x23 := hide (HK1.out.on hbq)
    clear hbq BBx15 K0x16 XAx17 SHx18 HK1
    go_wp2_with fail
    refine (HTO.out _ (HAT.out.below BBx19.out)).mono ?_
    rintro r w9 ⟨g9, rfl, hatw9, hshw9, hbw9⟩
    have BBx24 := hide (BBx19.out.trans (hbw9.mono BBx19.out.size))
    have K0x25 := hide (K0x20.out.on hbw9)
    have XAx26 := hide (XAx21.out.below hbw9)
    have SHx27 := hide (SHx22.out.on hbw9)
    have K1x28 := hide (K1x23.out.on hbw9)
    clear hbw9 BBx19 K0x20 XAx21 SHx22 K1x23
    clear hshw9
    have XB9 := hide hatw9
    clear hatw9
    go_wp2_with fail
    refine (HEQ.out _ _ _ XAx26.out XB9.out).mono ?_
    rintro r w10 ⟨rfl, hbq⟩
    clear XB9
    have BBx29 := hide (BBx24.out.trans (hbq.mono BBx24.out.size))
    have K0x30 := hide (K0x25.out.on hbq)
    have XAx31 := hide (XAx26.out.below hbq)
    have SHx32 := hide (SHx27.out.on hbq)
    have K1x33 := hide (K1x28.out.on hbq)
    clear hbq BBx24 K0x25 XAx26 SHx27 K1x28
    go_wp2_with fail
    refine (HMK.out _ _ _ _ SHx32.out).mono ?_
    rintro r w11 ⟨k11, rfl, hwi⟩
    have hbbs := BBx29.out.size
    have K0m := hide (K0x30.out.within hwi (.inl (by omega)))
    have K1m := hide (K1x33.out.within hwi (.inr ⟨Nat.le_refl _, hz6⟩))
    have BBm := hide (hwi.under BBx29.out (by omega) hbbs)
    clear hwi BBx29 K0x30 XAx31 SHx32 K1x33 hbbs
    have gk : ¬ (k11 : Int) < 0 := by omega
    obtain ⟨a0, a1, a2, a3, a4, a5, a6, a7, a8⟩ := K1m.out.blk.ev
    obtain ⟨b0, b1, b2, b3, b4, b5, b6, b7, b8⟩ := K0m.out.blk.ev
    go_wp2_with fail
    clear a0 a1 a2 a3 a4 a5 a6 a7 a8 b0 b1 b2 b3 b4 b5 b6 b7 b8
    obtain ⟨_, _, qA, hatA⟩ := intsAt_of_own K1m.out.own.l HFL.out
    cases qA
    obtain ⟨_, _, pA, hbtA⟩ := intsAt_of_own K1m.out.own.p HFP.out
    cases pA
    obtain ⟨_, _, qB, hatB⟩ := intsAt_of_own K0m.out.own.l HFL.out
    cases qB
    obtain ⟨_, _, pB, hbtB⟩ := intsAt_of_own K0m.out.own.p HFP.out
    cases pB
    refine (eqEvent_same e.id e.kind e.sender e.user e.member e.depth _ n1 _ e.text _ m1 _ e.levels e.prev _ _ _ _ l1 l3 _ hatA hatB hbtA hbtB).mono ?_
    rintro r w12 ⟨rfl, hbq⟩
    clear hatA hbtA hatB hbtB
    have K0x34 := hide (K0m.out.on hbq)
    have K1x35 := hide (K1m.out.on hbq)
    have BBx36 := hide (BBm.out.trans (hbq.mono BBm.out.size))
    clear hbq K0m K1m BBm
    clear gk
    obtain ⟨a0, a1, a2, a3, a4, a5, a6, a7, a8⟩ := K1x35.out.blk.ev
    go_wp2_with fail
    clear a0 a1 a2 a3 a4 a5 a6 a7 a8
    refine (markEvent_keep e.id e.kind e.sender e.user e.member e.depth e.text _ _ n1 m1 w5.heap.size 1 e.levels e.prev l1 l3 (by omega) w12 (by have := K1x35.out.blk.lt; omega) K1x35.out.own).mono ?_
    rintro r w13 ⟨rfl, hm13, hb13, hx13⟩
    have K1k := hide (K1x35.out.marked hm13 hx13)
    have K0k := hide (K0x34.out.low hb13 (by omega))
    have BBk := hide (below_low BBx36.out hb13 (by omega))
    clear hm13 hb13 hx13 K0x34 K1x35 BBx36
    have gm : ¬ ((1 + n1 + m1 : Nat) : Int) < 0 := by omega
    obtain ⟨a0, a1, a2, a3, a4, a5, a6, a7, a8⟩ := K1k.out.blk.ev
    go_wp2_with fail
    clear a0 a1 a2 a3 a4 a5 a6 a7 a8
    refine (heldEvent_any e.id e.kind e.sender e.user e.member e.depth e.text _ _ n1 m1 w5.heap.size 1 l1 l3 (by omega) _ K1k.out.own).mono ?_
    rintro r w14 ⟨rfl, hbq⟩
    have K0x37 := hide (K0k.out.on hbq)
    have K1x38 := hide (K1k.out.on hbq)
    have BBx39 := hide (BBk.out.trans (hbq.mono BBk.out.size))
    clear hbq K0k K1k BBk
    go_wp2_with fail
    refine (HTO.out _ (HAT.out.below BBx39.out)).mono ?_
    rintro r w15 ⟨g15, rfl, hatw15, hshw15, hbw15⟩
    have K0x40 := hide (K0x37.out.on hbw15)
    have K1x41 := hide (K1x38.out.on hbw15)
    have BBx42 := hide (BBx39.out.trans (hbw15.mono BBx39.out.size))
    clear hbw15 K0x37 K1x38 BBx39
    clear hshw15
    have XB15 := hide hatw15
    clear hatw15
    go_wp2_with fail
    refine (HIM.out _ _ XB15.out).mono ?_
    rintro r w16 ⟨v16l, v16p, rfl, ho16, hb16⟩
    clear XB15
    obtain ⟨o16l, c16l, rfl⟩ := row_form ho16.l
    obtain ⟨o16p, c16p, rfl⟩ := row_form ho16.p
    have HK2 := hide (KE.new (id := e.id) (kd := e.kind) (sn := e.sender) (us := e.user) (mb := e.member) (dp := e.depth) (tx := e.text) ho16)
    have hb167 := hb16.trans (((Below.refl w16.heap.size w16).alloc (Nat.le_refl _) (.cells #[.int .i64 e.id, .int .i64 e.kind, .int .i64 e.sender, .int .i64 e.user, .int .i64 e.member, .slice o16l n1 c16l, .string ⟨e.text.toArray⟩, .slice o16p m1 c16p, .int .i64 e.depth] 37)).mono hb16.size)
    clear ho16 hb16
    have K0x43 := hide (K0x40.out.on hb167)
    have K1x44 := hide (K1x41.out.on hb167)
    have BBx45 := hide (BBx42.out.trans (hb167.mono BBx42.out.size))
    clear hb167 K0x40 K1x41 BBx42
    obtain ⟨a0, a1, a2, a3, a4, a5, a6, a7, a8⟩ := HK2.out.blk.ev
    obtain ⟨b0, b1, b2, b3, b4, b5, b6, b7, b8⟩ := K0x43.out.blk.ev
    go_wp2_with fail
    clear a0 a1 a2 a3 a4 a5 a6 a7 a8 b0 b1 b2 b3 b4 b5 b6 b7 b8
    generalize w16.alloc (.cells #[.int .i64 e.id, .int .i64 e.kind, .int .i64 e.sender, .int .i64 e.user, .int .i64 e.member, .slice o16l n1 c16l, .string ⟨e.text.toArray⟩, .slice o16p m1 c16p, .int .i64 e.depth] 37) = w17 at K0x43 K1x44 BBx45 HK2 ⊢
    obtain ⟨_, _, qA, hatA⟩ := intsAt_of_own HK2.out.own.l HFL.out
    cases qA
    obtain ⟨_, _, pA, hbtA⟩ := intsAt_of_own HK2.out.own.p HFP.out
    cases pA
    obtain ⟨_, _, qB, hatB⟩ := intsAt_of_own K0x43.out.own.l HFL.out
    cases qB
    obtain ⟨_, _, pB, hbtB⟩ := intsAt_of_own K0x43.out.own.p HFP.out
    cases pB
    refine (eqEvent_same e.id e.kind e.sender e.user e.member e.depth _ n1 _ e.text _ m1 _ e.levels e.prev _ _ _ _ l1 l3 _ hatA hatB hbtA hbtB).mono ?_
    rintro r w18 ⟨rfl, hbq⟩
    clear hatA hbtA hatB hbtB
    have K0x46 := hide (K0x43.out.on hbq)
    have K1x47 := hide (K1x44.out.on hbq)
    have BBx48 := hide (BBx45.out.trans (hbq.mono BBx45.out.size))
    have K2x49 := hide (HK2.out.on hbq)
    clear hbq K0x43 K1x44 BBx45 HK2
    obtain ⟨a0, a1, a2, a3, a4, a5, a6, a7, a8⟩ := K1x47.out.blk.ev
    go_wp2_with fail
    clear a0 a1 a2 a3 a4 a5 a6 a7 a8
    refine (heldEvent_any e.id e.kind e.sender e.user e.member e.depth e.text _ _ n1 m1 w5.heap.size 1 l1 l3 (by omega) _ K1x47.out.own).mono ?_
    rintro r w19 ⟨rfl, hbq⟩
    have K0x50 := hide (K0x46.out.on hbq)
    have K1x51 := hide (K1x47.out.on hbq)
    have BBx52 := hide (BBx48.out.trans (hbq.mono BBx48.out.size))
    have K2x53 := hide (K2x49.out.on hbq)
    clear hbq K0x46 K1x47 BBx48 K2x49
    go_wp2_with fail
    go_ret
    exact ⟨rfl, BBx52.out⟩

end Go.Proofs.Ytijnejbfjpclhaa
