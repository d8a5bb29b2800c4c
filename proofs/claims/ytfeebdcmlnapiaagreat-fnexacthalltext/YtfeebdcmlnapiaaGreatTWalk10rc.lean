/-
  Walks.
-/
import Derived.Test.YtfeebdcmlnapiaaGreatTWalk10x
import Derived.Test.YtfeebdcmlnapiaaGreatTWalk9b
set_option linter.unusedVariables false
set_option linter.unusedSimpArgs false
namespace Go.Proofs.YtfeebdcmlnapiaaGreat
open Go.RowKit P1 P5 P9 P11 P12 P14 P15 K

theorem zl5 (es:List EvV) (s:St) (e:EvV):z3g es s e=175∨z3g es s e=176∨z3g es s e=208∨z3g es s e=209∨z3g es s e=210∨z3g es s e=211∨z3g es s e=212∨z3g es s e=179∨z3g es s e=180∨z3g es s e=181:=by
 unfold z3g za5 z8r
 repeat' split
 all_goals simp

theorem zl6 (b:Nat) (oa:Option Addr) (n cap:Nat) (es:List EvV) (s:St) (e:EvV) (xa:Option Addr) (xc:Nat) (xp:Value) (hok:evOk e=true) (hl20:e.levels.length≤1048576) (w:World) (hS:Scn w b oa n cap es s) (hx:IntsAt w xa e.levels.length xc e.levels) :
  Calls Tryz.prog (z3g es s e) #[trv b oa n cap e (.slice xa e.levels.length xc) xp] w fun r w'=>r=.returned (.bool (zc0 es s e))∧Below w.heap.size w w':=by
 have hse:=zaq hok
 have hus:-1000000≤e.user∧e.user≤1000000:=by have:=zl3 hok;omega
 unfold z3g zc0
 split
 ·exact zj6 b oa n cap es s e _ xp w hS
 ·split
  ·exact za1 b oa n cap e _ xp w
  ·split
   ·unfold za5 zj7
    split
    ·exact zfk b oa n cap es s e _ xp hse w hS
    ·split
     ·exact zmf b oa n cap es s e _ xp hse w hS
     ·exact za1 b oa n cap e _ xp w
   ·split
    ·unfold z8r zfl outP z8q
     split
     ·exact zfb b oa n cap es s e _ xp hse hus w hS
     ·split
      ·exact zfc b oa n cap es s e _ xp hse hus w hS
      ·split
       ·exact zkq b oa n cap es s e _ xp hse hus w hS
       ·exact za1 b oa n cap e _ xp w
    ·split
     ·exact zj8 b oa n cap es s e xa xc xp hse hl20 w hS hx
     ·split
      ·exact ziu b oa n cap es s e _ xp hse hus w hS
      ·exact zkp b oa n cap es s e _ xp hse w hS

set_option maxHeartbeats 16000000 in
theorem z7x (oa:Option Addr) (n cap:Nat) (es:List EvV) (ob:Option Addr) (m cb:Nat) (s:St) (e:EvV) (xa:Option Addr) (xc:Nat) (ya:Option Addr) (yc:Nat) (hm20:m≤1048576) (hws:∀ y∈s,z3d y) (htx:e.text.length≤1048576) (hl20:e.levels.length≤1048576) (w:World) (hev:EvsAt w oa n cap es) (hit:ItemsAt w ob m cb s) (hx:IntsAt w xa e.levels.length xc e.levels) (hy:IntsAt w ya e.prev.length yc e.prev) :
  Calls Tryz.prog 84 #[.slice oa n cap,.slice ob m cb,evv e (.slice xa e.levels.length xc) (.slice ya e.prev.length yc)] w fun r w'=>r=.returned (.bool (z3c es s e))∧Below w.heap.size w w':=by
 obtain⟨W0,hW0⟩:∃ W0,w.alloc (.cells (zk e.id e.kind e.sender e.user e.member e.depth (.slice xa e.levels.length xc) (.slice ya e.prev.length yc) e.text) 62)=W0:=⟨_,rfl⟩
 have hb0:Below w.heap.size w W0:=by rw[← hW0];exact (Below.refl _ _).alloc (Nat.le_refl _) _
 have hE0:EB W0 w.heap.size e.id e.kind e.sender e.user e.member e.depth (.slice xa e.levels.length xc) (.slice ya e.prev.length yc) e.text:=by rw[← hW0];exact EB.new _ _ _ _ _ _ _ _ _ _
 have HB0:=hide hb0
 have Ah:=hide hE0
 have HW0:=hide hW0
 have Ab:=hide (z7w e.id e.kind e.sender e.user e.member e.depth xa e.levels.length xc e.text ya e.prev.length yc e.levels e.prev htx W0 (hx.below hb0) (hy.below hb0))
 have hev':evOk (⟨e.id,e.kind,e.sender,e.user,e.member,e.levels,e.text,e.prev,e.depth⟩:EvV)=evOk e:=rfl
 rw[hev'] at Ab
 have AY:=hide (fun W (h:Below W0.heap.size W0 W)=>zgl oa n cap es ob m cb s hm20 hws W ((hev.below hb0).below h) ((hit.below hb0).below h))
 have C8:=hide (fun b W (h:Scn W b oa n cap es s)=>zmx b oa n cap es s e (.slice xa e.levels.length xc) (.slice ya e.prev.length yc) W h)
 have HX0:=hide (hx.below hb0)
 have D6:=hide (fun (hok:evOk e=true) b W (h:Scn W b oa n cap es s) hx=>zl6 b oa n cap es s e xa xc (.slice ya e.prev.length yc) hok hl20 W h hx)
 have HF:=hide (zl5 es s e)
 have hlr:=hE0.lt
 clear hW0 hb0 hE0 hev hit hx hy hev' hws
 unfold z3c
 cases hok:evOk e
 ·rw[hok] at Ab
  clear D6 C8 AY HF
  obtain⟨a0,a1,a2,a3,a4,a5,a6,a7,a8⟩:=Ah.out.ev
  go_enter Tryz.func84,Tryz.ntmps84
  go_upto_region 1 with fail
  rw[HW0.out]
  clear HW0
  go_wp2_with (go_at_call 80;(with_reducible refine Ab.out.mono ?_);rintro r w1 ⟨rfl,hb1⟩)
  go_ret
  exact⟨by first|rfl|simp,HB0.out.trans (hb1.mono HB0.out.size)⟩
 ·have Bd:=hide (D6.out hok)
  rw[hok] at Ab
  rw[Bool.true_and]
  clear D6 hok
  generalize z3g es s e=F at C8 Bd HF
  generalize zc0 es s e=q at Bd ⊢
  have hF:=HF.out
  obtain⟨a0,a1,a2,a3,a4,a5,a6,a7,a8⟩:=Ah.out.ev
  clear HF
  rcases hF with rfl|rfl|rfl|rfl|rfl|rfl|rfl|rfl|rfl|rfl
  ·go_enter Tryz.func84,Tryz.ntmps84
   go_upto_region 1 with fail
   rw[HW0.out]
   clear HW0
   go_wp2_with (go_at_call 80;(with_reducible refine Ab.out.mono ?_);rintro r w1 ⟨rfl,hb1⟩;have A9:=hide (Ah.out.on hb1 hlr);have hl1:w.heap.size<w1.heap.size:=Nat.lt_of_lt_of_le hlr hb1.size;clear a0 a1 a2 a3 a4 a5 a6 a7 a8;obtain⟨a0,a1,a2,a3,a4,a5,a6,a7,a8⟩:=A9.out.ev)
   go_region_law (first
    | (rw[if_pos (by rfl)];go_simp;go_at_call 138;refine (AY.out _ (hb1.trans ((Below.refl w1.heap.size w1).drew.mono hb1.size))).mono ?_;rintro r w2 ⟨bm,rfl,hS2,hb2'⟩;have hb2:Below w1.heap.size w1 w2:=(Below.refl w1.heap.size w1).drew.trans hb2';have HE2:=hide (A9.out.on hb2 hl1);have HS2:=hide hS2;obtain⟨d0,d1,d2,d3,d4,d5,d6,d7,d8⟩:=HE2.out.ev)
    | (rw[if_pos (by rfl)];go_simp;go_at_call 139;refine (C8.out bm w2 HS2.out).mono ?_;rintro r w3 ⟨rfl,hb3⟩))
   all_goals
    have hb13:=hb1.trans ((hb2.trans (hb3.mono hb2.size)).mono hb1.size)
    have BI:=hide (Bd.out bm w3 (HS2.out.on hb3) (HX0.out.below hb13))
    go_wp2_with (go_at_call 175;(with_reducible refine BI.out.mono ?_);rintro r w4 ⟨rfl,hb4⟩)
    go_ret
    exact⟨by first|rfl|simp,HB0.out.trans ((hb13.trans (hb4.mono hb13.size)).mono HB0.out.size)⟩
  ·go_enter Tryz.func84,Tryz.ntmps84
   go_upto_region 1 with fail
   rw[HW0.out]
   clear HW0
   go_wp2_with (go_at_call 80;(with_reducible refine Ab.out.mono ?_);rintro r w1 ⟨rfl,hb1⟩;have A9:=hide (Ah.out.on hb1 hlr);have hl1:w.heap.size<w1.heap.size:=Nat.lt_of_lt_of_le hlr hb1.size;clear a0 a1 a2 a3 a4 a5 a6 a7 a8;obtain⟨a0,a1,a2,a3,a4,a5,a6,a7,a8⟩:=A9.out.ev)
   go_region_law (first
    | (rw[if_pos (by rfl)];go_simp;go_at_call 138;refine (AY.out _ (hb1.trans ((Below.refl w1.heap.size w1).drew.mono hb1.size))).mono ?_;rintro r w2 ⟨bm,rfl,hS2,hb2'⟩;have hb2:Below w1.heap.size w1 w2:=(Below.refl w1.heap.size w1).drew.trans hb2';have HE2:=hide (A9.out.on hb2 hl1);have HS2:=hide hS2;obtain⟨d0,d1,d2,d3,d4,d5,d6,d7,d8⟩:=HE2.out.ev)
    | (rw[if_pos (by rfl)];go_simp;go_at_call 139;refine (C8.out bm w2 HS2.out).mono ?_;rintro r w3 ⟨rfl,hb3⟩))
   all_goals
    have hb13:=hb1.trans ((hb2.trans (hb3.mono hb2.size)).mono hb1.size)
    have BI:=hide (Bd.out bm w3 (HS2.out.on hb3) (HX0.out.below hb13))
    go_wp2_with (go_at_call 176;(with_reducible refine BI.out.mono ?_);rintro r w4 ⟨rfl,hb4⟩)
    go_ret
    exact⟨by first|rfl|simp,HB0.out.trans ((hb13.trans (hb4.mono hb13.size)).mono HB0.out.size)⟩
  ·go_enter Tryz.func84,Tryz.ntmps84
   go_upto_region 1 with fail
   rw[HW0.out]
   clear HW0
   go_wp2_with (go_at_call 80;(with_reducible refine Ab.out.mono ?_);rintro r w1 ⟨rfl,hb1⟩;have A9:=hide (Ah.out.on hb1 hlr);have hl1:w.heap.size<w1.heap.size:=Nat.lt_of_lt_of_le hlr hb1.size;clear a0 a1 a2 a3 a4 a5 a6 a7 a8;obtain⟨a0,a1,a2,a3,a4,a5,a6,a7,a8⟩:=A9.out.ev)
   go_region_law (first
    | (rw[if_pos (by rfl)];go_simp;go_at_call 138;refine (AY.out _ (hb1.trans ((Below.refl w1.heap.size w1).drew.mono hb1.size))).mono ?_;rintro r w2 ⟨bm,rfl,hS2,hb2'⟩;have hb2:Below w1.heap.size w1 w2:=(Below.refl w1.heap.size w1).drew.trans hb2';have HE2:=hide (A9.out.on hb2 hl1);have HS2:=hide hS2;obtain⟨d0,d1,d2,d3,d4,d5,d6,d7,d8⟩:=HE2.out.ev)
    | (rw[if_pos (by rfl)];go_simp;go_at_call 139;refine (C8.out bm w2 HS2.out).mono ?_;rintro r w3 ⟨rfl,hb3⟩))
   all_goals
    have hb13:=hb1.trans ((hb2.trans (hb3.mono hb2.size)).mono hb1.size)
    have BI:=hide (Bd.out bm w3 (HS2.out.on hb3) (HX0.out.below hb13))
    go_wp2_with (go_at_call 208;(with_reducible refine BI.out.mono ?_);rintro r w4 ⟨rfl,hb4⟩)
    go_ret
    exact⟨by first|rfl|simp,HB0.out.trans ((hb13.trans (hb4.mono hb13.size)).mono HB0.out.size)⟩
  ·go_enter Tryz.func84,Tryz.ntmps84
   go_upto_region 1 with fail
   rw[HW0.out]
   clear HW0
   go_wp2_with (go_at_call 80;(with_reducible refine Ab.out.mono ?_);rintro r w1 ⟨rfl,hb1⟩;have A9:=hide (Ah.out.on hb1 hlr);have hl1:w.heap.size<w1.heap.size:=Nat.lt_of_lt_of_le hlr hb1.size;clear a0 a1 a2 a3 a4 a5 a6 a7 a8;obtain⟨a0,a1,a2,a3,a4,a5,a6,a7,a8⟩:=A9.out.ev)
   go_region_law (first
    | (rw[if_pos (by rfl)];go_simp;go_at_call 138;refine (AY.out _ (hb1.trans ((Below.refl w1.heap.size w1).drew.mono hb1.size))).mono ?_;rintro r w2 ⟨bm,rfl,hS2,hb2'⟩;have hb2:Below w1.heap.size w1 w2:=(Below.refl w1.heap.size w1).drew.trans hb2';have HE2:=hide (A9.out.on hb2 hl1);have HS2:=hide hS2;obtain⟨d0,d1,d2,d3,d4,d5,d6,d7,d8⟩:=HE2.out.ev)
    | (rw[if_pos (by rfl)];go_simp;go_at_call 139;refine (C8.out bm w2 HS2.out).mono ?_;rintro r w3 ⟨rfl,hb3⟩))
   all_goals
    have hb13:=hb1.trans ((hb2.trans (hb3.mono hb2.size)).mono hb1.size)
    have BI:=hide (Bd.out bm w3 (HS2.out.on hb3) (HX0.out.below hb13))
    go_wp2_with (go_at_call 209;(with_reducible refine BI.out.mono ?_);rintro r w4 ⟨rfl,hb4⟩)
    go_ret
    exact⟨by first|rfl|simp,HB0.out.trans ((hb13.trans (hb4.mono hb13.size)).mono HB0.out.size)⟩
  ·go_enter Tryz.func84,Tryz.ntmps84
   go_upto_region 1 with fail
   rw[HW0.out]
   clear HW0
   go_wp2_with (go_at_call 80;(with_reducible refine Ab.out.mono ?_);rintro r w1 ⟨rfl,hb1⟩;have A9:=hide (Ah.out.on hb1 hlr);have hl1:w.heap.size<w1.heap.size:=Nat.lt_of_lt_of_le hlr hb1.size;clear a0 a1 a2 a3 a4 a5 a6 a7 a8;obtain⟨a0,a1,a2,a3,a4,a5,a6,a7,a8⟩:=A9.out.ev)
   go_region_law (first
    | (rw[if_pos (by rfl)];go_simp;go_at_call 138;refine (AY.out _ (hb1.trans ((Below.refl w1.heap.size w1).drew.mono hb1.size))).mono ?_;rintro r w2 ⟨bm,rfl,hS2,hb2'⟩;have hb2:Below w1.heap.size w1 w2:=(Below.refl w1.heap.size w1).drew.trans hb2';have HE2:=hide (A9.out.on hb2 hl1);have HS2:=hide hS2;obtain⟨d0,d1,d2,d3,d4,d5,d6,d7,d8⟩:=HE2.out.ev)
    | (rw[if_pos (by rfl)];go_simp;go_at_call 139;refine (C8.out bm w2 HS2.out).mono ?_;rintro r w3 ⟨rfl,hb3⟩))
   all_goals
    have hb13:=hb1.trans ((hb2.trans (hb3.mono hb2.size)).mono hb1.size)
    have BI:=hide (Bd.out bm w3 (HS2.out.on hb3) (HX0.out.below hb13))
    go_wp2_with (go_at_call 210;(with_reducible refine BI.out.mono ?_);rintro r w4 ⟨rfl,hb4⟩)
    go_ret
    exact⟨by first|rfl|simp,HB0.out.trans ((hb13.trans (hb4.mono hb13.size)).mono HB0.out.size)⟩
  ·go_enter Tryz.func84,Tryz.ntmps84
   go_upto_region 1 with fail
   rw[HW0.out]
   clear HW0
   go_wp2_with (go_at_call 80;(with_reducible refine Ab.out.mono ?_);rintro r w1 ⟨rfl,hb1⟩;have A9:=hide (Ah.out.on hb1 hlr);have hl1:w.heap.size<w1.heap.size:=Nat.lt_of_lt_of_le hlr hb1.size;clear a0 a1 a2 a3 a4 a5 a6 a7 a8;obtain⟨a0,a1,a2,a3,a4,a5,a6,a7,a8⟩:=A9.out.ev)
   go_region_law (first
    | (rw[if_pos (by rfl)];go_simp;go_at_call 138;refine (AY.out _ (hb1.trans ((Below.refl w1.heap.size w1).drew.mono hb1.size))).mono ?_;rintro r w2 ⟨bm,rfl,hS2,hb2'⟩;have hb2:Below w1.heap.size w1 w2:=(Below.refl w1.heap.size w1).drew.trans hb2';have HE2:=hide (A9.out.on hb2 hl1);have HS2:=hide hS2;obtain⟨d0,d1,d2,d3,d4,d5,d6,d7,d8⟩:=HE2.out.ev)
    | (rw[if_pos (by rfl)];go_simp;go_at_call 139;refine (C8.out bm w2 HS2.out).mono ?_;rintro r w3 ⟨rfl,hb3⟩))
   all_goals
    have hb13:=hb1.trans ((hb2.trans (hb3.mono hb2.size)).mono hb1.size)
    have BI:=hide (Bd.out bm w3 (HS2.out.on hb3) (HX0.out.below hb13))
    go_wp2_with (go_at_call 211;(with_reducible refine BI.out.mono ?_);rintro r w4 ⟨rfl,hb4⟩)
    go_ret
    exact⟨by first|rfl|simp,HB0.out.trans ((hb13.trans (hb4.mono hb13.size)).mono HB0.out.size)⟩
  ·go_enter Tryz.func84,Tryz.ntmps84
   go_upto_region 1 with fail
   rw[HW0.out]
   clear HW0
   go_wp2_with (go_at_call 80;(with_reducible refine Ab.out.mono ?_);rintro r w1 ⟨rfl,hb1⟩;have A9:=hide (Ah.out.on hb1 hlr);have hl1:w.heap.size<w1.heap.size:=Nat.lt_of_lt_of_le hlr hb1.size;clear a0 a1 a2 a3 a4 a5 a6 a7 a8;obtain⟨a0,a1,a2,a3,a4,a5,a6,a7,a8⟩:=A9.out.ev)
   go_region_law (first
    | (rw[if_pos (by rfl)];go_simp;go_at_call 138;refine (AY.out _ (hb1.trans ((Below.refl w1.heap.size w1).drew.mono hb1.size))).mono ?_;rintro r w2 ⟨bm,rfl,hS2,hb2'⟩;have hb2:Below w1.heap.size w1 w2:=(Below.refl w1.heap.size w1).drew.trans hb2';have HE2:=hide (A9.out.on hb2 hl1);have HS2:=hide hS2;obtain⟨d0,d1,d2,d3,d4,d5,d6,d7,d8⟩:=HE2.out.ev)
    | (rw[if_pos (by rfl)];go_simp;go_at_call 139;refine (C8.out bm w2 HS2.out).mono ?_;rintro r w3 ⟨rfl,hb3⟩))
   all_goals
    have hb13:=hb1.trans ((hb2.trans (hb3.mono hb2.size)).mono hb1.size)
    have BI:=hide (Bd.out bm w3 (HS2.out.on hb3) (HX0.out.below hb13))
    go_wp2_with (go_at_call 212;(with_reducible refine BI.out.mono ?_);rintro r w4 ⟨rfl,hb4⟩)
    go_ret
    exact⟨by first|rfl|simp,HB0.out.trans ((hb13.trans (hb4.mono hb13.size)).mono HB0.out.size)⟩
  ·go_enter Tryz.func84,Tryz.ntmps84
   go_upto_region 1 with fail
   rw[HW0.out]
   clear HW0
   go_wp2_with (go_at_call 80;(with_reducible refine Ab.out.mono ?_);rintro r w1 ⟨rfl,hb1⟩;have A9:=hide (Ah.out.on hb1 hlr);have hl1:w.heap.size<w1.heap.size:=Nat.lt_of_lt_of_le hlr hb1.size;clear a0 a1 a2 a3 a4 a5 a6 a7 a8;obtain⟨a0,a1,a2,a3,a4,a5,a6,a7,a8⟩:=A9.out.ev)
   go_region_law (first
    | (rw[if_pos (by rfl)];go_simp;go_at_call 138;refine (AY.out _ (hb1.trans ((Below.refl w1.heap.size w1).drew.mono hb1.size))).mono ?_;rintro r w2 ⟨bm,rfl,hS2,hb2'⟩;have hb2:Below w1.heap.size w1 w2:=(Below.refl w1.heap.size w1).drew.trans hb2';have HE2:=hide (A9.out.on hb2 hl1);have HS2:=hide hS2;obtain⟨d0,d1,d2,d3,d4,d5,d6,d7,d8⟩:=HE2.out.ev)
    | (rw[if_pos (by rfl)];go_simp;go_at_call 139;refine (C8.out bm w2 HS2.out).mono ?_;rintro r w3 ⟨rfl,hb3⟩))
   all_goals
    have hb13:=hb1.trans ((hb2.trans (hb3.mono hb2.size)).mono hb1.size)
    have BI:=hide (Bd.out bm w3 (HS2.out.on hb3) (HX0.out.below hb13))
    go_wp2_with (go_at_call 179;(with_reducible refine BI.out.mono ?_);rintro r w4 ⟨rfl,hb4⟩)
    go_ret
    exact⟨by first|rfl|simp,HB0.out.trans ((hb13.trans (hb4.mono hb13.size)).mono HB0.out.size)⟩
  ·go_enter Tryz.func84,Tryz.ntmps84
   go_upto_region 1 with fail
   rw[HW0.out]
   clear HW0
   go_wp2_with (go_at_call 80;(with_reducible refine Ab.out.mono ?_);rintro r w1 ⟨rfl,hb1⟩;have A9:=hide (Ah.out.on hb1 hlr);have hl1:w.heap.size<w1.heap.size:=Nat.lt_of_lt_of_le hlr hb1.size;clear a0 a1 a2 a3 a4 a5 a6 a7 a8;obtain⟨a0,a1,a2,a3,a4,a5,a6,a7,a8⟩:=A9.out.ev)
   go_region_law (first
    | (rw[if_pos (by rfl)];go_simp;go_at_call 138;refine (AY.out _ (hb1.trans ((Below.refl w1.heap.size w1).drew.mono hb1.size))).mono ?_;rintro r w2 ⟨bm,rfl,hS2,hb2'⟩;have hb2:Below w1.heap.size w1 w2:=(Below.refl w1.heap.size w1).drew.trans hb2';have HE2:=hide (A9.out.on hb2 hl1);have HS2:=hide hS2;obtain⟨d0,d1,d2,d3,d4,d5,d6,d7,d8⟩:=HE2.out.ev)
    | (rw[if_pos (by rfl)];go_simp;go_at_call 139;refine (C8.out bm w2 HS2.out).mono ?_;rintro r w3 ⟨rfl,hb3⟩))
   all_goals
    have hb13:=hb1.trans ((hb2.trans (hb3.mono hb2.size)).mono hb1.size)
    have BI:=hide (Bd.out bm w3 (HS2.out.on hb3) (HX0.out.below hb13))
    go_wp2_with (go_at_call 180;(with_reducible refine BI.out.mono ?_);rintro r w4 ⟨rfl,hb4⟩)
    go_ret
    exact⟨by first|rfl|simp,HB0.out.trans ((hb13.trans (hb4.mono hb13.size)).mono HB0.out.size)⟩
  ·go_enter Tryz.func84,Tryz.ntmps84
   go_upto_region 1 with fail
   rw[HW0.out]
   clear HW0
   go_wp2_with (go_at_call 80;(with_reducible refine Ab.out.mono ?_);rintro r w1 ⟨rfl,hb1⟩;have A9:=hide (Ah.out.on hb1 hlr);have hl1:w.heap.size<w1.heap.size:=Nat.lt_of_lt_of_le hlr hb1.size;clear a0 a1 a2 a3 a4 a5 a6 a7 a8;obtain⟨a0,a1,a2,a3,a4,a5,a6,a7,a8⟩:=A9.out.ev)
   go_region_law (first
    | (rw[if_pos (by rfl)];go_simp;go_at_call 138;refine (AY.out _ (hb1.trans ((Below.refl w1.heap.size w1).drew.mono hb1.size))).mono ?_;rintro r w2 ⟨bm,rfl,hS2,hb2'⟩;have hb2:Below w1.heap.size w1 w2:=(Below.refl w1.heap.size w1).drew.trans hb2';have HE2:=hide (A9.out.on hb2 hl1);have HS2:=hide hS2;obtain⟨d0,d1,d2,d3,d4,d5,d6,d7,d8⟩:=HE2.out.ev)
    | (rw[if_pos (by rfl)];go_simp;go_at_call 139;refine (C8.out bm w2 HS2.out).mono ?_;rintro r w3 ⟨rfl,hb3⟩))
   all_goals
    have hb13:=hb1.trans ((hb2.trans (hb3.mono hb2.size)).mono hb1.size)
    have BI:=hide (Bd.out bm w3 (HS2.out.on hb3) (HX0.out.below hb13))
    go_wp2_with (go_at_call 181;(with_reducible refine BI.out.mono ?_);rintro r w4 ⟨rfl,hb4⟩)
    go_ret
    exact⟨by first|rfl|simp,HB0.out.trans ((hb13.trans (hb4.mono hb13.size)).mono HB0.out.size)⟩

end Go.Proofs.YtfeebdcmlnapiaaGreat
