/-
  Walks.
-/
import Derived.Test.YtfeebdcmlnapiaaGreatTWalk10x
import Derived.Test.YtfeebdcmlnapiaaGreatTWalk9b
set_option maxHeartbeats 16000000
set_option linter.unusedVariables false
set_option linter.unusedSimpArgs false
namespace Go.Proofs.YtfeebdcmlnapiaaGreat
open Go.RowKit P1 P5 P9 P11 P12 P14 P15 K
theorem zl5 (es:List EvV) (s:St) (e:EvV):z3g es s e=175∨z3g es s e=176∨z3g es s e=208∨z3g es s e=209∨z3g es s e=210∨z3g es s e=211∨z3g es s e=212∨z3g es s e=179∨z3g es s e=180∨z3g es s e=181:=by
 unfold z3g za5 z8r
 repeat' split
 all_goals simp

theorem zl6 (b:Nat) (oa:Zoa) (n cap:Nat) (es:List EvV) (s:St) (e:EvV) (xa:Zoa) (xc:Nat) (xp:Value) (hok:evOk e=true) (hl20:e.levels.length≤1048576) (w:World) (hS:Scn w b oa n cap es s) (hx:IntsAt w xa e.levels.length xc e.levels) :
  Calls Tryz.prog (z3g es s e) #[trv b oa n cap e (.slice xa e.levels.length xc) xp] w fun r w'=>r=.returned (.bool (zc0 es s e))∧Bw w w':=by
 have hse:=zaq hok
 have hus:-1000000≤e.user∧e.user≤1000000:=by have:=zl3 hok;omega
 unfold z3g zc0
 split
 ·exact zj6 b oa n cap es s e _ xp w hS
 ·split
  ·exact za1 b oa n cap e _ xp w
  ·split
   ·unfold za5 zj7
    split
    ·exact zfk b oa n cap es s e _ xp hse w hS
    ·split
     ·exact zmf b oa n cap es s e _ xp hse w hS
     ·exact za1 b oa n cap e _ xp w
   ·split
    ·unfold z8r zfl outP z8q
     split
     ·exact zfb b oa n cap es s e _ xp hse hus w hS
     ·split
      ·exact zfc b oa n cap es s e _ xp hse hus w hS
      ·split
       ·exact zkq b oa n cap es s e _ xp hse hus w hS
       ·exact za1 b oa n cap e _ xp w
    ·split
     ·exact zj8 b oa n cap es s e xa xc xp hse hl20 w hS hx
     ·split
      ·exact ziu b oa n cap es s e _ xp hse hus w hS
      ·exact zkp b oa n cap es s e _ xp hse w hS

theorem z7x (oa:Zoa) (n cap:Nat) (es:List EvV) (ob:Zoa) (m cb:Nat) (s:St) (e:EvV) (xa:Zoa) (xc:Nat) (ya:Zoa) (yc:Nat) (hm20:m≤1048576) (hws:∀ y∈s,z3d y) (htx:e.text.length≤1048576) (hl20:e.levels.length≤1048576) (w:World) (hev:EvsAt w oa n cap es) (hit:ItemsAt w ob m cb s) (hx:IntsAt w xa e.levels.length xc e.levels) (hy:IntsAt w ya e.prev.length yc e.prev) :
  Calls Tryz.prog 84 #[.slice oa n cap,.slice ob m cb,evv e (.slice xa e.levels.length xc) (.slice ya e.prev.length yc)] w fun r w'=>r=.returned (.bool (z3c es s e))∧Bw w w':=by
 obtain⟨W0,hW0⟩:∃ W0,w.alloc (.cells (zk e.id e.kind e.sender e.user e.member e.depth (.slice xa e.levels.length xc) (.slice ya e.prev.length yc) e.text) 62)=W0:=⟨_,rfl⟩
 have hb0:Bw w W0:=by rw[← hW0];exact zBa
 have hE0:EB W0 w.heap.size e.id e.kind e.sender e.user e.member e.depth (.slice xa e.levels.length xc) (.slice ya e.prev.length yc) e.text:=by rw[← hW0];exact EB.new _ _ _ _ _ _ _ _ _ _
 have HB0:=ZZ hb0
 have Ah:=ZZ hE0
 have HW0:=ZZ hW0
 have Ab:=ZZ (z7w e.id e.kind e.sender e.user e.member e.depth xa e.levels.length xc e.text ya e.prev.length yc e.levels e.prev htx W0 (hx.below hb0) (hy.below hb0))
 have hev':evOk (⟨e.id,e.kind,e.sender,e.user,e.member,e.levels,e.text,e.prev,e.depth⟩:EvV)=evOk e:=rfl
 rw[hev'] at Ab
 have AY:=ZZ (fun W (h:Bw W0 W)=>zgl oa n cap es ob m cb s hm20 hws W ((hev.below hb0).below h) ((hit.below hb0).below h))
 have C8:=ZZ (fun b W (h:Scn W b oa n cap es s)=>zmx b oa n cap es s e (.slice xa e.levels.length xc) (.slice ya e.prev.length yc) W h)
 have HX0:=ZZ (hx.below hb0)
 have D6:=ZZ (fun (hok:evOk e=true) b W (h:Scn W b oa n cap es s) hx=>zl6 b oa n cap es s e xa xc (.slice ya e.prev.length yc) hok hl20 W h hx)
 have HF:=ZZ (zl5 es s e)
 have hlr:=hE0.lt
 clear hW0 hb0 hE0 hev hit hx hy hev' hws
 unfold z3c
 cases hok:evOk e
 ·rw[hok] at Ab
  clear D6 C8 AY HF
  obtain⟨a0,a1,a2,a3,a4,a5,a6,a7,a8⟩:=Ah.o.ev
  go_enter Tryz.func84,Tryz.ntmps84
  go_upto_region 1 with fail
  rw[HW0.o]
  clear HW0
  go_wp2_with (go_at_call 80;(with_reducible refine Ab.o.mono ?_);rintro r w1 ⟨rfl,hb1⟩)
  go_ret
  exact⟨by first|rfl|simp,zTr HB0.o hb1⟩
 ·have Bd:=ZZ (D6.o hok)
  rw[hok] at Ab
  rw[Bool.true_and]
  clear D6 hok
  generalize z3g es s e=F at C8 Bd HF
  generalize zc0 es s e=q at Bd ⊢
  have hF:=HF.o
  obtain⟨a0,a1,a2,a3,a4,a5,a6,a7,a8⟩:=Ah.o.ev
  clear HF
  rcases hF with rfl|rfl|rfl|rfl|rfl|rfl|rfl|rfl|rfl|rfl
  ·go_enter Tryz.func84,Tryz.ntmps84
   go_upto_region 1 with fail
   rw[HW0.o]
   clear HW0
   go_wp2_with (go_at_call 80;(with_reducible refine Ab.o.mono ?_);rintro r w1 ⟨rfl,hb1⟩;have A9:=ZZ (Ah.o.on hb1 hlr);have hl1:w.heap.size<w1.heap.size:=zLt hlr hb1.size;clear a0 a1 a2 a3 a4 a5 a6 a7 a8;obtain⟨a0,a1,a2,a3,a4,a5,a6,a7,a8⟩:=A9.o.ev)
   go_region_law (first
    | (rw[if_pos (by rfl)];go_simp;go_at_call 138;refine (AY.o _ (hb1.trans ((Below.refl w1.heap.size w1).drew.mono hb1.size))).mono ?_;rintro r w2 ⟨bm,rfl,hS2,hb2'⟩;have hb2:Bw w1 w2:=(Below.refl w1.heap.size w1).drew.trans hb2';have HE2:=ZZ (A9.o.on hb2 hl1);have HS2:=ZZ hS2;obtain⟨d0,d1,d2,d3,d4,d5,d6,d7,d8⟩:=HE2.o.ev)
    | (rw[if_pos (by rfl)];go_simp;go_at_call 139;refine (C8.o bm w2 HS2.o).mono ?_;rintro r w3 ⟨rfl,hb3⟩))
   all_goals
    have hb13:=hb1.trans ((zTr hb2 hb3).mono hb1.size)
    have BI:=ZZ (Bd.o bm w3 (HS2.o.on hb3) (HX0.o.below hb13))
    go_wp2_with (go_at_call 175;(with_reducible refine BI.o.mono ?_);rintro r w4 ⟨rfl,hb4⟩)
    go_ret
    exact⟨by first|rfl|simp,HB0.o.trans ((zTr hb13 hb4).mono HB0.o.size)⟩
  ·go_enter Tryz.func84,Tryz.ntmps84
   go_upto_region 1 with fail
   rw[HW0.o]
   clear HW0
   go_wp2_with (go_at_call 80;(with_reducible refine Ab.o.mono ?_);rintro r w1 ⟨rfl,hb1⟩;have A9:=ZZ (Ah.o.on hb1 hlr);have hl1:w.heap.size<w1.heap.size:=zLt hlr hb1.size;clear a0 a1 a2 a3 a4 a5 a6 a7 a8;obtain⟨a0,a1,a2,a3,a4,a5,a6,a7,a8⟩:=A9.o.ev)
   go_region_law (first
    | (rw[if_pos (by rfl)];go_simp;go_at_call 138;refine (AY.o _ (hb1.trans ((Below.refl w1.heap.size w1).drew.mono hb1.size))).mono ?_;rintro r w2 ⟨bm,rfl,hS2,hb2'⟩;have hb2:Bw w1 w2:=(Below.refl w1.heap.size w1).drew.trans hb2';have HE2:=ZZ (A9.o.on hb2 hl1);have HS2:=ZZ hS2;obtain⟨d0,d1,d2,d3,d4,d5,d6,d7,d8⟩:=HE2.o.ev)
    | (rw[if_pos (by rfl)];go_simp;go_at_call 139;refine (C8.o bm w2 HS2.o).mono ?_;rintro r w3 ⟨rfl,hb3⟩))
   all_goals
    have hb13:=hb1.trans ((zTr hb2 hb3).mono hb1.size)
    have BI:=ZZ (Bd.o bm w3 (HS2.o.on hb3) (HX0.o.below hb13))
    go_wp2_with (go_at_call 176;(with_reducible refine BI.o.mono ?_);rintro r w4 ⟨rfl,hb4⟩)
    go_ret
    exact⟨by first|rfl|simp,HB0.o.trans ((zTr hb13 hb4).mono HB0.o.size)⟩
  ·go_enter Tryz.func84,Tryz.ntmps84
   go_upto_region 1 with fail
   rw[HW0.o]
   clear HW0
   go_wp2_with (go_at_call 80;(with_reducible refine Ab.o.mono ?_);rintro r w1 ⟨rfl,hb1⟩;have A9:=ZZ (Ah.o.on hb1 hlr);have hl1:w.heap.size<w1.heap.size:=zLt hlr hb1.size;clear a0 a1 a2 a3 a4 a5 a6 a7 a8;obtain⟨a0,a1,a2,a3,a4,a5,a6,a7,a8⟩:=A9.o.ev)
   go_region_law (first
    | (rw[if_pos (by rfl)];go_simp;go_at_call 138;refine (AY.o _ (hb1.trans ((Below.refl w1.heap.size w1).drew.mono hb1.size))).mono ?_;rintro r w2 ⟨bm,rfl,hS2,hb2'⟩;have hb2:Bw w1 w2:=(Below.refl w1.heap.size w1).drew.trans hb2';have HE2:=ZZ (A9.o.on hb2 hl1);have HS2:=ZZ hS2;obtain⟨d0,d1,d2,d3,d4,d5,d6,d7,d8⟩:=HE2.o.ev)
    | (rw[if_pos (by rfl)];go_simp;go_at_call 139;refine (C8.o bm w2 HS2.o).mono ?_;rintro r w3 ⟨rfl,hb3⟩))
   all_goals
    have hb13:=hb1.trans ((zTr hb2 hb3).mono hb1.size)
    have BI:=ZZ (Bd.o bm w3 (HS2.o.on hb3) (HX0.o.below hb13))
    go_wp2_with (go_at_call 208;(with_reducible refine BI.o.mono ?_);rintro r w4 ⟨rfl,hb4⟩)
    go_ret
    exact⟨by first|rfl|simp,HB0.o.trans ((zTr hb13 hb4).mono HB0.o.size)⟩
  ·go_enter Tryz.func84,Tryz.ntmps84
   go_upto_region 1 with fail
   rw[HW0.o]
   clear HW0
   go_wp2_with (go_at_call 80;(with_reducible refine Ab.o.mono ?_);rintro r w1 ⟨rfl,hb1⟩;have A9:=ZZ (Ah.o.on hb1 hlr);have hl1:w.heap.size<w1.heap.size:=zLt hlr hb1.size;clear a0 a1 a2 a3 a4 a5 a6 a7 a8;obtain⟨a0,a1,a2,a3,a4,a5,a6,a7,a8⟩:=A9.o.ev)
   go_region_law (first
    | (rw[if_pos (by rfl)];go_simp;go_at_call 138;refine (AY.o _ (hb1.trans ((Below.refl w1.heap.size w1).drew.mono hb1.size))).mono ?_;rintro r w2 ⟨bm,rfl,hS2,hb2'⟩;have hb2:Bw w1 w2:=(Below.refl w1.heap.size w1).drew.trans hb2';have HE2:=ZZ (A9.o.on hb2 hl1);have HS2:=ZZ hS2;obtain⟨d0,d1,d2,d3,d4,d5,d6,d7,d8⟩:=HE2.o.ev)
    | (rw[if_pos (by rfl)];go_simp;go_at_call 139;refine (C8.o bm w2 HS2.o).mono ?_;rintro r w3 ⟨rfl,hb3⟩))
   all_goals
    have hb13:=hb1.trans ((zTr hb2 hb3).mono hb1.size)
    have BI:=ZZ (Bd.o bm w3 (HS2.o.on hb3) (HX0.o.below hb13))
    go_wp2_with (go_at_call 209;(with_reducible refine BI.o.mono ?_);rintro r w4 ⟨rfl,hb4⟩)
    go_ret
    exact⟨by first|rfl|simp,HB0.o.trans ((zTr hb13 hb4).mono HB0.o.size)⟩
  ·go_enter Tryz.func84,Tryz.ntmps84
   go_upto_region 1 with fail
   rw[HW0.o]
   clear HW0
   go_wp2_with (go_at_call 80;(with_reducible refine Ab.o.mono ?_);rintro r w1 ⟨rfl,hb1⟩;have A9:=ZZ (Ah.o.on hb1 hlr);have hl1:w.heap.size<w1.heap.size:=zLt hlr hb1.size;clear a0 a1 a2 a3 a4 a5 a6 a7 a8;obtain⟨a0,a1,a2,a3,a4,a5,a6,a7,a8⟩:=A9.o.ev)
   go_region_law (first
    | (rw[if_pos (by rfl)];go_simp;go_at_call 138;refine (AY.o _ (hb1.trans ((Below.refl w1.heap.size w1).drew.mono hb1.size))).mono ?_;rintro r w2 ⟨bm,rfl,hS2,hb2'⟩;have hb2:Bw w1 w2:=(Below.refl w1.heap.size w1).drew.trans hb2';have HE2:=ZZ (A9.o.on hb2 hl1);have HS2:=ZZ hS2;obtain⟨d0,d1,d2,d3,d4,d5,d6,d7,d8⟩:=HE2.o.ev)
    | (rw[if_pos (by rfl)];go_simp;go_at_call 139;refine (C8.o bm w2 HS2.o).mono ?_;rintro r w3 ⟨rfl,hb3⟩))
   all_goals
    have hb13:=hb1.trans ((zTr hb2 hb3).mono hb1.size)
    have BI:=ZZ (Bd.o bm w3 (HS2.o.on hb3) (HX0.o.below hb13))
    go_wp2_with (go_at_call 210;(with_reducible refine BI.o.mono ?_);rintro r w4 ⟨rfl,hb4⟩)
    go_ret
    exact⟨by first|rfl|simp,HB0.o.trans ((zTr hb13 hb4).mono HB0.o.size)⟩
  ·go_enter Tryz.func84,Tryz.ntmps84
   go_upto_region 1 with fail
   rw[HW0.o]
   clear HW0
   go_wp2_with (go_at_call 80;(with_reducible refine Ab.o.mono ?_);rintro r w1 ⟨rfl,hb1⟩;have A9:=ZZ (Ah.o.on hb1 hlr);have hl1:w.heap.size<w1.heap.size:=zLt hlr hb1.size;clear a0 a1 a2 a3 a4 a5 a6 a7 a8;obtain⟨a0,a1,a2,a3,a4,a5,a6,a7,a8⟩:=A9.o.ev)
   go_region_law (first
    | (rw[if_pos (by rfl)];go_simp;go_at_call 138;refine (AY.o _ (hb1.trans ((Below.refl w1.heap.size w1).drew.mono hb1.size))).mono ?_;rintro r w2 ⟨bm,rfl,hS2,hb2'⟩;have hb2:Bw w1 w2:=(Below.refl w1.heap.size w1).drew.trans hb2';have HE2:=ZZ (A9.o.on hb2 hl1);have HS2:=ZZ hS2;obtain⟨d0,d1,d2,d3,d4,d5,d6,d7,d8⟩:=HE2.o.ev)
    | (rw[if_pos (by rfl)];go_simp;go_at_call 139;refine (C8.o bm w2 HS2.o).mono ?_;rintro r w3 ⟨rfl,hb3⟩))
   all_goals
    have hb13:=hb1.trans ((zTr hb2 hb3).mono hb1.size)
    have BI:=ZZ (Bd.o bm w3 (HS2.o.on hb3) (HX0.o.below hb13))
    go_wp2_with (go_at_call 211;(with_reducible refine BI.o.mono ?_);rintro r w4 ⟨rfl,hb4⟩)
    go_ret
    exact⟨by first|rfl|simp,HB0.o.trans ((zTr hb13 hb4).mono HB0.o.size)⟩
  ·go_enter Tryz.func84,Tryz.ntmps84
   go_upto_region 1 with fail
   rw[HW0.o]
   clear HW0
   go_wp2_with (go_at_call 80;(with_reducible refine Ab.o.mono ?_);rintro r w1 ⟨rfl,hb1⟩;have A9:=ZZ (Ah.o.on hb1 hlr);have hl1:w.heap.size<w1.heap.size:=zLt hlr hb1.size;clear a0 a1 a2 a3 a4 a5 a6 a7 a8;obtain⟨a0,a1,a2,a3,a4,a5,a6,a7,a8⟩:=A9.o.ev)
   go_region_law (first
    | (rw[if_pos (by rfl)];go_simp;go_at_call 138;refine (AY.o _ (hb1.trans ((Below.refl w1.heap.size w1).drew.mono hb1.size))).mono ?_;rintro r w2 ⟨bm,rfl,hS2,hb2'⟩;have hb2:Bw w1 w2:=(Below.refl w1.heap.size w1).drew.trans hb2';have HE2:=ZZ (A9.o.on hb2 hl1);have HS2:=ZZ hS2;obtain⟨d0,d1,d2,d3,d4,d5,d6,d7,d8⟩:=HE2.o.ev)
    | (rw[if_pos (by rfl)];go_simp;go_at_call 139;refine (C8.o bm w2 HS2.o).mono ?_;rintro r w3 ⟨rfl,hb3⟩))
   all_goals
    have hb13:=hb1.trans ((zTr hb2 hb3).mono hb1.size)
    have BI:=ZZ (Bd.o bm w3 (HS2.o.on hb3) (HX0.o.below hb13))
    go_wp2_with (go_at_call 212;(with_reducible refine BI.o.mono ?_);rintro r w4 ⟨rfl,hb4⟩)
    go_ret
    exact⟨by first|rfl|simp,HB0.o.trans ((zTr hb13 hb4).mono HB0.o.size)⟩
  ·go_enter Tryz.func84,Tryz.ntmps84
   go_upto_region 1 with fail
   rw[HW0.o]
   clear HW0
   go_wp2_with (go_at_call 80;(with_reducible refine Ab.o.mono ?_);rintro r w1 ⟨rfl,hb1⟩;have A9:=ZZ (Ah.o.on hb1 hlr);have hl1:w.heap.size<w1.heap.size:=zLt hlr hb1.size;clear a0 a1 a2 a3 a4 a5 a6 a7 a8;obtain⟨a0,a1,a2,a3,a4,a5,a6,a7,a8⟩:=A9.o.ev)
   go_region_law (first
    | (rw[if_pos (by rfl)];go_simp;go_at_call 138;refine (AY.o _ (hb1.trans ((Below.refl w1.heap.size w1).drew.mono hb1.size))).mono ?_;rintro r w2 ⟨bm,rfl,hS2,hb2'⟩;have hb2:Bw w1 w2:=(Below.refl w1.heap.size w1).drew.trans hb2';have HE2:=ZZ (A9.o.on hb2 hl1);have HS2:=ZZ hS2;obtain⟨d0,d1,d2,d3,d4,d5,d6,d7,d8⟩:=HE2.o.ev)
    | (rw[if_pos (by rfl)];go_simp;go_at_call 139;refine (C8.o bm w2 HS2.o).mono ?_;rintro r w3 ⟨rfl,hb3⟩))
   all_goals
    have hb13:=hb1.trans ((zTr hb2 hb3).mono hb1.size)
    have BI:=ZZ (Bd.o bm w3 (HS2.o.on hb3) (HX0.o.below hb13))
    go_wp2_with (go_at_call 179;(with_reducible refine BI.o.mono ?_);rintro r w4 ⟨rfl,hb4⟩)
    go_ret
    exact⟨by first|rfl|simp,HB0.o.trans ((zTr hb13 hb4).mono HB0.o.size)⟩
  ·go_enter Tryz.func84,Tryz.ntmps84
   go_upto_region 1 with fail
   rw[HW0.o]
   clear HW0
   go_wp2_with (go_at_call 80;(with_reducible refine Ab.o.mono ?_);rintro r w1 ⟨rfl,hb1⟩;have A9:=ZZ (Ah.o.on hb1 hlr);have hl1:w.heap.size<w1.heap.size:=zLt hlr hb1.size;clear a0 a1 a2 a3 a4 a5 a6 a7 a8;obtain⟨a0,a1,a2,a3,a4,a5,a6,a7,a8⟩:=A9.o.ev)
   go_region_law (first
    | (rw[if_pos (by rfl)];go_simp;go_at_call 138;refine (AY.o _ (hb1.trans ((Below.refl w1.heap.size w1).drew.mono hb1.size))).mono ?_;rintro r w2 ⟨bm,rfl,hS2,hb2'⟩;have hb2:Bw w1 w2:=(Below.refl w1.heap.size w1).drew.trans hb2';have HE2:=ZZ (A9.o.on hb2 hl1);have HS2:=ZZ hS2;obtain⟨d0,d1,d2,d3,d4,d5,d6,d7,d8⟩:=HE2.o.ev)
    | (rw[if_pos (by rfl)];go_simp;go_at_call 139;refine (C8.o bm w2 HS2.o).mono ?_;rintro r w3 ⟨rfl,hb3⟩))
   all_goals
    have hb13:=hb1.trans ((zTr hb2 hb3).mono hb1.size)
    have BI:=ZZ (Bd.o bm w3 (HS2.o.on hb3) (HX0.o.below hb13))
    go_wp2_with (go_at_call 180;(with_reducible refine BI.o.mono ?_);rintro r w4 ⟨rfl,hb4⟩)
    go_ret
    exact⟨by first|rfl|simp,HB0.o.trans ((zTr hb13 hb4).mono HB0.o.size)⟩
  ·go_enter Tryz.func84,Tryz.ntmps84
   go_upto_region 1 with fail
   rw[HW0.o]
   clear HW0
   go_wp2_with (go_at_call 80;(with_reducible refine Ab.o.mono ?_);rintro r w1 ⟨rfl,hb1⟩;have A9:=ZZ (Ah.o.on hb1 hlr);have hl1:w.heap.size<w1.heap.size:=zLt hlr hb1.size;clear a0 a1 a2 a3 a4 a5 a6 a7 a8;obtain⟨a0,a1,a2,a3,a4,a5,a6,a7,a8⟩:=A9.o.ev)
   go_region_law (first
    | (rw[if_pos (by rfl)];go_simp;go_at_call 138;refine (AY.o _ (hb1.trans ((Below.refl w1.heap.size w1).drew.mono hb1.size))).mono ?_;rintro r w2 ⟨bm,rfl,hS2,hb2'⟩;have hb2:Bw w1 w2:=(Below.refl w1.heap.size w1).drew.trans hb2';have HE2:=ZZ (A9.o.on hb2 hl1);have HS2:=ZZ hS2;obtain⟨d0,d1,d2,d3,d4,d5,d6,d7,d8⟩:=HE2.o.ev)
    | (rw[if_pos (by rfl)];go_simp;go_at_call 139;refine (C8.o bm w2 HS2.o).mono ?_;rintro r w3 ⟨rfl,hb3⟩))
   all_goals
    have hb13:=hb1.trans ((zTr hb2 hb3).mono hb1.size)
    have BI:=ZZ (Bd.o bm w3 (HS2.o.on hb3) (HX0.o.below hb13))
    go_wp2_with (go_at_call 181;(with_reducible refine BI.o.mono ?_);rintro r w4 ⟨rfl,hb4⟩)
    go_ret
    exact⟨by first|rfl|simp,HB0.o.trans ((zTr hb13 hb4).mono HB0.o.size)⟩

end Go.Proofs.YtfeebdcmlnapiaaGreat
