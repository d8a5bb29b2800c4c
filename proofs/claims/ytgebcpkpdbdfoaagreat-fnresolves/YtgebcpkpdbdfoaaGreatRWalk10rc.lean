/-
  Walks.
-/
import Derived.Test.YtgebcpkpdbdfoaaGreatRWalk10x
import Derived.Test.YtgebcpkpdbdfoaaGreatRWalk9b
set_option linter.unusedVariables false
set_option linter.unusedSimpArgs false
namespace Go.Proofs.YtgebcpkpdbdfoaaGreat
open Go.RowKit P5 P9 P12 P14 P15 K

theorem zjo (es:List EvV) (s:St) (e:EvV):z3e es s e=152∨z3e es s e=153∨z3e es s e=184∨z3e es s e=185∨z3e es s e=186∨z3e es s e=187∨z3e es s e=188∨z3e es s e=156∨z3e es s e=157∨z3e es s e=158:=by
 unfold z3e za7 z8v
 repeat' split
 all_goals simp

theorem zjq (b:Nat) (oa:Option Addr) (n cap:Nat) (es:List EvV) (s:St) (e:EvV) (xa:Option Addr) (xc:Nat) (xp:Value) (hok:evOk e=true) (hl20:e.levels.length≤1048576) (w:World) (hS:Scn w b oa n cap es s) (hx:IntsAt w xa e.levels.length xc e.levels) :
  Calls Tryz.prog (z3e es s e) #[trv b oa n cap e (.slice xa e.levels.length xc) xp] w fun r w'=>r=.returned (.bool (zc6 es s e))∧Below w.heap.size w w':=by
 have hse:=zar hok
 have hus:-1000000≤e.user∧e.user≤1000000:=by have:=zjm hok;omega
 unfold z3e zc6
 split
 ·exact zi3 b oa n cap es s e _ xp w hS
 ·split
  ·exact za3 b oa n cap e _ xp w
  ·split
   ·unfold za7 zi4
    split
    ·exact zff b oa n cap es s e _ xp hse w hS
    ·split
     ·exact zkt b oa n cap es s e _ xp hse w hS
     ·exact za3 b oa n cap e _ xp w
   ·split
    ·unfold z8v zfg outP z8u
     split
     ·exact zf6 b oa n cap es s e _ xp hse hus w hS
     ·split
      ·exact zf7 b oa n cap es s e _ xp hse hus w hS
      ·split
       ·exact zjb b oa n cap es s e _ xp hse hus w hS
       ·exact za3 b oa n cap e _ xp w
    ·split
     ·exact zi5 b oa n cap es s e xa xc xp hse hl20 w hS hx
     ·split
      ·exact zhr b oa n cap es s e _ xp hse hus w hS
      ·exact zja b oa n cap es s e _ xp hse w hS

set_option maxHeartbeats 16000000 in
theorem zca (oa:Option Addr) (n cap:Nat) (es:List EvV) (ob:Option Addr) (m cb:Nat) (s:St) (e:EvV) (xa:Option Addr) (xc:Nat) (ya:Option Addr) (yc:Nat) (hm20:m≤1048576) (hws:∀ y∈s,z6g y) (htx:e.text.length≤1048576) (hl20:e.levels.length≤1048576) (w:World) (hev:EvsAt w oa n cap es) (hit:ItemsAt w ob m cb s) (hx:IntsAt w xa e.levels.length xc e.levels) (hy:IntsAt w ya e.prev.length yc e.prev) :
  Calls Tryz.prog 49 #[.slice oa n cap,.slice ob m cb,evv e (.slice xa e.levels.length xc) (.slice ya e.prev.length yc)] w fun r w'=>r=.returned (.bool (z3d es s e))∧Below w.heap.size w w':=by
 obtain⟨W0,hW0⟩:∃ W0,w.alloc (.cells (zh e.id e.kind e.sender e.user e.member e.depth (.slice xa e.levels.length xc) (.slice ya e.prev.length yc) e.text) 47)=W0:=⟨_,rfl⟩
 have hb0:Below w.heap.size w W0:=by rw[← hW0];exact (Below.refl _ _).alloc (Nat.le_refl _) _
 have hE0:EB W0 w.heap.size e.id e.kind e.sender e.user e.member e.depth (.slice xa e.levels.length xc) (.slice ya e.prev.length yc) e.text:=by rw[← hW0];exact EB.new _ _ _ _ _ _ _ _ _ _
 have HB0:=hide hb0
 have Ar:=hide hE0
 have HW0:=hide hW0
 have Ap:=hide (zc9 e.id e.kind e.sender e.user e.member e.depth xa e.levels.length xc e.text ya e.prev.length yc e.levels e.prev htx W0 (hx.below hb0) (hy.below hb0))
 have hev':evOk (⟨e.id,e.kind,e.sender,e.user,e.member,e.levels,e.text,e.prev,e.depth⟩:EvV)=evOk e:=rfl
 rw[hev'] at Ap
 have Bz:=hide (fun W (h:Below W0.heap.size W0 W)=>zg8 oa n cap es ob m cb s hm20 hws W ((hev.below hb0).below h) ((hit.below hb0).below h))
 have Dh:=hide (fun b W (h:Scn W b oa n cap es s)=>zl9 b oa n cap es s e (.slice xa e.levels.length xc) (.slice ya e.prev.length yc) W h)
 have HX0:=hide (hx.below hb0)
 have DY:=hide (fun (hok:evOk e=true) b W (h:Scn W b oa n cap es s) hx=>zjq b oa n cap es s e xa xc (.slice ya e.prev.length yc) hok hl20 W h hx)
 have HF:=hide (zjo es s e)
 have hlr:=hE0.lt
 clear hW0 hb0 hE0 hev hit hx hy hev' hws
 unfold z3d
 cases hok:evOk e
 ·rw[hok] at Ap
  clear DY Dh Bz HF
  obtain⟨a0,a1,a2,a3,a4,a5,a6,a7,a8⟩:=Ar.out.ev
  go_enter Tryz.func49,Tryz.ntmps49
  go_upto_region 1 with fail
  rw[HW0.out]
  clear HW0
  go_wp2_with (go_at_call 102;(with_reducible refine Ap.out.mono ?_);rintro r w1 ⟨rfl,hb1⟩)
  go_ret
  exact⟨by first|rfl|simp,HB0.out.trans (hb1.mono HB0.out.size)⟩
 ·have BJ:=hide (DY.out hok)
  rw[hok] at Ap
  rw[Bool.true_and]
  clear DY hok
  generalize z3e es s e=F at Dh BJ HF
  generalize zc6 es s e=q at BJ ⊢
  have hF:=HF.out
  obtain⟨a0,a1,a2,a3,a4,a5,a6,a7,a8⟩:=Ar.out.ev
  clear HF
  rcases hF with rfl|rfl|rfl|rfl|rfl|rfl|rfl|rfl|rfl|rfl
  ·go_enter Tryz.func49,Tryz.ntmps49
   go_upto_region 1 with fail
   rw[HW0.out]
   clear HW0
   go_wp2_with (go_at_call 102;(with_reducible refine Ap.out.mono ?_);rintro r w1 ⟨rfl,hb1⟩;have Ah:=hide (Ar.out.on hb1 hlr);have hl1:w.heap.size<w1.heap.size:=Nat.lt_of_lt_of_le hlr hb1.size;clear a0 a1 a2 a3 a4 a5 a6 a7 a8;obtain⟨a0,a1,a2,a3,a4,a5,a6,a7,a8⟩:=Ah.out.ev)
   go_region_law (first
    | (rw[if_pos (by rfl)];go_simp;go_at_call 77;refine (Bz.out _ (hb1.trans ((Below.refl w1.heap.size w1).drew.mono hb1.size))).mono ?_;rintro r w2 ⟨bm,rfl,hS2,hb2'⟩;have hb2:Below w1.heap.size w1 w2:=(Below.refl w1.heap.size w1).drew.trans hb2';have HE2:=hide (Ah.out.on hb2 hl1);have HS2:=hide hS2;obtain⟨d0,d1,d2,d3,d4,d5,d6,d7,d8⟩:=HE2.out.ev)
    | (rw[if_pos (by rfl)];go_simp;go_at_call 103;refine (Dh.out bm w2 HS2.out).mono ?_;rintro r w3 ⟨rfl,hb3⟩))
   all_goals
    have hb13:=hb1.trans ((hb2.trans (hb3.mono hb2.size)).mono hb1.size)
    have Cw:=hide (BJ.out bm w3 (HS2.out.on hb3) (HX0.out.below hb13))
    go_wp2_with (go_at_call 152;(with_reducible refine Cw.out.mono ?_);rintro r w4 ⟨rfl,hb4⟩)
    go_ret
    exact⟨by first|rfl|simp,HB0.out.trans ((hb13.trans (hb4.mono hb13.size)).mono HB0.out.size)⟩
  ·go_enter Tryz.func49,Tryz.ntmps49
   go_upto_region 1 with fail
   rw[HW0.out]
   clear HW0
   go_wp2_with (go_at_call 102;(with_reducible refine Ap.out.mono ?_);rintro r w1 ⟨rfl,hb1⟩;have Ah:=hide (Ar.out.on hb1 hlr);have hl1:w.heap.size<w1.heap.size:=Nat.lt_of_lt_of_le hlr hb1.size;clear a0 a1 a2 a3 a4 a5 a6 a7 a8;obtain⟨a0,a1,a2,a3,a4,a5,a6,a7,a8⟩:=Ah.out.ev)
   go_region_law (first
    | (rw[if_pos (by rfl)];go_simp;go_at_call 77;refine (Bz.out _ (hb1.trans ((Below.refl w1.heap.size w1).drew.mono hb1.size))).mono ?_;rintro r w2 ⟨bm,rfl,hS2,hb2'⟩;have hb2:Below w1.heap.size w1 w2:=(Below.refl w1.heap.size w1).drew.trans hb2';have HE2:=hide (Ah.out.on hb2 hl1);have HS2:=hide hS2;obtain⟨d0,d1,d2,d3,d4,d5,d6,d7,d8⟩:=HE2.out.ev)
    | (rw[if_pos (by rfl)];go_simp;go_at_call 103;refine (Dh.out bm w2 HS2.out).mono ?_;rintro r w3 ⟨rfl,hb3⟩))
   all_goals
    have hb13:=hb1.trans ((hb2.trans (hb3.mono hb2.size)).mono hb1.size)
    have Cw:=hide (BJ.out bm w3 (HS2.out.on hb3) (HX0.out.below hb13))
    go_wp2_with (go_at_call 153;(with_reducible refine Cw.out.mono ?_);rintro r w4 ⟨rfl,hb4⟩)
    go_ret
    exact⟨by first|rfl|simp,HB0.out.trans ((hb13.trans (hb4.mono hb13.size)).mono HB0.out.size)⟩
  ·go_enter Tryz.func49,Tryz.ntmps49
   go_upto_region 1 with fail
   rw[HW0.out]
   clear HW0
   go_wp2_with (go_at_call 102;(with_reducible refine Ap.out.mono ?_);rintro r w1 ⟨rfl,hb1⟩;have Ah:=hide (Ar.out.on hb1 hlr);have hl1:w.heap.size<w1.heap.size:=Nat.lt_of_lt_of_le hlr hb1.size;clear a0 a1 a2 a3 a4 a5 a6 a7 a8;obtain⟨a0,a1,a2,a3,a4,a5,a6,a7,a8⟩:=Ah.out.ev)
   go_region_law (first
    | (rw[if_pos (by rfl)];go_simp;go_at_call 77;refine (Bz.out _ (hb1.trans ((Below.refl w1.heap.size w1).drew.mono hb1.size))).mono ?_;rintro r w2 ⟨bm,rfl,hS2,hb2'⟩;have hb2:Below w1.heap.size w1 w2:=(Below.refl w1.heap.size w1).drew.trans hb2';have HE2:=hide (Ah.out.on hb2 hl1);have HS2:=hide hS2;obtain⟨d0,d1,d2,d3,d4,d5,d6,d7,d8⟩:=HE2.out.ev)
    | (rw[if_pos (by rfl)];go_simp;go_at_call 103;refine (Dh.out bm w2 HS2.out).mono ?_;rintro r w3 ⟨rfl,hb3⟩))
   all_goals
    have hb13:=hb1.trans ((hb2.trans (hb3.mono hb2.size)).mono hb1.size)
    have Cw:=hide (BJ.out bm w3 (HS2.out.on hb3) (HX0.out.below hb13))
    go_wp2_with (go_at_call 184;(with_reducible refine Cw.out.mono ?_);rintro r w4 ⟨rfl,hb4⟩)
    go_ret
    exact⟨by first|rfl|simp,HB0.out.trans ((hb13.trans (hb4.mono hb13.size)).mono HB0.out.size)⟩
  ·go_enter Tryz.func49,Tryz.ntmps49
   go_upto_region 1 with fail
   rw[HW0.out]
   clear HW0
   go_wp2_with (go_at_call 102;(with_reducible refine Ap.out.mono ?_);rintro r w1 ⟨rfl,hb1⟩;have Ah:=hide (Ar.out.on hb1 hlr);have hl1:w.heap.size<w1.heap.size:=Nat.lt_of_lt_of_le hlr hb1.size;clear a0 a1 a2 a3 a4 a5 a6 a7 a8;obtain⟨a0,a1,a2,a3,a4,a5,a6,a7,a8⟩:=Ah.out.ev)
   go_region_law (first
    | (rw[if_pos (by rfl)];go_simp;go_at_call 77;refine (Bz.out _ (hb1.trans ((Below.refl w1.heap.size w1).drew.mono hb1.size))).mono ?_;rintro r w2 ⟨bm,rfl,hS2,hb2'⟩;have hb2:Below w1.heap.size w1 w2:=(Below.refl w1.heap.size w1).drew.trans hb2';have HE2:=hide (Ah.out.on hb2 hl1);have HS2:=hide hS2;obtain⟨d0,d1,d2,d3,d4,d5,d6,d7,d8⟩:=HE2.out.ev)
    | (rw[if_pos (by rfl)];go_simp;go_at_call 103;refine (Dh.out bm w2 HS2.out).mono ?_;rintro r w3 ⟨rfl,hb3⟩))
   all_goals
    have hb13:=hb1.trans ((hb2.trans (hb3.mono hb2.size)).mono hb1.size)
    have Cw:=hide (BJ.out bm w3 (HS2.out.on hb3) (HX0.out.below hb13))
    go_wp2_with (go_at_call 185;(with_reducible refine Cw.out.mono ?_);rintro r w4 ⟨rfl,hb4⟩)
    go_ret
    exact⟨by first|rfl|simp,HB0.out.trans ((hb13.trans (hb4.mono hb13.size)).mono HB0.out.size)⟩
  ·go_enter Tryz.func49,Tryz.ntmps49
   go_upto_region 1 with fail
   rw[HW0.out]
   clear HW0
   go_wp2_with (go_at_call 102;(with_reducible refine Ap.out.mono ?_);rintro r w1 ⟨rfl,hb1⟩;have Ah:=hide (Ar.out.on hb1 hlr);have hl1:w.heap.size<w1.heap.size:=Nat.lt_of_lt_of_le hlr hb1.size;clear a0 a1 a2 a3 a4 a5 a6 a7 a8;obtain⟨a0,a1,a2,a3,a4,a5,a6,a7,a8⟩:=Ah.out.ev)
   go_region_law (first
    | (rw[if_pos (by rfl)];go_simp;go_at_call 77;refine (Bz.out _ (hb1.trans ((Below.refl w1.heap.size w1).drew.mono hb1.size))).mono ?_;rintro r w2 ⟨bm,rfl,hS2,hb2'⟩;have hb2:Below w1.heap.size w1 w2:=(Below.refl w1.heap.size w1).drew.trans hb2';have HE2:=hide (Ah.out.on hb2 hl1);have HS2:=hide hS2;obtain⟨d0,d1,d2,d3,d4,d5,d6,d7,d8⟩:=HE2.out.ev)
    | (rw[if_pos (by rfl)];go_simp;go_at_call 103;refine (Dh.out bm w2 HS2.out).mono ?_;rintro r w3 ⟨rfl,hb3⟩))
   all_goals
    have hb13:=hb1.trans ((hb2.trans (hb3.mono hb2.size)).mono hb1.size)
    have Cw:=hide (BJ.out bm w3 (HS2.out.on hb3) (HX0.out.below hb13))
    go_wp2_with (go_at_call 186;(with_reducible refine Cw.out.mono ?_);rintro r w4 ⟨rfl,hb4⟩)
    go_ret
    exact⟨by first|rfl|simp,HB0.out.trans ((hb13.trans (hb4.mono hb13.size)).mono HB0.out.size)⟩
  ·go_enter Tryz.func49,Tryz.ntmps49
   go_upto_region 1 with fail
   rw[HW0.out]
   clear HW0
   go_wp2_with (go_at_call 102;(with_reducible refine Ap.out.mono ?_);rintro r w1 ⟨rfl,hb1⟩;have Ah:=hide (Ar.out.on hb1 hlr);have hl1:w.heap.size<w1.heap.size:=Nat.lt_of_lt_of_le hlr hb1.size;clear a0 a1 a2 a3 a4 a5 a6 a7 a8;obtain⟨a0,a1,a2,a3,a4,a5,a6,a7,a8⟩:=Ah.out.ev)
   go_region_law (first
    | (rw[if_pos (by rfl)];go_simp;go_at_call 77;refine (Bz.out _ (hb1.trans ((Below.refl w1.heap.size w1).drew.mono hb1.size))).mono ?_;rintro r w2 ⟨bm,rfl,hS2,hb2'⟩;have hb2:Below w1.heap.size w1 w2:=(Below.refl w1.heap.size w1).drew.trans hb2';have HE2:=hide (Ah.out.on hb2 hl1);have HS2:=hide hS2;obtain⟨d0,d1,d2,d3,d4,d5,d6,d7,d8⟩:=HE2.out.ev)
    | (rw[if_pos (by rfl)];go_simp;go_at_call 103;refine (Dh.out bm w2 HS2.out).mono ?_;rintro r w3 ⟨rfl,hb3⟩))
   all_goals
    have hb13:=hb1.trans ((hb2.trans (hb3.mono hb2.size)).mono hb1.size)
    have Cw:=hide (BJ.out bm w3 (HS2.out.on hb3) (HX0.out.below hb13))
    go_wp2_with (go_at_call 187;(with_reducible refine Cw.out.mono ?_);rintro r w4 ⟨rfl,hb4⟩)
    go_ret
    exact⟨by first|rfl|simp,HB0.out.trans ((hb13.trans (hb4.mono hb13.size)).mono HB0.out.size)⟩
  ·go_enter Tryz.func49,Tryz.ntmps49
   go_upto_region 1 with fail
   rw[HW0.out]
   clear HW0
   go_wp2_with (go_at_call 102;(with_reducible refine Ap.out.mono ?_);rintro r w1 ⟨rfl,hb1⟩;have Ah:=hide (Ar.out.on hb1 hlr);have hl1:w.heap.size<w1.heap.size:=Nat.lt_of_lt_of_le hlr hb1.size;clear a0 a1 a2 a3 a4 a5 a6 a7 a8;obtain⟨a0,a1,a2,a3,a4,a5,a6,a7,a8⟩:=Ah.out.ev)
   go_region_law (first
    | (rw[if_pos (by rfl)];go_simp;go_at_call 77;refine (Bz.out _ (hb1.trans ((Below.refl w1.heap.size w1).drew.mono hb1.size))).mono ?_;rintro r w2 ⟨bm,rfl,hS2,hb2'⟩;have hb2:Below w1.heap.size w1 w2:=(Below.refl w1.heap.size w1).drew.trans hb2';have HE2:=hide (Ah.out.on hb2 hl1);have HS2:=hide hS2;obtain⟨d0,d1,d2,d3,d4,d5,d6,d7,d8⟩:=HE2.out.ev)
    | (rw[if_pos (by rfl)];go_simp;go_at_call 103;refine (Dh.out bm w2 HS2.out).mono ?_;rintro r w3 ⟨rfl,hb3⟩))
   all_goals
    have hb13:=hb1.trans ((hb2.trans (hb3.mono hb2.size)).mono hb1.size)
    have Cw:=hide (BJ.out bm w3 (HS2.out.on hb3) (HX0.out.below hb13))
    go_wp2_with (go_at_call 188;(with_reducible refine Cw.out.mono ?_);rintro r w4 ⟨rfl,hb4⟩)
    go_ret
    exact⟨by first|rfl|simp,HB0.out.trans ((hb13.trans (hb4.mono hb13.size)).mono HB0.out.size)⟩
  ·go_enter Tryz.func49,Tryz.ntmps49
   go_upto_region 1 with fail
   rw[HW0.out]
   clear HW0
   go_wp2_with (go_at_call 102;(with_reducible refine Ap.out.mono ?_);rintro r w1 ⟨rfl,hb1⟩;have Ah:=hide (Ar.out.on hb1 hlr);have hl1:w.heap.size<w1.heap.size:=Nat.lt_of_lt_of_le hlr hb1.size;clear a0 a1 a2 a3 a4 a5 a6 a7 a8;obtain⟨a0,a1,a2,a3,a4,a5,a6,a7,a8⟩:=Ah.out.ev)
   go_region_law (first
    | (rw[if_pos (by rfl)];go_simp;go_at_call 77;refine (Bz.out _ (hb1.trans ((Below.refl w1.heap.size w1).drew.mono hb1.size))).mono ?_;rintro r w2 ⟨bm,rfl,hS2,hb2'⟩;have hb2:Below w1.heap.size w1 w2:=(Below.refl w1.heap.size w1).drew.trans hb2';have HE2:=hide (Ah.out.on hb2 hl1);have HS2:=hide hS2;obtain⟨d0,d1,d2,d3,d4,d5,d6,d7,d8⟩:=HE2.out.ev)
    | (rw[if_pos (by rfl)];go_simp;go_at_call 103;refine (Dh.out bm w2 HS2.out).mono ?_;rintro r w3 ⟨rfl,hb3⟩))
   all_goals
    have hb13:=hb1.trans ((hb2.trans (hb3.mono hb2.size)).mono hb1.size)
    have Cw:=hide (BJ.out bm w3 (HS2.out.on hb3) (HX0.out.below hb13))
    go_wp2_with (go_at_call 156;(with_reducible refine Cw.out.mono ?_);rintro r w4 ⟨rfl,hb4⟩)
    go_ret
    exact⟨by first|rfl|simp,HB0.out.trans ((hb13.trans (hb4.mono hb13.size)).mono HB0.out.size)⟩
  ·go_enter Tryz.func49,Tryz.ntmps49
   go_upto_region 1 with fail
   rw[HW0.out]
   clear HW0
   go_wp2_with (go_at_call 102;(with_reducible refine Ap.out.mono ?_);rintro r w1 ⟨rfl,hb1⟩;have Ah:=hide (Ar.out.on hb1 hlr);have hl1:w.heap.size<w1.heap.size:=Nat.lt_of_lt_of_le hlr hb1.size;clear a0 a1 a2 a3 a4 a5 a6 a7 a8;obtain⟨a0,a1,a2,a3,a4,a5,a6,a7,a8⟩:=Ah.out.ev)
   go_region_law (first
    | (rw[if_pos (by rfl)];go_simp;go_at_call 77;refine (Bz.out _ (hb1.trans ((Below.refl w1.heap.size w1).drew.mono hb1.size))).mono ?_;rintro r w2 ⟨bm,rfl,hS2,hb2'⟩;have hb2:Below w1.heap.size w1 w2:=(Below.refl w1.heap.size w1).drew.trans hb2';have HE2:=hide (Ah.out.on hb2 hl1);have HS2:=hide hS2;obtain⟨d0,d1,d2,d3,d4,d5,d6,d7,d8⟩:=HE2.out.ev)
    | (rw[if_pos (by rfl)];go_simp;go_at_call 103;refine (Dh.out bm w2 HS2.out).mono ?_;rintro r w3 ⟨rfl,hb3⟩))
   all_goals
    have hb13:=hb1.trans ((hb2.trans (hb3.mono hb2.size)).mono hb1.size)
    have Cw:=hide (BJ.out bm w3 (HS2.out.on hb3) (HX0.out.below hb13))
    go_wp2_with (go_at_call 157;(with_reducible refine Cw.out.mono ?_);rintro r w4 ⟨rfl,hb4⟩)
    go_ret
    exact⟨by first|rfl|simp,HB0.out.trans ((hb13.trans (hb4.mono hb13.size)).mono HB0.out.size)⟩
  ·go_enter Tryz.func49,Tryz.ntmps49
   go_upto_region 1 with fail
   rw[HW0.out]
   clear HW0
   go_wp2_with (go_at_call 102;(with_reducible refine Ap.out.mono ?_);rintro r w1 ⟨rfl,hb1⟩;have Ah:=hide (Ar.out.on hb1 hlr);have hl1:w.heap.size<w1.heap.size:=Nat.lt_of_lt_of_le hlr hb1.size;clear a0 a1 a2 a3 a4 a5 a6 a7 a8;obtain⟨a0,a1,a2,a3,a4,a5,a6,a7,a8⟩:=Ah.out.ev)
   go_region_law (first
    | (rw[if_pos (by rfl)];go_simp;go_at_call 77;refine (Bz.out _ (hb1.trans ((Below.refl w1.heap.size w1).drew.mono hb1.size))).mono ?_;rintro r w2 ⟨bm,rfl,hS2,hb2'⟩;have hb2:Below w1.heap.size w1 w2:=(Below.refl w1.heap.size w1).drew.trans hb2';have HE2:=hide (Ah.out.on hb2 hl1);have HS2:=hide hS2;obtain⟨d0,d1,d2,d3,d4,d5,d6,d7,d8⟩:=HE2.out.ev)
    | (rw[if_pos (by rfl)];go_simp;go_at_call 103;refine (Dh.out bm w2 HS2.out).mono ?_;rintro r w3 ⟨rfl,hb3⟩))
   all_goals
    have hb13:=hb1.trans ((hb2.trans (hb3.mono hb2.size)).mono hb1.size)
    have Cw:=hide (BJ.out bm w3 (HS2.out.on hb3) (HX0.out.below hb13))
    go_wp2_with (go_at_call 158;(with_reducible refine Cw.out.mono ?_);rintro r w4 ⟨rfl,hb4⟩)
    go_ret
    exact⟨by first|rfl|simp,HB0.out.trans ((hb13.trans (hb4.mono hb13.size)).mono HB0.out.size)⟩

end Go.Proofs.YtgebcpkpdbdfoaaGreat
