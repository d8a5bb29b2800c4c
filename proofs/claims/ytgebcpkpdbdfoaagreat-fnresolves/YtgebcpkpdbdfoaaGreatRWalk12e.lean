/-
  Walks.
-/
import Derived.Test.YtgebcpkpdbdfoaaGreatRWalk12d
set_option linter.unusedVariables false
set_option linter.unusedSimpArgs false
namespace Go.Proofs.YtgebcpkpdbdfoaaGreat
open Go.RowKit P5 P9 P12 P14 P15 K

structure AdS (w:World) (ve vs vg:Value) (e:EvV) (xl xp:Value) (W:World):Prop where
 bel:Below w.heap.size w W
 r:W.heap[w.heap.size]? = some (.cells #[ve,vs,vg] 41 (0,0))
 e:EB W (w.heap.size+1) e.id e.kind e.sender e.user e.member e.depth xl xp e.text
 rr:W.heap[w.heap.size+2]? = some (.cells #[.slice none 0 0,.slice none 0 0,.slice none 0 0] 41 (0,0))

theorem AdS.on {w:World} {ve vs vg:Value} {e:EvV} {xl xp:Value} {W W':World} (h:AdS w ve vs vg e xl xp W) (hb:Below W.heap.size W W'):AdS w ve vs vg e xl xp W' :=
 ⟨h.bel.trans (hb.mono h.bel.size),(hb.block _ (zf h.r)).trans h.r,h.e.on hb h.e.lt,(hb.block _ (zf h.rr)).trans h.rr⟩

theorem AdS.new (w:World) (ve vs vg:Value) (e:EvV) (xl xp:Value):AdS w ve vs vg e xl xp (((w.alloc (.cells #[ve,vs,vg] 41)).alloc (.cells (zh e.id e.kind e.sender e.user e.member e.depth xl xp e.text) 47)).alloc (.cells #[.slice none 0 0,.slice none 0 0,.slice none 0 0] 41)):=by
 have h1:Below w.heap.size w (w.alloc (.cells #[ve,vs,vg] 41)):=(Below.refl _ _).alloc (Nat.le_refl _) _
 obtain⟨w1,hw1⟩:∃ w1,w.alloc (.cells #[ve,vs,vg] 41)=w1:=⟨_,rfl⟩
 have hr1:w1.heap[w.heap.size]? = some (.cells #[ve,vs,vg] 41 (0,0)):=by rw[← hw1];exact heap_alloc_new _ _
 have hs1:w1.heap.size=w.heap.size+1:=by rw[← hw1];simp
 rw[hw1] at h1 ⊢
 clear hw1
 obtain⟨w2,hw2⟩:∃ w2,w1.alloc (.cells (zh e.id e.kind e.sender e.user e.member e.depth xl xp e.text) 47)=w2:=⟨_,rfl⟩
 have h2:Below w1.heap.size w1 w2:=by rw[← hw2];exact (Below.refl _ _).alloc (Nat.le_refl _) _
 have he2:EB w2 (w.heap.size+1) e.id e.kind e.sender e.user e.member e.depth xl xp e.text:=by rw[← hw2,← hs1];exact EB.new _ _ _ _ _ _ _ _ _ _
 have hs2:w2.heap.size=w.heap.size+2:=by rw[← hw2];simp[hs1]
 rw[hw2]
 clear hw2
 have h3:Below w2.heap.size w2 (w2.alloc (.cells #[.slice none 0 0,.slice none 0 0,.slice none 0 0] 41)):=(Below.refl _ _).alloc (Nat.le_refl _) _
 have h12:=h2.trans (h3.mono h2.size)
 refine⟨h1.trans (h12.mono h1.size),(h12.block _ (zf hr1)).trans hr1,he2.on h3 he2.lt,?_⟩
 rw[← hs2]
 exact heap_alloc_new _ _

set_option maxRecDepth 100000 in
set_option maxHeartbeats 8000000 in
theorem zhi (p:Nat) (ve vs vg:Value) (es:List EvV) (sts:List St) (e:EvV) (xa:Option Addr) (xc:Nat) (ya:Option Addr) (yc:Nat) (hinv:RInv es sts) (htx:e.text.length≤1048576) (hpl:e.prev.length≤65536) (w:World) (hp:p<w.heap.size) (hroom:RoomM p w ve vs vg es sts) (hlv:IntsAt (mask p w) xa e.levels.length xc e.levels) (hpv:IntsAt (mask p w) ya e.prev.length yc e.prev) :
  Calls Tryz.prog 80 #[rmv ve vs vg,evv e (.slice xa e.levels.length xc) (.slice ya e.prev.length yc)] w (zlw p w es sts e):=by
 obtain⟨xs,ys,zs,hX⟩:=hroom
 obtain⟨oa,cap,rfl,hev⟩:=z7j hX.es_ hX.ex
 obtain⟨so,sc,rfl,hst⟩:=z7k hX.ss_ hX.sx
 have hn40:=hinv.len
 have Df:=hide hinv.eqn
 have HX:=hide hX
 have Af:=hide hev.un
 have HST:=hide hst.un
 have HL:=hide hlv
 have HP:=hide hpv
 have Kz:=hide (show ∃ og cg,vg=.slice og es.length cg from by obtain⟨_,_,og,cg,h,_⟩:=hX.gs_;exact⟨og,cg,h⟩)
 obtain⟨W0,hW0⟩:∃ W0,(((w.alloc (.cells #[.slice oa es.length cap,.slice so sts.length sc,vg] 41)).alloc (.cells (zh e.id e.kind e.sender e.user e.member e.depth (.slice xa e.levels.length xc) (.slice ya e.prev.length yc) e.text) 47)).alloc (.cells #[.slice none 0 0,.slice none 0 0,.slice none 0 0] 41))=W0:=⟨_,rfl⟩
 have hA0:AdS w (.slice oa es.length cap) (.slice so sts.length sc) vg e (.slice xa e.levels.length xc) (.slice ya e.prev.length yc) W0:=by rw[← hW0];exact AdS.new _ _ _ _ _ _ _
 have HW0:=hide hW0
 have JM:=hide hA0
 have G8:=hide (z9i oa es.length cap es so sts.length sc sts vg ya e.prev.length yc e.prev (by omega) hpl hinv.fine (fun s hs=>by have:=(hinv.st s hs).len;omega) (fun s hs x hx=>((hinv.st s hs).wide x hx).2) W0 (Af.out.below hA0.bel) (HST.out.below hA0.bel) (HP.out.un.below hA0.bel))
 have Mk:=hide (show (z2r es sts e.prev).getD []=befS es sts e.prev from rfl)
 have hbl16:=(zaw hinv.ids hinv.st e.prev).len
 have Bq:=hide (show z1c es sts e=((z2r es sts e.prev).isSome&&(evOk e&&(decide (hasI es e.id<0)&&((e.depth==z3r es e.prev)&&decide (es.length<40))))) from rfl)
 obtain⟨r0,r1,r2⟩:W0.cell? ⟨w.heap.size,0,none⟩=some (.slice oa es.length cap)∧W0.cell? ⟨w.heap.size,1,none⟩=some (.slice so sts.length sc)∧W0.cell? ⟨w.heap.size,2,none⟩=some vg:=⟨za hA0.r 0 rfl,za hA0.r 1 rfl,za hA0.r 2 rfl⟩
 obtain⟨t0,t1,t2,t3,t4,t5,t6,t7,t8⟩:=hA0.e.ev
 clear hX hev hst hlv hpv hA0 hW0
 go_enter Tryz.func80,Tryz.ntmps80
 go_upto_region 1 with fail
 rw[HW0.out]
 go_upto_region 2 with (go_at_call 87;(with_reducible refine G8.out.mono ?_);rintro r w1 ⟨v1,rfl,ho1,hb1⟩;obtain⟨o1,c1,rfl⟩:=zb ho1)
 rw[Mk.out] at ho1 ⊢
 have BF:=hide (zq ho1 JM.out.bel.size)
 have HA1:=hide (JM.out.on hb1)
 clear ho1 hb1 r0 r1 r2 t0 t1 t2 t3 t4 t5 t6 t7 t8 G8 HW0
 have Ap:=hide (fun w2 (h:Below w1.heap.size w1 w2)=>z81 e.id e.kind e.sender e.user e.member e.depth xa e.levels.length xc e.text ya e.prev.length yc e.levels e.prev htx w2 (HL.out.un.below (HA1.out.bel.trans (h.mono HA1.out.bel.size))) (HP.out.un.below (HA1.out.bel.trans (h.mono HA1.out.bel.size))))
 have Ga:=hide (fun w2 (h:Below w1.heap.size w1 w2)=>z90 oa es.length cap es (.slice so sts.length sc) vg e.id w2 (Af.out.below (HA1.out.bel.trans (h.mono HA1.out.bel.size))))
 have CG:=hide (fun w2 (h:Below w1.heap.size w1 w2)=>z7z oa es.length cap es (.slice so sts.length sc) vg ya e.prev.length yc e.prev w2 (Af.out.below (HA1.out.bel.trans (h.mono HA1.out.bel.size))) (HP.out.un.below (HA1.out.bel.trans (h.mono HA1.out.bel.size))))
 rw[show evOk (⟨e.id,e.kind,e.sender,e.user,e.member,e.levels,e.text,e.prev,e.depth⟩:EvV)=evOk e from rfl] at Ap
 have hlr:w.heap.size<w1.heap.size:=zf HA1.out.r
 have hle:w.heap.size+1<w1.heap.size:=HA1.out.e.lt
 obtain⟨r0,r1,r2⟩:w1.cell? ⟨w.heap.size,0,none⟩=some (.slice oa es.length cap)∧w1.cell? ⟨w.heap.size,1,none⟩=some (.slice so sts.length sc)∧w1.cell? ⟨w.heap.size,2,none⟩=some vg:=⟨za HA1.out.r 0 rfl,za HA1.out.r 1 rfl,za HA1.out.r 2 rfl⟩
 obtain⟨t0,t1,t2,t3,t4,t5,t6,t7,t8⟩:=HA1.out.e.ev
 generalize (z2r es sts e.prev).isSome=b1 at Bq ⊢
 generalize evOk e=b2 at Bq Ap
 generalize hasI es e.id=hk at Bq Ga
 generalize z3r es e.prev=D at Bq CG
 cases b1
 ·have HF:=hide (show z1c es sts e=false by rw[Bq.out];rfl)
  refine zy (F:=Bw w1) (by kernel_rfl) (by kernel_rfl) (Below.refl _ _).drew ?_
  have hne:Nonempty (InW (Bw w1)):=⟨⟨_,Below.refl _ _⟩⟩
  have k0:∀ m:InW (Bw w1),m.w.cell? ⟨w.heap.size,0,none⟩=some (.slice oa es.length cap):=fun m=>(m.h.cell hlr).trans r0
  have k1:∀ m:InW (Bw w1),m.w.cell? ⟨w.heap.size,1,none⟩=some (.slice so sts.length sc):=fun m=>(m.h.cell hlr).trans r1
  have k2:∀ m:InW (Bw w1),m.w.cell? ⟨w.heap.size,2,none⟩=some vg:=fun m=>(m.h.cell hlr).trans r2
  have z0:∀ m:InW (Bw w1),m.w.cell? ⟨w.heap.size+1,0,none⟩=some (.int .i64 e.id):=fun m=>(m.h.cell hle).trans t0
  have z1:∀ m:InW (Bw w1),m.w.cell? ⟨w.heap.size+1,1,none⟩=some (.int .i64 e.kind):=fun m=>(m.h.cell hle).trans t1
  have z2:∀ m:InW (Bw w1),m.w.cell? ⟨w.heap.size+1,2,none⟩=some (.int .i64 e.sender):=fun m=>(m.h.cell hle).trans t2
  have z3:∀ m:InW (Bw w1),m.w.cell? ⟨w.heap.size+1,3,none⟩=some (.int .i64 e.user):=fun m=>(m.h.cell hle).trans t3
  have z4:∀ m:InW (Bw w1),m.w.cell? ⟨w.heap.size+1,4,none⟩=some (.int .i64 e.member):=fun m=>(m.h.cell hle).trans t4
  have z5:∀ m:InW (Bw w1),m.w.cell? ⟨w.heap.size+1,5,none⟩=some (.slice xa e.levels.length xc):=fun m=>(m.h.cell hle).trans t5
  have z6:∀ m:InW (Bw w1),m.w.cell? ⟨w.heap.size+1,6,none⟩=some (.string ⟨e.text.toArray⟩):=fun m=>(m.h.cell hle).trans t6
  have z7:∀ m:InW (Bw w1),m.w.cell? ⟨w.heap.size+1,7,none⟩=some (.slice ya e.prev.length yc):=fun m=>(m.h.cell hle).trans t7
  have z8:∀ m:InW (Bw w1),m.w.cell? ⟨w.heap.size+1,8,none⟩=some (.int .i64 e.depth):=fun m=>(m.h.cell hle).trans t8
  repeat (go_big_quiet_step (first
   | (go_at_call 110;(with_reducible refine (Ap.out _ (InW.h (F:=Bw w1) _)).mono ?_);rintro e' w2 ⟨rfl,hb2⟩;exact⟨rfl,⟨w2,Below.trans (InW.h _) (hb2.mono (Below.size (InW.h (F:=Bw w1) ‹_›)))⟩,rfl⟩)
   | (go_at_call 126;(with_reducible refine (Ga.out _ (InW.h (F:=Bw w1) _)).mono ?_);rintro e' w2 ⟨rfl,hb2⟩;exact⟨rfl,⟨w2,Below.trans (InW.h _) (hb2.mono (Below.size (InW.h (F:=Bw w1) ‹_›)))⟩,rfl⟩)
   | (go_at_call 125;(with_reducible refine (CG.out _ (InW.h (F:=Bw w1) _)).mono ?_);rintro e' w2 ⟨rfl,hb2⟩;exact⟨rfl,⟨w2,Below.trans (InW.h _) (hb2.mono (Below.size (InW.h (F:=Bw w1) ‹_›)))⟩,rfl⟩)))
  refine wpQuiet_nil ?_
  intro _ hw'
  obtain⟨nq,hw''⟩:=hw'
  subst hw''
  have hnq:=nq.h
  generalize nq.w=w3 at hnq ⊢
  have Ao:=hide (HA1.out.on hnq)
  have Ba:=hide (own_below BF.out hnq)
  clear hne k0 k1 k2 z0 z1 z2 z3 z4 z5 z6 z7 z8 r0 r1 r2 t0 t1 t2 t3 t4 t5 t6 t7 t8
  have q0:=za Ao.out.rr 0 rfl
  have q1:=za Ao.out.rr 1 rfl
  have q2:=za Ao.out.rr 2 rfl
  have y0:=zn Ao.out.rr 0
  have y1:=zn Ao.out.rr 1
  have y2:=zn Ao.out.rr 2
  go_wp2_with fail
  obtain⟨w9,hw9⟩:∃ w9,(((w3.setCell ⟨w.heap.size+2,0,none⟩ (.slice none 0 0)).setCell ⟨w.heap.size+2,1,none⟩ (.slice none 0 0)).setCell ⟨w.heap.size+2,2,none⟩ (.slice none 0 0))=w9:=⟨_,rfl⟩
  obtain⟨hr,hg9⟩:=z0c [.slice none 0 0,.slice none 0 0,.slice none 0 0] w3 _ 0 Ao.out.rr
  rw[show w3.setCells (w.heap.size+2) 0 [.slice none 0 0,.slice none 0 0,.slice none 0 0]=w9 from hw9] at hr hg9
  rw[hw9]
  clear q0 q1 q2 y0 y1 y2
  have q0:w9.cell? ⟨w.heap.size+2,0,none⟩=some (.slice none 0 0):=za hr 0 rfl
  have q1:w9.cell? ⟨w.heap.size+2,1,none⟩=some (.slice none 0 0):=za hr 1 rfl
  have q2:w9.cell? ⟨w.heap.size+2,2,none⟩=some (.slice none 0 0):=za hr 2 rfl
  refine bodyPost_ret (v:=.tuple #[rmv (.slice none 0 0) (.slice none 0 0) (.slice none 0 0),.bool false]) (by simp[results,Tryz.results80,go_sem,q0,q1,q2]) rfl ?_
  exact⟨_,_,_,by rw[HF.out],(fun h=>by rw[HF.out] at h;cases h),(fun _=>⟨rfl,rfl,rfl⟩),Ao.out.bel.grown hg9 Ao.out.bel.size (fun k hk=>by cases hk;omega)⟩
 ·cases b2
  ·have HF:=hide (show z1c es sts e=false by rw[Bq.out];rfl)
   refine zy (F:=Bw w1) (by kernel_rfl) (by kernel_rfl) (Below.refl _ _).drew ?_
   have hne:Nonempty (InW (Bw w1)):=⟨⟨_,Below.refl _ _⟩⟩
   have k0:∀ m:InW (Bw w1),m.w.cell? ⟨w.heap.size,0,none⟩=some (.slice oa es.length cap):=fun m=>(m.h.cell hlr).trans r0
   have k1:∀ m:InW (Bw w1),m.w.cell? ⟨w.heap.size,1,none⟩=some (.slice so sts.length sc):=fun m=>(m.h.cell hlr).trans r1
   have k2:∀ m:InW (Bw w1),m.w.cell? ⟨w.heap.size,2,none⟩=some vg:=fun m=>(m.h.cell hlr).trans r2
   have z0:∀ m:InW (Bw w1),m.w.cell? ⟨w.heap.size+1,0,none⟩=some (.int .i64 e.id):=fun m=>(m.h.cell hle).trans t0
   have z1:∀ m:InW (Bw w1),m.w.cell? ⟨w.heap.size+1,1,none⟩=some (.int .i64 e.kind):=fun m=>(m.h.cell hle).trans t1
   have z2:∀ m:InW (Bw w1),m.w.cell? ⟨w.heap.size+1,2,none⟩=some (.int .i64 e.sender):=fun m=>(m.h.cell hle).trans t2
   have z3:∀ m:InW (Bw w1),m.w.cell? ⟨w.heap.size+1,3,none⟩=some (.int .i64 e.user):=fun m=>(m.h.cell hle).trans t3
   have z4:∀ m:InW (Bw w1),m.w.cell? ⟨w.heap.size+1,4,none⟩=some (.int .i64 e.member):=fun m=>(m.h.cell hle).trans t4
   have z5:∀ m:InW (Bw w1),m.w.cell? ⟨w.heap.size+1,5,none⟩=some (.slice xa e.levels.length xc):=fun m=>(m.h.cell hle).trans t5
   have z6:∀ m:InW (Bw w1),m.w.cell? ⟨w.heap.size+1,6,none⟩=some (.string ⟨e.text.toArray⟩):=fun m=>(m.h.cell hle).trans t6
   have z7:∀ m:InW (Bw w1),m.w.cell? ⟨w.heap.size+1,7,none⟩=some (.slice ya e.prev.length yc):=fun m=>(m.h.cell hle).trans t7
   have z8:∀ m:InW (Bw w1),m.w.cell? ⟨w.heap.size+1,8,none⟩=some (.int .i64 e.depth):=fun m=>(m.h.cell hle).trans t8
   repeat (go_big_quiet_step (first
    | (go_at_call 110;(with_reducible refine (Ap.out _ (InW.h (F:=Bw w1) _)).mono ?_);rintro e' w2 ⟨rfl,hb2⟩;exact⟨rfl,⟨w2,Below.trans (InW.h _) (hb2.mono (Below.size (InW.h (F:=Bw w1) ‹_›)))⟩,rfl⟩)
    | (go_at_call 126;(with_reducible refine (Ga.out _ (InW.h (F:=Bw w1) _)).mono ?_);rintro e' w2 ⟨rfl,hb2⟩;exact⟨rfl,⟨w2,Below.trans (InW.h _) (hb2.mono (Below.size (InW.h (F:=Bw w1) ‹_›)))⟩,rfl⟩)
    | (go_at_call 125;(with_reducible refine (CG.out _ (InW.h (F:=Bw w1) _)).mono ?_);rintro e' w2 ⟨rfl,hb2⟩;exact⟨rfl,⟨w2,Below.trans (InW.h _) (hb2.mono (Below.size (InW.h (F:=Bw w1) ‹_›)))⟩,rfl⟩)))
   refine wpQuiet_nil ?_
   intro _ hw'
   obtain⟨nq,hw''⟩:=hw'
   subst hw''
   have hnq:=nq.h
   generalize nq.w=w3 at hnq ⊢
   have Ao:=hide (HA1.out.on hnq)
   have Ba:=hide (own_below BF.out hnq)
   clear hne k0 k1 k2 z0 z1 z2 z3 z4 z5 z6 z7 z8 r0 r1 r2 t0 t1 t2 t3 t4 t5 t6 t7 t8
   have q0:=za Ao.out.rr 0 rfl
   have q1:=za Ao.out.rr 1 rfl
   have q2:=za Ao.out.rr 2 rfl
   have y0:=zn Ao.out.rr 0
   have y1:=zn Ao.out.rr 1
   have y2:=zn Ao.out.rr 2
   go_wp2_with fail
   obtain⟨w9,hw9⟩:∃ w9,(((w3.setCell ⟨w.heap.size+2,0,none⟩ (.slice none 0 0)).setCell ⟨w.heap.size+2,1,none⟩ (.slice none 0 0)).setCell ⟨w.heap.size+2,2,none⟩ (.slice none 0 0))=w9:=⟨_,rfl⟩
   obtain⟨hr,hg9⟩:=z0c [.slice none 0 0,.slice none 0 0,.slice none 0 0] w3 _ 0 Ao.out.rr
   rw[show w3.setCells (w.heap.size+2) 0 [.slice none 0 0,.slice none 0 0,.slice none 0 0]=w9 from hw9] at hr hg9
   rw[hw9]
   clear q0 q1 q2 y0 y1 y2
   have q0:w9.cell? ⟨w.heap.size+2,0,none⟩=some (.slice none 0 0):=za hr 0 rfl
   have q1:w9.cell? ⟨w.heap.size+2,1,none⟩=some (.slice none 0 0):=za hr 1 rfl
   have q2:w9.cell? ⟨w.heap.size+2,2,none⟩=some (.slice none 0 0):=za hr 2 rfl
   refine bodyPost_ret (v:=.tuple #[rmv (.slice none 0 0) (.slice none 0 0) (.slice none 0 0),.bool false]) (by simp[results,Tryz.results80,go_sem,q0,q1,q2]) rfl ?_
   exact⟨_,_,_,by rw[HF.out],(fun h=>by rw[HF.out] at h;cases h),(fun _=>⟨rfl,rfl,rfl⟩),Ao.out.bel.grown hg9 Ao.out.bel.size (fun k hk=>by cases hk;omega)⟩
  ·by_cases hk0:0≤hk
   ·have HF:=hide (show z1c es sts e=false by rw[Bq.out,decide_eq_false (show ¬ hk<0 by omega)];rfl)
    refine zy (F:=Bw w1) (by kernel_rfl) (by kernel_rfl) (Below.refl _ _).drew ?_
    have hne:Nonempty (InW (Bw w1)):=⟨⟨_,Below.refl _ _⟩⟩
    have k0:∀ m:InW (Bw w1),m.w.cell? ⟨w.heap.size,0,none⟩=some (.slice oa es.length cap):=fun m=>(m.h.cell hlr).trans r0
    have k1:∀ m:InW (Bw w1),m.w.cell? ⟨w.heap.size,1,none⟩=some (.slice so sts.length sc):=fun m=>(m.h.cell hlr).trans r1
    have k2:∀ m:InW (Bw w1),m.w.cell? ⟨w.heap.size,2,none⟩=some vg:=fun m=>(m.h.cell hlr).trans r2
    have z0:∀ m:InW (Bw w1),m.w.cell? ⟨w.heap.size+1,0,none⟩=some (.int .i64 e.id):=fun m=>(m.h.cell hle).trans t0
    have z1:∀ m:InW (Bw w1),m.w.cell? ⟨w.heap.size+1,1,none⟩=some (.int .i64 e.kind):=fun m=>(m.h.cell hle).trans t1
    have z2:∀ m:InW (Bw w1),m.w.cell? ⟨w.heap.size+1,2,none⟩=some (.int .i64 e.sender):=fun m=>(m.h.cell hle).trans t2
    have z3:∀ m:InW (Bw w1),m.w.cell? ⟨w.heap.size+1,3,none⟩=some (.int .i64 e.user):=fun m=>(m.h.cell hle).trans t3
    have z4:∀ m:InW (Bw w1),m.w.cell? ⟨w.heap.size+1,4,none⟩=some (.int .i64 e.member):=fun m=>(m.h.cell hle).trans t4
    have z5:∀ m:InW (Bw w1),m.w.cell? ⟨w.heap.size+1,5,none⟩=some (.slice xa e.levels.length xc):=fun m=>(m.h.cell hle).trans t5
    have z6:∀ m:InW (Bw w1),m.w.cell? ⟨w.heap.size+1,6,none⟩=some (.string ⟨e.text.toArray⟩):=fun m=>(m.h.cell hle).trans t6
    have z7:∀ m:InW (Bw w1),m.w.cell? ⟨w.heap.size+1,7,none⟩=some (.slice ya e.prev.length yc):=fun m=>(m.h.cell hle).trans t7
    have z8:∀ m:InW (Bw w1),m.w.cell? ⟨w.heap.size+1,8,none⟩=some (.int .i64 e.depth):=fun m=>(m.h.cell hle).trans t8
    repeat (go_big_quiet_step (first
     | (go_at_call 110;(with_reducible refine (Ap.out _ (InW.h (F:=Bw w1) _)).mono ?_);rintro e' w2 ⟨rfl,hb2⟩;exact⟨rfl,⟨w2,Below.trans (InW.h _) (hb2.mono (Below.size (InW.h (F:=Bw w1) ‹_›)))⟩,rfl⟩)
     | (go_at_call 126;(with_reducible refine (Ga.out _ (InW.h (F:=Bw w1) _)).mono ?_);rintro e' w2 ⟨rfl,hb2⟩;exact⟨rfl,⟨w2,Below.trans (InW.h _) (hb2.mono (Below.size (InW.h (F:=Bw w1) ‹_›)))⟩,rfl⟩)
     | (go_at_call 125;(with_reducible refine (CG.out _ (InW.h (F:=Bw w1) _)).mono ?_);rintro e' w2 ⟨rfl,hb2⟩;exact⟨rfl,⟨w2,Below.trans (InW.h _) (hb2.mono (Below.size (InW.h (F:=Bw w1) ‹_›)))⟩,rfl⟩)))
    refine wpQuiet_nil ?_
    intro _ hw'
    obtain⟨nq,hw''⟩:=hw'
    subst hw''
    have hnq:=nq.h
    generalize nq.w=w3 at hnq ⊢
    have Ao:=hide (HA1.out.on hnq)
    have Ba:=hide (own_below BF.out hnq)
    clear hne k0 k1 k2 z0 z1 z2 z3 z4 z5 z6 z7 z8 r0 r1 r2 t0 t1 t2 t3 t4 t5 t6 t7 t8
    have q0:=za Ao.out.rr 0 rfl
    have q1:=za Ao.out.rr 1 rfl
    have q2:=za Ao.out.rr 2 rfl
    have y0:=zn Ao.out.rr 0
    have y1:=zn Ao.out.rr 1
    have y2:=zn Ao.out.rr 2
    go_wp2_with fail
    obtain⟨w9,hw9⟩:∃ w9,(((w3.setCell ⟨w.heap.size+2,0,none⟩ (.slice none 0 0)).setCell ⟨w.heap.size+2,1,none⟩ (.slice none 0 0)).setCell ⟨w.heap.size+2,2,none⟩ (.slice none 0 0))=w9:=⟨_,rfl⟩
    obtain⟨hr,hg9⟩:=z0c [.slice none 0 0,.slice none 0 0,.slice none 0 0] w3 _ 0 Ao.out.rr
    rw[show w3.setCells (w.heap.size+2) 0 [.slice none 0 0,.slice none 0 0,.slice none 0 0]=w9 from hw9] at hr hg9
    rw[hw9]
    clear q0 q1 q2 y0 y1 y2
    have q0:w9.cell? ⟨w.heap.size+2,0,none⟩=some (.slice none 0 0):=za hr 0 rfl
    have q1:w9.cell? ⟨w.heap.size+2,1,none⟩=some (.slice none 0 0):=za hr 1 rfl
    have q2:w9.cell? ⟨w.heap.size+2,2,none⟩=some (.slice none 0 0):=za hr 2 rfl
    refine bodyPost_ret (v:=.tuple #[rmv (.slice none 0 0) (.slice none 0 0) (.slice none 0 0),.bool false]) (by simp[results,Tryz.results80,go_sem,q0,q1,q2]) rfl ?_
    exact⟨_,_,_,by rw[HF.out],(fun h=>by rw[HF.out] at h;cases h),(fun _=>⟨rfl,rfl,rfl⟩),Ao.out.bel.grown hg9 Ao.out.bel.size (fun k hk=>by cases hk;omega)⟩
   ·cases hdp:(e.depth==D)
    ·have hdp2:=z0n hdp
     have HF:=hide (show z1c es sts e=false by rw[Bq.out,decide_eq_true (show hk<0 by omega),hdp];rfl)
     refine zy (F:=Bw w1) (by kernel_rfl) (by kernel_rfl) (Below.refl _ _).drew ?_
     have hne:Nonempty (InW (Bw w1)):=⟨⟨_,Below.refl _ _⟩⟩
     have k0:∀ m:InW (Bw w1),m.w.cell? ⟨w.heap.size,0,none⟩=some (.slice oa es.length cap):=fun m=>(m.h.cell hlr).trans r0
     have k1:∀ m:InW (Bw w1),m.w.cell? ⟨w.heap.size,1,none⟩=some (.slice so sts.length sc):=fun m=>(m.h.cell hlr).trans r1
     have k2:∀ m:InW (Bw w1),m.w.cell? ⟨w.heap.size,2,none⟩=some vg:=fun m=>(m.h.cell hlr).trans r2
     have z0:∀ m:InW (Bw w1),m.w.cell? ⟨w.heap.size+1,0,none⟩=some (.int .i64 e.id):=fun m=>(m.h.cell hle).trans t0
     have z1:∀ m:InW (Bw w1),m.w.cell? ⟨w.heap.size+1,1,none⟩=some (.int .i64 e.kind):=fun m=>(m.h.cell hle).trans t1
     have z2:∀ m:InW (Bw w1),m.w.cell? ⟨w.heap.size+1,2,none⟩=some (.int .i64 e.sender):=fun m=>(m.h.cell hle).trans t2
     have z3:∀ m:InW (Bw w1),m.w.cell? ⟨w.heap.size+1,3,none⟩=some (.int .i64 e.user):=fun m=>(m.h.cell hle).trans t3
     have z4:∀ m:InW (Bw w1),m.w.cell? ⟨w.heap.size+1,4,none⟩=some (.int .i64 e.member):=fun m=>(m.h.cell hle).trans t4
     have z5:∀ m:InW (Bw w1),m.w.cell? ⟨w.heap.size+1,5,none⟩=some (.slice xa e.levels.length xc):=fun m=>(m.h.cell hle).trans t5
     have z6:∀ m:InW (Bw w1),m.w.cell? ⟨w.heap.size+1,6,none⟩=some (.string ⟨e.text.toArray⟩):=fun m=>(m.h.cell hle).trans t6
     have z7:∀ m:InW (Bw w1),m.w.cell? ⟨w.heap.size+1,7,none⟩=some (.slice ya e.prev.length yc):=fun m=>(m.h.cell hle).trans t7
     have z8:∀ m:InW (Bw w1),m.w.cell? ⟨w.heap.size+1,8,none⟩=some (.int .i64 e.depth):=fun m=>(m.h.cell hle).trans t8
     repeat (go_big_quiet_step (first
      | (go_at_call 110;(with_reducible refine (Ap.out _ (InW.h (F:=Bw w1) _)).mono ?_);rintro e' w2 ⟨rfl,hb2⟩;exact⟨rfl,⟨w2,Below.trans (InW.h _) (hb2.mono (Below.size (InW.h (F:=Bw w1) ‹_›)))⟩,rfl⟩)
      | (go_at_call 126;(with_reducible refine (Ga.out _ (InW.h (F:=Bw w1) _)).mono ?_);rintro e' w2 ⟨rfl,hb2⟩;exact⟨rfl,⟨w2,Below.trans (InW.h _) (hb2.mono (Below.size (InW.h (F:=Bw w1) ‹_›)))⟩,rfl⟩)
      | (go_at_call 125;(with_reducible refine (CG.out _ (InW.h (F:=Bw w1) _)).mono ?_);rintro e' w2 ⟨rfl,hb2⟩;exact⟨rfl,⟨w2,Below.trans (InW.h _) (hb2.mono (Below.size (InW.h (F:=Bw w1) ‹_›)))⟩,rfl⟩)))
     refine wpQuiet_nil ?_
     intro _ hw'
     obtain⟨nq,hw''⟩:=hw'
     subst hw''
     have hnq:=nq.h
     generalize nq.w=w3 at hnq ⊢
     have Ao:=hide (HA1.out.on hnq)
     have Ba:=hide (own_below BF.out hnq)
     clear hne k0 k1 k2 z0 z1 z2 z3 z4 z5 z6 z7 z8 r0 r1 r2 t0 t1 t2 t3 t4 t5 t6 t7 t8
     have q0:=za Ao.out.rr 0 rfl
     have q1:=za Ao.out.rr 1 rfl
     have q2:=za Ao.out.rr 2 rfl
     have y0:=zn Ao.out.rr 0
     have y1:=zn Ao.out.rr 1
     have y2:=zn Ao.out.rr 2
     go_wp2_with fail
     obtain⟨w9,hw9⟩:∃ w9,(((w3.setCell ⟨w.heap.size+2,0,none⟩ (.slice none 0 0)).setCell ⟨w.heap.size+2,1,none⟩ (.slice none 0 0)).setCell ⟨w.heap.size+2,2,none⟩ (.slice none 0 0))=w9:=⟨_,rfl⟩
     obtain⟨hr,hg9⟩:=z0c [.slice none 0 0,.slice none 0 0,.slice none 0 0] w3 _ 0 Ao.out.rr
     rw[show w3.setCells (w.heap.size+2) 0 [.slice none 0 0,.slice none 0 0,.slice none 0 0]=w9 from hw9] at hr hg9
     rw[hw9]
     clear q0 q1 q2 y0 y1 y2
     have q0:w9.cell? ⟨w.heap.size+2,0,none⟩=some (.slice none 0 0):=za hr 0 rfl
     have q1:w9.cell? ⟨w.heap.size+2,1,none⟩=some (.slice none 0 0):=za hr 1 rfl
     have q2:w9.cell? ⟨w.heap.size+2,2,none⟩=some (.slice none 0 0):=za hr 2 rfl
     refine bodyPost_ret (v:=.tuple #[rmv (.slice none 0 0) (.slice none 0 0) (.slice none 0 0),.bool false]) (by simp[results,Tryz.results80,go_sem,q0,q1,q2]) rfl ?_
     exact⟨_,_,_,by rw[HF.out],(fun h=>by rw[HF.out] at h;cases h),(fun _=>⟨rfl,rfl,rfl⟩),Ao.out.bel.grown hg9 Ao.out.bel.size (fun k hk=>by cases hk;omega)⟩
    ·have hdp2:=z0n hdp
     by_cases hlen:(40:Int)≤(es.length:Int)
     ·have HF:=hide (show z1c es sts e=false by rw[Bq.out,decide_eq_true (show hk<0 by omega),hdp,decide_eq_false (show ¬ es.length<40 by omega)];rfl)
      refine zy (F:=Bw w1) (by kernel_rfl) (by kernel_rfl) (Below.refl _ _).drew ?_
      have hne:Nonempty (InW (Bw w1)):=⟨⟨_,Below.refl _ _⟩⟩
      have k0:∀ m:InW (Bw w1),m.w.cell? ⟨w.heap.size,0,none⟩=some (.slice oa es.length cap):=fun m=>(m.h.cell hlr).trans r0
      have k1:∀ m:InW (Bw w1),m.w.cell? ⟨w.heap.size,1,none⟩=some (.slice so sts.length sc):=fun m=>(m.h.cell hlr).trans r1
      have k2:∀ m:InW (Bw w1),m.w.cell? ⟨w.heap.size,2,none⟩=some vg:=fun m=>(m.h.cell hlr).trans r2
      have z0:∀ m:InW (Bw w1),m.w.cell? ⟨w.heap.size+1,0,none⟩=some (.int .i64 e.id):=fun m=>(m.h.cell hle).trans t0
      have z1:∀ m:InW (Bw w1),m.w.cell? ⟨w.heap.size+1,1,none⟩=some (.int .i64 e.kind):=fun m=>(m.h.cell hle).trans t1
      have z2:∀ m:InW (Bw w1),m.w.cell? ⟨w.heap.size+1,2,none⟩=some (.int .i64 e.sender):=fun m=>(m.h.cell hle).trans t2
      have z3:∀ m:InW (Bw w1),m.w.cell? ⟨w.heap.size+1,3,none⟩=some (.int .i64 e.user):=fun m=>(m.h.cell hle).trans t3
      have z4:∀ m:InW (Bw w1),m.w.cell? ⟨w.heap.size+1,4,none⟩=some (.int .i64 e.member):=fun m=>(m.h.cell hle).trans t4
      have z5:∀ m:InW (Bw w1),m.w.cell? ⟨w.heap.size+1,5,none⟩=some (.slice xa e.levels.length xc):=fun m=>(m.h.cell hle).trans t5
      have z6:∀ m:InW (Bw w1),m.w.cell? ⟨w.heap.size+1,6,none⟩=some (.string ⟨e.text.toArray⟩):=fun m=>(m.h.cell hle).trans t6
      have z7:∀ m:InW (Bw w1),m.w.cell? ⟨w.heap.size+1,7,none⟩=some (.slice ya e.prev.length yc):=fun m=>(m.h.cell hle).trans t7
      have z8:∀ m:InW (Bw w1),m.w.cell? ⟨w.heap.size+1,8,none⟩=some (.int .i64 e.depth):=fun m=>(m.h.cell hle).trans t8
      repeat (go_big_quiet_step (first
       | (go_at_call 110;(with_reducible refine (Ap.out _ (InW.h (F:=Bw w1) _)).mono ?_);rintro e' w2 ⟨rfl,hb2⟩;exact⟨rfl,⟨w2,Below.trans (InW.h _) (hb2.mono (Below.size (InW.h (F:=Bw w1) ‹_›)))⟩,rfl⟩)
       | (go_at_call 126;(with_reducible refine (Ga.out _ (InW.h (F:=Bw w1) _)).mono ?_);rintro e' w2 ⟨rfl,hb2⟩;exact⟨rfl,⟨w2,Below.trans (InW.h _) (hb2.mono (Below.size (InW.h (F:=Bw w1) ‹_›)))⟩,rfl⟩)
       | (go_at_call 125;(with_reducible refine (CG.out _ (InW.h (F:=Bw w1) _)).mono ?_);rintro e' w2 ⟨rfl,hb2⟩;exact⟨rfl,⟨w2,Below.trans (InW.h _) (hb2.mono (Below.size (InW.h (F:=Bw w1) ‹_›)))⟩,rfl⟩)))
      refine wpQuiet_nil ?_
      intro _ hw'
      obtain⟨nq,hw''⟩:=hw'
      subst hw''
      have hnq:=nq.h
      generalize nq.w=w3 at hnq ⊢
      have Ao:=hide (HA1.out.on hnq)
      have Ba:=hide (own_below BF.out hnq)
      clear hne k0 k1 k2 z0 z1 z2 z3 z4 z5 z6 z7 z8 r0 r1 r2 t0 t1 t2 t3 t4 t5 t6 t7 t8
      have q0:=za Ao.out.rr 0 rfl
      have q1:=za Ao.out.rr 1 rfl
      have q2:=za Ao.out.rr 2 rfl
      have y0:=zn Ao.out.rr 0
      have y1:=zn Ao.out.rr 1
      have y2:=zn Ao.out.rr 2
      go_wp2_with fail
      obtain⟨w9,hw9⟩:∃ w9,(((w3.setCell ⟨w.heap.size+2,0,none⟩ (.slice none 0 0)).setCell ⟨w.heap.size+2,1,none⟩ (.slice none 0 0)).setCell ⟨w.heap.size+2,2,none⟩ (.slice none 0 0))=w9:=⟨_,rfl⟩
      obtain⟨hr,hg9⟩:=z0c [.slice none 0 0,.slice none 0 0,.slice none 0 0] w3 _ 0 Ao.out.rr
      rw[show w3.setCells (w.heap.size+2) 0 [.slice none 0 0,.slice none 0 0,.slice none 0 0]=w9 from hw9] at hr hg9
      rw[hw9]
      clear q0 q1 q2 y0 y1 y2
      have q0:w9.cell? ⟨w.heap.size+2,0,none⟩=some (.slice none 0 0):=za hr 0 rfl
      have q1:w9.cell? ⟨w.heap.size+2,1,none⟩=some (.slice none 0 0):=za hr 1 rfl
      have q2:w9.cell? ⟨w.heap.size+2,2,none⟩=some (.slice none 0 0):=za hr 2 rfl
      refine bodyPost_ret (v:=.tuple #[rmv (.slice none 0 0) (.slice none 0 0) (.slice none 0 0),.bool false]) (by simp[results,Tryz.results80,go_sem,q0,q1,q2]) rfl ?_
      exact⟨_,_,_,by rw[HF.out],(fun h=>by rw[HF.out] at h;cases h),(fun _=>⟨rfl,rfl,rfl⟩),Ao.out.bel.grown hg9 Ao.out.bel.size (fun k hk=>by cases hk;omega)⟩
     ·have HF:=hide (show z1c es sts e=true by rw[Bq.out,decide_eq_true (show hk<0 by omega),hdp,decide_eq_true (show es.length<40 by omega)];rfl)
      refine zy (F:=Bw w1) (by kernel_rfl) (by kernel_rfl) (Below.refl _ _).drew ?_
      have hne:Nonempty (InW (Bw w1)):=⟨⟨_,Below.refl _ _⟩⟩
      have k0:∀ m:InW (Bw w1),m.w.cell? ⟨w.heap.size,0,none⟩=some (.slice oa es.length cap):=fun m=>(m.h.cell hlr).trans r0
      have k1:∀ m:InW (Bw w1),m.w.cell? ⟨w.heap.size,1,none⟩=some (.slice so sts.length sc):=fun m=>(m.h.cell hlr).trans r1
      have k2:∀ m:InW (Bw w1),m.w.cell? ⟨w.heap.size,2,none⟩=some vg:=fun m=>(m.h.cell hlr).trans r2
      have z0:∀ m:InW (Bw w1),m.w.cell? ⟨w.heap.size+1,0,none⟩=some (.int .i64 e.id):=fun m=>(m.h.cell hle).trans t0
      have z1:∀ m:InW (Bw w1),m.w.cell? ⟨w.heap.size+1,1,none⟩=some (.int .i64 e.kind):=fun m=>(m.h.cell hle).trans t1
      have z2:∀ m:InW (Bw w1),m.w.cell? ⟨w.heap.size+1,2,none⟩=some (.int .i64 e.sender):=fun m=>(m.h.cell hle).trans t2
      have z3:∀ m:InW (Bw w1),m.w.cell? ⟨w.heap.size+1,3,none⟩=some (.int .i64 e.user):=fun m=>(m.h.cell hle).trans t3
      have z4:∀ m:InW (Bw w1),m.w.cell? ⟨w.heap.size+1,4,none⟩=some (.int .i64 e.member):=fun m=>(m.h.cell hle).trans t4
      have z5:∀ m:InW (Bw w1),m.w.cell? ⟨w.heap.size+1,5,none⟩=some (.slice xa e.levels.length xc):=fun m=>(m.h.cell hle).trans t5
      have z6:∀ m:InW (Bw w1),m.w.cell? ⟨w.heap.size+1,6,none⟩=some (.string ⟨e.text.toArray⟩):=fun m=>(m.h.cell hle).trans t6
      have z7:∀ m:InW (Bw w1),m.w.cell? ⟨w.heap.size+1,7,none⟩=some (.slice ya e.prev.length yc):=fun m=>(m.h.cell hle).trans t7
      have z8:∀ m:InW (Bw w1),m.w.cell? ⟨w.heap.size+1,8,none⟩=some (.int .i64 e.depth):=fun m=>(m.h.cell hle).trans t8
      repeat (go_big_quiet_step (first
       | (go_at_call 110;(with_reducible refine (Ap.out _ (InW.h (F:=Bw w1) _)).mono ?_);rintro e' w2 ⟨rfl,hb2⟩;exact⟨rfl,⟨w2,Below.trans (InW.h _) (hb2.mono (Below.size (InW.h (F:=Bw w1) ‹_›)))⟩,rfl⟩)
       | (go_at_call 126;(with_reducible refine (Ga.out _ (InW.h (F:=Bw w1) _)).mono ?_);rintro e' w2 ⟨rfl,hb2⟩;exact⟨rfl,⟨w2,Below.trans (InW.h _) (hb2.mono (Below.size (InW.h (F:=Bw w1) ‹_›)))⟩,rfl⟩)
       | (go_at_call 125;(with_reducible refine (CG.out _ (InW.h (F:=Bw w1) _)).mono ?_);rintro e' w2 ⟨rfl,hb2⟩;exact⟨rfl,⟨w2,Below.trans (InW.h _) (hb2.mono (Below.size (InW.h (F:=Bw w1) ‹_›)))⟩,rfl⟩)))
      refine wpQuiet_nil ?_
      intro _ hw'
      obtain⟨nq,hw''⟩:=hw'
      subst hw''
      have hnq:=nq.h
      generalize nq.w=w3 at hnq ⊢
      have Ao:=hide (HA1.out.on hnq)
      have Ba:=hide (own_below BF.out hnq)
      clear hne k0 k1 k2 z0 z1 z2 z3 z4 z5 z6 z7 z8 r0 r1 r2 t0 t1 t2 t3 t4 t5 t6 t7 t8
      have HAS:=hide (show z4o es sts e=if allowed es (befS es sts e.prev) e&&!(keyE e==0) then z15 (befS es sts e.prev) (keyE e) e.id else befS es sts e.prev from rfl)
      have hO3:=Ba.out
      generalize befS es sts e.prev=N at Ba BF hO3 HAS hbl16
      obtain⟨_,_,heo,hi3⟩:=z03 hO3
      cases heo
      have Au:=hide (z2h oa es.length cap es o1 N.length c1 N e xa xc ya yc htx w3 ⟨Af.out.below Ao.out.bel,hi3⟩ (HL.out.un.below Ao.out.bel) (HP.out.un.below Ao.out.bel))
      have DZ:=hide (fun w1=>z9g e (.slice xa e.levels.length xc) (.slice ya e.prev.length yc) w1)
      have r0:=za Ao.out.r 0 rfl
      obtain⟨t0,t1,t2,t3,t4,t5,t6,t7,t8⟩:=Ao.out.e.ev
      have hle3:=Ao.out.e.lt
      clear hO3 hi3
      generalize keyE e=KY at DZ HAS
      generalize allowed es N e=al at Au HAS
      cases al
      ·have HS:=hide (show z4o es sts e=N from HAS.out)
       go_upto_region 7 with (go_at_call 55;(with_reducible refine Au.out.mono ?_);rintro r w6 ⟨rfl,hb6⟩)
       have Bn:=hide (Ao.out.on hb6)
       have Cg:=hide (own_below Ba.out hb6)
       clear hb6 r0 t0 t1 t2 t3 t4 t5 t6 t7 t8
       obtain⟨og,cg,rfl⟩:=Kz.out
       have CS:=hide (z4p (p:=p) Bn.out.bel hp)
       have Eb:=hide (HX.out.on CS.out)
       have hsz7:=Bn.out.bel.size
       refine z95 (R:=w.heap.size) (E:=w.heap.size+1) (ve:=.slice oa es.length cap) (vs:=.slice so sts.length sc) (vg:=.slice og es.length cg) (ev:=e) (xl:=.slice xa e.levels.length xc) (xp:=.slice ya e.prev.length yc) (o6:=o1) (m6:=N.length) (c6:=c1) (g:=false) (n:=es.length) (xs:=xs) (ys:=ys) (zs:=zs) (by kernel_rfl) (by kernel_rfl) (by kernel_rfl) (by kernel_rfl) (by kernel_rfl) (by kernel_rfl) (by kernel_rfl) (by kernel_rfl) (by kernel_rfl) (by kernel_rfl) (by simp[Act.put]) rfl rfl rfl rfl ?_ ?_ rfl rfl (by omega) ?_ ?_ ?_ ?_
       ·intro wz hz;exact⟨za (Bn.out.on hz).r 0 rfl,za (Bn.out.on hz).r 1 rfl,za (Bn.out.on hz).r 2 rfl⟩
       ·intro wz hz;obtain⟨a0,a1,a2,a3,a4,a5,a6,a7,a8⟩:=(Bn.out.on hz).e.ev;exact⟨a0,a1,a2,a3,a4,a5,a6,a7,a8⟩
       ·intro wz hz;exact (Eb.out.es_.cells (fun a u h=>(z18 h).1)).below hz
       ·intro wz hz;rw[← Df.out];exact (Eb.out.ss_.cells (fun a u h=>(z18 h).1)).below hz
       ·intro wz hz;exact (Eb.out.gs_.cells (fun a u h=>(z18 h).1)).below hz
       ·intro V w8 x y z b hall g22 hBb hbb hb8 hox hoy hoz
        have Ay:=hide (Bn.out.on hb8)
        obtain⟨ox,cx,rfl⟩:=zb hox
        obtain⟨oy,cy,rfl⟩:=zb hoy
        obtain⟨oz,cz,rfl⟩:=zb hoz
        have Jh:=hide hox
        have Ji:=hide hoy
        have Jj:=hide hoz
        obtain⟨v0,g0'⟩:=hall 0 (by omega)
        obtain⟨v1,g1'⟩:=hall 1 (by omega)
        obtain⟨v2,g2'⟩:=hall 2 (by omega)
        obtain⟨v3,g3'⟩:=hall 3 (by omega)
        obtain⟨v4,g4'⟩:=hall 4 (by omega)
        obtain⟨v5,g5'⟩:=hall 5 (by omega)
        obtain⟨v6,g6'⟩:=hall 6 (by omega)
        obtain⟨v7,g7'⟩:=hall 7 (by omega)
        obtain⟨v8,g8'⟩:=hall 8 (by omega)
        obtain⟨v9,g9'⟩:=hall 9 (by omega)
        obtain⟨v10,g10'⟩:=hall 10 (by omega)
        obtain⟨v11,g11'⟩:=hall 11 (by omega)
        obtain⟨v12,g12'⟩:=hall 12 (by omega)
        obtain⟨v13,g13'⟩:=hall 13 (by omega)
        obtain⟨v14,g14'⟩:=hall 14 (by omega)
        obtain⟨v15,g15'⟩:=hall 15 (by omega)
        obtain⟨v16,g16'⟩:=hall 16 (by omega)
        obtain⟨v17,g17'⟩:=hall 17 (by omega)
        obtain⟨v18,g18'⟩:=hall 18 (by omega)
        obtain⟨v19,g19'⟩:=hall 19 (by omega)
        obtain⟨v20,g20'⟩:=hall 20 (by omega)
        obtain⟨v21,g21'⟩:=hall 21 (by omega)
        obtain⟨v23,g23'⟩:=hall 23 (by omega)
        simp only[actG,List.size_toArray,List.length_cons,List.length_nil,List.getElem?_toArray,List.getElem?_cons_zero,List.getElem?_cons_succ,g0',g1',g2',g3',g4',g5',g6',g7',g8',g9',g10',g11',g12',g13',g14',g15',g16',g17',g18',g19',g20',g21',g23',g22,Act.put,List.setIfInBounds_toArray,List.set_cons_zero,List.set_cons_succ]
        clear g0'
        clear g1'
        clear g2'
        clear g3'
        clear g4'
        clear g5'
        clear g6'
        clear g7'
        clear g8'
        clear g9'
        clear g10'
        clear g11'
        clear g12'
        clear g13'
        clear g14'
        clear g15'
        clear g16'
        clear g17'
        clear g18'
        clear g19'
        clear g20'
        clear g21'
        clear g23'
        have m0:=za hbb 0 rfl
        have m1:=za hbb 1 rfl
        have m2:=za hbb 2 rfl
        have q0:=za Ay.out.rr 0 rfl
        have q1:=za Ay.out.rr 1 rfl
        have q2:=za Ay.out.rr 2 rfl
        have y0:=zn Ay.out.rr 0
        have y1:=zn Ay.out.rr 1
        have y2:=zn Ay.out.rr 2
        have hbne:b≠w.heap.size+2:=by have:=zf Bn.out.rr;omega
        clear hall hox hoy hoz
        go_wp2_with fail
        obtain⟨w99,hw9⟩:∃ w99,(((w8.setCell ⟨w.heap.size+2,0,none⟩ (.slice ox (es.length+1) cx)).setCell ⟨w.heap.size+2,1,none⟩ (.slice oy (es.length+1) cy)).setCell ⟨w.heap.size+2,2,none⟩ (.slice oz (es.length+1) cz))=w99:=⟨_,rfl⟩
        obtain⟨hr,hg9⟩:=z0c [.slice ox (es.length+1) cx,.slice oy (es.length+1) cy,.slice oz (es.length+1) cz] w8 _ 0 Ay.out.rr
        rw[show w8.setCells (w.heap.size+2) 0 [.slice ox (es.length+1) cx,.slice oy (es.length+1) cy,.slice oz (es.length+1) cz]=w99 from hw9] at hr hg9
        rw[hw9]
        clear q0 q1 q2 y0 y1 y2
        have q0:w99.cell? ⟨w.heap.size+2,0,none⟩=some (.slice ox (es.length+1) cx):=za hr 0 rfl
        have q1:w99.cell? ⟨w.heap.size+2,1,none⟩=some (.slice oy (es.length+1) cy):=za hr 1 rfl
        have q2:w99.cell? ⟨w.heap.size+2,2,none⟩=some (.slice oz (es.length+1) cz):=za hr 2 rfl
        refine bodyPost_ret (v:=.tuple #[rmv (.slice ox (es.length+1) cx) (.slice oy (es.length+1) cy) (.slice oz (es.length+1) cz),.bool true]) (by simp[results,Tryz.results80,go_sem,q0,q1,q2]) rfl ?_
        have hB9:Below w.heap.size w w99:=Ay.out.bel.grown hg9 Ay.out.bel.size (fun k hk=>by cases hk;omega)
        have hb09:=z4p (p:=p) hB9 hp
        obtain⟨_,_,hqo,hq9⟩:=z03 (z10 (ze (own_below Cg.out hb8) hg9 Ay.out.rr (by decide)) hp)
        cases hqo
        refine⟨_,_,_,by rw[HF.out],fun _=>?_,(fun h=>by rw[HF.out] at h;cases h),hB9⟩
        rw[HS.out]
        exact RoomX.addT HX.out hb09 (B:=w6.heap.size) (by omega) (ze Jh.out hg9 Ay.out.rr (by decide)) (by rw[Df.out];exact ze Ji.out hg9 Ay.out.rr (by decide)) (ze Jj.out hg9 Ay.out.rr (by decide)) (HL.out.below hb09) (HP.out.below hb09) (by unfold maxLen;omega) hq9
      ·cases hky:(KY==0)
       ·have hky2:=z0n hky
        have HS:=hide (show z4o es sts e=z15 N KY e.id by have h:=HAS.out;rw[hky] at h;exact h)
        go_upto_region 6 with (first
         | (go_at_call 55;(with_reducible refine Au.out.mono ?_);rintro r w6 ⟨rfl,hb6⟩;have t06:=(hb6.cell hle3).trans t0;have t16:=(hb6.cell hle3).trans t1;have t26:=(hb6.cell hle3).trans t2;have t36:=(hb6.cell hle3).trans t3;have t46:=(hb6.cell hle3).trans t4;have t56:=(hb6.cell hle3).trans t5;have t66:=(hb6.cell hle3).trans t6;have t76:=(hb6.cell hle3).trans t7;have t86:=(hb6.cell hle3).trans t8)
         | (go_at_call 32;(with_reducible refine (DZ.out _).mono ?_);rintro r w7 ⟨rfl,hb7⟩))
        have hb67:=hb6.trans (hb7.mono hb6.size)
        have Gb:=hide (Ao.out.on hb67)
        have hO6:=own_below Ba.out hb67
        obtain⟨_,_,heo,hi6⟩:=z03 hO6
        cases heo
        have JW:=hide hi6
        clear hO6 hi6 r0 t0 t1 t2 t3 t4 t5 t6 t7 t8 t06 t16 t26 t36 t46 t56 t66 t76 t86
        obtain⟨t0,t1,t2,t3,t4,t5,t6,t7,t8⟩:=Gb.out.e.ev
        have hle6:=Gb.out.e.lt
        go_region_law (first
         | (rw[if_pos (by rfl)];go_simp;go_at_call 32;refine (DZ.out _).mono ?_;rintro r w8 ⟨rfl,hb8⟩;have hb78:Below w7.heap.size w7 w8:=(Below.refl w7.heap.size w7).drew.trans hb8;have t08:=(hb78.cell hle6).trans t0)
         | (rw[if_pos (by rfl)];go_simp;go_at_call 56;refine (zac _ _ _ N KY e.id (by omega) w8 (JW.out.below hb78)).mono ?_;rintro r w9 ⟨v9,rfl,ho9,hb9⟩;obtain⟨o9,c9,rfl⟩:=zb ho9))
        all_goals
         have hb79:=hb78.trans (hb9.mono hb78.size)
         have Bn:=hide (Gb.out.on hb79)
         have Cg:=hide (zq ho9 (Nat.le_trans Gb.out.bel.size hb78.size))
         clear ho9 t0 t1 t2 t3 t4 t5 t6 t7 t8
         go_upto_region 7 with fail
         obtain⟨og,cg,rfl⟩:=Kz.out
         have CS:=hide (z4p (p:=p) Bn.out.bel hp)
         have Eb:=hide (HX.out.on CS.out)
         have hsz7:=Bn.out.bel.size
         refine z95 (R:=w.heap.size) (E:=w.heap.size+1) (ve:=.slice oa es.length cap) (vs:=.slice so sts.length sc) (vg:=.slice og es.length cg) (ev:=e) (xl:=.slice xa e.levels.length xc) (xp:=.slice ya e.prev.length yc) (o6:=o9) (m6:=(z15 N KY e.id).length) (c6:=c9) (g:=true) (n:=es.length) (xs:=xs) (ys:=ys) (zs:=zs) (by kernel_rfl) (by kernel_rfl) (by kernel_rfl) (by kernel_rfl) (by kernel_rfl) (by kernel_rfl) (by kernel_rfl) (by kernel_rfl) (by kernel_rfl) (by kernel_rfl) (by simp[Act.put]) rfl rfl rfl rfl ?_ ?_ rfl rfl (by omega) ?_ ?_ ?_ ?_
         ·intro wz hz;exact⟨za (Bn.out.on hz).r 0 rfl,za (Bn.out.on hz).r 1 rfl,za (Bn.out.on hz).r 2 rfl⟩
         ·intro wz hz;obtain⟨a0,a1,a2,a3,a4,a5,a6,a7,a8⟩:=(Bn.out.on hz).e.ev;exact⟨a0,a1,a2,a3,a4,a5,a6,a7,a8⟩
         ·intro wz hz;exact (Eb.out.es_.cells (fun a u h=>(z18 h).1)).below hz
         ·intro wz hz;rw[← Df.out];exact (Eb.out.ss_.cells (fun a u h=>(z18 h).1)).below hz
         ·intro wz hz;exact (Eb.out.gs_.cells (fun a u h=>(z18 h).1)).below hz
         ·intro V w8 x y z b hall g22 hBb hbb hb8 hox hoy hoz
          have Ay:=hide (Bn.out.on hb8)
          obtain⟨ox,cx,rfl⟩:=zb hox
          obtain⟨oy,cy,rfl⟩:=zb hoy
          obtain⟨oz,cz,rfl⟩:=zb hoz
          have Jh:=hide hox
          have Ji:=hide hoy
          have Jj:=hide hoz
          obtain⟨v0,g0'⟩:=hall 0 (by omega)
          obtain⟨v1,g1'⟩:=hall 1 (by omega)
          obtain⟨v2,g2'⟩:=hall 2 (by omega)
          obtain⟨v3,g3'⟩:=hall 3 (by omega)
          obtain⟨v4,g4'⟩:=hall 4 (by omega)
          obtain⟨v5,g5'⟩:=hall 5 (by omega)
          obtain⟨v6,g6'⟩:=hall 6 (by omega)
          obtain⟨v7,g7'⟩:=hall 7 (by omega)
          obtain⟨v8,g8'⟩:=hall 8 (by omega)
          obtain⟨v9,g9'⟩:=hall 9 (by omega)
          obtain⟨v10,g10'⟩:=hall 10 (by omega)
          obtain⟨v11,g11'⟩:=hall 11 (by omega)
          obtain⟨v12,g12'⟩:=hall 12 (by omega)
          obtain⟨v13,g13'⟩:=hall 13 (by omega)
          obtain⟨v14,g14'⟩:=hall 14 (by omega)
          obtain⟨v15,g15'⟩:=hall 15 (by omega)
          obtain⟨v16,g16'⟩:=hall 16 (by omega)
          obtain⟨v17,g17'⟩:=hall 17 (by omega)
          obtain⟨v18,g18'⟩:=hall 18 (by omega)
          obtain⟨v19,g19'⟩:=hall 19 (by omega)
          obtain⟨v20,g20'⟩:=hall 20 (by omega)
          obtain⟨v21,g21'⟩:=hall 21 (by omega)
          obtain⟨v23,g23'⟩:=hall 23 (by omega)
          simp only[actG,List.size_toArray,List.length_cons,List.length_nil,List.getElem?_toArray,List.getElem?_cons_zero,List.getElem?_cons_succ,g0',g1',g2',g3',g4',g5',g6',g7',g8',g9',g10',g11',g12',g13',g14',g15',g16',g17',g18',g19',g20',g21',g23',g22,Act.put,List.setIfInBounds_toArray,List.set_cons_zero,List.set_cons_succ]
          clear g0'
          clear g1'
          clear g2'
          clear g3'
          clear g4'
          clear g5'
          clear g6'
          clear g7'
          clear g8'
          clear g9'
          clear g10'
          clear g11'
          clear g12'
          clear g13'
          clear g14'
          clear g15'
          clear g16'
          clear g17'
          clear g18'
          clear g19'
          clear g20'
          clear g21'
          clear g23'
          have m0:=za hbb 0 rfl
          have m1:=za hbb 1 rfl
          have m2:=za hbb 2 rfl
          have q0:=za Ay.out.rr 0 rfl
          have q1:=za Ay.out.rr 1 rfl
          have q2:=za Ay.out.rr 2 rfl
          have y0:=zn Ay.out.rr 0
          have y1:=zn Ay.out.rr 1
          have y2:=zn Ay.out.rr 2
          have hbne:b≠w.heap.size+2:=by have:=zf Bn.out.rr;omega
          clear hall hox hoy hoz
          go_wp2_with fail
          obtain⟨w99,hw9⟩:∃ w99,(((w8.setCell ⟨w.heap.size+2,0,none⟩ (.slice ox (es.length+1) cx)).setCell ⟨w.heap.size+2,1,none⟩ (.slice oy (es.length+1) cy)).setCell ⟨w.heap.size+2,2,none⟩ (.slice oz (es.length+1) cz))=w99:=⟨_,rfl⟩
          obtain⟨hr,hg9⟩:=z0c [.slice ox (es.length+1) cx,.slice oy (es.length+1) cy,.slice oz (es.length+1) cz] w8 _ 0 Ay.out.rr
          rw[show w8.setCells (w.heap.size+2) 0 [.slice ox (es.length+1) cx,.slice oy (es.length+1) cy,.slice oz (es.length+1) cz]=w99 from hw9] at hr hg9
          rw[hw9]
          clear q0 q1 q2 y0 y1 y2
          have q0:w99.cell? ⟨w.heap.size+2,0,none⟩=some (.slice ox (es.length+1) cx):=za hr 0 rfl
          have q1:w99.cell? ⟨w.heap.size+2,1,none⟩=some (.slice oy (es.length+1) cy):=za hr 1 rfl
          have q2:w99.cell? ⟨w.heap.size+2,2,none⟩=some (.slice oz (es.length+1) cz):=za hr 2 rfl
          refine bodyPost_ret (v:=.tuple #[rmv (.slice ox (es.length+1) cx) (.slice oy (es.length+1) cy) (.slice oz (es.length+1) cz),.bool true]) (by simp[results,Tryz.results80,go_sem,q0,q1,q2]) rfl ?_
          have hB9:Below w.heap.size w w99:=Ay.out.bel.grown hg9 Ay.out.bel.size (fun k hk=>by cases hk;omega)
          have hb09:=z4p (p:=p) hB9 hp
          obtain⟨_,_,hqo,hq9⟩:=z03 (z10 (ze (own_below Cg.out hb8) hg9 Ay.out.rr (by decide)) hp)
          cases hqo
          refine⟨_,_,_,by rw[HF.out],fun _=>?_,(fun h=>by rw[HF.out] at h;cases h),hB9⟩
          rw[HS.out]
          exact RoomX.addT HX.out hb09 (B:=w9.heap.size) (by omega) (ze Jh.out hg9 Ay.out.rr (by decide)) (by rw[Df.out];exact ze Ji.out hg9 Ay.out.rr (by decide)) (ze Jj.out hg9 Ay.out.rr (by decide)) (HL.out.below hb09) (HP.out.below hb09) (by unfold maxLen;omega) hq9
       ·have hky2:=z0n hky
        have HS:=hide (show z4o es sts e=N by have h:=HAS.out;rw[hky] at h;exact h)
        go_upto_region 7 with (first
         | (go_at_call 55;(with_reducible refine Au.out.mono ?_);rintro r w6 ⟨rfl,hb6⟩;have t06:=(hb6.cell hle3).trans t0;have t16:=(hb6.cell hle3).trans t1;have t26:=(hb6.cell hle3).trans t2;have t36:=(hb6.cell hle3).trans t3;have t46:=(hb6.cell hle3).trans t4;have t56:=(hb6.cell hle3).trans t5;have t66:=(hb6.cell hle3).trans t6;have t76:=(hb6.cell hle3).trans t7;have t86:=(hb6.cell hle3).trans t8)
         | (go_at_call 32;(with_reducible refine (DZ.out _).mono ?_);rintro r w7 ⟨rfl,hb7⟩))
        have hb67:=hb6.trans (hb7.mono hb6.size)
        have Bn:=hide (Ao.out.on hb67)
        have Cg:=hide (own_below Ba.out hb67)
        clear hb6 hb7 hb67 r0 t0 t1 t2 t3 t4 t5 t6 t7 t8 t06 t16 t26 t36 t46 t56 t66 t76 t86
        obtain⟨og,cg,rfl⟩:=Kz.out
        have CS:=hide (z4p (p:=p) Bn.out.bel hp)
        have Eb:=hide (HX.out.on CS.out)
        have hsz7:=Bn.out.bel.size
        refine z95 (R:=w.heap.size) (E:=w.heap.size+1) (ve:=.slice oa es.length cap) (vs:=.slice so sts.length sc) (vg:=.slice og es.length cg) (ev:=e) (xl:=.slice xa e.levels.length xc) (xp:=.slice ya e.prev.length yc) (o6:=o1) (m6:=N.length) (c6:=c1) (g:=true) (n:=es.length) (xs:=xs) (ys:=ys) (zs:=zs) (by kernel_rfl) (by kernel_rfl) (by kernel_rfl) (by kernel_rfl) (by kernel_rfl) (by kernel_rfl) (by kernel_rfl) (by kernel_rfl) (by kernel_rfl) (by kernel_rfl) (by simp[Act.put]) rfl rfl rfl rfl ?_ ?_ rfl rfl (by omega) ?_ ?_ ?_ ?_
        ·intro wz hz;exact⟨za (Bn.out.on hz).r 0 rfl,za (Bn.out.on hz).r 1 rfl,za (Bn.out.on hz).r 2 rfl⟩
        ·intro wz hz;obtain⟨a0,a1,a2,a3,a4,a5,a6,a7,a8⟩:=(Bn.out.on hz).e.ev;exact⟨a0,a1,a2,a3,a4,a5,a6,a7,a8⟩
        ·intro wz hz;exact (Eb.out.es_.cells (fun a u h=>(z18 h).1)).below hz
        ·intro wz hz;rw[← Df.out];exact (Eb.out.ss_.cells (fun a u h=>(z18 h).1)).below hz
        ·intro wz hz;exact (Eb.out.gs_.cells (fun a u h=>(z18 h).1)).below hz
        ·intro V w8 x y z b hall g22 hBb hbb hb8 hox hoy hoz
         have Ay:=hide (Bn.out.on hb8)
         obtain⟨ox,cx,rfl⟩:=zb hox
         obtain⟨oy,cy,rfl⟩:=zb hoy
         obtain⟨oz,cz,rfl⟩:=zb hoz
         have Jh:=hide hox
         have Ji:=hide hoy
         have Jj:=hide hoz
         obtain⟨v0,g0'⟩:=hall 0 (by omega)
         obtain⟨v1,g1'⟩:=hall 1 (by omega)
         obtain⟨v2,g2'⟩:=hall 2 (by omega)
         obtain⟨v3,g3'⟩:=hall 3 (by omega)
         obtain⟨v4,g4'⟩:=hall 4 (by omega)
         obtain⟨v5,g5'⟩:=hall 5 (by omega)
         obtain⟨v6,g6'⟩:=hall 6 (by omega)
         obtain⟨v7,g7'⟩:=hall 7 (by omega)
         obtain⟨v8,g8'⟩:=hall 8 (by omega)
         obtain⟨v9,g9'⟩:=hall 9 (by omega)
         obtain⟨v10,g10'⟩:=hall 10 (by omega)
         obtain⟨v11,g11'⟩:=hall 11 (by omega)
         obtain⟨v12,g12'⟩:=hall 12 (by omega)
         obtain⟨v13,g13'⟩:=hall 13 (by omega)
         obtain⟨v14,g14'⟩:=hall 14 (by omega)
         obtain⟨v15,g15'⟩:=hall 15 (by omega)
         obtain⟨v16,g16'⟩:=hall 16 (by omega)
         obtain⟨v17,g17'⟩:=hall 17 (by omega)
         obtain⟨v18,g18'⟩:=hall 18 (by omega)
         obtain⟨v19,g19'⟩:=hall 19 (by omega)
         obtain⟨v20,g20'⟩:=hall 20 (by omega)
         obtain⟨v21,g21'⟩:=hall 21 (by omega)
         obtain⟨v23,g23'⟩:=hall 23 (by omega)
         simp only[actG,List.size_toArray,List.length_cons,List.length_nil,List.getElem?_toArray,List.getElem?_cons_zero,List.getElem?_cons_succ,g0',g1',g2',g3',g4',g5',g6',g7',g8',g9',g10',g11',g12',g13',g14',g15',g16',g17',g18',g19',g20',g21',g23',g22,Act.put,List.setIfInBounds_toArray,List.set_cons_zero,List.set_cons_succ]
         clear g0'
         clear g1'
         clear g2'
         clear g3'
         clear g4'
         clear g5'
         clear g6'
         clear g7'
         clear g8'
         clear g9'
         clear g10'
         clear g11'
         clear g12'
         clear g13'
         clear g14'
         clear g15'
         clear g16'
         clear g17'
         clear g18'
         clear g19'
         clear g20'
         clear g21'
         clear g23'
         have m0:=za hbb 0 rfl
         have m1:=za hbb 1 rfl
         have m2:=za hbb 2 rfl
         have q0:=za Ay.out.rr 0 rfl
         have q1:=za Ay.out.rr 1 rfl
         have q2:=za Ay.out.rr 2 rfl
         have y0:=zn Ay.out.rr 0
         have y1:=zn Ay.out.rr 1
         have y2:=zn Ay.out.rr 2
         have hbne:b≠w.heap.size+2:=by have:=zf Bn.out.rr;omega
         clear hall hox hoy hoz
         go_wp2_with fail
         obtain⟨w99,hw9⟩:∃ w99,(((w8.setCell ⟨w.heap.size+2,0,none⟩ (.slice ox (es.length+1) cx)).setCell ⟨w.heap.size+2,1,none⟩ (.slice oy (es.length+1) cy)).setCell ⟨w.heap.size+2,2,none⟩ (.slice oz (es.length+1) cz))=w99:=⟨_,rfl⟩
         obtain⟨hr,hg9⟩:=z0c [.slice ox (es.length+1) cx,.slice oy (es.length+1) cy,.slice oz (es.length+1) cz] w8 _ 0 Ay.out.rr
         rw[show w8.setCells (w.heap.size+2) 0 [.slice ox (es.length+1) cx,.slice oy (es.length+1) cy,.slice oz (es.length+1) cz]=w99 from hw9] at hr hg9
         rw[hw9]
         clear q0 q1 q2 y0 y1 y2
         have q0:w99.cell? ⟨w.heap.size+2,0,none⟩=some (.slice ox (es.length+1) cx):=za hr 0 rfl
         have q1:w99.cell? ⟨w.heap.size+2,1,none⟩=some (.slice oy (es.length+1) cy):=za hr 1 rfl
         have q2:w99.cell? ⟨w.heap.size+2,2,none⟩=some (.slice oz (es.length+1) cz):=za hr 2 rfl
         refine bodyPost_ret (v:=.tuple #[rmv (.slice ox (es.length+1) cx) (.slice oy (es.length+1) cy) (.slice oz (es.length+1) cz),.bool true]) (by simp[results,Tryz.results80,go_sem,q0,q1,q2]) rfl ?_
         have hB9:Below w.heap.size w w99:=Ay.out.bel.grown hg9 Ay.out.bel.size (fun k hk=>by cases hk;omega)
         have hb09:=z4p (p:=p) hB9 hp
         obtain⟨_,_,hqo,hq9⟩:=z03 (z10 (ze (own_below Cg.out hb8) hg9 Ay.out.rr (by decide)) hp)
         cases hqo
         refine⟨_,_,_,by rw[HF.out],fun _=>?_,(fun h=>by rw[HF.out] at h;cases h),hB9⟩
         rw[HS.out]
         exact RoomX.addT HX.out hb09 (B:=w7.heap.size) (by omega) (ze Jh.out hg9 Ay.out.rr (by decide)) (by rw[Df.out];exact ze Ji.out hg9 Ay.out.rr (by decide)) (ze Jj.out hg9 Ay.out.rr (by decide)) (HL.out.below hb09) (HP.out.below hb09) (by unfold maxLen;omega) hq9

end Go.Proofs.YtgebcpkpdbdfoaaGreat
