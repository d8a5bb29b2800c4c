/-
  Walks.
-/
import Derived.Test.YtgebcpkpdbdfoaaGreatRDraw1
set_option linter.unusedVariables false
set_option linter.unusedSimpArgs false
namespace Go.Proofs.YtgebcpkpdbdfoaaGreat
open Go.RowKit P9 P12 K
attribute [local go_sem ↓] Go.wp_at_zero Go.wp_at_succ

section
variable {B p:Nat} {a:Option Addr} {len cap:Nat} {w W W' x:World} {R b:Nat} {id kd sn us mb dp:Int} {vl vp:Value} {tx:List UInt8} {n m:Nat} {zl zp:List Int}

theorem DE.fin (h:DE B p a len cap w W R b id kd sn us mb dp vl vp tx vl vp n m zl zp) (hg:W.grownBy W' (some R)) {N M:Nat} (hn:n≤N) (hm:m≤M) (ht:tx.length≤30):EvD N M B p a len cap w (.returned (z2g id kd sn us mb dp vl vp tx)) W':=by
 have hlow:Below w.heap.size W W':=(Below.refl _ _).grown hg h.gr.size (fun k hk=>by cases hk;exact h.hR)
 exact⟨id,kd,sn,us,mb,dp,vl,vp,tx,n,m,zl,zp,rfl,hn,hm,ht,⟨h.l.kept hg (Or.inr (z4y h.r h.l (by decide))),h.q.kept hg (Or.inr (z4y h.r h.q (by decide))),h.ne⟩,h.fl,h.fp,h.cur.kept (hlow.mono h.hB) (hlow.block p h.hp),z02 h.gr hlow⟩

theorem DE.start (hc:CurAt B x p a len cap) (hr:EB x w.heap.size 0 0 0 0 0 0 (.slice none 0 0) (.slice none 0 0) []) (hg:w.grownBy x (some p)) (hp:p<w.heap.size) (hB:B≤w.heap.size) (kd sn:Int) :
  DE B p a len cap w (x.alloc (.cells #[.int .i64 0,.int .i64 kd,.int .i64 sn,.int .i64 0,.int .i64 0,.slice none 0 0,.string ⟨#[]⟩,.slice none 0 0,.int .i64 0] 47)) w.heap.size x.heap.size 0 kd sn 0 0 0 (.slice none 0 0) (.slice none 0 0) [] (.slice none 0 0) (.slice none 0 0) 0 0 [] []:=by
 have hb:=(Below.refl x.heap.size x).alloc (Nat.le_refl _) (.cells #[.int .i64 0,.int .i64 kd,.int .i64 sn,.int .i64 0,.int .i64 0,.slice none 0 0,.string ⟨#[]⟩,.slice none 0 0,.int .i64 0] 47)
 exact⟨hc.kept (hb.mono (Nat.le_trans hB hg.size)) (hb.block p hc.lt),hr.on hb hr.lt,heap_alloc_new _ _,zm hg (z19 hb),World.ownsRow_nil _ _ _ _,World.ownsRow_nil _ _ _ _,fun j hj=>(by cases hj),hp,hB,Nat.le_refl _,hg.size,Nat.ne_of_lt hr.lt,fun z hz=>(by cases hz),fun z hz=>(by cases hz)⟩
end

def zbj:List (List UInt8):=[[],[97],[104,101,108,108,111],[98,32,99]]

theorem zer (w:World):∀ j,j<4→∃ l,zbj[j]? = some l∧(w.alloc (.cells #[.string ⟨#[]⟩,.string ⟨#[97]⟩,.string ⟨#[104,101,108,108,111]⟩,.string ⟨#[98,32,99]⟩] 9)).cell? ⟨w.heap.size,j,none⟩=some (.string ⟨l.toArray⟩):=by
 intro j hj
 match j,hj with
 | 0,_=>exact⟨_,rfl,za (heap_alloc_new _ _) 0 rfl⟩
 | 1,_=>exact⟨_,rfl,za (heap_alloc_new _ _) 1 rfl⟩
 | 2,_=>exact⟨_,rfl,za (heap_alloc_new _ _) 2 rfl⟩
 | 3,_=>exact⟨_,rfl,za (heap_alloc_new _ _) 3 rfl⟩

theorem zes {l:List UInt8} (h:l∈zbj):l.length≤30:=by
 simp[zbj] at h
 rcases h with rfl|rfl|rfl|rfl<;>simp

set_option maxHeartbeats 8000000 in
theorem z3o (B p:Nat) (a:Option Addr) (len cap:Nat) (w:World) (hB:B≤w.heap.size) (hc:CurAt B w p a len cap) :
  Calls Tryz.prog 124 #[.pointer (some ⟨p,0,none⟩)] w fun e w'=>EvD 5 0 B p a len cap w e w':=by
 have hp:=hc.lt
 have k1:=(Below.refl w.heap.size w).alloc (Nat.le_refl _) (.cells #[.int .i64 0,.int .i64 0,.int .i64 0,.int .i64 0,.int .i64 0,.slice none 0 0,.string ⟨#[]⟩,.slice none 0 0,.int .i64 0] 47)
 have k2:=(Below.refl (w.alloc (.cells #[.int .i64 0,.int .i64 0,.int .i64 0,.int .i64 0,.int .i64 0,.slice none 0 0,.string ⟨#[]⟩,.slice none 0 0,.int .i64 0] 47)).heap.size (w.alloc (.cells #[.int .i64 0,.int .i64 0,.int .i64 0,.int .i64 0,.int .i64 0,.slice none 0 0,.string ⟨#[]⟩,.slice none 0 0,.int .i64 0] 47))).alloc (Nat.le_refl _) (.cells #[.int .i64 2,.int .i64 2,.int .i64 2,.int .i64 2,.int .i64 3,.int .i64 4,.int .i64 5,.int .i64 5,.int .i64 5] 3)
 have Cz:=hide (show ((w.alloc (.cells #[.int .i64 0,.int .i64 0,.int .i64 0,.int .i64 0,.int .i64 0,.slice none 0 0,.string ⟨#[]⟩,.slice none 0 0,.int .i64 0] 47)).alloc (.cells #[.int .i64 2,.int .i64 2,.int .i64 2,.int .i64 2,.int .i64 3,.int .i64 4,.int .i64 5,.int .i64 5,.int .i64 5] 3)).ownsRow (w.alloc (.cells #[.int .i64 0,.int .i64 0,.int .i64 0,.int .i64 0,.int .i64 0,.slice none 0 0,.string ⟨#[]⟩,.slice none 0 0,.int .i64 0] 47)).heap.size 3 1 (.slice (some ⟨(w.alloc (.cells #[.int .i64 0,.int .i64 0,.int .i64 0,.int .i64 0,.int .i64 0,.slice none 0 0,.string ⟨#[]⟩,.slice none 0 0,.int .i64 0] 47)).heap.size,0,none⟩) 9 9) 9 (I64z [2,2,2,2,3,4,5,5,5]) from World.ownsRow_lit (base:=(w.alloc (.cells #[.int .i64 0,.int .i64 0,.int .i64 0,.int .i64 0,.int .i64 0,.slice none 0 0,.string ⟨#[]⟩,.slice none 0 0,.int .i64 0] 47)).heap.size) (size:=1) (w.alloc (.cells #[.int .i64 0,.int .i64 0,.int .i64 0,.int .i64 0,.int .i64 0,.slice none 0 0,.string ⟨#[]⟩,.slice none 0 0,.int .i64 0] 47)) #[.int .i64 2,.int .i64 2,.int .i64 2,.int .i64 2,.int .i64 3,.int .i64 4,.int .i64 5,.int .i64 5,.int .i64 5] 9 (Nat.le_refl _) (by decide) (by simp))
 have Cr:=hide ((hc.kept (k1.mono hB) (k1.block p hp)).kept (k2.mono (by simp;omega)) (k2.block p (by simp;omega)))
 have Al:=hide ((EB.new w 0 0 0 0 0 0 (.slice none 0 0) (.slice none 0 0) []).on k2 (by simp))
 have Jd:=hide (show w.grownBy ((w.alloc (.cells #[.int .i64 0,.int .i64 0,.int .i64 0,.int .i64 0,.int .i64 0,.slice none 0 0,.string ⟨#[]⟩,.slice none 0 0,.int .i64 0] 47)).alloc (.cells #[.int .i64 2,.int .i64 2,.int .i64 2,.int .i64 2,.int .i64 3,.int .i64 4,.int .i64 5,.int .i64 5,.int .i64 5] 3)) (some p) from z19 (k1.trans (k2.mono (by simp))))
 rw[World.size_alloc] at Cz
 clear k1 k2 hc
 go_enter Tryz.func124,Tryz.ntmps124
 go_wp2_with fail
 refine (z2n B p a len cap (w.heap.size+1) _ [2,2,2,2,3,4,5,5,5] (by simp) (by simp) _ (by omega) Cz.out Cr.out).mono ?_
 rintro e x1 ⟨kd,hkd,rfl,hc1,hg1⟩
 have HR1:=hide (Al.out.kept hg1 (fun q=>by have:=Option.some.inj q;omega))
 have Dv:=hide (zm Jd.out hg1)
 have DI:=hide hc1
 have hkd4:kd=2∨kd=3∨kd=4∨kd=5:=by simp at hkd;omega
 clear hc1 hg1 hkd Cz Cr Al Jd
 go_wp2_with fail
 refine (z1u B p a len cap 3 (by omega) (by omega) _ DI.out).mono ?_
 rintro e x2 ⟨y,hy,rfl,hc2,hg2⟩
 have HD0:=hide (DE.start hc2 (HR1.out.kept hg2 (fun q=>by have:=Option.some.inj q;omega)) (zm Dv.out hg2) hp hB kd (1+(y:Int)))
 clear hc2 hg2 DI HR1 Dv
 generalize hb:x2.heap.size=b at HD0
 have BB:=hide hb
 clear hb
 rcases hkd4 with rfl|rfl|rfl|rfl
 ·go_wp2_with fail
  rw[BB.out]
  clear BB
  generalize x2.alloc (.cells #[.int .i64 0,.int .i64 2,.int .i64 (1+(y:Int)),.int .i64 0,.int .i64 0,.slice none 0 0,.string ⟨#[]⟩,.slice none 0 0,.int .i64 0] 47)=v0 at HD0 ⊢
  generalize (1+(y:Int))=SN at HD0 ⊢
  refine (z1u B p a len cap 4 (by omega) (by omega) _ HD0.out.cur).mono ?_
  rintro e yw1 ⟨u,hu,rfl,hcq,hgq⟩
  have HD2:=hide (HD0.out.drawn hcq hgq)
  clear hcq hgq HD0
  obtain⟨e0,e1,e2,e3,e4,e5,e6,e7,e8⟩:=HD2.out.e.ev
  have fk:=HD2.out.e.free 3
  go_wp2_with fail
  clear e0 e1 e2 e3 e4 e5 e6 e7 e8 fk
  have HD4:=hide (HD2.out.put (HD2.out.e.put3 (1+(u:Int))))
  generalize yw1.setCell ⟨b,3,none⟩ (.int .i64 (1+(u:Int)))=vw3 at HD4 ⊢
  clear HD2
  generalize (1+(u:Int))=U at HD4 ⊢
  refine (z3s B p a len cap 2 (by omega) (by omega) _ HD4.out.cur).mono ?_
  rintro e yw5 ⟨bb,rfl,hcq,hgq⟩
  have HD6:=hide (HD4.out.drawn hcq hgq)
  clear hcq hgq HD4
  cases bb with
  | true =>
   obtain⟨e0,e1,e2,e3,e4,e5,e6,e7,e8⟩:=HD6.out.e.ev
   have fk:=HD6.out.e.free 3
   go_wp2_with fail
   clear e0 e1 e2 e3 e4 e5 e6 e7 e8 fk
   have CJ:=hide (HD6.out.put (HD6.out.e.put3 SN))
   have hz:(yw5.setCell ⟨b,3,none⟩ (.int .i64 SN)).heap.size=yw5.heap.size:=by simp[World.setCell]
   generalize yw5.setCell ⟨b,3,none⟩ (.int .i64 SN)=vw7 at CJ hz ⊢
   rw[← hz]
   clear hz
   clear HD6
   have Cz:=hide (show (vw7.alloc (.cells #[.int .i64 0,.int .i64 1,.int .i64 1,.int .i64 2,.int .i64 2,.int .i64 2,.int .i64 3] 3)).ownsRow vw7.heap.size 3 1 (.slice (some ⟨vw7.heap.size,0,none⟩) 7 7) 7 (I64z [0,1,1,2,2,2,3]) from World.ownsRow_lit (base:=vw7.heap.size) (size:=1) vw7 #[.int .i64 0,.int .i64 1,.int .i64 1,.int .i64 2,.int .i64 2,.int .i64 2,.int .i64 3] 7 (Nat.le_refl _) (by decide) (by simp))
   have hpl:=CJ.out.cur.lt
   have CK:=hide (CJ.out.grow (.cells #[.int .i64 0,.int .i64 1,.int .i64 1,.int .i64 2,.int .i64 2,.int .i64 2,.int .i64 3] 3))
   refine (z2n B p a len cap vw7.heap.size _ [0,1,1,2,2,2,3] (by simp) (by simp) _ hpl Cz.out CK.out.cur).mono ?_
   rintro e yw9 ⟨mm,hmm,rfl,hcq,hgq⟩
   have Eu:=hide (CK.out.drawn hcq hgq)
   clear hcq hgq CJ CK Cz hpl
   obtain⟨e0,e1,e2,e3,e4,e5,e6,e7,e8⟩:=Eu.out.e.ev
   have fk:=Eu.out.e.free 4
   have Bu:=hide (Eu.out.put (Eu.out.e.put4 mm))
   obtain⟨t0,t1,t2,t3,t4,t5,t6,t7,t8⟩:=Bu.out.e.ev
   obtain⟨q0,q1,q2,q3,q4,q5,q6,q7,q8⟩:=Bu.out.r.ev
   have y0:=Bu.out.r.free 0
   have y1:=Bu.out.r.free 1
   have y2:=Bu.out.r.free 2
   have y3:=Bu.out.r.free 3
   have y4:=Bu.out.r.free 4
   have y5:=Bu.out.r.free 5
   have y6:=Bu.out.r.free 6
   have y7:=Bu.out.r.free 7
   have y8:=Bu.out.r.free 8
   go_wp2_with fail
   clear e0 e1 e2 e3 e4 e5 e6 e7 e8 fk t0 q0 y0 t1 q1 y1 t2 q2 y2 t3 q3 y3 t4 q4 y4 t5 q5 y5 t6 q6 y6 t7 q7 y7 t8 q8 y8
   generalize yw9.setCell ⟨b,4,none⟩ (.int .i64 mm)=vw12 at Bu ⊢
   obtain⟨w6,hw6,hE6,hg6⟩:=Bu.out.r.all 0 2 SN SN mm 0 (.slice none 0 0) (.slice none 0 0) []
   try rw[show ((#[]:Array UInt8))=([]:List UInt8).toArray from rfl]
   rw[hw6]
   obtain⟨c0,c1,c2,c3,c4,c5,c6,c7,c8⟩:=hE6.ev
   refine bodyPost_ret (v:=z2g 0 2 SN SN mm 0 (.slice none 0 0) (.slice none 0 0) []) (by simp[results,Tryz.results124,go_sem,c0,c1,c2,c3,c4,c5,c6,c7,c8]) rfl ?_
   exact DE.fin Bu.out hg6 (by omega) (by omega) (by simp)
  | false =>
   go_wp2_with fail
   have Cz:=hide (show (yw5.alloc (.cells #[.int .i64 0,.int .i64 1,.int .i64 1,.int .i64 2,.int .i64 2,.int .i64 2,.int .i64 3] 3)).ownsRow yw5.heap.size 3 1 (.slice (some ⟨yw5.heap.size,0,none⟩) 7 7) 7 (I64z [0,1,1,2,2,2,3]) from World.ownsRow_lit (base:=yw5.heap.size) (size:=1) yw5 #[.int .i64 0,.int .i64 1,.int .i64 1,.int .i64 2,.int .i64 2,.int .i64 2,.int .i64 3] 7 (Nat.le_refl _) (by decide) (by simp))
   have hpl:=HD6.out.cur.lt
   have CK:=hide (HD6.out.grow (.cells #[.int .i64 0,.int .i64 1,.int .i64 1,.int .i64 2,.int .i64 2,.int .i64 2,.int .i64 3] 3))
   refine (z2n B p a len cap yw5.heap.size _ [0,1,1,2,2,2,3] (by simp) (by simp) _ hpl Cz.out CK.out.cur).mono ?_
   rintro e yw7 ⟨mm,hmm,rfl,hcq,hgq⟩
   have CJ:=hide (CK.out.drawn hcq hgq)
   clear hcq hgq HD6 CK Cz hpl
   by_cases c:U=SN
   ·subst c
    obtain⟨e0,e1,e2,e3,e4,e5,e6,e7,e8⟩:=CJ.out.e.ev
    have fk:=CJ.out.e.free 4
    have Bv:=hide (CJ.out.put (CJ.out.e.put4 mm))
    obtain⟨t0,t1,t2,t3,t4,t5,t6,t7,t8⟩:=Bv.out.e.ev
    obtain⟨q0,q1,q2,q3,q4,q5,q6,q7,q8⟩:=Bv.out.r.ev
    have y0:=Bv.out.r.free 0
    have y1:=Bv.out.r.free 1
    have y2:=Bv.out.r.free 2
    have y3:=Bv.out.r.free 3
    have y4:=Bv.out.r.free 4
    have y5:=Bv.out.r.free 5
    have y6:=Bv.out.r.free 6
    have y7:=Bv.out.r.free 7
    have y8:=Bv.out.r.free 8
    go_wp2_with fail
    clear e0 e1 e2 e3 e4 e5 e6 e7 e8 fk t0 q0 y0 t1 q1 y1 t2 q2 y2 t3 q3 y3 t4 q4 y4 t5 q5 y5 t6 q6 y6 t7 q7 y7 t8 q8 y8
    generalize yw7.setCell ⟨b,4,none⟩ (.int .i64 mm)=vw10 at Bv ⊢
    obtain⟨w6,hw6,hE6,hg6⟩:=Bv.out.r.all 0 2 U U mm 0 (.slice none 0 0) (.slice none 0 0) []
    try rw[show ((#[]:Array UInt8))=([]:List UInt8).toArray from rfl]
    rw[hw6]
    obtain⟨c0,c1,c2,c3,c4,c5,c6,c7,c8⟩:=hE6.ev
    refine bodyPost_ret (v:=z2g 0 2 U U mm 0 (.slice none 0 0) (.slice none 0 0) []) (by simp[results,Tryz.results124,go_sem,c0,c1,c2,c3,c4,c5,c6,c7,c8]) rfl ?_
    exact DE.fin Bv.out hg6 (by omega) (by omega) (by simp)
   ·have c2:(U==SN)=false:=by simpa using c
    by_cases d:mm=2
    ·subst d
     obtain⟨e0,e1,e2,e3,e4,e5,e6,e7,e8⟩:=CJ.out.e.ev
     have fk:=CJ.out.e.free 4
     have HDa:=hide (CJ.out.put (CJ.out.e.put4 2))
     obtain⟨d0,d1,d2,d3,d4,d5,d6,d7,d8⟩:=HDa.out.e.ev
     have fl:=HDa.out.e.free 4
     have HDb:=hide (HDa.out.put (HDa.out.e.put4 1))
     obtain⟨t0,t1,t2,t3,t4,t5,t6,t7,t8⟩:=HDb.out.e.ev
     obtain⟨q0,q1,q2,q3,q4,q5,q6,q7,q8⟩:=HDb.out.r.ev
     have y0:=HDb.out.r.free 0
     have y1:=HDb.out.r.free 1
     have y2:=HDb.out.r.free 2
     have y3:=HDb.out.r.free 3
     have y4:=HDb.out.r.free 4
     have y5:=HDb.out.r.free 5
     have y6:=HDb.out.r.free 6
     have y7:=HDb.out.r.free 7
     have y8:=HDb.out.r.free 8
     go_wp2_with fail
     clear e0 e1 e2 e3 e4 e5 e6 e7 e8 fk fl d0 t0 q0 y0 d1 t1 q1 y1 d2 t2 q2 y2 d3 t3 q3 y3 d4 t4 q4 y4 d5 t5 q5 y5 d6 t6 q6 y6 d7 t7 q7 y7 d8 t8 q8 y8
     generalize (yw7.setCell ⟨b,4,none⟩ (.int .i64 2)).setCell ⟨b,4,none⟩ (.int .i64 1)=vwz at HDb ⊢
     obtain⟨w6,hw6,hE6,hg6⟩:=HDb.out.r.all 0 2 SN U 1 0 (.slice none 0 0) (.slice none 0 0) []
     try rw[show ((#[]:Array UInt8))=([]:List UInt8).toArray from rfl]
     rw[hw6]
     obtain⟨c0,c1,c2,c3,c4,c5,c6,c7,c8⟩:=hE6.ev
     refine bodyPost_ret (v:=z2g 0 2 SN U 1 0 (.slice none 0 0) (.slice none 0 0) []) (by simp[results,Tryz.results124,go_sem,c0,c1,c2,c3,c4,c5,c6,c7,c8]) rfl ?_
     exact DE.fin HDb.out hg6 (by omega) (by omega) (by simp)
    ·have d2:(mm==2)=false:=by simpa using d
     obtain⟨e0,e1,e2,e3,e4,e5,e6,e7,e8⟩:=CJ.out.e.ev
     have fk:=CJ.out.e.free 4
     have Bv:=hide (CJ.out.put (CJ.out.e.put4 mm))
     obtain⟨t0,t1,t2,t3,t4,t5,t6,t7,t8⟩:=Bv.out.e.ev
     obtain⟨q0,q1,q2,q3,q4,q5,q6,q7,q8⟩:=Bv.out.r.ev
     have y0:=Bv.out.r.free 0
     have y1:=Bv.out.r.free 1
     have y2:=Bv.out.r.free 2
     have y3:=Bv.out.r.free 3
     have y4:=Bv.out.r.free 4
     have y5:=Bv.out.r.free 5
     have y6:=Bv.out.r.free 6
     have y7:=Bv.out.r.free 7
     have y8:=Bv.out.r.free 8
     go_wp2_with fail
     clear e0 e1 e2 e3 e4 e5 e6 e7 e8 fk t0 q0 y0 t1 q1 y1 t2 q2 y2 t3 q3 y3 t4 q4 y4 t5 q5 y5 t6 q6 y6 t7 q7 y7 t8 q8 y8
     generalize yw7.setCell ⟨b,4,none⟩ (.int .i64 mm)=vw10 at Bv ⊢
     obtain⟨w6,hw6,hE6,hg6⟩:=Bv.out.r.all 0 2 SN U mm 0 (.slice none 0 0) (.slice none 0 0) []
     try rw[show ((#[]:Array UInt8))=([]:List UInt8).toArray from rfl]
     rw[hw6]
     obtain⟨c0,c1,c2,c3,c4,c5,c6,c7,c8⟩:=hE6.ev
     refine bodyPost_ret (v:=z2g 0 2 SN U mm 0 (.slice none 0 0) (.slice none 0 0) []) (by simp[results,Tryz.results124,go_sem,c0,c1,c2,c3,c4,c5,c6,c7,c8]) rfl ?_
     exact DE.fin Bv.out hg6 (by omega) (by omega) (by simp)
 ·go_wp2_with fail
  rw[BB.out]
  clear BB
  generalize x2.alloc (.cells #[.int .i64 0,.int .i64 3,.int .i64 (1+(y:Int)),.int .i64 0,.int .i64 0,.slice none 0 0,.string ⟨#[]⟩,.slice none 0 0,.int .i64 0] 47)=v0 at HD0 ⊢
  generalize (1+(y:Int))=SN at HD0 ⊢
  go_loopw [4] (fun i wr=>∃ (j:Nat) (vl:Value) (zl:List Int),i=.int .i64 (j:Int)∧j≤5∧DE B p a len cap w wr w.heap.size b 0 3 SN 0 0 0 vl (.slice none 0 0) [] vl (.slice none 0 0) j 0 zl []) (fun i _=>5 - (intOf i).toNat)
  case atStart=>exact⟨0,_,_,rfl,by omega,HD0.out⟩
  case round =>
   obtain⟨j,vl,zl,rfl,hj,hq⟩:=hrel
   obtain⟨oa,cl,hvl⟩:=zb hq.l
   subst hvl
   have HQ:=hide hq
   clear hq HD0
   by_cases hlt:j<5
   ·have j0:(j:Int)<5:=by omega
    go_wp2_with fail
    refine wp_region_held_drew (S:=fun _=>True) (by kernel_rfl) trivial (fun hHeld=>?_)
    refine wpAnyH_take (i:=0) (v:=?_) rfl (by kernel_rfl) (by kernel_rfl) (by kernel_rfl) (fun _ _ _ h=>h) (Or.inl ⟨by rfl,?_⟩) (by assumption) ?_;rotate_left
    ·(intro w hSw;(try dsimp only at hSw);go_simp;first|done|with_reducible rfl)
    try simp only[Act.put,List.getElem_toArray,List.getElem_cons_zero,List.getElem_cons_succ,List.setIfInBounds_toArray,List.set_cons_zero,List.set_cons_succ]
    refine wpAnyH_take (i:=2) (v:=?_) rfl (by kernel_rfl) (by kernel_rfl) (by kernel_rfl) (fun _ _ _ h=>h) (Or.inl ⟨by rfl,?_⟩) (by assumption) ?_;rotate_left
    ·(intro w hSw;(try dsimp only at hSw);go_simp;first|done|with_reducible rfl)
    try simp only[Act.put,List.getElem_toArray,List.getElem_cons_zero,List.getElem_cons_succ,List.setIfInBounds_toArray,List.set_cons_zero,List.set_cons_succ]
    refine wpAnyH_ready (rs:=[1,3]) (by kernel_rfl) (by simp) ?_
    refine AllReadyH.cons rfl (fun K hK=>?_) ?_
    ·have hcd:=HQ.out.e.ev.c5
     rw[if_pos (by rfl)]
     go_simp
     refine hK.out _ _ ?_ (fun hHeld=>?_)
     ·trivial
     clear hK K
     try simp only[Act.put,List.getElem_toArray,List.getElem_cons_zero,List.getElem_cons_succ,List.setIfInBounds_toArray,List.set_cons_zero,List.set_cons_succ]
     clear hcd
     refine wpAnyH_ready (rs:=[3]) (by kernel_rfl) (by simp) ?_
     refine AllReadyH.cons rfl (fun K hK=>?_) ?_
     ·have HG2:=hide ((HQ.out.grow (.cells #[.int .i64 0,.int .i64 0,.int .i64 50,.int .i64 50,.int .i64 60,.int .i64 100] 3)).drew)
      rw[if_pos (by rfl)]
      go_simp
      refine hK.out _ _ ?_ (fun hHeld=>?_)
      ·trivial
      clear hK K
      try simp only[Act.put,List.getElem_toArray,List.getElem_cons_zero,List.getElem_cons_succ,List.setIfInBounds_toArray,List.set_cons_zero,List.set_cons_succ]
      refine wpAnyH_ready (rs:=[4]) (by kernel_rfl) (by simp) ?_
      refine AllReadyH.cons rfl (fun K hK=>?_) ?_
      ·rw[if_pos (by rfl)]
       go_simp
       have Cz:=hide (show (wr.alloc (.cells #[.int .i64 0,.int .i64 0,.int .i64 50,.int .i64 50,.int .i64 60,.int .i64 100] 3)).drew.ownsRow wr.heap.size 3 1 (.slice (some ⟨wr.heap.size,0,none⟩) 6 6) 6 (I64z [0,0,50,50,60,100]) from World.ownsRow_lit (base:=wr.heap.size) (size:=1) wr #[.int .i64 0,.int .i64 0,.int .i64 50,.int .i64 50,.int .i64 60,.int .i64 100] 6 (Nat.le_refl _) (by decide) (by simp))
       have hpl:=HQ.out.cur.lt
       go_at_call 169
       refine (z2n B p a len cap wr.heap.size _ [0,0,50,50,60,100] (by simp) (by simp) _ hpl Cz.out HG2.out.cur).mono ?_
       rintro r w96 ⟨zz,hzz,rfl,hc6,hg6⟩
       have Ch:=hide (HG2.out.drawn hc6 hg6)
       have hzb:-1000000000≤zz∧zz≤1000000000000:=by (simp at hzz;omega)
       clear hc6 hg6 Cz hpl
       try go_simp
       refine hK.out _ _ ?_ (fun hHeld=>?_)
       ·trivial
       clear hK K
       try simp only[Act.put,List.getElem_toArray,List.getElem_cons_zero,List.getElem_cons_succ,List.setIfInBounds_toArray,List.set_cons_zero,List.set_cons_succ]
       refine wpAnyH_ready (rs:=[5]) (by kernel_rfl) (by simp) ?_
       refine AllReadyH.cons rfl (fun K hK=>?_) ?_
       ·have AP:=hide (Ch.out.grow (.cells #[.int .i64 zz] 3))
        rw[if_pos (by rfl)]
        go_simp
        refine hK.out _ _ ?_ (fun hHeld=>?_)
        ·trivial
        clear hK K
        try simp only[Act.put,List.getElem_toArray,List.getElem_cons_zero,List.getElem_cons_succ,List.setIfInBounds_toArray,List.set_cons_zero,List.set_cons_succ]
        refine wpAnyH_ready (rs:=[6]) (by kernel_rfl) (by simp) ?_
        refine AllReadyH.cons rfl (fun K hK=>?_) ?_
        ·refine z5w (by rfl) _ _ 32 (by rfl) Tryz.underlying32 z11 (by rfl) (by rfl) AP.out.l (by rfl) (by rfl) (heap_alloc_new _ _) (by simp[Value.oneCell']) AP.out.gr.size (by unfold maxLen;omega) (by omega) ?_
         intro v8 w98 ho8 hg8 hor8
         obtain⟨ov8,cv8,hv8⟩:=zb ho8
         subst hv8
         have Aw:=hide (AP.out.pushL (by rw[← z6j];exact ho8) hg8 hor8 (za5 AP.out.fl hzb))
         clear ho8 hg8 hor8
         refine hK.out _ _ ?_ (fun hHeld=>?_)
         ·trivial
         clear hK K
         try simp only[Act.put,List.getElem_toArray,List.getElem_cons_zero,List.getElem_cons_succ,List.setIfInBounds_toArray,List.set_cons_zero,List.set_cons_succ]
         refine wpAnyH_take (i:=7) (v:=?_) rfl (by kernel_rfl) (by kernel_rfl) (by kernel_rfl) (fun _ _ _ h=>h) (Or.inl ⟨by rfl,?_⟩) (by assumption) ?_;rotate_left
         ·(intro w hSw;(try dsimp only at hSw);go_simp;first|done|with_reducible rfl)
         try simp only[Act.put,List.getElem_toArray,List.getElem_cons_zero,List.getElem_cons_succ,List.setIfInBounds_toArray,List.set_cons_zero,List.set_cons_succ]
         refine wpAnyH_ready (rs:=[8]) (by kernel_rfl) (by simp) ?_
         refine AllReadyH.cons rfl (fun K hK=>?_) ?_
         ·have hcd:=Aw.out.e.ev.c5
          have hfz:=Aw.out.e.free 5
          rw[if_pos (by rfl)]
          go_simp
          refine hK.out _ _ ?_ (fun hHeld=>?_)
          ·trivial
          clear hK K
          try simp only[Act.put,List.getElem_toArray,List.getElem_cons_zero,List.getElem_cons_succ,List.setIfInBounds_toArray,List.set_cons_zero,List.set_cons_succ]
          clear hcd hfz
          refine wpAnyH_done (by kernel_rfl) ?_ _
          have D7:=hide (Aw.out.put (Aw.out.e.put5 (.slice ov8 (j+1) cv8)))
          clear Aw AP Ch HG2 HQ
          go_wp2_with fail
          go_roundw
          case rel=>exact⟨j+1,_,_,by go_num,by omega,D7.out⟩
          case measure=>simp[intOf];omega
         exact AllReadyH.nil
        exact AllReadyH.nil
       exact AllReadyH.nil
      exact AllReadyH.nil
     exact AllReadyH.nil
    refine AllReadyH.cons rfl (fun K hK=>?_) ?_
    ·have HG2:=hide ((HQ.out.grow (.cells #[.int .i64 0,.int .i64 0,.int .i64 50,.int .i64 50,.int .i64 60,.int .i64 100] 3)).drew)
     rw[if_pos (by rfl)]
     go_simp
     refine hK.out _ _ ?_ (fun hHeld=>?_)
     ·trivial
     clear hK K
     try simp only[Act.put,List.getElem_toArray,List.getElem_cons_zero,List.getElem_cons_succ,List.setIfInBounds_toArray,List.set_cons_zero,List.set_cons_succ]
     refine wpAnyH_ready (rs:=[1,4]) (by kernel_rfl) (by simp) ?_
     refine AllReadyH.cons rfl (fun K hK=>?_) ?_
     ·have hcd:=HG2.out.e.ev.c5
      rw[if_pos (by rfl)]
      go_simp
      refine hK.out _ _ ?_ (fun hHeld=>?_)
      ·trivial
      clear hK K
      try simp only[Act.put,List.getElem_toArray,List.getElem_cons_zero,List.getElem_cons_succ,List.setIfInBounds_toArray,List.set_cons_zero,List.set_cons_succ]
      clear hcd
      refine wpAnyH_ready (rs:=[4]) (by kernel_rfl) (by simp) ?_
      refine AllReadyH.cons rfl (fun K hK=>?_) ?_
      ·rw[if_pos (by rfl)]
       go_simp
       have Cz:=hide (show (wr.alloc (.cells #[.int .i64 0,.int .i64 0,.int .i64 50,.int .i64 50,.int .i64 60,.int .i64 100] 3)).drew.ownsRow wr.heap.size 3 1 (.slice (some ⟨wr.heap.size,0,none⟩) 6 6) 6 (I64z [0,0,50,50,60,100]) from World.ownsRow_lit (base:=wr.heap.size) (size:=1) wr #[.int .i64 0,.int .i64 0,.int .i64 50,.int .i64 50,.int .i64 60,.int .i64 100] 6 (Nat.le_refl _) (by decide) (by simp))
       have hpl:=HQ.out.cur.lt
       go_at_call 169
       refine (z2n B p a len cap wr.heap.size _ [0,0,50,50,60,100] (by simp) (by simp) _ hpl Cz.out HG2.out.cur).mono ?_
       rintro r w96 ⟨zz,hzz,rfl,hc6,hg6⟩
       have Ch:=hide (HG2.out.drawn hc6 hg6)
       have hzb:-1000000000≤zz∧zz≤1000000000000:=by (simp at hzz;omega)
       clear hc6 hg6 Cz hpl
       try go_simp
       refine hK.out _ _ ?_ (fun hHeld=>?_)
       ·trivial
       clear hK K
       try simp only[Act.put,List.getElem_toArray,List.getElem_cons_zero,List.getElem_cons_succ,List.setIfInBounds_toArray,List.set_cons_zero,List.set_cons_succ]
       refine wpAnyH_ready (rs:=[5]) (by kernel_rfl) (by simp) ?_
       refine AllReadyH.cons rfl (fun K hK=>?_) ?_
       ·have AP:=hide (Ch.out.grow (.cells #[.int .i64 zz] 3))
        rw[if_pos (by rfl)]
        go_simp
        refine hK.out _ _ ?_ (fun hHeld=>?_)
        ·trivial
        clear hK K
        try simp only[Act.put,List.getElem_toArray,List.getElem_cons_zero,List.getElem_cons_succ,List.setIfInBounds_toArray,List.set_cons_zero,List.set_cons_succ]
        refine wpAnyH_ready (rs:=[6]) (by kernel_rfl) (by simp) ?_
        refine AllReadyH.cons rfl (fun K hK=>?_) ?_
        ·refine z5w (by rfl) _ _ 32 (by rfl) Tryz.underlying32 z11 (by rfl) (by rfl) AP.out.l (by rfl) (by rfl) (heap_alloc_new _ _) (by simp[Value.oneCell']) AP.out.gr.size (by unfold maxLen;omega) (by omega) ?_
         intro v8 w98 ho8 hg8 hor8
         obtain⟨ov8,cv8,hv8⟩:=zb ho8
         subst hv8
         have Aw:=hide (AP.out.pushL (by rw[← z6j];exact ho8) hg8 hor8 (za5 AP.out.fl hzb))
         clear ho8 hg8 hor8
         refine hK.out _ _ ?_ (fun hHeld=>?_)
         ·trivial
         clear hK K
         try simp only[Act.put,List.getElem_toArray,List.getElem_cons_zero,List.getElem_cons_succ,List.setIfInBounds_toArray,List.set_cons_zero,List.set_cons_succ]
         refine wpAnyH_take (i:=7) (v:=?_) rfl (by kernel_rfl) (by kernel_rfl) (by kernel_rfl) (fun _ _ _ h=>h) (Or.inl ⟨by rfl,?_⟩) (by assumption) ?_;rotate_left
         ·(intro w hSw;(try dsimp only at hSw);go_simp;first|done|with_reducible rfl)
         try simp only[Act.put,List.getElem_toArray,List.getElem_cons_zero,List.getElem_cons_succ,List.setIfInBounds_toArray,List.set_cons_zero,List.set_cons_succ]
         refine wpAnyH_ready (rs:=[8]) (by kernel_rfl) (by simp) ?_
         refine AllReadyH.cons rfl (fun K hK=>?_) ?_
         ·have hcd:=Aw.out.e.ev.c5
          have hfz:=Aw.out.e.free 5
          rw[if_pos (by rfl)]
          go_simp
          refine hK.out _ _ ?_ (fun hHeld=>?_)
          ·trivial
          clear hK K
          try simp only[Act.put,List.getElem_toArray,List.getElem_cons_zero,List.getElem_cons_succ,List.setIfInBounds_toArray,List.set_cons_zero,List.set_cons_succ]
          clear hcd hfz
          refine wpAnyH_done (by kernel_rfl) ?_ _
          have D7:=hide (Aw.out.put (Aw.out.e.put5 (.slice ov8 (j+1) cv8)))
          clear Aw AP Ch HG2 HQ
          go_wp2_with fail
          go_roundw
          case rel=>exact⟨j+1,_,_,by go_num,by omega,D7.out⟩
          case measure=>simp[intOf];omega
         exact AllReadyH.nil
        exact AllReadyH.nil
       exact AllReadyH.nil
      exact AllReadyH.nil
     refine AllReadyH.cons rfl (fun K hK=>?_) ?_
     ·rw[if_pos (by rfl)]
      go_simp
      have Cz:=hide (show (wr.alloc (.cells #[.int .i64 0,.int .i64 0,.int .i64 50,.int .i64 50,.int .i64 60,.int .i64 100] 3)).drew.ownsRow wr.heap.size 3 1 (.slice (some ⟨wr.heap.size,0,none⟩) 6 6) 6 (I64z [0,0,50,50,60,100]) from World.ownsRow_lit (base:=wr.heap.size) (size:=1) wr #[.int .i64 0,.int .i64 0,.int .i64 50,.int .i64 50,.int .i64 60,.int .i64 100] 6 (Nat.le_refl _) (by decide) (by simp))
      have hpl:=HQ.out.cur.lt
      go_at_call 169
      refine (z2n B p a len cap wr.heap.size _ [0,0,50,50,60,100] (by simp) (by simp) _ hpl Cz.out HG2.out.cur).mono ?_
      rintro r w96 ⟨zz,hzz,rfl,hc6,hg6⟩
      have Ch:=hide (HG2.out.drawn hc6 hg6)
      have hzb:-1000000000≤zz∧zz≤1000000000000:=by (simp at hzz;omega)
      clear hc6 hg6 Cz hpl
      try go_simp
      refine hK.out _ _ ?_ (fun hHeld=>?_)
      ·trivial
      clear hK K
      try simp only[Act.put,List.getElem_toArray,List.getElem_cons_zero,List.getElem_cons_succ,List.setIfInBounds_toArray,List.set_cons_zero,List.set_cons_succ]
      refine wpAnyH_ready (rs:=[1,5]) (by kernel_rfl) (by simp) ?_
      refine AllReadyH.cons rfl (fun K hK=>?_) ?_
      ·have hcd:=Ch.out.e.ev.c5
       rw[if_pos (by rfl)]
       go_simp
       refine hK.out _ _ ?_ (fun hHeld=>?_)
       ·trivial
       clear hK K
       try simp only[Act.put,List.getElem_toArray,List.getElem_cons_zero,List.getElem_cons_succ,List.setIfInBounds_toArray,List.set_cons_zero,List.set_cons_succ]
       clear hcd
       refine wpAnyH_ready (rs:=[5]) (by kernel_rfl) (by simp) ?_
       refine AllReadyH.cons rfl (fun K hK=>?_) ?_
       ·have AP:=hide (Ch.out.grow (.cells #[.int .i64 zz] 3))
        rw[if_pos (by rfl)]
        go_simp
        refine hK.out _ _ ?_ (fun hHeld=>?_)
        ·trivial
        clear hK K
        try simp only[Act.put,List.getElem_toArray,List.getElem_cons_zero,List.getElem_cons_succ,List.setIfInBounds_toArray,List.set_cons_zero,List.set_cons_succ]
        refine wpAnyH_ready (rs:=[6]) (by kernel_rfl) (by simp) ?_
        refine AllReadyH.cons rfl (fun K hK=>?_) ?_
        ·refine z5w (by rfl) _ _ 32 (by rfl) Tryz.underlying32 z11 (by rfl) (by rfl) AP.out.l (by rfl) (by rfl) (heap_alloc_new _ _) (by simp[Value.oneCell']) AP.out.gr.size (by unfold maxLen;omega) (by omega) ?_
         intro v8 w98 ho8 hg8 hor8
         obtain⟨ov8,cv8,hv8⟩:=zb ho8
         subst hv8
         have Aw:=hide (AP.out.pushL (by rw[← z6j];exact ho8) hg8 hor8 (za5 AP.out.fl hzb))
         clear ho8 hg8 hor8
         refine hK.out _ _ ?_ (fun hHeld=>?_)
         ·trivial
         clear hK K
         try simp only[Act.put,List.getElem_toArray,List.getElem_cons_zero,List.getElem_cons_succ,List.setIfInBounds_toArray,List.set_cons_zero,List.set_cons_succ]
         refine wpAnyH_take (i:=7) (v:=?_) rfl (by kernel_rfl) (by kernel_rfl) (by kernel_rfl) (fun _ _ _ h=>h) (Or.inl ⟨by rfl,?_⟩) (by assumption) ?_;rotate_left
         ·(intro w hSw;(try dsimp only at hSw);go_simp;first|done|with_reducible rfl)
         try simp only[Act.put,List.getElem_toArray,List.getElem_cons_zero,List.getElem_cons_succ,List.setIfInBounds_toArray,List.set_cons_zero,List.set_cons_succ]
         refine wpAnyH_ready (rs:=[8]) (by kernel_rfl) (by simp) ?_
         refine AllReadyH.cons rfl (fun K hK=>?_) ?_
         ·have hcd:=Aw.out.e.ev.c5
          have hfz:=Aw.out.e.free 5
          rw[if_pos (by rfl)]
          go_simp
          refine hK.out _ _ ?_ (fun hHeld=>?_)
          ·trivial
          clear hK K
          try simp only[Act.put,List.getElem_toArray,List.getElem_cons_zero,List.getElem_cons_succ,List.setIfInBounds_toArray,List.set_cons_zero,List.set_cons_succ]
          clear hcd hfz
          refine wpAnyH_done (by kernel_rfl) ?_ _
          have D7:=hide (Aw.out.put (Aw.out.e.put5 (.slice ov8 (j+1) cv8)))
          clear Aw AP Ch HG2 HQ
          go_wp2_with fail
          go_roundw
          case rel=>exact⟨j+1,_,_,by go_num,by omega,D7.out⟩
          case measure=>simp[intOf];omega
         exact AllReadyH.nil
        exact AllReadyH.nil
       exact AllReadyH.nil
      refine AllReadyH.cons rfl (fun K hK=>?_) ?_
      ·have AP:=hide (Ch.out.grow (.cells #[.int .i64 zz] 3))
       rw[if_pos (by rfl)]
       go_simp
       refine hK.out _ _ ?_ (fun hHeld=>?_)
       ·trivial
       clear hK K
       try simp only[Act.put,List.getElem_toArray,List.getElem_cons_zero,List.getElem_cons_succ,List.setIfInBounds_toArray,List.set_cons_zero,List.set_cons_succ]
       refine wpAnyH_ready (rs:=[1]) (by kernel_rfl) (by simp) ?_
       refine AllReadyH.cons rfl (fun K hK=>?_) ?_
       ·have hcd:=AP.out.e.ev.c5
        rw[if_pos (by rfl)]
        go_simp
        refine hK.out _ _ ?_ (fun hHeld=>?_)
        ·trivial
        clear hK K
        try simp only[Act.put,List.getElem_toArray,List.getElem_cons_zero,List.getElem_cons_succ,List.setIfInBounds_toArray,List.set_cons_zero,List.set_cons_succ]
        clear hcd
        refine wpAnyH_ready (rs:=[6]) (by kernel_rfl) (by simp) ?_
        refine AllReadyH.cons rfl (fun K hK=>?_) ?_
        ·refine z5w (by rfl) _ _ 32 (by rfl) Tryz.underlying32 z11 (by rfl) (by rfl) AP.out.l (by rfl) (by rfl) (heap_alloc_new _ _) (by simp[Value.oneCell']) AP.out.gr.size (by unfold maxLen;omega) (by omega) ?_
         intro v8 w98 ho8 hg8 hor8
         obtain⟨ov8,cv8,hv8⟩:=zb ho8
         subst hv8
         have Aw:=hide (AP.out.pushL (by rw[← z6j];exact ho8) hg8 hor8 (za5 AP.out.fl hzb))
         clear ho8 hg8 hor8
         refine hK.out _ _ ?_ (fun hHeld=>?_)
         ·trivial
         clear hK K
         try simp only[Act.put,List.getElem_toArray,List.getElem_cons_zero,List.getElem_cons_succ,List.setIfInBounds_toArray,List.set_cons_zero,List.set_cons_succ]
         refine wpAnyH_take (i:=7) (v:=?_) rfl (by kernel_rfl) (by kernel_rfl) (by kernel_rfl) (fun _ _ _ h=>h) (Or.inl ⟨by rfl,?_⟩) (by assumption) ?_;rotate_left
         ·(intro w hSw;(try dsimp only at hSw);go_simp;first|done|with_reducible rfl)
         try simp only[Act.put,List.getElem_toArray,List.getElem_cons_zero,List.getElem_cons_succ,List.setIfInBounds_toArray,List.set_cons_zero,List.set_cons_succ]
         refine wpAnyH_ready (rs:=[8]) (by kernel_rfl) (by simp) ?_
         refine AllReadyH.cons rfl (fun K hK=>?_) ?_
         ·have hcd:=Aw.out.e.ev.c5
          have hfz:=Aw.out.e.free 5
          rw[if_pos (by rfl)]
          go_simp
          refine hK.out _ _ ?_ (fun hHeld=>?_)
          ·trivial
          clear hK K
          try simp only[Act.put,List.getElem_toArray,List.getElem_cons_zero,List.getElem_cons_succ,List.setIfInBounds_toArray,List.set_cons_zero,List.set_cons_succ]
          clear hcd hfz
          refine wpAnyH_done (by kernel_rfl) ?_ _
          have D7:=hide (Aw.out.put (Aw.out.e.put5 (.slice ov8 (j+1) cv8)))
          clear Aw AP Ch HG2 HQ
          go_wp2_with fail
          go_roundw
          case rel=>exact⟨j+1,_,_,by go_num,by omega,D7.out⟩
          case measure=>simp[intOf];omega
         exact AllReadyH.nil
        exact AllReadyH.nil
       exact AllReadyH.nil
      exact AllReadyH.nil
     exact AllReadyH.nil
    exact AllReadyH.nil
   ·have hj5:j=5:=by omega
    subst hj5
    go_wp2_with fail
    refine (z3s B p a len cap 2 (by omega) (by omega) _ HQ.out.cur).mono ?_
    rintro e yw1 ⟨bb,rfl,hcq,hgq⟩
    have HD2:=hide (HQ.out.drawn hcq hgq)
    clear hcq hgq HQ
    cases bb with
    | false =>
     obtain⟨t0,t1,t2,t3,t4,t5,t6,t7,t8⟩:=HD2.out.e.ev
     obtain⟨q0,q1,q2,q3,q4,q5,q6,q7,q8⟩:=HD2.out.r.ev
     have y0:=HD2.out.r.free 0
     have y1:=HD2.out.r.free 1
     have y2:=HD2.out.r.free 2
     have y3:=HD2.out.r.free 3
     have y4:=HD2.out.r.free 4
     have y5:=HD2.out.r.free 5
     have y6:=HD2.out.r.free 6
     have y7:=HD2.out.r.free 7
     have y8:=HD2.out.r.free 8
     go_wp2_with fail
     clear t0 q0 y0 t1 q1 y1 t2 q2 y2 t3 q3 y3 t4 q4 y4 t5 q5 y5 t6 q6 y6 t7 q7 y7 t8 q8 y8
     obtain⟨w6,hw6,hE6,hg6⟩:=HD2.out.r.all 0 3 SN 0 0 0 (.slice oa 5 cl) (.slice none 0 0) []
     try rw[show ((#[]:Array UInt8))=([]:List UInt8).toArray from rfl]
     rw[hw6]
     obtain⟨c0,c1,c2,c3,c4,c5,c6,c7,c8⟩:=hE6.ev
     refine bodyPost_ret (v:=z2g 0 3 SN 0 0 0 (.slice oa 5 cl) (.slice none 0 0) []) (by simp[results,Tryz.results124,go_sem,c0,c1,c2,c3,c4,c5,c6,c7,c8]) rfl ?_
     exact DE.fin HD2.out hg6 (by omega) (by omega) (by simp)
    | true =>
     obtain⟨gg,cg,hsl⟩:=zjx HD2.out.l (by decide)
     injection hsl with h1 h2 h3
     subst h1
     subst h3
     have hidx:∀ wx,(Instr.indexAt 32 (.slice (some ⟨gg,0,none⟩) 5 cl) (.int .i64 0)).run Tryz.prog wx=.ok (.pointer (some ⟨gg,0,none⟩)) wx:=fun wx=>by
      have:=run_indexAt_slice wx 32 3 1 Tryz.underlying32 z0m gg 0 5 cl 0 (by omega)
      simpa using this
     have hln:=HD2.out.l.1
     obtain⟨uu,huu⟩:∃ uu,yw1.cell? ⟨gg,0,none⟩=some uu:=⟨_,by rw[HD2.out.l.cellAt 0 (by omega),List.getElem?_eq_getElem (by omega)]⟩
     have hfz:=HD2.out.l.frozenAt 0
     have HST:=hide (HD2.out.l.stored 0 (.int .i64 100))
     have CU:=hide (HD2.out.pushL (zl':=zl.set 0 100) (by have:=HST.out.1;simpa [zu,List.map_set] using this) HST.out.2 (Or.inl rfl) (by
      intro z hz
      rcases List.mem_or_eq_of_mem_set hz with hz|rfl
      ·exact HD2.out.fl z hz
      ·exact z2o (by omega) (by omega)))
     obtain⟨e0,e1,e2,e3,e4,e5,e6,e7,e8⟩:=HD2.out.e.ev
     obtain⟨t0,t1,t2,t3,t4,t5,t6,t7,t8⟩:=CU.out.e.ev
     obtain⟨q0,q1,q2,q3,q4,q5,q6,q7,q8⟩:=CU.out.r.ev
     have y0:=CU.out.r.free 0
     have y1:=CU.out.r.free 1
     have y2:=CU.out.r.free 2
     have y3:=CU.out.r.free 3
     have y4:=CU.out.r.free 4
     have y5:=CU.out.r.free 5
     have y6:=CU.out.r.free 6
     have y7:=CU.out.r.free 7
     have y8:=CU.out.r.free 8
     go_wp2_with fail
     clear t0 q0 y0 t1 q1 y1 t2 q2 y2 t3 q3 y3 t4 q4 y4 t5 q5 y5 t6 q6 y6 t7 q7 y7 t8 q8 y8
     obtain⟨w6,hw6,hE6,hg6⟩:=CU.out.r.all 0 3 SN 0 0 0 (.slice (some ⟨gg,0,none⟩) 5 cl) (.slice none 0 0) []
     try rw[show ((#[]:Array UInt8))=([]:List UInt8).toArray from rfl]
     rw[hw6]
     obtain⟨c0,c1,c2,c3,c4,c5,c6,c7,c8⟩:=hE6.ev
     refine bodyPost_ret (v:=z2g 0 3 SN 0 0 0 (.slice (some ⟨gg,0,none⟩) 5 cl) (.slice none 0 0) []) (by simp[results,Tryz.results124,go_sem,c0,c1,c2,c3,c4,c5,c6,c7,c8]) rfl ?_
     exact DE.fin CU.out hg6 (by omega) (by omega) (by simp)
 ·go_wp2_with fail
  have hz0:(x2.alloc (.cells #[.int .i64 0,.int .i64 4,.int .i64 (1+(y:Int)),.int .i64 0,.int .i64 0,.slice none 0 0,.string ⟨#[]⟩,.slice none 0 0,.int .i64 0] 47)).heap.size=b+1:=by rw[World.size_alloc,BB.out]
  rw[BB.out]
  clear BB
  generalize x2.alloc (.cells #[.int .i64 0,.int .i64 4,.int .i64 (1+(y:Int)),.int .i64 0,.int .i64 0,.slice none 0 0,.string ⟨#[]⟩,.slice none 0 0,.int .i64 0] 47)=v0 at HD0 hz0 ⊢
  generalize (1+(y:Int))=SN at HD0 ⊢
  have hpl:=HD0.out.cur.lt
  have CK:=hide (HD0.out.grow (.cells #[.string ⟨#[]⟩,.string ⟨#[97]⟩,.string ⟨#[104,101,108,108,111]⟩,.string ⟨#[98,32,99]⟩] 9))
  have hwd:=zer v0
  rw[hz0] at hwd hpl
  have Et:=hide hwd
  clear hwd
  generalize v0.alloc (.cells #[.string ⟨#[]⟩,.string ⟨#[97]⟩,.string ⟨#[104,101,108,108,111]⟩,.string ⟨#[98,32,99]⟩] 9)=vL at CK Et ⊢
  refine (zd6 B p a len cap (b+1) 4 zbj vL CK.out.cur (by omega) (by omega) (by omega) Et.out).mono ?_
  rintro e yw1 ⟨tt,htt,rfl,hcq,hgq⟩
  have HD1:=hide (CK.out.drawn hcq hgq)
  have hwl:=zes htt
  clear hcq hgq CK HD0 hpl htt Et hz0
  obtain⟨e0,e1,e2,e3,e4,e5,e6,e7,e8⟩:=HD1.out.e.ev
  have fk:=HD1.out.e.free 6
  have HD6:=hide (HD1.out.put (HD1.out.e.put6 tt))
  obtain⟨t0,t1,t2,t3,t4,t5,t6,t7,t8⟩:=HD6.out.e.ev
  obtain⟨q0,q1,q2,q3,q4,q5,q6,q7,q8⟩:=HD6.out.r.ev
  have y0:=HD6.out.r.free 0
  have y1:=HD6.out.r.free 1
  have y2:=HD6.out.r.free 2
  have y3:=HD6.out.r.free 3
  have y4:=HD6.out.r.free 4
  have y5:=HD6.out.r.free 5
  have y6:=HD6.out.r.free 6
  have y7:=HD6.out.r.free 7
  have y8:=HD6.out.r.free 8
  go_wp2_with fail
  clear e0 e1 e2 e3 e4 e5 e6 e7 e8 fk t0 q0 y0 t1 q1 y1 t2 q2 y2 t3 q3 y3 t4 q4 y4 t5 q5 y5 t6 q6 y6 t7 q7 y7 t8 q8 y8
  generalize yw1.setCell ⟨b,6,none⟩ (.string ⟨tt.toArray⟩)=vw7 at HD6 ⊢
  obtain⟨w6,hw6,hE6,hg6⟩:=HD6.out.r.all 0 4 SN 0 0 0 (.slice none 0 0) (.slice none 0 0) tt
  try rw[show ((#[]:Array UInt8))=([]:List UInt8).toArray from rfl]
  rw[hw6]
  obtain⟨c0,c1,c2,c3,c4,c5,c6,c7,c8⟩:=hE6.ev
  refine bodyPost_ret (v:=z2g 0 4 SN 0 0 0 (.slice none 0 0) (.slice none 0 0) tt) (by simp[results,Tryz.results124,go_sem,c0,c1,c2,c3,c4,c5,c6,c7,c8]) rfl ?_
  exact DE.fin HD6.out hg6 (by omega) (by omega) hwl
 ·go_wp2_with fail
  have hz0:(x2.alloc (.cells #[.int .i64 0,.int .i64 5,.int .i64 (1+(y:Int)),.int .i64 0,.int .i64 0,.slice none 0 0,.string ⟨#[]⟩,.slice none 0 0,.int .i64 0] 47)).heap.size=b+1:=by rw[World.size_alloc,BB.out]
  rw[BB.out]
  clear BB
  generalize x2.alloc (.cells #[.int .i64 0,.int .i64 5,.int .i64 (1+(y:Int)),.int .i64 0,.int .i64 0,.slice none 0 0,.string ⟨#[]⟩,.slice none 0 0,.int .i64 0] 47)=v0 at HD0 hz0 ⊢
  generalize (1+(y:Int))=SN at HD0 ⊢
  have hpl:=HD0.out.cur.lt
  have CK:=hide (HD0.out.grow (.cells #[.string ⟨#[]⟩,.string ⟨#[97]⟩,.string ⟨#[104,101,108,108,111]⟩,.string ⟨#[98,32,99]⟩] 9))
  have hwd:=zer v0
  rw[hz0] at hwd hpl
  have Et:=hide hwd
  clear hwd
  generalize v0.alloc (.cells #[.string ⟨#[]⟩,.string ⟨#[97]⟩,.string ⟨#[104,101,108,108,111]⟩,.string ⟨#[98,32,99]⟩] 9)=vL at CK Et ⊢
  refine (zd6 B p a len cap (b+1) 4 zbj vL CK.out.cur (by omega) (by omega) (by omega) Et.out).mono ?_
  rintro e yw1 ⟨tt,htt,rfl,hcq,hgq⟩
  have HD1:=hide (CK.out.drawn hcq hgq)
  have hwl:=zes htt
  clear hcq hgq CK HD0 hpl htt Et hz0
  obtain⟨e0,e1,e2,e3,e4,e5,e6,e7,e8⟩:=HD1.out.e.ev
  have fk:=HD1.out.e.free 6
  have HD6:=hide (HD1.out.put (HD1.out.e.put6 tt))
  obtain⟨t0,t1,t2,t3,t4,t5,t6,t7,t8⟩:=HD6.out.e.ev
  obtain⟨q0,q1,q2,q3,q4,q5,q6,q7,q8⟩:=HD6.out.r.ev
  have y0:=HD6.out.r.free 0
  have y1:=HD6.out.r.free 1
  have y2:=HD6.out.r.free 2
  have y3:=HD6.out.r.free 3
  have y4:=HD6.out.r.free 4
  have y5:=HD6.out.r.free 5
  have y6:=HD6.out.r.free 6
  have y7:=HD6.out.r.free 7
  have y8:=HD6.out.r.free 8
  go_wp2_with fail
  clear e0 e1 e2 e3 e4 e5 e6 e7 e8 fk t0 q0 y0 t1 q1 y1 t2 q2 y2 t3 q3 y3 t4 q4 y4 t5 q5 y5 t6 q6 y6 t7 q7 y7 t8 q8 y8
  generalize yw1.setCell ⟨b,6,none⟩ (.string ⟨tt.toArray⟩)=vw7 at HD6 ⊢
  obtain⟨w6,hw6,hE6,hg6⟩:=HD6.out.r.all 0 5 SN 0 0 0 (.slice none 0 0) (.slice none 0 0) tt
  try rw[show ((#[]:Array UInt8))=([]:List UInt8).toArray from rfl]
  rw[hw6]
  obtain⟨c0,c1,c2,c3,c4,c5,c6,c7,c8⟩:=hE6.ev
  refine bodyPost_ret (v:=z2g 0 5 SN 0 0 0 (.slice none 0 0) (.slice none 0 0) tt) (by simp[results,Tryz.results124,go_sem,c0,c1,c2,c3,c4,c5,c6,c7,c8]) rfl ?_
  exact DE.fin HD6.out hg6 (by omega) (by omega) hwl

end Go.Proofs.YtgebcpkpdbdfoaaGreat
