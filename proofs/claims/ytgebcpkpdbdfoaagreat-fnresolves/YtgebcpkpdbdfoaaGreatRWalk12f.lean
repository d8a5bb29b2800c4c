/-
  Walks.
-/
import Derived.Test.YtgebcpkpdbdfoaaGreatRRoom1
import Derived.Test.YtgebcpkpdbdfoaaGreatRWalk12b
import Derived.Test.YtgebcpkpdbdfoaaGreatRDraw21
import Derived.StillTailTactics
set_option linter.unusedVariables false
set_option linter.unusedSimpArgs false
namespace Go.Proofs.YtgebcpkpdbdfoaaGreat
open Go.RowKit P5 P9 P12 P14 P15 K

def zkf (B p:Nat) (a:Option Addr) (len cap:Nat) (w:World) (es:List EvV) (id:Int) (r:Ending) (w':World):Prop :=
 ∃ (e:EvV) (vl vp:Value),r=.returned (evv e vl vp)∧w'.ownsRow w.heap.size 3 1 vl e.levels.length (e.levels.map zu)∧w'.ownsRow w.heap.size 3 1 vp e.prev.length (e.prev.map zu)∧(∀ z∈e.levels,(Lit.int .i64 z).wf=true)∧(∀ z∈e.prev,(Lit.int .i64 z).wf=true)∧e.id=id∧e.levels.length≤5∧e.prev.length≤3∧e.text.length≤30∧(es=[]→e=⟨id,1,1,0,0,[],[],[],0⟩)∧CurAt B w' p a len cap∧w.grownBy w' (some p)

structure NxS (B p:Nat) (a:Option Addr) (len cap:Nat) (w:World) (ve vs vg:Value) (W:World):Prop where
 cur:CurAt B W p a len cap
 gr:w.grownBy W (some p)
 r:W.heap[w.heap.size]? = some (.cells #[ve,vs,vg] 41 (0,0))
 rr:EB W (w.heap.size+1) 0 0 0 0 0 0 (.slice none 0 0) (.slice none 0 0) []
 hp:p<w.heap.size
 hB:B≤w.heap.size

structure NxE (w:World) (be:Nat) (e:EvV) (vl vp:Value) (W:World):Prop where
 eb:EB W be e.id e.kind e.sender e.user e.member e.depth vl vp e.text
 l:W.ownsRow w.heap.size 3 1 vl e.levels.length (e.levels.map zu)
 q:W.ownsRow w.heap.size 3 1 vp e.prev.length (e.prev.map zu)
 fl:∀ z∈e.levels,(Lit.int .i64 z).wf=true
 fp:∀ z∈e.prev,(Lit.int .i64 z).wf=true
 nl:e.levels.length≤5
 np:e.prev.length≤3
 tx:e.text.length≤30
 hbe:w.heap.size+2≤be

theorem z13 {w:World} {base p k:Nat} {e:TypeId} {v:Value} {n:Nat} {xs:List Value} (h:w.ownsRow base e k v n xs) (hp:p<base):v.ownBlock=none∨v.ownBlock≠some p:=by
 cases hv:v.ownBlock with
 | none=>exact .inl rfl
 | some g=>exact .inr (fun e=>by have:=(h.lt g hv).1;cases e;omega)

section
variable {B p:Nat} {a:Option Addr} {len cap:Nat} {w W W':World} {ve vs vg:Value} {be:Nat} {e:EvV} {vl vp:Value}

theorem NxS.drawn (h:NxS B p a len cap w ve vs vg W) (hc:CurAt B W' p a len cap) (hg:W.grownBy W' (some p)):NxS B p a len cap w ve vs vg W' :=
 ⟨hc,zm h.gr hg,(hg.block _ (zf h.r) (fun q=>by have:=Option.some.inj q;have:=h.hp;omega)).trans h.r,h.rr.kept hg (fun q=>by have:=Option.some.inj q;have:=h.hp;omega),h.hp,h.hB⟩

theorem NxS.on (h:NxS B p a len cap w ve vs vg W) (hb:Below (w.heap.size+2) W W'):NxS B p a len cap w ve vs vg W' :=
 ⟨h.cur.kept (hb.mono (by have:=h.hB;omega)) (hb.block p (by have:=h.hp;omega)),z02 h.gr (hb.mono (by omega)),(hb.block _ (by omega)).trans h.r,h.rr.on hb (by omega),h.hp,h.hB⟩

theorem NxS.size (h:NxS B p a len cap w ve vs vg W):w.heap.size+2≤W.heap.size:=by have:=h.rr.lt;omega

theorem NxE.drawn (h:NxE w be e vl vp W) (hp:p<w.heap.size) (hg:W.grownBy W' (some p)):NxE w be e vl vp W' :=
 ⟨h.eb.kept hg (fun q=>by have:=Option.some.inj q;have:=h.hbe;omega),h.l.kept hg (z13 h.l hp),h.q.kept hg (z13 h.q hp),h.fl,h.fp,h.nl,h.np,h.tx,h.hbe⟩

theorem NxE.on (h:NxE w be e vl vp W) (hb:Below W.heap.size W W'):NxE w be e vl vp W':=⟨h.eb.on hb h.eb.lt,own_below h.l hb,own_below h.q hb,h.fl,h.fp,h.nl,h.np,h.tx,h.hbe⟩

theorem NxS.new (hc:CurAt B w p a len cap) (hB:B≤w.heap.size):NxS B p a len cap w ve vs vg ((w.alloc (.cells #[ve,vs,vg] 41)).alloc (.cells (zh 0 0 0 0 0 0 (.slice none 0 0) (.slice none 0 0) []) 47)):=by
 obtain⟨w1,hw1⟩:∃ w1,w.alloc (.cells #[ve,vs,vg] 41)=w1:=⟨_,rfl⟩
 have h1:Below w.heap.size w w1:=by rw[← hw1];exact (Below.refl _ _).alloc (Nat.le_refl _) _
 have hr1:w1.heap[w.heap.size]? = some (.cells #[ve,vs,vg] 41 (0,0)):=by rw[← hw1];exact heap_alloc_new _ _
 have hs1:w1.heap.size=w.heap.size+1:=by rw[← hw1];simp
 rw[hw1]
 clear hw1
 have h2:Below w1.heap.size w1 (w1.alloc (.cells (zh 0 0 0 0 0 0 (.slice none 0 0) (.slice none 0 0) []) 47)):=(Below.refl _ _).alloc (Nat.le_refl _) _
 have h12:=h1.trans (h2.mono h1.size)
 refine⟨hc.kept (h12.mono hB) (h12.block p hc.lt),⟨h12.os,h12.tape,h12.output,h12.size,fun k hk _=>h12.block k hk⟩,(h2.block _ (zf hr1)).trans hr1,?_,hc.lt,hB⟩
 rw[← hs1]
 exact EB.new _ _ _ _ _ _ _ _ _ _
end

theorem z9v {a b:World} {r:Option Nat} (h:a.drew.grownBy b r):a.grownBy b r:=⟨h.os,h.tape,h.output,h.size,fun k hk hn=>h.block k hk hn⟩

set_option maxRecDepth 100000 in
set_option maxHeartbeats 16000000 in
theorem zfw (B p:Nat) (a:Option Addr) (len cap:Nat) (ve vs vg:Value) (es:List EvV) (sts:List St) (id:Int) (hinv:RInv es sts) (w:World) (hB:B≤w.heap.size) (hc:CurAt B w p a len cap) (hroom:RoomM p w ve vs vg es sts) :
  Calls Tryz.prog 79 #[.pointer (some ⟨p,0,none⟩),rmv ve vs vg,.int .i64 id] w (zkf B p a len cap w es id):=by
 obtain⟨xs,ys,zs,hX⟩:=hroom
 obtain⟨oa,ca,rfl,hev⟩:=z7j hX.es_ hX.ex
 obtain⟨so,sc,rfl,hst⟩:=z7k hX.ss_ hX.sx
 have hn40:=hinv.len
 have hpw:=hc.lt
 have Af:=hide (fun W (h:w.grownBy W (some p))=>(hev.below (z1t h hpw)).un)
 have HST:=hide (fun W (h:w.grownBy W (some p))=>(hst.below (z1t h hpw)).un)
 obtain⟨W0,hW0⟩:∃ W0,((w.alloc (.cells #[.slice oa es.length ca,.slice so sts.length sc,vg] 41)).alloc (.cells (zh 0 0 0 0 0 0 (.slice none 0 0) (.slice none 0 0) []) 47))=W0:=⟨_,rfl⟩
 have hN0:NxS B p a len cap w (.slice oa es.length ca) (.slice so sts.length sc) vg W0:=by rw[← hW0];exact NxS.new hc hB
 have CB:=hide hN0
 have HW0:=hide hW0
 have r0:=za hN0.r 0 rfl
 have Er:=hide (fun W (h:w.grownBy W (some p))=>z8j oa es.length ca es (.slice so sts.length sc) vg (by omega) (fun e he=>by have:=hinv.ids e he;exact z2i (by omega) (by omega)) W (Af.out W h))
 have CG:=hide (fun W (h:w.grownBy W (some p)) (oc:Option Addr) (m cc:Nat) (pv:List Int) (hq:IntsAt W oc m cc pv)=>z7z oa es.length ca es (.slice so sts.length sc) vg oc m cc pv W (Af.out W h) hq)
 have G8:=hide (fun W (h:w.grownBy W (some p)) (oc:Option Addr) (m cc:Nat) (pv:List Int) (hm:m≤65536) (hq:IntsAt W oc m cc pv)=>z9i oa es.length ca es so sts.length sc sts vg oc m cc pv (by omega) hm hinv.fine (fun s hs=>by have:=(hinv.st s hs).len;omega) (fun s hs x hx=>((hinv.st s hs).wide x hx).2) W (Af.out W h) (HST.out W h) hq)
 have Dw:=hide (fun (e:EvV) (he:e∈es)=>show (Lit.int .i64 e.id).wf=true by have:=hinv.ids e he;exact z2i (by omega) (by omega))
 clear hX hev hst hN0 hW0 hinv hc
 go_enter Tryz.func79,Tryz.ntmps79
 go_upto_region 1 with fail
 rw[HW0.out]
 clear HW0
 by_cases hes:es=[]
 ·subst hes
  obtain⟨r0',r1',r2',r3',r4',r5',r6',r7',r8'⟩:=CB.out.rr.ev
  have y0:=CB.out.rr.free 0
  have y1:=CB.out.rr.free 1
  have y2:=CB.out.rr.free 2
  have y3:=CB.out.rr.free 3
  have y4:=CB.out.rr.free 4
  have y5:=CB.out.rr.free 5
  have y6:=CB.out.rr.free 6
  have y7:=CB.out.rr.free 7
  have y8:=CB.out.rr.free 8
  go_wp2_with fail
  obtain⟨w9,hw9,hE9,hg9⟩:=CB.out.rr.all id 1 1 0 0 0 (.slice none 0 0) (.slice none 0 0) []
  try rw[show (.string ⟨#[]⟩:Value)=.string ⟨([]:List UInt8).toArray⟩ from rfl]
  rw[hw9]
  obtain⟨q0,q1,q2,q3,q4,q5,q6,q7,q8⟩:=hE9.ev
  refine bodyPost_ret (v:=z2g id 1 1 0 0 0 (.slice none 0 0) (.slice none 0 0) []) (by simp[results,Tryz.results79,go_sem,q0,q1,q2,q3,q4,q5,q6,q7,q8]) rfl ?_
  have hb9:Below (w.heap.size+1) W0 w9:=(Below.refl _ _).grown hg9 (by have:=CB.out.size;omega) (fun k hk=>by cases hk;omega)
  exact⟨⟨id,1,1,0,0,[],[],[],0⟩,_,_,rfl,World.ownsRow_nil _ _ _ _,World.ownsRow_nil _ _ _ _,by simp,by simp,rfl,by simp,by simp,by simp,fun _=>rfl,CB.out.cur.kept (hb9.mono (by omega)) (hb9.block p (by omega)),z02 CB.out.gr (hb9.mono (by omega))⟩
 ·have hn1:0<es.length:=by
   cases es with
   | nil=>exact absurd rfl hes
   | cons x r=>simp
  have g0:((es.length:Int)==0)=false:=by rw[beq_eq_false_iff_ne];omega
  have CV:=hide hes
  clear hes
  have Cr:=hide CB.out.cur
  have hs0:=CB.out.size
  go_upto_region 4 with (go_at_call 124;refine (z3o B p a len cap _ (by omega) Cr.out).mono ?_;rintro r w1 ⟨id1,kd,sn,us,mb,dp,vl,vp,tx,n1,m1,zl,zp,rfl,hn5,hm0,htx,hown,hfl,hfp,hc1,hg1⟩;obtain⟨ol,cl,rfl⟩:=zb hown.l;obtain⟨oq,cq,rfl⟩:=zb hown.p)
  have hzl:zl.length=n1:=by have:=hown.l.1;simpa using this
  have hzp:zp.length=m1:=by have:=hown.p.1;simpa using this
  subst hzl
  subst hzp
  have BO:=hide (CB.out.drawn hc1 hg1)
  have hs1:=BO.out.size
  obtain⟨w2,hw2⟩:∃ w2,w1.alloc (.cells (zh id1 kd sn us mb dp (.slice ol zl.length cl) (.slice oq zp.length cq) tx) 47)=w2:=⟨_,rfl⟩
  have hb2:Below w1.heap.size w1 w2:=by rw[← hw2];exact (Below.refl _ _).alloc (Nat.le_refl _) _
  have hE2:NxE w w1.heap.size ⟨id1,kd,sn,us,mb,zl,tx,zp,dp⟩ (.slice ol zl.length cl) (.slice oq zp.length cq) w2:=by
   refine⟨by rw[← hw2];exact EB.new _ _ _ _ _ _ _ _ _ _,own_below (zq hown.l (by omega)) hb2,own_below (zq hown.p (by omega)) hb2,hfl,hfp,hn5,by simp at hm0;simp[hm0],htx,by omega⟩
  rw[show w1.alloc (.cells #[.int .i64 id1,.int .i64 kd,.int .i64 sn,.int .i64 us,.int .i64 mb,.slice ol zl.length cl,.string ⟨tx.toArray⟩,.slice oq zp.length cq,.int .i64 dp] 47)=w2 from hw2]
  have AV:=hide (BO.out.on (hb2.mono (by omega)))
  generalize w1.heap.size=be at hE2 ⊢
  have HE2:=hide hE2
  have he0:=hE2.eb.ev
  obtain⟨t0,t1,t2,t3,t4,t5,t6,t7,t8⟩:=he0
  have f0:=hE2.eb.free 0
  clear hw2 hb2 hE2 BO CB Cr hc1 hg1 hown r0
  go_upto_region 5 with fail
  have hE3:NxE w be ⟨id,kd,sn,us,mb,zl,tx,zp,dp⟩ (.slice ol zl.length cl) (.slice oq zp.length cq) (w2.setCell ⟨be,0,none⟩ (.int .i64 id)):=⟨HE2.out.eb.put0 id,ze HE2.out.l (z01 w2 be 0 _) HE2.out.eb (by decide),ze HE2.out.q (z01 w2 be 0 _) HE2.out.eb (by decide),HE2.out.fl,HE2.out.fp,HE2.out.nl,HE2.out.np,HE2.out.tx,HE2.out.hbe⟩
  have Ev:=hide (AV.out.on ((Below.refl (w.heap.size+2) w2).grown (z01 w2 be 0 (.int .i64 id)) AV.out.size (fun k hk=>by cases hk;exact HE2.out.hbe)))
  generalize w2.setCell ⟨be,0,none⟩ (.int .i64 id)=w3 at hE3 Ev ⊢
  have DW:=hide hE3
  clear hE3 AV t0 t1 t2 t3 t4 t5 t6 t7 t8 f0 HE2
  have r0:=za Ev.out.r 0 rfl
  have r1:=za Ev.out.r 1 rfl
  have r2:=za Ev.out.r 2 rfl
  go_upto_region 6 with (go_at_call 88;(with_reducible refine (Er.out _ Ev.out.gr).mono ?_);rintro r w4 ⟨⟨ve4,rfl,ho4,hb4⟩,hwf4⟩;obtain⟨oe,ce,rfl⟩:=zb ho4)
  have CW:=hide (Ev.out.on (hb4.mono Ev.out.size))
  have JV:=hide (DW.out.on hb4)
  obtain⟨_,_,heo,hi4⟩:=z0e (z10 ho4 (show p<w3.heap.size by have:=Ev.out.size;omega)) hwf4
  cases heo
  have HI4:=hide hi4
  have G9:=hide hwf4
  generalize z7h es=L at HI4 G9 ⊢
  clear hi4 hwf4 ho4 hb4 Ev DW r0 r1 r2 Er
  have hLm:=Nat.le_trans HI4.out.room HI4.out.most
  unfold maxLen at hLm
  have Je:=hide (show (w4.alloc (.cells #[] 3)).ownsRow w4.heap.size 3 1 (.slice (some ⟨w4.heap.size,0,none⟩) 0 0) 0 [] from World.ownsRow_made (w:=w4) #[] 0 (Nat.le_refl _) (by decide) rfl)
  have D8:=hide (show Below w4.heap.size w4 (w4.alloc (.cells #[] 3)) from (Below.refl _ _).alloc (Nat.le_refl _) _)
  have hs4:=CW.out.size
  have Jf:=hide ((CW.out.on (D8.out.mono hs4)).cur)
  have Jg:=hide (show w4.grownBy (w4.alloc (.cells #[] 3)) (some p) from ⟨D8.out.os,D8.out.tape,D8.out.output,D8.out.size,fun k hk _=>D8.out.block k hk⟩)
  go_wp2_with fail
  go_loopw [9,10] (fun v i wr=>∃ (j:Nat) (oo:Option Addr) (co:Nat) (pv:List Int),i=.int .i64 (j:Int)∧v=.slice oo pv.length co∧j≤L.length∧pv.length≤3∧(∀ z∈pv,(Lit.int .i64 z).wf=true)∧wr.ownsRow w4.heap.size 3 1 (.slice oo pv.length co) pv.length (pv.map zu)∧CurAt B wr p a len cap∧w4.grownBy wr (some p)) (fun _ i _=>L.length - (intOf i).toNat)
  case atStart=>exact⟨0,_,_,[],rfl,rfl,Nat.zero_le _,by simp,by simp,Je.out,Jf.out,Jg.out⟩
  case round =>
   obtain⟨j,oo,co,pv,rfl,rfl,hj,hm3,hpf,hown,hcu,hgr⟩:=hrel
   have HOW:=hide hown
   have DJ:=hide hcu
   have CL:=hide hgr
   have ER:=hide hpf
   clear hown hcu hgr hpf Je D8 Jf Jg
   by_cases hlt:j<L.length
   ·have j0:(j:Int)<(L.length:Int):=by omega
    by_cases hlt3:pv.length<3
    ·have m0:(pv.length:Int)<3:=by omega
     obtain⟨z,b,q,hz,hidx,hb,c0w,hwz⟩:=(HI4.out.below (z1t CL.out (by omega))).un.get Tryz.underlying32 z0m j hlt
     have Kw:=hide hwz
     clear hz hwz
     have hbz:=hb
     go_wp2_with fail
     refine (z3s B p a len cap 2 (by omega) (by omega) _ DJ.out).mono ?_
     rintro e w5 ⟨bb,rfl,hc5,hg5⟩
     have Dl:=hide hc5
     have Aw:=hide (zm CL.out hg5)
     have Cj:=hide (HOW.out.kept hg5 (z13 HOW.out (by omega)))
     obtain⟨z',b',q',hz',hidx',hb',c0',hwz'⟩:=(HI4.out.below (z1t Aw.out (by omega))).un.get Tryz.underlying32 z0m j hlt
     have HWZ':=hide hwz'
     clear hz' hwz' hc5 hg5 c0w hidx hb Kw hbz
     have ho5:=Cj.out
     have hs5:w4.heap.size≤w5.heap.size:=Aw.out.size
     cases bb with
     | true =>
      go_wp2_with (at_builtin;refine z5u (W0:=w5) (cs:=#[.int .i64 z']) rfl _ _ 32 rfl (by decide) Tryz.underlying32 z11 rfl rfl ho5 rfl rfl (by simp[Value.oneCell']) hs5 (by unfold maxLen;omega) (by omega) ?_;intro v6 w6 ho6 hg6;obtain⟨o6,c6,rfl⟩:=zb ho6)
      have hb6:Below w4.heap.size w5 w6:=((Below.refl w4.heap.size w5).alloc hs5 _).grown hg6 (by simp;omega) (fun k hk=>(ho5.lt k hk).1)
      have Dk:=hide (show w6.ownsRow w4.heap.size 3 1 (.slice o6 (pv++[z']).length c6) (pv++[z']).length ((pv++[z']).map zu) by rw[z5k,z05];exact ho6)
      have Ew:=hide (z02 Aw.out hb6)
      have Ky:=hide (Dl.out.kept (hb6.mono (by omega)) (hb6.block p (by omega)))
      clear ho6 hg6
      go_roundw
      case rel=>exact⟨j+1,o6,c6,pv++[z'],by go_num,by rw[z05],by omega,by rw[z05];omega,fun y hy=>by
       rcases List.mem_append.1 hy with hy|hy
       ·exact ER.out y hy
       ·simp at hy;subst hy;exact HWZ'.out,Dk.out,Ky.out,Ew.out⟩
      case measure=>simp[intOf];omega
     | false =>
      by_cases hlast:(j:Int)+1=(L.length:Int)
      ·have hl2:((j:Int)+1==(L.length:Int))=true:=by simpa using hlast
       by_cases hpz:pv.length=0
       ·have hpz2:((pv.length:Int)==0)=true:=by rw[hpz];rfl
        clear hpz
        go_wp2_with (at_builtin;refine z5u (W0:=w5) (cs:=#[.int .i64 z']) rfl _ _ 32 rfl (by decide) Tryz.underlying32 z11 rfl rfl ho5 rfl rfl (by simp[Value.oneCell']) hs5 (by unfold maxLen;omega) (by omega) ?_;intro v6 w6 ho6 hg6;obtain⟨o6,c6,rfl⟩:=zb ho6)
        have hb6:Below w4.heap.size w5 w6:=((Below.refl w4.heap.size w5).alloc hs5 _).grown hg6 (by simp;omega) (fun k hk=>(ho5.lt k hk).1)
        have Dk:=hide (show w6.ownsRow w4.heap.size 3 1 (.slice o6 (pv++[z']).length c6) (pv++[z']).length ((pv++[z']).map zu) by rw[z5k,z05];exact ho6)
        have Ew:=hide (z02 Aw.out hb6)
        have Ky:=hide (Dl.out.kept (hb6.mono (by omega)) (hb6.block p (by omega)))
        clear ho6 hg6
        go_roundw
        case rel=>exact⟨j+1,o6,c6,pv++[z'],by go_num,by rw[z05],by omega,by rw[z05];omega,fun y hy=>by
         rcases List.mem_append.1 hy with hy|hy
         ·exact ER.out y hy
         ·simp at hy;subst hy;exact HWZ'.out,Dk.out,Ky.out,Ew.out⟩
        case measure=>simp[intOf];omega
       ·have hpz2:((pv.length:Int)==0)=false:=by rw[beq_eq_false_iff_ne];omega
        go_wp2_with fail
        go_roundw
        case rel=>exact⟨j+1,_,_,pv,by go_num,rfl,by omega,hm3,ER.out,Cj.out,Dl.out,Aw.out⟩
        case measure=>simp[intOf];omega
      ·have hl2:((j:Int)+1==(L.length:Int))=false:=by simpa using hlast
       go_wp2_with fail
       go_roundw
       case rel=>exact⟨j+1,_,_,pv,by go_num,rfl,by omega,hm3,ER.out,Cj.out,Dl.out,Aw.out⟩
       case measure=>simp[intOf];omega
    ·have m0:¬ ((pv.length:Int)<3):=by omega
     go_wp2_with fail
     refine (z3s B p a len cap 4 (by omega) (by omega) _ DJ.out).mono ?_
     rintro e w5 ⟨bb,rfl,hc5,hg5⟩
     have Aw:=hide (zm CL.out hg5)
     have Cj:=hide (HOW.out.kept hg5 (z13 HOW.out (by omega)))
     have Dl:=hide hc5
     clear hc5 hg5 HOW DJ CL HI4 G9
     cases bb with
     | false =>
      have CR:=hide hm3
      have CO:=hide (CW.out.drawn Dl.out Aw.out)
      have Av:=hide (JV.out.drawn CW.out.hp Aw.out)
      obtain⟨t0,t1,t2,t3,t4,t5,t6,t7,t8⟩:=Av.out.eb.ev
      have f7:=Av.out.eb.free 7
      go_upto_region 15 with fail
      have hg7:=z01 w5 be 7 (.slice oo pv.length co)
      have hb7:Below (w.heap.size+2) w5 (w5.setCell ⟨be,7,none⟩ (.slice oo pv.length co)):=(Below.refl _ _).grown hg7 CO.out.size (fun k hk=>by cases hk;exact Av.out.hbe)
      have hE7:NxE w be (⟨id,kd,sn,us,mb,zl,tx,pv,dp⟩:EvV) (.slice ol zl.length cl) (.slice oo pv.length co) (w5.setCell ⟨be,7,none⟩ (.slice oo pv.length co)):=⟨Av.out.eb.put7 _,ze Av.out.l hg7 Av.out.eb (by decide),ze (zq Cj.out (by omega)) hg7 Av.out.eb (by decide),Av.out.fl,ER.out,Av.out.nl,CR.out,Av.out.tx,Av.out.hbe⟩
      have AX:=hide (CO.out.on hb7)
      generalize w5.setCell ⟨be,7,none⟩ (.slice oo pv.length co)=w7 at hE7 AX ⊢
      have Cs:=hide hE7
      clear hE7 hb7 hg7 t0 t1 t2 t3 t4 t5 t6 t7 t8 f7 Av CO
      have r0:=za AX.out.r 0 rfl
      have r1:=za AX.out.r 1 rfl
      have r2:=za AX.out.r 2 rfl
      obtain⟨_,_,heo,hi7⟩:=z0e Cs.out.q Cs.out.fp
      cases heo
      replace hi7:IntsAt w7 oo pv.length co pv:=hi7
      go_upto_region 16 with (go_at_call 125;(with_reducible refine (CG.out _ AX.out.gr _ _ _ _ hi7).mono ?_);rintro r w8 ⟨rfl,hb8⟩;have hE8:=Cs.out.on hb8;obtain⟨t0,t1,t2,t3,t4,t5,t6,t7,t8⟩:=hE8.eb.ev;have f8:=hE8.eb.free 8)
      have D9:=hide (AX.out.on (hb8.mono AX.out.size))
      generalize z3r es _=D at *
      have hg9:=z01 w8 be 8 (.int .i64 D)
      have hb9:Below (w.heap.size+2) w8 (w8.setCell ⟨be,8,none⟩ (.int .i64 D)):=(Below.refl _ _).grown hg9 D9.out.size (fun k hk=>by cases hk;exact hE8.hbe)
      have hE9:NxE w be (⟨id,kd,sn,us,mb,zl,tx,pv,D⟩:EvV) (.slice ol zl.length cl) (.slice oo pv.length co) (w8.setCell ⟨be,8,none⟩ (.int .i64 D)):=⟨hE8.eb.put8 _,ze hE8.l hg9 hE8.eb (by decide),ze hE8.q hg9 hE8.eb (by decide),hE8.fl,hE8.fp,hE8.nl,hE8.np,hE8.tx,hE8.hbe⟩
      have AC:=hide (D9.out.on hb9)
      generalize w8.setCell ⟨be,8,none⟩ (.int .i64 D)=w9 at hE9 AC ⊢
      have Ct:=hide hE9
      clear hE9 hb9 hg9 t0 t1 t2 t3 t4 t5 t6 t7 t8 f8 hE8 D9 AX Cs hi7 r0 r1 r2 hb8
      have r0:=za AC.out.r 0 rfl
      have r1:=za AC.out.r 1 rfl
      have r2:=za AC.out.r 2 rfl
      obtain⟨_,_,heo,hi9⟩:=z0e Ct.out.q Ct.out.fp
      cases heo
      replace hi9:IntsAt w9 oo pv.length co pv:=hi9
      go_upto_region 17 with (go_at_call 87;(with_reducible refine (G8.out _ AC.out.gr _ _ _ _ (by first|decide|(have:=CR.out;omega)) hi9).mono ?_);rintro r w10 ⟨v10,rfl,ho10,hb10⟩;obtain⟨os,cs,rfl⟩:=zb ho10)
      generalize (z2r es sts pv).getD []=SS at ho10 ⊢
      generalize (z2r es sts pv).isSome=bs
      have BR:=hide (zq ho10 (show w.heap.size≤w9.heap.size by have:=AC.out.size;omega))
      have BS:=hide (AC.out.on (hb10.mono AC.out.size))
      have BU:=hide (Ct.out.on hb10)
      clear ho10 hb10 hi9 r0 r1 r2 AC Ct
      go_wp2_with fail
      go_loopw [13] (fun i wr=>∃ (j:Nat) (e:EvV) (vl:Value),i=.int .i64 (j:Int)∧j≤6∧e.id=id∧e.prev.length=pv.length∧NxS B p a len cap w (.slice oa es.length ca) (.slice so sts.length sc) vg wr∧NxE w be e vl (.slice oo pv.length co) wr∧wr.ownsRow w.heap.size 36 2 (.slice os SS.length cs) SS.length (SS.flatMap z06)) (fun i _=>6 - (intOf i).toNat)
      case atStart=>exact⟨0,_,_,rfl,by omega,rfl,rfl,BS.out,BU.out,BR.out⟩
      case round =>
       obtain⟨j2,e,vl,rfl,hj2,hid,hpm,hns,hne,hss⟩:=hrel
       obtain⟨ox,cx,rfl⟩:=zb hne.l
       have Ac:=hide hns
       have Ab:=hide hne
       have BG:=hide hss
       have AU:=hide hid
       have El:=hide hpm
       obtain⟨_,_,heo,hil⟩:=z0e hne.l hne.fl
       cases heo
       obtain⟨_,_,heo,hiq⟩:=z0e hne.q hne.fp
       injection heo with ho1 ho2 ho3
       subst ho1
       subst ho3
       obtain⟨_,_,heo,his⟩:=z03 hss
       cases heo
       have htx:=hne.tx
       have Au:=hide (z2h oa es.length ca es os SS.length cs SS e ox cx oo co (by omega) wr ⟨Af.out wr hns.gr,his⟩ hil hiq)
       rw[hpm] at Au
       clear hns hne hss hid hil hiq his BS BU BR hpm ho2
       by_cases hlt6:j2<6
       ·have j60:(j2:Int)<6:=by omega
        have r0:=za Ac.out.r 0 rfl
        obtain⟨t0,t1,t2,t3,t4,t5,t6,t7,t8⟩:=Ab.out.eb.ev
        generalize allowed es SS e=al at Au
        cases al
        ·go_upto_region 20 with (go_at_call 55;(with_reducible refine Au.out.mono ?_);rintro r w11 ⟨rfl,hb11⟩)
         have A8:=hide (Ac.out.on (hb11.mono Ac.out.size))
         have A7:=hide (Ab.out.on hb11)
         have Bc:=hide (own_below BG.out hb11)
         clear hb11 r0 t0 t1 t2 t3 t4 t5 t6 t7 t8 Ac Ab BG Au
         have BV:=hide A8.out.cur
         have hs11:=A8.out.size
         go_upto_region 21 with (go_at_call 124;refine (z3o B p a len cap _ (by omega) BV.out).mono ?_;rintro r w12 ⟨id2,kd2,sn2,us2,mb2,dp2,vl2,vp2,tx2,n2,m2,zl2,zp2,rfl,hn52,hm02,htx2,hown2,hfl2,hfp2,hc12,hg12⟩;obtain⟨ol2,cl2,rfl⟩:=zb hown2.l;obtain⟨oq2,cq2,rfl⟩:=zb hown2.p)
         have hzl2:zl2.length=n2:=by have:=hown2.l.1;simpa using this
         have hzp2:zp2.length=m2:=by have:=hown2.p.1;simpa using this
         subst hzl2
         subst hzp2
         have Bd:=hide (A8.out.drawn hc12 hg12)
         have Be:=hide (A7.out.drawn A8.out.hp hg12)
         have BX:=hide (Bc.out.kept hg12 (z13 Bc.out A8.out.hp))
         have hs12:=Bd.out.size
         obtain⟨w13,hw13⟩:∃ w13,w12.alloc (.cells (zh id2 kd2 sn2 us2 mb2 dp2 (.slice ol2 zl2.length cl2) (.slice oq2 zp2.length cq2) tx2) 47)=w13:=⟨_,rfl⟩
         have hb13:Below w12.heap.size w12 w13:=by rw[← hw13];exact (Below.refl _ _).alloc (Nat.le_refl _) _
         have hB13:EB w13 w12.heap.size id2 kd2 sn2 us2 mb2 dp2 (.slice ol2 zl2.length cl2) (.slice oq2 zp2.length cq2) tx2:=by rw[← hw13];exact EB.new _ _ _ _ _ _ _ _ _ _
         rw[show w12.alloc (.cells #[.int .i64 id2,.int .i64 kd2,.int .i64 sn2,.int .i64 us2,.int .i64 mb2,.slice ol2 zl2.length cl2,.string ⟨tx2.toArray⟩,.slice oq2 zp2.length cq2,.int .i64 dp2] 47)=w13 from hw13]
         have Bf:=hide (Bd.out.on (hb13.mono (by omega)))
         have Ag:=hide (Be.out.on hb13)
         have BZ:=hide (own_below BX.out hb13)
         have C8:=hide (own_below (zq hown2.l (show w.heap.size≤w11.heap.size by omega)) hb13)
         have hbb:w.heap.size+2≤w12.heap.size:=by omega
         have hbne:be≠w12.heap.size:=by have:=Be.out.eb.lt;omega
         generalize w12.heap.size=bb at hB13 hbb hbne ⊢
         have Am:=hide hB13
         clear hw13 hb13 hB13 Bd Be BX A8 A7 Bc BV hown2 hc12 hg12
         obtain⟨t0,t1,t2,t3,t4,t5,t6,t7,t8⟩:=Ag.out.eb.ev
         obtain⟨u0,u1,u2,u3,u4,u5,u6,u7,u8⟩:=Am.out.ev
         have f0:=Am.out.free 0
         go_upto_region 22 with fail
         have hgg:=z01 w13 bb 0 (.int .i64 e.id)
         have hbl:Below (w.heap.size+2) w13 (w13.setCell ⟨bb,0,none⟩ (.int .i64 e.id)):=(Below.refl _ _).grown hgg Bf.out.size (fun k hk=>by cases hk;exact hbb)
         have AJ:=hide (Bf.out.on hbl)
         have Ai:=hide (Am.out.put0 e.id)
         have Bg:=hide (ze BZ.out hgg Am.out (by decide))
         have Bh:=hide (ze C8.out hgg Am.out (by decide))
         have Ad:=hide (show NxE w be e (.slice ox e.levels.length cx) (.slice oo pv.length co) (w13.setCell ⟨bb,0,none⟩ (.int .i64 e.id)) from ⟨Ag.out.eb.kept hgg (fun q=>hbne (Option.some.inj q).symm),ze Ag.out.l hgg Am.out (by decide),ze Ag.out.q hgg Am.out (by decide),Ag.out.fl,Ag.out.fp,Ag.out.nl,Ag.out.np,Ag.out.tx,Ag.out.hbe⟩)
         generalize w13.setCell ⟨bb,0,none⟩ (.int .i64 e.id)=w14 at AJ Ai Bg Bh Ad ⊢
         clear t0 t1 t2 t3 t4 t5 t6 t7 t8 u0 u1 u2 u3 u4 u5 u6 u7 u8 f0 hgg hbl Bf Ag BZ C8 Am
         obtain⟨t0,t1,t2,t3,t4,t5,t6,t7,t8⟩:=Ad.out.eb.ev
         obtain⟨u0,u1,u2,u3,u4,u5,u6,u7,u8⟩:=Ai.out.ev
         have f7:=Ai.out.free 7
         go_upto_region 23 with fail
         have hgg:=z01 w14 bb 7 (.slice oo pv.length co)
         have hbl:Below (w.heap.size+2) w14 (w14.setCell ⟨bb,7,none⟩ (.slice oo pv.length co)):=(Below.refl _ _).grown hgg AJ.out.size (fun k hk=>by cases hk;exact hbb)
         have AL:=hide (AJ.out.on hbl)
         have Aj:=hide (Ai.out.put7 (.slice oo pv.length co))
         have Bi:=hide (ze Bg.out hgg Ai.out (by decide))
         have Bj:=hide (ze Bh.out hgg Ai.out (by decide))
         have Ae:=hide (show NxE w be e (.slice ox e.levels.length cx) (.slice oo pv.length co) (w14.setCell ⟨bb,7,none⟩ (.slice oo pv.length co)) from ⟨Ad.out.eb.kept hgg (fun q=>hbne (Option.some.inj q).symm),ze Ad.out.l hgg Ai.out (by decide),ze Ad.out.q hgg Ai.out (by decide),Ad.out.fl,Ad.out.fp,Ad.out.nl,Ad.out.np,Ad.out.tx,Ad.out.hbe⟩)
         generalize w14.setCell ⟨bb,7,none⟩ (.slice oo pv.length co)=w15 at AL Aj Bi Bj Ae ⊢
         clear t0 t1 t2 t3 t4 t5 t6 t7 t8 u0 u1 u2 u3 u4 u5 u6 u7 u8 f7 hgg hbl AJ Ad Bg Bh Ai
         obtain⟨t0,t1,t2,t3,t4,t5,t6,t7,t8⟩:=Ae.out.eb.ev
         obtain⟨u0,u1,u2,u3,u4,u5,u6,u7,u8⟩:=Aj.out.ev
         have f8:=Aj.out.free 8
         go_upto_region 24 with fail
         have hgg:=z01 w15 bb 8 (.int .i64 e.depth)
         have hbl:Below (w.heap.size+2) w15 (w15.setCell ⟨bb,8,none⟩ (.int .i64 e.depth)):=(Below.refl _ _).grown hgg AL.out.size (fun k hk=>by cases hk;exact hbb)
         have Bl:=hide (AL.out.on hbl)
         have C9:=hide (Aj.out.put8 e.depth)
         have Ca:=hide (ze Bi.out hgg Aj.out (by decide))
         have Cb:=hide (ze Bj.out hgg Aj.out (by decide))
         have Aa:=hide (show NxE w be e (.slice ox e.levels.length cx) (.slice oo pv.length co) (w15.setCell ⟨bb,8,none⟩ (.int .i64 e.depth)) from ⟨Ae.out.eb.kept hgg (fun q=>hbne (Option.some.inj q).symm),ze Ae.out.l hgg Aj.out (by decide),ze Ae.out.q hgg Aj.out (by decide),Ae.out.fl,Ae.out.fp,Ae.out.nl,Ae.out.np,Ae.out.tx,Ae.out.hbe⟩)
         generalize w15.setCell ⟨bb,8,none⟩ (.int .i64 e.depth)=w16 at Bl C9 Ca Cb Aa ⊢
         clear t0 t1 t2 t3 t4 t5 t6 t7 t8 u0 u1 u2 u3 u4 u5 u6 u7 u8 f8 hgg hbl AL Ae Bi Bj Aj
         obtain⟨t0,t1,t2,t3,t4,t5,t6,t7,t8⟩:=Aa.out.eb.ev
         obtain⟨u0,u1,u2,u3,u4,u5,u6,u7,u8⟩:=C9.out.ev
         have y0:=Aa.out.eb.free 0
         have y1:=Aa.out.eb.free 1
         have y2:=Aa.out.eb.free 2
         have y3:=Aa.out.eb.free 3
         have y4:=Aa.out.eb.free 4
         have y5:=Aa.out.eb.free 5
         have y6:=Aa.out.eb.free 6
         have y7:=Aa.out.eb.free 7
         have y8:=Aa.out.eb.free 8
         go_wp2_with fail
         obtain⟨w17,hw17,hE17,hg17⟩:=Aa.out.eb.all e.id kd2 sn2 us2 mb2 e.depth (.slice ol2 zl2.length cl2) (.slice oo pv.length co) tx2
         rw[hw17]
         have hb17:Below (w.heap.size+2) w16 w17:=(Below.refl _ _).grown hg17 Bl.out.size (fun k hk=>by cases hk;exact Aa.out.hbe)
         have Da:=hide (Bl.out.on hb17)
         have Db:=hide (show NxE w be (⟨e.id,kd2,sn2,us2,mb2,zl2,tx2,e.prev,e.depth⟩:EvV) (.slice ol2 zl2.length cl2) (.slice oo pv.length co) w17 from ⟨hE17,ze Cb.out hg17 Aa.out.eb (by decide),ze Aa.out.q hg17 Aa.out.eb (by decide),hfl2,Aa.out.fp,hn52,Aa.out.np,htx2,Aa.out.hbe⟩)
         have Dc:=hide (ze Ca.out hg17 Aa.out.eb (by decide))
         clear t0 t1 t2 t3 t4 t5 t6 t7 t8 u0 u1 u2 u3 u4 u5 u6 u7 u8 y0 y1 y2 y3 y4 y5 y6 y7 y8 hw17 hE17 hg17 hb17
         go_roundw
         case rel=>exact⟨j2+1,(⟨e.id,kd2,sn2,us2,mb2,zl2,tx2,e.prev,e.depth⟩:EvV),_,by go_num,by omega,AU.out,El.out,Da.out,Db.out,Dc.out⟩
         case measure=>simp[intOf];omega
        ·go_upto_region 25 with (go_at_call 55;(with_reducible refine Au.out.mono ?_);rintro r w11 ⟨rfl,hb11⟩)
         have A8:=hide (Ac.out.on (hb11.mono Ac.out.size))
         have A7:=hide (Ab.out.on hb11)
         clear hb11 r0 t0 t1 t2 t3 t4 t5 t6 t7 t8 Ac Ab BG Au
         have r0:=za A8.out.r 0 rfl
         by_cases hone:es.length=1
         ·have g1:((es.length:Int)==1)=true:=by rw[hone];rfl
          have De:=hide hone
          clear hone
          obtain⟨x0,b0,q0,xa0,xc0,ya0,yc0,hx0,hidx0,hev0⟩:=(Af.out w11 A8.out.gr).get Tryz.underlying24 z1p 0 hn1
          have hidx1:∀ wx,(Instr.indexAt 24 (.slice oa es.length ca) (.int .i64 0)).run Tryz.prog wx=.ok (.pointer (some ⟨b0,q0,none⟩)) wx:=hidx0
          obtain⟨k0,k1,k2,k3,k4,k5,k6,k7,k8⟩:=hev0.cs
          obtain⟨t0,t1,t2,t3,t4,t5,t6,t7,t8⟩:=A7.out.eb.ev
          have y0:=A7.out.eb.free 0
          have y1:=A7.out.eb.free 1
          have y2:=A7.out.eb.free 2
          have y3:=A7.out.eb.free 3
          have y4:=A7.out.eb.free 4
          have y5:=A7.out.eb.free 5
          have y6:=A7.out.eb.free 6
          have y7:=A7.out.eb.free 7
          have y8:=A7.out.eb.free 8
          go_upto_region 26 with fail
          go_still_tail 16,(by kernel_rfl)
          go_upto_region 27 with fail
          obtain⟨wy,hwy,hEy,hgy⟩:=A7.out.eb.all id 2 x0.sender x0.sender 2 e.depth (.slice none 0 0) (.slice oo pv.length co) []
          try rw[show (.string ⟨#[]⟩:Value)=.string ⟨([]:List UInt8).toArray⟩ from rfl]
          rw[hwy]
          have hby:Below (w.heap.size+2) w11 wy:=(Below.refl _ _).grown hgy A8.out.size (fun k hk=>by cases hk;exact A7.out.hbe)
          have HNy:=hide ((A8.out.on hby).on ((Below.refl (w.heap.size+2) wy).drew))
          have HEy:=hide ((show NxE w be (⟨id,2,x0.sender,x0.sender,2,[],[],e.prev,e.depth⟩:EvV) (.slice none 0 0) (.slice oo pv.length co) wy from ⟨hEy,World.ownsRow_nil _ _ _ _,ze A7.out.q hgy A7.out.eb (by decide),by simp,A7.out.fp,by simp,A7.out.np,by simp,A7.out.hbe⟩).on ((Below.refl wy.heap.size wy).drew))
          generalize wy.drew=wv at HNy HEy ⊢
          clear k0 k1 k2 k3 k4 k5 k6 k7 k8 t0 t1 t2 t3 t4 t5 t6 t7 t8 y0 y1 y2 y3 y4 y5 y6 y7 y8 hwy hEy hgy hby hx0 hidx0 hidx1 hev0
          skip
          obtain⟨t0,t1,t2,t3,t4,t5,t6,t7,t8⟩:=HEy.out.eb.ev
          obtain⟨q0,q1,q2,q3,q4,q5,q6,q7,q8⟩:=HNy.out.rr.ev
          have y0:=HNy.out.rr.free 0
          have y1:=HNy.out.rr.free 1
          have y2:=HNy.out.rr.free 2
          have y3:=HNy.out.rr.free 3
          have y4:=HNy.out.rr.free 4
          have y5:=HNy.out.rr.free 5
          have y6:=HNy.out.rr.free 6
          have y7:=HNy.out.rr.free 7
          have y8:=HNy.out.rr.free 8
          go_wp2_with fail
          obtain⟨wz,hwz,hEz,hgz⟩:=HNy.out.rr.all (⟨id,2,x0.sender,x0.sender,2,[],[],e.prev,e.depth⟩:EvV).id (⟨id,2,x0.sender,x0.sender,2,[],[],e.prev,e.depth⟩:EvV).kind (⟨id,2,x0.sender,x0.sender,2,[],[],e.prev,e.depth⟩:EvV).sender (⟨id,2,x0.sender,x0.sender,2,[],[],e.prev,e.depth⟩:EvV).user (⟨id,2,x0.sender,x0.sender,2,[],[],e.prev,e.depth⟩:EvV).member (⟨id,2,x0.sender,x0.sender,2,[],[],e.prev,e.depth⟩:EvV).depth (.slice none 0 0) (.slice oo pv.length co) (⟨id,2,x0.sender,x0.sender,2,[],[],e.prev,e.depth⟩:EvV).text
          try simp only at hwz hEz
          rw[hwz]
          clear t0 t1 t2 t3 t4 t5 t6 t7 t8 q0 q1 q2 q3 q4 q5 q6 q7 q8 y0 y1 y2 y3 y4 y5 y6 y7 y8
          obtain⟨t0,t1,t2,t3,t4,t5,t6,t7,t8⟩:=hEz.ev
          refine bodyPost_ret (v:=evv (⟨id,2,x0.sender,x0.sender,2,[],[],e.prev,e.depth⟩:EvV) (.slice none 0 0) (.slice oo pv.length co)) (by simp[results,Tryz.results79,go_sem,t0,t1,t2,t3,t4,t5,t6,t7,t8]) rfl ?_
          have hbz:Below (w.heap.size+1) wv wz:=(Below.refl _ _).grown hgz (by have:=HNy.out.size;omega) (fun k hk=>by cases hk;omega)
          exact⟨(⟨id,2,x0.sender,x0.sender,2,[],[],e.prev,e.depth⟩:EvV),_,_,rfl,ze HEy.out.l hgz HNy.out.rr (by decide),ze HEy.out.q hgz HNy.out.rr (by decide),HEy.out.fl,HEy.out.fp,rfl,HEy.out.nl,HEy.out.np,HEy.out.tx,fun h=>absurd h CV.out,HNy.out.cur.kept (hbz.mono (by omega)) (hbz.block p (by omega)),z02 HNy.out.gr (hbz.mono (by omega))⟩
         ·have g1:((es.length:Int)==1)=false:=by rw[beq_eq_false_iff_ne];omega
          clear hone
          obtain⟨t0,t1,t2,t3,t4,t5,t6,t7,t8⟩:=A7.out.eb.ev
          obtain⟨q0,q1,q2,q3,q4,q5,q6,q7,q8⟩:=A8.out.rr.ev
          have y0:=A8.out.rr.free 0
          have y1:=A8.out.rr.free 1
          have y2:=A8.out.rr.free 2
          have y3:=A8.out.rr.free 3
          have y4:=A8.out.rr.free 4
          have y5:=A8.out.rr.free 5
          have y6:=A8.out.rr.free 6
          have y7:=A8.out.rr.free 7
          have y8:=A8.out.rr.free 8
          go_wp2_with fail
          obtain⟨wz,hwz,hEz,hgz⟩:=A8.out.rr.all e.id e.kind e.sender e.user e.member e.depth (.slice ox e.levels.length cx) (.slice oo pv.length co) e.text
          try simp only at hwz hEz
          rw[hwz]
          clear t0 t1 t2 t3 t4 t5 t6 t7 t8 q0 q1 q2 q3 q4 q5 q6 q7 q8 y0 y1 y2 y3 y4 y5 y6 y7 y8
          obtain⟨t0,t1,t2,t3,t4,t5,t6,t7,t8⟩:=hEz.ev
          refine bodyPost_ret (v:=evv e (.slice ox e.levels.length cx) (.slice oo pv.length co)) (by simp[results,Tryz.results79,go_sem,t0,t1,t2,t3,t4,t5,t6,t7,t8]) rfl ?_
          have hbz:Below (w.heap.size+1) w11 wz:=(Below.refl _ _).grown hgz (by have:=A8.out.size;omega) (fun k hk=>by cases hk;omega)
          exact⟨e,_,_,rfl,ze A7.out.l hgz A8.out.rr (by decide),ze A7.out.q hgz A8.out.rr (by decide),A7.out.fl,A7.out.fp,AU.out,A7.out.nl,A7.out.np,A7.out.tx,fun h=>absurd h CV.out,A8.out.cur.kept (hbz.mono (by omega)) (hbz.block p (by omega)),z02 A8.out.gr (hbz.mono (by omega))⟩
       ·have j60:¬ ((j2:Int)<6):=by omega
        go_upto_region 25 with fail
        clear Au
        have r0:=za Ac.out.r 0 rfl
        by_cases hone:es.length=1
        ·have g1:((es.length:Int)==1)=true:=by rw[hone];rfl
         have De:=hide hone
         clear hone
         obtain⟨x0,b0,q0,xa0,xc0,ya0,yc0,hx0,hidx0,hev0⟩:=(Af.out wr Ac.out.gr).get Tryz.underlying24 z1p 0 hn1
         have hidx1:∀ wx,(Instr.indexAt 24 (.slice oa es.length ca) (.int .i64 0)).run Tryz.prog wx=.ok (.pointer (some ⟨b0,q0,none⟩)) wx:=hidx0
         obtain⟨k0,k1,k2,k3,k4,k5,k6,k7,k8⟩:=hev0.cs
         obtain⟨t0,t1,t2,t3,t4,t5,t6,t7,t8⟩:=Ab.out.eb.ev
         have y0:=Ab.out.eb.free 0
         have y1:=Ab.out.eb.free 1
         have y2:=Ab.out.eb.free 2
         have y3:=Ab.out.eb.free 3
         have y4:=Ab.out.eb.free 4
         have y5:=Ab.out.eb.free 5
         have y6:=Ab.out.eb.free 6
         have y7:=Ab.out.eb.free 7
         have y8:=Ab.out.eb.free 8
         go_upto_region 26 with fail
         go_still_tail 16,(by kernel_rfl)
         go_upto_region 27 with fail
         obtain⟨wy,hwy,hEy,hgy⟩:=Ab.out.eb.all id 2 x0.sender x0.sender 2 e.depth (.slice none 0 0) (.slice oo pv.length co) []
         try rw[show (.string ⟨#[]⟩:Value)=.string ⟨([]:List UInt8).toArray⟩ from rfl]
         rw[hwy]
         have hby:Below (w.heap.size+2) wr wy:=(Below.refl _ _).grown hgy Ac.out.size (fun k hk=>by cases hk;exact Ab.out.hbe)
         have HNy:=hide ((Ac.out.on hby).on ((Below.refl (w.heap.size+2) wy).drew))
         have HEy:=hide ((show NxE w be (⟨id,2,x0.sender,x0.sender,2,[],[],e.prev,e.depth⟩:EvV) (.slice none 0 0) (.slice oo pv.length co) wy from ⟨hEy,World.ownsRow_nil _ _ _ _,ze Ab.out.q hgy Ab.out.eb (by decide),by simp,Ab.out.fp,by simp,Ab.out.np,by simp,Ab.out.hbe⟩).on ((Below.refl wy.heap.size wy).drew))
         generalize wy.drew=wv at HNy HEy ⊢
         clear k0 k1 k2 k3 k4 k5 k6 k7 k8 t0 t1 t2 t3 t4 t5 t6 t7 t8 y0 y1 y2 y3 y4 y5 y6 y7 y8 hwy hEy hgy hby hx0 hidx0 hidx1 hev0
         skip
         obtain⟨t0,t1,t2,t3,t4,t5,t6,t7,t8⟩:=HEy.out.eb.ev
         obtain⟨q0,q1,q2,q3,q4,q5,q6,q7,q8⟩:=HNy.out.rr.ev
         have y0:=HNy.out.rr.free 0
         have y1:=HNy.out.rr.free 1
         have y2:=HNy.out.rr.free 2
         have y3:=HNy.out.rr.free 3
         have y4:=HNy.out.rr.free 4
         have y5:=HNy.out.rr.free 5
         have y6:=HNy.out.rr.free 6
         have y7:=HNy.out.rr.free 7
         have y8:=HNy.out.rr.free 8
         go_wp2_with fail
         obtain⟨wz,hwz,hEz,hgz⟩:=HNy.out.rr.all (⟨id,2,x0.sender,x0.sender,2,[],[],e.prev,e.depth⟩:EvV).id (⟨id,2,x0.sender,x0.sender,2,[],[],e.prev,e.depth⟩:EvV).kind (⟨id,2,x0.sender,x0.sender,2,[],[],e.prev,e.depth⟩:EvV).sender (⟨id,2,x0.sender,x0.sender,2,[],[],e.prev,e.depth⟩:EvV).user (⟨id,2,x0.sender,x0.sender,2,[],[],e.prev,e.depth⟩:EvV).member (⟨id,2,x0.sender,x0.sender,2,[],[],e.prev,e.depth⟩:EvV).depth (.slice none 0 0) (.slice oo pv.length co) (⟨id,2,x0.sender,x0.sender,2,[],[],e.prev,e.depth⟩:EvV).text
         try simp only at hwz hEz
         rw[hwz]
         clear t0 t1 t2 t3 t4 t5 t6 t7 t8 q0 q1 q2 q3 q4 q5 q6 q7 q8 y0 y1 y2 y3 y4 y5 y6 y7 y8
         obtain⟨t0,t1,t2,t3,t4,t5,t6,t7,t8⟩:=hEz.ev
         refine bodyPost_ret (v:=evv (⟨id,2,x0.sender,x0.sender,2,[],[],e.prev,e.depth⟩:EvV) (.slice none 0 0) (.slice oo pv.length co)) (by simp[results,Tryz.results79,go_sem,t0,t1,t2,t3,t4,t5,t6,t7,t8]) rfl ?_
         have hbz:Below (w.heap.size+1) wv wz:=(Below.refl _ _).grown hgz (by have:=HNy.out.size;omega) (fun k hk=>by cases hk;omega)
         exact⟨(⟨id,2,x0.sender,x0.sender,2,[],[],e.prev,e.depth⟩:EvV),_,_,rfl,ze HEy.out.l hgz HNy.out.rr (by decide),ze HEy.out.q hgz HNy.out.rr (by decide),HEy.out.fl,HEy.out.fp,rfl,HEy.out.nl,HEy.out.np,HEy.out.tx,fun h=>absurd h CV.out,HNy.out.cur.kept (hbz.mono (by omega)) (hbz.block p (by omega)),z02 HNy.out.gr (hbz.mono (by omega))⟩
        ·have g1:((es.length:Int)==1)=false:=by rw[beq_eq_false_iff_ne];omega
         clear hone
         obtain⟨t0,t1,t2,t3,t4,t5,t6,t7,t8⟩:=Ab.out.eb.ev
         obtain⟨q0,q1,q2,q3,q4,q5,q6,q7,q8⟩:=Ac.out.rr.ev
         have y0:=Ac.out.rr.free 0
         have y1:=Ac.out.rr.free 1
         have y2:=Ac.out.rr.free 2
         have y3:=Ac.out.rr.free 3
         have y4:=Ac.out.rr.free 4
         have y5:=Ac.out.rr.free 5
         have y6:=Ac.out.rr.free 6
         have y7:=Ac.out.rr.free 7
         have y8:=Ac.out.rr.free 8
         go_wp2_with fail
         obtain⟨wz,hwz,hEz,hgz⟩:=Ac.out.rr.all e.id e.kind e.sender e.user e.member e.depth (.slice ox e.levels.length cx) (.slice oo pv.length co) e.text
         try simp only at hwz hEz
         rw[hwz]
         clear t0 t1 t2 t3 t4 t5 t6 t7 t8 q0 q1 q2 q3 q4 q5 q6 q7 q8 y0 y1 y2 y3 y4 y5 y6 y7 y8
         obtain⟨t0,t1,t2,t3,t4,t5,t6,t7,t8⟩:=hEz.ev
         refine bodyPost_ret (v:=evv e (.slice ox e.levels.length cx) (.slice oo pv.length co)) (by simp[results,Tryz.results79,go_sem,t0,t1,t2,t3,t4,t5,t6,t7,t8]) rfl ?_
         have hbz:Below (w.heap.size+1) wr wz:=(Below.refl _ _).grown hgz (by have:=Ac.out.size;omega) (fun k hk=>by cases hk;omega)
         exact⟨e,_,_,rfl,ze Ab.out.l hgz Ac.out.rr (by decide),ze Ab.out.q hgz Ac.out.rr (by decide),Ab.out.fl,Ab.out.fp,AU.out,Ab.out.nl,Ab.out.np,Ab.out.tx,fun h=>absurd h CV.out,Ac.out.cur.kept (hbz.mono (by omega)) (hbz.block p (by omega)),z02 Ac.out.gr (hbz.mono (by omega))⟩
     | true =>
      have r0:=za (CW.out.drawn Dl.out Aw.out).r 0 rfl
      go_upto_region 13 with fail
      refine (fun (KEY:Hid ?G1)=>?main1) (hide ?key1)
      case main1 =>
       go_region_law (rw[if_pos (by rfl)];go_simp;go_at_call 66;refine (z1u B p a len cap es.length hn1 (by omega) _ (Dl.out.kept (Below.refl B w5).drew rfl)).mono ?_;rintro r w6 ⟨x6,hx6,rfl,hc6,hg6⟩;have hg56:w5.grownBy w6 (some p):=z9v hg6;have r06:=za (CW.out.drawn hc6 (zm Aw.out hg56)).r 0 rfl;obtain⟨ev6,b6,q6,xa6,xc6,ya6,yc6,he6,hidx6,hev6⟩:=(Af.out w6 (zm CW.out.gr (zm Aw.out hg56))).get Tryz.underlying24 z1p x6 hx6;obtain⟨c60,c61,c62,c63,c64,c65,c66,c67,c68⟩:=hev6.cs;clear c61 c62 c63 c64 c65 c66 c67 c68 hev6)
       all_goals
        have DC:=hide (show ∀ z∈[ev6.id],(Lit.int .i64 z).wf=true from fun z hz=>by simp at hz;subst hz;exact Dw.out ev6 (List.mem_of_getElem? he6))
        have Cu:=hide (show Below w6.heap.size w6 (w6.alloc (.cells #[.int .i64 ev6.id] 3)) from (Below.refl _ _).alloc (Nat.le_refl _) _)
        have Dm:=hide (z02 (zm Aw.out hg56) (Cu.out.mono (zm Aw.out hg56).size))
        have hs46:=(zm Aw.out hg56).size
        have Ex:=hide (hc6.kept (Cu.out.mono (by omega)) (Cu.out.block p (by omega)))
        have Cg:=hide (show (w6.alloc (.cells #[.int .i64 ev6.id] 3)).ownsRow w4.heap.size 3 1 (.slice (some ⟨w6.heap.size,0,none⟩) 1 1) ([ev6.id]:List Int).length (([ev6.id]:List Int).map zu) from World.ownsRow_lit (base:=w4.heap.size) (size:=1) w6 #[.int .i64 ev6.id] 1 hs46 (by decide) (by simp))
        clear r06 c60 hidx6 he6 hc6 hg6 hg56 Cu hs46
        generalize w6.heap.size=s6 at Cg ⊢
        generalize w6.alloc (.cells #[.int .i64 ev6.id] 3)=w66 at Dm Ex Cg ⊢
        generalize ev6.id=z6 at DC Cg ⊢
        clear hx6
        revert DC
        revert Cg
        revert Ex
        revert Dm
        revert w66
        revert s6
        revert z6
        revert x6
        revert b6
        revert q6
        exact KEY.out
      case key1 =>
       intro q6 b6 x6 z6 s6 w66 Dm Ex Cg DC
       have CR:=hide (show ([z6]:List Int).length≤3 by simp)
       clear r0 Cj Dl Aw ER
       have CO:=hide (CW.out.drawn Ex.out Dm.out)
       have Av:=hide (JV.out.drawn CW.out.hp Dm.out)
       obtain⟨t0,t1,t2,t3,t4,t5,t6,t7,t8⟩:=Av.out.eb.ev
       have f7:=Av.out.eb.free 7
       go_upto_region 15 with fail
       have hg7:=z01 w66 be 7 (.slice (some ⟨s6,0,none⟩) 1 1)
       have hb7:Below (w.heap.size+2) w66 (w66.setCell ⟨be,7,none⟩ (.slice (some ⟨s6,0,none⟩) 1 1)):=(Below.refl _ _).grown hg7 CO.out.size (fun k hk=>by cases hk;exact Av.out.hbe)
       have hE7:NxE w be (⟨id,kd,sn,us,mb,zl,tx,[z6],dp⟩:EvV) (.slice ol zl.length cl) (.slice (some ⟨s6,0,none⟩) 1 1) (w66.setCell ⟨be,7,none⟩ (.slice (some ⟨s6,0,none⟩) 1 1)):=⟨Av.out.eb.put7 _,ze Av.out.l hg7 Av.out.eb (by decide),ze (zq Cg.out (by omega)) hg7 Av.out.eb (by decide),Av.out.fl,DC.out,Av.out.nl,CR.out,Av.out.tx,Av.out.hbe⟩
       have AX:=hide (CO.out.on hb7)
       generalize w66.setCell ⟨be,7,none⟩ (.slice (some ⟨s6,0,none⟩) 1 1)=w7 at hE7 AX ⊢
       have Cs:=hide hE7
       clear hE7 hb7 hg7 t0 t1 t2 t3 t4 t5 t6 t7 t8 f7 Av CO
       have r0:=za AX.out.r 0 rfl
       have r1:=za AX.out.r 1 rfl
       have r2:=za AX.out.r 2 rfl
       obtain⟨_,_,heo,hi7⟩:=z0e Cs.out.q Cs.out.fp
       cases heo
       replace hi7:IntsAt w7 (some ⟨s6,0,none⟩) 1 1 [z6]:=hi7
       go_upto_region 16 with (go_at_call 125;(with_reducible refine (CG.out _ AX.out.gr _ _ _ _ hi7).mono ?_);rintro r w8 ⟨rfl,hb8⟩;have hE8:=Cs.out.on hb8;obtain⟨t0,t1,t2,t3,t4,t5,t6,t7,t8⟩:=hE8.eb.ev;have f8:=hE8.eb.free 8)
       have D9:=hide (AX.out.on (hb8.mono AX.out.size))
       generalize z3r es _=D at *
       have hg9:=z01 w8 be 8 (.int .i64 D)
       have hb9:Below (w.heap.size+2) w8 (w8.setCell ⟨be,8,none⟩ (.int .i64 D)):=(Below.refl _ _).grown hg9 D9.out.size (fun k hk=>by cases hk;exact hE8.hbe)
       have hE9:NxE w be (⟨id,kd,sn,us,mb,zl,tx,[z6],D⟩:EvV) (.slice ol zl.length cl) (.slice (some ⟨s6,0,none⟩) 1 1) (w8.setCell ⟨be,8,none⟩ (.int .i64 D)):=⟨hE8.eb.put8 _,ze hE8.l hg9 hE8.eb (by decide),ze hE8.q hg9 hE8.eb (by decide),hE8.fl,hE8.fp,hE8.nl,hE8.np,hE8.tx,hE8.hbe⟩
       have AC:=hide (D9.out.on hb9)
       generalize w8.setCell ⟨be,8,none⟩ (.int .i64 D)=w9 at hE9 AC ⊢
       have Ct:=hide hE9
       clear hE9 hb9 hg9 t0 t1 t2 t3 t4 t5 t6 t7 t8 f8 hE8 D9 AX Cs hi7 r0 r1 r2 hb8
       have r0:=za AC.out.r 0 rfl
       have r1:=za AC.out.r 1 rfl
       have r2:=za AC.out.r 2 rfl
       obtain⟨_,_,heo,hi9⟩:=z0e Ct.out.q Ct.out.fp
       cases heo
       replace hi9:IntsAt w9 (some ⟨s6,0,none⟩) 1 1 [z6]:=hi9
       go_upto_region 17 with (go_at_call 87;(with_reducible refine (G8.out _ AC.out.gr _ _ _ _ (by first|decide|(have:=CR.out;omega)) hi9).mono ?_);rintro r w10 ⟨v10,rfl,ho10,hb10⟩;obtain⟨os,cs,rfl⟩:=zb ho10)
       generalize (z2r es sts [z6]).getD []=SS at ho10 ⊢
       generalize (z2r es sts [z6]).isSome=bs
       have BR:=hide (zq ho10 (show w.heap.size≤w9.heap.size by have:=AC.out.size;omega))
       have BS:=hide (AC.out.on (hb10.mono AC.out.size))
       have BU:=hide (Ct.out.on hb10)
       clear ho10 hb10 hi9 r0 r1 r2 AC Ct
       go_wp2_with fail
       go_loopw [13] (fun i wr=>∃ (j:Nat) (e:EvV) (vl:Value),i=.int .i64 (j:Int)∧j≤6∧e.id=id∧e.prev.length=1∧NxS B p a len cap w (.slice oa es.length ca) (.slice so sts.length sc) vg wr∧NxE w be e vl (.slice (some ⟨s6,0,none⟩) 1 1) wr∧wr.ownsRow w.heap.size 36 2 (.slice os SS.length cs) SS.length (SS.flatMap z06)) (fun i _=>6 - (intOf i).toNat)
       case atStart=>exact⟨0,_,_,rfl,by omega,rfl,rfl,BS.out,BU.out,BR.out⟩
       case round =>
        obtain⟨j2,e,vl,rfl,hj2,hid,hpm,hns,hne,hss⟩:=hrel
        obtain⟨ox,cx,rfl⟩:=zb hne.l
        have Ac:=hide hns
        have Ab:=hide hne
        have BG:=hide hss
        have AU:=hide hid
        have El:=hide hpm
        obtain⟨_,_,heo,hil⟩:=z0e hne.l hne.fl
        cases heo
        obtain⟨_,_,heo,hiq⟩:=z0e hne.q hne.fp
        injection heo with ho1 ho2 ho3
        subst ho1
        subst ho3
        obtain⟨_,_,heo,his⟩:=z03 hss
        cases heo
        have htx:=hne.tx
        have Au:=hide (z2h oa es.length ca es os SS.length cs SS e ox cx (some ⟨s6,0,none⟩) 1 (by omega) wr ⟨Af.out wr hns.gr,his⟩ hil hiq)
        rw[hpm] at Au
        clear hns hne hss hid hil hiq his BS BU BR hpm ho2
        by_cases hlt6:j2<6
        ·have j60:(j2:Int)<6:=by omega
         have r0:=za Ac.out.r 0 rfl
         obtain⟨t0,t1,t2,t3,t4,t5,t6,t7,t8⟩:=Ab.out.eb.ev
         generalize allowed es SS e=al at Au
         cases al
         ·go_upto_region 20 with (go_at_call 55;(with_reducible refine Au.out.mono ?_);rintro r w11 ⟨rfl,hb11⟩)
          have A8:=hide (Ac.out.on (hb11.mono Ac.out.size))
          have A7:=hide (Ab.out.on hb11)
          have Bc:=hide (own_below BG.out hb11)
          clear hb11 r0 t0 t1 t2 t3 t4 t5 t6 t7 t8 Ac Ab BG Au
          have BV:=hide A8.out.cur
          have hs11:=A8.out.size
          go_upto_region 21 with (go_at_call 124;refine (z3o B p a len cap _ (by omega) BV.out).mono ?_;rintro r w12 ⟨id2,kd2,sn2,us2,mb2,dp2,vl2,vp2,tx2,n2,m2,zl2,zp2,rfl,hn52,hm02,htx2,hown2,hfl2,hfp2,hc12,hg12⟩;obtain⟨ol2,cl2,rfl⟩:=zb hown2.l;obtain⟨oq2,cq2,rfl⟩:=zb hown2.p)
          have hzl2:zl2.length=n2:=by have:=hown2.l.1;simpa using this
          have hzp2:zp2.length=m2:=by have:=hown2.p.1;simpa using this
          subst hzl2
          subst hzp2
          have Bd:=hide (A8.out.drawn hc12 hg12)
          have Be:=hide (A7.out.drawn A8.out.hp hg12)
          have BX:=hide (Bc.out.kept hg12 (z13 Bc.out A8.out.hp))
          have hs12:=Bd.out.size
          obtain⟨w13,hw13⟩:∃ w13,w12.alloc (.cells (zh id2 kd2 sn2 us2 mb2 dp2 (.slice ol2 zl2.length cl2) (.slice oq2 zp2.length cq2) tx2) 47)=w13:=⟨_,rfl⟩
          have hb13:Below w12.heap.size w12 w13:=by rw[← hw13];exact (Below.refl _ _).alloc (Nat.le_refl _) _
          have hB13:EB w13 w12.heap.size id2 kd2 sn2 us2 mb2 dp2 (.slice ol2 zl2.length cl2) (.slice oq2 zp2.length cq2) tx2:=by rw[← hw13];exact EB.new _ _ _ _ _ _ _ _ _ _
          rw[show w12.alloc (.cells #[.int .i64 id2,.int .i64 kd2,.int .i64 sn2,.int .i64 us2,.int .i64 mb2,.slice ol2 zl2.length cl2,.string ⟨tx2.toArray⟩,.slice oq2 zp2.length cq2,.int .i64 dp2] 47)=w13 from hw13]
          have Bf:=hide (Bd.out.on (hb13.mono (by omega)))
          have Ag:=hide (Be.out.on hb13)
          have BZ:=hide (own_below BX.out hb13)
          have C8:=hide (own_below (zq hown2.l (show w.heap.size≤w11.heap.size by omega)) hb13)
          have hbb:w.heap.size+2≤w12.heap.size:=by omega
          have hbne:be≠w12.heap.size:=by have:=Be.out.eb.lt;omega
          generalize w12.heap.size=bb at hB13 hbb hbne ⊢
          have Am:=hide hB13
          clear hw13 hb13 hB13 Bd Be BX A8 A7 Bc BV hown2 hc12 hg12
          obtain⟨t0,t1,t2,t3,t4,t5,t6,t7,t8⟩:=Ag.out.eb.ev
          obtain⟨u0,u1,u2,u3,u4,u5,u6,u7,u8⟩:=Am.out.ev
          have f0:=Am.out.free 0
          go_upto_region 22 with fail
          have hgg:=z01 w13 bb 0 (.int .i64 e.id)
          have hbl:Below (w.heap.size+2) w13 (w13.setCell ⟨bb,0,none⟩ (.int .i64 e.id)):=(Below.refl _ _).grown hgg Bf.out.size (fun k hk=>by cases hk;exact hbb)
          have AJ:=hide (Bf.out.on hbl)
          have Ai:=hide (Am.out.put0 e.id)
          have Bg:=hide (ze BZ.out hgg Am.out (by decide))
          have Bh:=hide (ze C8.out hgg Am.out (by decide))
          have Ad:=hide (show NxE w be e (.slice ox e.levels.length cx) (.slice (some ⟨s6,0,none⟩) 1 1) (w13.setCell ⟨bb,0,none⟩ (.int .i64 e.id)) from ⟨Ag.out.eb.kept hgg (fun q=>hbne (Option.some.inj q).symm),ze Ag.out.l hgg Am.out (by decide),ze Ag.out.q hgg Am.out (by decide),Ag.out.fl,Ag.out.fp,Ag.out.nl,Ag.out.np,Ag.out.tx,Ag.out.hbe⟩)
          generalize w13.setCell ⟨bb,0,none⟩ (.int .i64 e.id)=w14 at AJ Ai Bg Bh Ad ⊢
          clear t0 t1 t2 t3 t4 t5 t6 t7 t8 u0 u1 u2 u3 u4 u5 u6 u7 u8 f0 hgg hbl Bf Ag BZ C8 Am
          obtain⟨t0,t1,t2,t3,t4,t5,t6,t7,t8⟩:=Ad.out.eb.ev
          obtain⟨u0,u1,u2,u3,u4,u5,u6,u7,u8⟩:=Ai.out.ev
          have f7:=Ai.out.free 7
          go_upto_region 23 with fail
          have hgg:=z01 w14 bb 7 (.slice (some ⟨s6,0,none⟩) 1 1)
          have hbl:Below (w.heap.size+2) w14 (w14.setCell ⟨bb,7,none⟩ (.slice (some ⟨s6,0,none⟩) 1 1)):=(Below.refl _ _).grown hgg AJ.out.size (fun k hk=>by cases hk;exact hbb)
          have AL:=hide (AJ.out.on hbl)
          have Aj:=hide (Ai.out.put7 (.slice (some ⟨s6,0,none⟩) 1 1))
          have Bi:=hide (ze Bg.out hgg Ai.out (by decide))
          have Bj:=hide (ze Bh.out hgg Ai.out (by decide))
          have Ae:=hide (show NxE w be e (.slice ox e.levels.length cx) (.slice (some ⟨s6,0,none⟩) 1 1) (w14.setCell ⟨bb,7,none⟩ (.slice (some ⟨s6,0,none⟩) 1 1)) from ⟨Ad.out.eb.kept hgg (fun q=>hbne (Option.some.inj q).symm),ze Ad.out.l hgg Ai.out (by decide),ze Ad.out.q hgg Ai.out (by decide),Ad.out.fl,Ad.out.fp,Ad.out.nl,Ad.out.np,Ad.out.tx,Ad.out.hbe⟩)
          generalize w14.setCell ⟨bb,7,none⟩ (.slice (some ⟨s6,0,none⟩) 1 1)=w15 at AL Aj Bi Bj Ae ⊢
          clear t0 t1 t2 t3 t4 t5 t6 t7 t8 u0 u1 u2 u3 u4 u5 u6 u7 u8 f7 hgg hbl AJ Ad Bg Bh Ai
          obtain⟨t0,t1,t2,t3,t4,t5,t6,t7,t8⟩:=Ae.out.eb.ev
          obtain⟨u0,u1,u2,u3,u4,u5,u6,u7,u8⟩:=Aj.out.ev
          have f8:=Aj.out.free 8
          go_upto_region 24 with fail
          have hgg:=z01 w15 bb 8 (.int .i64 e.depth)
          have hbl:Below (w.heap.size+2) w15 (w15.setCell ⟨bb,8,none⟩ (.int .i64 e.depth)):=(Below.refl _ _).grown hgg AL.out.size (fun k hk=>by cases hk;exact hbb)
          have Bl:=hide (AL.out.on hbl)
          have C9:=hide (Aj.out.put8 e.depth)
          have Ca:=hide (ze Bi.out hgg Aj.out (by decide))
          have Cb:=hide (ze Bj.out hgg Aj.out (by decide))
          have Aa:=hide (show NxE w be e (.slice ox e.levels.length cx) (.slice (some ⟨s6,0,none⟩) 1 1) (w15.setCell ⟨bb,8,none⟩ (.int .i64 e.depth)) from ⟨Ae.out.eb.kept hgg (fun q=>hbne (Option.some.inj q).symm),ze Ae.out.l hgg Aj.out (by decide),ze Ae.out.q hgg Aj.out (by decide),Ae.out.fl,Ae.out.fp,Ae.out.nl,Ae.out.np,Ae.out.tx,Ae.out.hbe⟩)
          generalize w15.setCell ⟨bb,8,none⟩ (.int .i64 e.depth)=w16 at Bl C9 Ca Cb Aa ⊢
          clear t0 t1 t2 t3 t4 t5 t6 t7 t8 u0 u1 u2 u3 u4 u5 u6 u7 u8 f8 hgg hbl AL Ae Bi Bj Aj
          obtain⟨t0,t1,t2,t3,t4,t5,t6,t7,t8⟩:=Aa.out.eb.ev
          obtain⟨u0,u1,u2,u3,u4,u5,u6,u7,u8⟩:=C9.out.ev
          have y0:=Aa.out.eb.free 0
          have y1:=Aa.out.eb.free 1
          have y2:=Aa.out.eb.free 2
          have y3:=Aa.out.eb.free 3
          have y4:=Aa.out.eb.free 4
          have y5:=Aa.out.eb.free 5
          have y6:=Aa.out.eb.free 6
          have y7:=Aa.out.eb.free 7
          have y8:=Aa.out.eb.free 8
          go_wp2_with fail
          obtain⟨w17,hw17,hE17,hg17⟩:=Aa.out.eb.all e.id kd2 sn2 us2 mb2 e.depth (.slice ol2 zl2.length cl2) (.slice (some ⟨s6,0,none⟩) 1 1) tx2
          rw[hw17]
          have hb17:Below (w.heap.size+2) w16 w17:=(Below.refl _ _).grown hg17 Bl.out.size (fun k hk=>by cases hk;exact Aa.out.hbe)
          have Da:=hide (Bl.out.on hb17)
          have Db:=hide (show NxE w be (⟨e.id,kd2,sn2,us2,mb2,zl2,tx2,e.prev,e.depth⟩:EvV) (.slice ol2 zl2.length cl2) (.slice (some ⟨s6,0,none⟩) 1 1) w17 from ⟨hE17,ze Cb.out hg17 Aa.out.eb (by decide),ze Aa.out.q hg17 Aa.out.eb (by decide),hfl2,Aa.out.fp,hn52,Aa.out.np,htx2,Aa.out.hbe⟩)
          have Dc:=hide (ze Ca.out hg17 Aa.out.eb (by decide))
          clear t0 t1 t2 t3 t4 t5 t6 t7 t8 u0 u1 u2 u3 u4 u5 u6 u7 u8 y0 y1 y2 y3 y4 y5 y6 y7 y8 hw17 hE17 hg17 hb17
          go_roundw
          case rel=>exact⟨j2+1,(⟨e.id,kd2,sn2,us2,mb2,zl2,tx2,e.prev,e.depth⟩:EvV),_,by go_num,by omega,AU.out,El.out,Da.out,Db.out,Dc.out⟩
          case measure=>simp[intOf];omega
         ·go_upto_region 25 with (go_at_call 55;(with_reducible refine Au.out.mono ?_);rintro r w11 ⟨rfl,hb11⟩)
          have A8:=hide (Ac.out.on (hb11.mono Ac.out.size))
          have A7:=hide (Ab.out.on hb11)
          clear hb11 r0 t0 t1 t2 t3 t4 t5 t6 t7 t8 Ac Ab BG Au
          have r0:=za A8.out.r 0 rfl
          by_cases hone:es.length=1
          ·have g1:((es.length:Int)==1)=true:=by rw[hone];rfl
           have De:=hide hone
           clear hone
           obtain⟨x0,b0,q0,xa0,xc0,ya0,yc0,hx0,hidx0,hev0⟩:=(Af.out w11 A8.out.gr).get Tryz.underlying24 z1p 0 hn1
           have hidx1:∀ wx,(Instr.indexAt 24 (.slice oa es.length ca) (.int .i64 0)).run Tryz.prog wx=.ok (.pointer (some ⟨b0,q0,none⟩)) wx:=hidx0
           obtain⟨k0,k1,k2,k3,k4,k5,k6,k7,k8⟩:=hev0.cs
           obtain⟨t0,t1,t2,t3,t4,t5,t6,t7,t8⟩:=A7.out.eb.ev
           have y0:=A7.out.eb.free 0
           have y1:=A7.out.eb.free 1
           have y2:=A7.out.eb.free 2
           have y3:=A7.out.eb.free 3
           have y4:=A7.out.eb.free 4
           have y5:=A7.out.eb.free 5
           have y6:=A7.out.eb.free 6
           have y7:=A7.out.eb.free 7
           have y8:=A7.out.eb.free 8
           go_upto_region 26 with fail
           go_still_tail 16,(by kernel_rfl)
           go_upto_region 27 with fail
           obtain⟨wy,hwy,hEy,hgy⟩:=A7.out.eb.all id 2 x0.sender x0.sender 2 e.depth (.slice none 0 0) (.slice (some ⟨s6,0,none⟩) 1 1) []
           try rw[show (.string ⟨#[]⟩:Value)=.string ⟨([]:List UInt8).toArray⟩ from rfl]
           rw[hwy]
           have hby:Below (w.heap.size+2) w11 wy:=(Below.refl _ _).grown hgy A8.out.size (fun k hk=>by cases hk;exact A7.out.hbe)
           have HNy:=hide ((A8.out.on hby).on ((Below.refl (w.heap.size+2) wy).drew))
           have HEy:=hide ((show NxE w be (⟨id,2,x0.sender,x0.sender,2,[],[],e.prev,e.depth⟩:EvV) (.slice none 0 0) (.slice (some ⟨s6,0,none⟩) 1 1) wy from ⟨hEy,World.ownsRow_nil _ _ _ _,ze A7.out.q hgy A7.out.eb (by decide),by simp,A7.out.fp,by simp,A7.out.np,by simp,A7.out.hbe⟩).on ((Below.refl wy.heap.size wy).drew))
           generalize wy.drew=wv at HNy HEy ⊢
           clear k0 k1 k2 k3 k4 k5 k6 k7 k8 t0 t1 t2 t3 t4 t5 t6 t7 t8 y0 y1 y2 y3 y4 y5 y6 y7 y8 hwy hEy hgy hby hx0 hidx0 hidx1 hev0
           skip
           obtain⟨t0,t1,t2,t3,t4,t5,t6,t7,t8⟩:=HEy.out.eb.ev
           obtain⟨q0,q1,q2,q3,q4,q5,q6,q7,q8⟩:=HNy.out.rr.ev
           have y0:=HNy.out.rr.free 0
           have y1:=HNy.out.rr.free 1
           have y2:=HNy.out.rr.free 2
           have y3:=HNy.out.rr.free 3
           have y4:=HNy.out.rr.free 4
           have y5:=HNy.out.rr.free 5
           have y6:=HNy.out.rr.free 6
           have y7:=HNy.out.rr.free 7
           have y8:=HNy.out.rr.free 8
           go_wp2_with fail
           obtain⟨wz,hwz,hEz,hgz⟩:=HNy.out.rr.all (⟨id,2,x0.sender,x0.sender,2,[],[],e.prev,e.depth⟩:EvV).id (⟨id,2,x0.sender,x0.sender,2,[],[],e.prev,e.depth⟩:EvV).kind (⟨id,2,x0.sender,x0.sender,2,[],[],e.prev,e.depth⟩:EvV).sender (⟨id,2,x0.sender,x0.sender,2,[],[],e.prev,e.depth⟩:EvV).user (⟨id,2,x0.sender,x0.sender,2,[],[],e.prev,e.depth⟩:EvV).member (⟨id,2,x0.sender,x0.sender,2,[],[],e.prev,e.depth⟩:EvV).depth (.slice none 0 0) (.slice (some ⟨s6,0,none⟩) 1 1) (⟨id,2,x0.sender,x0.sender,2,[],[],e.prev,e.depth⟩:EvV).text
           try simp only at hwz hEz
           rw[hwz]
           clear t0 t1 t2 t3 t4 t5 t6 t7 t8 q0 q1 q2 q3 q4 q5 q6 q7 q8 y0 y1 y2 y3 y4 y5 y6 y7 y8
           obtain⟨t0,t1,t2,t3,t4,t5,t6,t7,t8⟩:=hEz.ev
           refine bodyPost_ret (v:=evv (⟨id,2,x0.sender,x0.sender,2,[],[],e.prev,e.depth⟩:EvV) (.slice none 0 0) (.slice (some ⟨s6,0,none⟩) 1 1)) (by simp[results,Tryz.results79,go_sem,t0,t1,t2,t3,t4,t5,t6,t7,t8]) rfl ?_
           have hbz:Below (w.heap.size+1) wv wz:=(Below.refl _ _).grown hgz (by have:=HNy.out.size;omega) (fun k hk=>by cases hk;omega)
           exact⟨(⟨id,2,x0.sender,x0.sender,2,[],[],e.prev,e.depth⟩:EvV),_,_,rfl,ze HEy.out.l hgz HNy.out.rr (by decide),ze HEy.out.q hgz HNy.out.rr (by decide),HEy.out.fl,HEy.out.fp,rfl,HEy.out.nl,HEy.out.np,HEy.out.tx,fun h=>absurd h CV.out,HNy.out.cur.kept (hbz.mono (by omega)) (hbz.block p (by omega)),z02 HNy.out.gr (hbz.mono (by omega))⟩
          ·have g1:((es.length:Int)==1)=false:=by rw[beq_eq_false_iff_ne];omega
           clear hone
           obtain⟨t0,t1,t2,t3,t4,t5,t6,t7,t8⟩:=A7.out.eb.ev
           obtain⟨q0,q1,q2,q3,q4,q5,q6,q7,q8⟩:=A8.out.rr.ev
           have y0:=A8.out.rr.free 0
           have y1:=A8.out.rr.free 1
           have y2:=A8.out.rr.free 2
           have y3:=A8.out.rr.free 3
           have y4:=A8.out.rr.free 4
           have y5:=A8.out.rr.free 5
           have y6:=A8.out.rr.free 6
           have y7:=A8.out.rr.free 7
           have y8:=A8.out.rr.free 8
           go_wp2_with fail
           obtain⟨wz,hwz,hEz,hgz⟩:=A8.out.rr.all e.id e.kind e.sender e.user e.member e.depth (.slice ox e.levels.length cx) (.slice (some ⟨s6,0,none⟩) 1 1) e.text
           try simp only at hwz hEz
           rw[hwz]
           clear t0 t1 t2 t3 t4 t5 t6 t7 t8 q0 q1 q2 q3 q4 q5 q6 q7 q8 y0 y1 y2 y3 y4 y5 y6 y7 y8
           obtain⟨t0,t1,t2,t3,t4,t5,t6,t7,t8⟩:=hEz.ev
           refine bodyPost_ret (v:=evv e (.slice ox e.levels.length cx) (.slice (some ⟨s6,0,none⟩) 1 1)) (by simp[results,Tryz.results79,go_sem,t0,t1,t2,t3,t4,t5,t6,t7,t8]) rfl ?_
           have hbz:Below (w.heap.size+1) w11 wz:=(Below.refl _ _).grown hgz (by have:=A8.out.size;omega) (fun k hk=>by cases hk;omega)
           exact⟨e,_,_,rfl,ze A7.out.l hgz A8.out.rr (by decide),ze A7.out.q hgz A8.out.rr (by decide),A7.out.fl,A7.out.fp,AU.out,A7.out.nl,A7.out.np,A7.out.tx,fun h=>absurd h CV.out,A8.out.cur.kept (hbz.mono (by omega)) (hbz.block p (by omega)),z02 A8.out.gr (hbz.mono (by omega))⟩
        ·have j60:¬ ((j2:Int)<6):=by omega
         go_upto_region 25 with fail
         clear Au
         have r0:=za Ac.out.r 0 rfl
         by_cases hone:es.length=1
         ·have g1:((es.length:Int)==1)=true:=by rw[hone];rfl
          have De:=hide hone
          clear hone
          obtain⟨x0,b0,q0,xa0,xc0,ya0,yc0,hx0,hidx0,hev0⟩:=(Af.out wr Ac.out.gr).get Tryz.underlying24 z1p 0 hn1
          have hidx1:∀ wx,(Instr.indexAt 24 (.slice oa es.length ca) (.int .i64 0)).run Tryz.prog wx=.ok (.pointer (some ⟨b0,q0,none⟩)) wx:=hidx0
          obtain⟨k0,k1,k2,k3,k4,k5,k6,k7,k8⟩:=hev0.cs
          obtain⟨t0,t1,t2,t3,t4,t5,t6,t7,t8⟩:=Ab.out.eb.ev
          have y0:=Ab.out.eb.free 0
          have y1:=Ab.out.eb.free 1
          have y2:=Ab.out.eb.free 2
          have y3:=Ab.out.eb.free 3
          have y4:=Ab.out.eb.free 4
          have y5:=Ab.out.eb.free 5
          have y6:=Ab.out.eb.free 6
          have y7:=Ab.out.eb.free 7
          have y8:=Ab.out.eb.free 8
          go_upto_region 26 with fail
          go_still_tail 16,(by kernel_rfl)
          go_upto_region 27 with fail
          obtain⟨wy,hwy,hEy,hgy⟩:=Ab.out.eb.all id 2 x0.sender x0.sender 2 e.depth (.slice none 0 0) (.slice (some ⟨s6,0,none⟩) 1 1) []
          try rw[show (.string ⟨#[]⟩:Value)=.string ⟨([]:List UInt8).toArray⟩ from rfl]
          rw[hwy]
          have hby:Below (w.heap.size+2) wr wy:=(Below.refl _ _).grown hgy Ac.out.size (fun k hk=>by cases hk;exact Ab.out.hbe)
          have HNy:=hide ((Ac.out.on hby).on ((Below.refl (w.heap.size+2) wy).drew))
          have HEy:=hide ((show NxE w be (⟨id,2,x0.sender,x0.sender,2,[],[],e.prev,e.depth⟩:EvV) (.slice none 0 0) (.slice (some ⟨s6,0,none⟩) 1 1) wy from ⟨hEy,World.ownsRow_nil _ _ _ _,ze Ab.out.q hgy Ab.out.eb (by decide),by simp,Ab.out.fp,by simp,Ab.out.np,by simp,Ab.out.hbe⟩).on ((Below.refl wy.heap.size wy).drew))
          generalize wy.drew=wv at HNy HEy ⊢
          clear k0 k1 k2 k3 k4 k5 k6 k7 k8 t0 t1 t2 t3 t4 t5 t6 t7 t8 y0 y1 y2 y3 y4 y5 y6 y7 y8 hwy hEy hgy hby hx0 hidx0 hidx1 hev0
          skip
          obtain⟨t0,t1,t2,t3,t4,t5,t6,t7,t8⟩:=HEy.out.eb.ev
          obtain⟨q0,q1,q2,q3,q4,q5,q6,q7,q8⟩:=HNy.out.rr.ev
          have y0:=HNy.out.rr.free 0
          have y1:=HNy.out.rr.free 1
          have y2:=HNy.out.rr.free 2
          have y3:=HNy.out.rr.free 3
          have y4:=HNy.out.rr.free 4
          have y5:=HNy.out.rr.free 5
          have y6:=HNy.out.rr.free 6
          have y7:=HNy.out.rr.free 7
          have y8:=HNy.out.rr.free 8
          go_wp2_with fail
          obtain⟨wz,hwz,hEz,hgz⟩:=HNy.out.rr.all (⟨id,2,x0.sender,x0.sender,2,[],[],e.prev,e.depth⟩:EvV).id (⟨id,2,x0.sender,x0.sender,2,[],[],e.prev,e.depth⟩:EvV).kind (⟨id,2,x0.sender,x0.sender,2,[],[],e.prev,e.depth⟩:EvV).sender (⟨id,2,x0.sender,x0.sender,2,[],[],e.prev,e.depth⟩:EvV).user (⟨id,2,x0.sender,x0.sender,2,[],[],e.prev,e.depth⟩:EvV).member (⟨id,2,x0.sender,x0.sender,2,[],[],e.prev,e.depth⟩:EvV).depth (.slice none 0 0) (.slice (some ⟨s6,0,none⟩) 1 1) (⟨id,2,x0.sender,x0.sender,2,[],[],e.prev,e.depth⟩:EvV).text
          try simp only at hwz hEz
          rw[hwz]
          clear t0 t1 t2 t3 t4 t5 t6 t7 t8 q0 q1 q2 q3 q4 q5 q6 q7 q8 y0 y1 y2 y3 y4 y5 y6 y7 y8
          obtain⟨t0,t1,t2,t3,t4,t5,t6,t7,t8⟩:=hEz.ev
          refine bodyPost_ret (v:=evv (⟨id,2,x0.sender,x0.sender,2,[],[],e.prev,e.depth⟩:EvV) (.slice none 0 0) (.slice (some ⟨s6,0,none⟩) 1 1)) (by simp[results,Tryz.results79,go_sem,t0,t1,t2,t3,t4,t5,t6,t7,t8]) rfl ?_
          have hbz:Below (w.heap.size+1) wv wz:=(Below.refl _ _).grown hgz (by have:=HNy.out.size;omega) (fun k hk=>by cases hk;omega)
          exact⟨(⟨id,2,x0.sender,x0.sender,2,[],[],e.prev,e.depth⟩:EvV),_,_,rfl,ze HEy.out.l hgz HNy.out.rr (by decide),ze HEy.out.q hgz HNy.out.rr (by decide),HEy.out.fl,HEy.out.fp,rfl,HEy.out.nl,HEy.out.np,HEy.out.tx,fun h=>absurd h CV.out,HNy.out.cur.kept (hbz.mono (by omega)) (hbz.block p (by omega)),z02 HNy.out.gr (hbz.mono (by omega))⟩
         ·have g1:((es.length:Int)==1)=false:=by rw[beq_eq_false_iff_ne];omega
          clear hone
          obtain⟨t0,t1,t2,t3,t4,t5,t6,t7,t8⟩:=Ab.out.eb.ev
          obtain⟨q0,q1,q2,q3,q4,q5,q6,q7,q8⟩:=Ac.out.rr.ev
          have y0:=Ac.out.rr.free 0
          have y1:=Ac.out.rr.free 1
          have y2:=Ac.out.rr.free 2
          have y3:=Ac.out.rr.free 3
          have y4:=Ac.out.rr.free 4
          have y5:=Ac.out.rr.free 5
          have y6:=Ac.out.rr.free 6
          have y7:=Ac.out.rr.free 7
          have y8:=Ac.out.rr.free 8
          go_wp2_with fail
          obtain⟨wz,hwz,hEz,hgz⟩:=Ac.out.rr.all e.id e.kind e.sender e.user e.member e.depth (.slice ox e.levels.length cx) (.slice (some ⟨s6,0,none⟩) 1 1) e.text
          try simp only at hwz hEz
          rw[hwz]
          clear t0 t1 t2 t3 t4 t5 t6 t7 t8 q0 q1 q2 q3 q4 q5 q6 q7 q8 y0 y1 y2 y3 y4 y5 y6 y7 y8
          obtain⟨t0,t1,t2,t3,t4,t5,t6,t7,t8⟩:=hEz.ev
          refine bodyPost_ret (v:=evv e (.slice ox e.levels.length cx) (.slice (some ⟨s6,0,none⟩) 1 1)) (by simp[results,Tryz.results79,go_sem,t0,t1,t2,t3,t4,t5,t6,t7,t8]) rfl ?_
          have hbz:Below (w.heap.size+1) wr wz:=(Below.refl _ _).grown hgz (by have:=Ac.out.size;omega) (fun k hk=>by cases hk;omega)
          exact⟨e,_,_,rfl,ze Ab.out.l hgz Ac.out.rr (by decide),ze Ab.out.q hgz Ac.out.rr (by decide),Ab.out.fl,Ab.out.fp,AU.out,Ab.out.nl,Ab.out.np,Ab.out.tx,fun h=>absurd h CV.out,Ac.out.cur.kept (hbz.mono (by omega)) (hbz.block p (by omega)),z02 Ac.out.gr (hbz.mono (by omega))⟩
   ·have j0:¬ ((j:Int)<(L.length:Int)):=by omega
    go_wp2_with fail
    refine (z3s B p a len cap 4 (by omega) (by omega) _ DJ.out).mono ?_
    rintro e w5 ⟨bb,rfl,hc5,hg5⟩
    have Aw:=hide (zm CL.out hg5)
    have Cj:=hide (HOW.out.kept hg5 (z13 HOW.out (by omega)))
    have Dl:=hide hc5
    clear hc5 hg5 HOW DJ CL HI4 G9
    cases bb with
    | false =>
     have CR:=hide hm3
     have CO:=hide (CW.out.drawn Dl.out Aw.out)
     have Av:=hide (JV.out.drawn CW.out.hp Aw.out)
     obtain⟨t0,t1,t2,t3,t4,t5,t6,t7,t8⟩:=Av.out.eb.ev
     have f7:=Av.out.eb.free 7
     go_upto_region 15 with fail
     have hg7:=z01 w5 be 7 (.slice oo pv.length co)
     have hb7:Below (w.heap.size+2) w5 (w5.setCell ⟨be,7,none⟩ (.slice oo pv.length co)):=(Below.refl _ _).grown hg7 CO.out.size (fun k hk=>by cases hk;exact Av.out.hbe)
     have hE7:NxE w be (⟨id,kd,sn,us,mb,zl,tx,pv,dp⟩:EvV) (.slice ol zl.length cl) (.slice oo pv.length co) (w5.setCell ⟨be,7,none⟩ (.slice oo pv.length co)):=⟨Av.out.eb.put7 _,ze Av.out.l hg7 Av.out.eb (by decide),ze (zq Cj.out (by omega)) hg7 Av.out.eb (by decide),Av.out.fl,ER.out,Av.out.nl,CR.out,Av.out.tx,Av.out.hbe⟩
     have AX:=hide (CO.out.on hb7)
     generalize w5.setCell ⟨be,7,none⟩ (.slice oo pv.length co)=w7 at hE7 AX ⊢
     have Cs:=hide hE7
     clear hE7 hb7 hg7 t0 t1 t2 t3 t4 t5 t6 t7 t8 f7 Av CO
     have r0:=za AX.out.r 0 rfl
     have r1:=za AX.out.r 1 rfl
     have r2:=za AX.out.r 2 rfl
     obtain⟨_,_,heo,hi7⟩:=z0e Cs.out.q Cs.out.fp
     cases heo
     replace hi7:IntsAt w7 oo pv.length co pv:=hi7
     go_upto_region 16 with (go_at_call 125;(with_reducible refine (CG.out _ AX.out.gr _ _ _ _ hi7).mono ?_);rintro r w8 ⟨rfl,hb8⟩;have hE8:=Cs.out.on hb8;obtain⟨t0,t1,t2,t3,t4,t5,t6,t7,t8⟩:=hE8.eb.ev;have f8:=hE8.eb.free 8)
     have D9:=hide (AX.out.on (hb8.mono AX.out.size))
     generalize z3r es _=D at *
     have hg9:=z01 w8 be 8 (.int .i64 D)
     have hb9:Below (w.heap.size+2) w8 (w8.setCell ⟨be,8,none⟩ (.int .i64 D)):=(Below.refl _ _).grown hg9 D9.out.size (fun k hk=>by cases hk;exact hE8.hbe)
     have hE9:NxE w be (⟨id,kd,sn,us,mb,zl,tx,pv,D⟩:EvV) (.slice ol zl.length cl) (.slice oo pv.length co) (w8.setCell ⟨be,8,none⟩ (.int .i64 D)):=⟨hE8.eb.put8 _,ze hE8.l hg9 hE8.eb (by decide),ze hE8.q hg9 hE8.eb (by decide),hE8.fl,hE8.fp,hE8.nl,hE8.np,hE8.tx,hE8.hbe⟩
     have AC:=hide (D9.out.on hb9)
     generalize w8.setCell ⟨be,8,none⟩ (.int .i64 D)=w9 at hE9 AC ⊢
     have Ct:=hide hE9
     clear hE9 hb9 hg9 t0 t1 t2 t3 t4 t5 t6 t7 t8 f8 hE8 D9 AX Cs hi7 r0 r1 r2 hb8
     have r0:=za AC.out.r 0 rfl
     have r1:=za AC.out.r 1 rfl
     have r2:=za AC.out.r 2 rfl
     obtain⟨_,_,heo,hi9⟩:=z0e Ct.out.q Ct.out.fp
     cases heo
     replace hi9:IntsAt w9 oo pv.length co pv:=hi9
     go_upto_region 17 with (go_at_call 87;(with_reducible refine (G8.out _ AC.out.gr _ _ _ _ (by first|decide|(have:=CR.out;omega)) hi9).mono ?_);rintro r w10 ⟨v10,rfl,ho10,hb10⟩;obtain⟨os,cs,rfl⟩:=zb ho10)
     generalize (z2r es sts pv).getD []=SS at ho10 ⊢
     generalize (z2r es sts pv).isSome=bs
     have BR:=hide (zq ho10 (show w.heap.size≤w9.heap.size by have:=AC.out.size;omega))
     have BS:=hide (AC.out.on (hb10.mono AC.out.size))
     have BU:=hide (Ct.out.on hb10)
     clear ho10 hb10 hi9 r0 r1 r2 AC Ct
     go_wp2_with fail
     go_loopw [13] (fun i wr=>∃ (j:Nat) (e:EvV) (vl:Value),i=.int .i64 (j:Int)∧j≤6∧e.id=id∧e.prev.length=pv.length∧NxS B p a len cap w (.slice oa es.length ca) (.slice so sts.length sc) vg wr∧NxE w be e vl (.slice oo pv.length co) wr∧wr.ownsRow w.heap.size 36 2 (.slice os SS.length cs) SS.length (SS.flatMap z06)) (fun i _=>6 - (intOf i).toNat)
     case atStart=>exact⟨0,_,_,rfl,by omega,rfl,rfl,BS.out,BU.out,BR.out⟩
     case round =>
      obtain⟨j2,e,vl,rfl,hj2,hid,hpm,hns,hne,hss⟩:=hrel
      obtain⟨ox,cx,rfl⟩:=zb hne.l
      have Ac:=hide hns
      have Ab:=hide hne
      have BG:=hide hss
      have AU:=hide hid
      have El:=hide hpm
      obtain⟨_,_,heo,hil⟩:=z0e hne.l hne.fl
      cases heo
      obtain⟨_,_,heo,hiq⟩:=z0e hne.q hne.fp
      injection heo with ho1 ho2 ho3
      subst ho1
      subst ho3
      obtain⟨_,_,heo,his⟩:=z03 hss
      cases heo
      have htx:=hne.tx
      have Au:=hide (z2h oa es.length ca es os SS.length cs SS e ox cx oo co (by omega) wr ⟨Af.out wr hns.gr,his⟩ hil hiq)
      rw[hpm] at Au
      clear hns hne hss hid hil hiq his BS BU BR hpm ho2
      by_cases hlt6:j2<6
      ·have j60:(j2:Int)<6:=by omega
       have r0:=za Ac.out.r 0 rfl
       obtain⟨t0,t1,t2,t3,t4,t5,t6,t7,t8⟩:=Ab.out.eb.ev
       generalize allowed es SS e=al at Au
       cases al
       ·go_upto_region 20 with (go_at_call 55;(with_reducible refine Au.out.mono ?_);rintro r w11 ⟨rfl,hb11⟩)
        have A8:=hide (Ac.out.on (hb11.mono Ac.out.size))
        have A7:=hide (Ab.out.on hb11)
        have Bc:=hide (own_below BG.out hb11)
        clear hb11 r0 t0 t1 t2 t3 t4 t5 t6 t7 t8 Ac Ab BG Au
        have BV:=hide A8.out.cur
        have hs11:=A8.out.size
        go_upto_region 21 with (go_at_call 124;refine (z3o B p a len cap _ (by omega) BV.out).mono ?_;rintro r w12 ⟨id2,kd2,sn2,us2,mb2,dp2,vl2,vp2,tx2,n2,m2,zl2,zp2,rfl,hn52,hm02,htx2,hown2,hfl2,hfp2,hc12,hg12⟩;obtain⟨ol2,cl2,rfl⟩:=zb hown2.l;obtain⟨oq2,cq2,rfl⟩:=zb hown2.p)
        have hzl2:zl2.length=n2:=by have:=hown2.l.1;simpa using this
        have hzp2:zp2.length=m2:=by have:=hown2.p.1;simpa using this
        subst hzl2
        subst hzp2
        have Bd:=hide (A8.out.drawn hc12 hg12)
        have Be:=hide (A7.out.drawn A8.out.hp hg12)
        have BX:=hide (Bc.out.kept hg12 (z13 Bc.out A8.out.hp))
        have hs12:=Bd.out.size
        obtain⟨w13,hw13⟩:∃ w13,w12.alloc (.cells (zh id2 kd2 sn2 us2 mb2 dp2 (.slice ol2 zl2.length cl2) (.slice oq2 zp2.length cq2) tx2) 47)=w13:=⟨_,rfl⟩
        have hb13:Below w12.heap.size w12 w13:=by rw[← hw13];exact (Below.refl _ _).alloc (Nat.le_refl _) _
        have hB13:EB w13 w12.heap.size id2 kd2 sn2 us2 mb2 dp2 (.slice ol2 zl2.length cl2) (.slice oq2 zp2.length cq2) tx2:=by rw[← hw13];exact EB.new _ _ _ _ _ _ _ _ _ _
        rw[show w12.alloc (.cells #[.int .i64 id2,.int .i64 kd2,.int .i64 sn2,.int .i64 us2,.int .i64 mb2,.slice ol2 zl2.length cl2,.string ⟨tx2.toArray⟩,.slice oq2 zp2.length cq2,.int .i64 dp2] 47)=w13 from hw13]
        have Bf:=hide (Bd.out.on (hb13.mono (by omega)))
        have Ag:=hide (Be.out.on hb13)
        have BZ:=hide (own_below BX.out hb13)
        have C8:=hide (own_below (zq hown2.l (show w.heap.size≤w11.heap.size by omega)) hb13)
        have hbb:w.heap.size+2≤w12.heap.size:=by omega
        have hbne:be≠w12.heap.size:=by have:=Be.out.eb.lt;omega
        generalize w12.heap.size=bb at hB13 hbb hbne ⊢
        have Am:=hide hB13
        clear hw13 hb13 hB13 Bd Be BX A8 A7 Bc BV hown2 hc12 hg12
        obtain⟨t0,t1,t2,t3,t4,t5,t6,t7,t8⟩:=Ag.out.eb.ev
        obtain⟨u0,u1,u2,u3,u4,u5,u6,u7,u8⟩:=Am.out.ev
        have f0:=Am.out.free 0
        go_upto_region 22 with fail
        have hgg:=z01 w13 bb 0 (.int .i64 e.id)
        have hbl:Below (w.heap.size+2) w13 (w13.setCell ⟨bb,0,none⟩ (.int .i64 e.id)):=(Below.refl _ _).grown hgg Bf.out.size (fun k hk=>by cases hk;exact hbb)
        have AJ:=hide (Bf.out.on hbl)
        have Ai:=hide (Am.out.put0 e.id)
        have Bg:=hide (ze BZ.out hgg Am.out (by decide))
        have Bh:=hide (ze C8.out hgg Am.out (by decide))
        have Ad:=hide (show NxE w be e (.slice ox e.levels.length cx) (.slice oo pv.length co) (w13.setCell ⟨bb,0,none⟩ (.int .i64 e.id)) from ⟨Ag.out.eb.kept hgg (fun q=>hbne (Option.some.inj q).symm),ze Ag.out.l hgg Am.out (by decide),ze Ag.out.q hgg Am.out (by decide),Ag.out.fl,Ag.out.fp,Ag.out.nl,Ag.out.np,Ag.out.tx,Ag.out.hbe⟩)
        generalize w13.setCell ⟨bb,0,none⟩ (.int .i64 e.id)=w14 at AJ Ai Bg Bh Ad ⊢
        clear t0 t1 t2 t3 t4 t5 t6 t7 t8 u0 u1 u2 u3 u4 u5 u6 u7 u8 f0 hgg hbl Bf Ag BZ C8 Am
        obtain⟨t0,t1,t2,t3,t4,t5,t6,t7,t8⟩:=Ad.out.eb.ev
        obtain⟨u0,u1,u2,u3,u4,u5,u6,u7,u8⟩:=Ai.out.ev
        have f7:=Ai.out.free 7
        go_upto_region 23 with fail
        have hgg:=z01 w14 bb 7 (.slice oo pv.length co)
        have hbl:Below (w.heap.size+2) w14 (w14.setCell ⟨bb,7,none⟩ (.slice oo pv.length co)):=(Below.refl _ _).grown hgg AJ.out.size (fun k hk=>by cases hk;exact hbb)
        have AL:=hide (AJ.out.on hbl)
        have Aj:=hide (Ai.out.put7 (.slice oo pv.length co))
        have Bi:=hide (ze Bg.out hgg Ai.out (by decide))
        have Bj:=hide (ze Bh.out hgg Ai.out (by decide))
        have Ae:=hide (show NxE w be e (.slice ox e.levels.length cx) (.slice oo pv.length co) (w14.setCell ⟨bb,7,none⟩ (.slice oo pv.length co)) from ⟨Ad.out.eb.kept hgg (fun q=>hbne (Option.some.inj q).symm),ze Ad.out.l hgg Ai.out (by decide),ze Ad.out.q hgg Ai.out (by decide),Ad.out.fl,Ad.out.fp,Ad.out.nl,Ad.out.np,Ad.out.tx,Ad.out.hbe⟩)
        generalize w14.setCell ⟨bb,7,none⟩ (.slice oo pv.length co)=w15 at AL Aj Bi Bj Ae ⊢
        clear t0 t1 t2 t3 t4 t5 t6 t7 t8 u0 u1 u2 u3 u4 u5 u6 u7 u8 f7 hgg hbl AJ Ad Bg Bh Ai
        obtain⟨t0,t1,t2,t3,t4,t5,t6,t7,t8⟩:=Ae.out.eb.ev
        obtain⟨u0,u1,u2,u3,u4,u5,u6,u7,u8⟩:=Aj.out.ev
        have f8:=Aj.out.free 8
        go_upto_region 24 with fail
        have hgg:=z01 w15 bb 8 (.int .i64 e.depth)
        have hbl:Below (w.heap.size+2) w15 (w15.setCell ⟨bb,8,none⟩ (.int .i64 e.depth)):=(Below.refl _ _).grown hgg AL.out.size (fun k hk=>by cases hk;exact hbb)
        have Bl:=hide (AL.out.on hbl)
        have C9:=hide (Aj.out.put8 e.depth)
        have Ca:=hide (ze Bi.out hgg Aj.out (by decide))
        have Cb:=hide (ze Bj.out hgg Aj.out (by decide))
        have Aa:=hide (show NxE w be e (.slice ox e.levels.length cx) (.slice oo pv.length co) (w15.setCell ⟨bb,8,none⟩ (.int .i64 e.depth)) from ⟨Ae.out.eb.kept hgg (fun q=>hbne (Option.some.inj q).symm),ze Ae.out.l hgg Aj.out (by decide),ze Ae.out.q hgg Aj.out (by decide),Ae.out.fl,Ae.out.fp,Ae.out.nl,Ae.out.np,Ae.out.tx,Ae.out.hbe⟩)
        generalize w15.setCell ⟨bb,8,none⟩ (.int .i64 e.depth)=w16 at Bl C9 Ca Cb Aa ⊢
        clear t0 t1 t2 t3 t4 t5 t6 t7 t8 u0 u1 u2 u3 u4 u5 u6 u7 u8 f8 hgg hbl AL Ae Bi Bj Aj
        obtain⟨t0,t1,t2,t3,t4,t5,t6,t7,t8⟩:=Aa.out.eb.ev
        obtain⟨u0,u1,u2,u3,u4,u5,u6,u7,u8⟩:=C9.out.ev
        have y0:=Aa.out.eb.free 0
        have y1:=Aa.out.eb.free 1
        have y2:=Aa.out.eb.free 2
        have y3:=Aa.out.eb.free 3
        have y4:=Aa.out.eb.free 4
        have y5:=Aa.out.eb.free 5
        have y6:=Aa.out.eb.free 6
        have y7:=Aa.out.eb.free 7
        have y8:=Aa.out.eb.free 8
        go_wp2_with fail
        obtain⟨w17,hw17,hE17,hg17⟩:=Aa.out.eb.all e.id kd2 sn2 us2 mb2 e.depth (.slice ol2 zl2.length cl2) (.slice oo pv.length co) tx2
        rw[hw17]
        have hb17:Below (w.heap.size+2) w16 w17:=(Below.refl _ _).grown hg17 Bl.out.size (fun k hk=>by cases hk;exact Aa.out.hbe)
        have Da:=hide (Bl.out.on hb17)
        have Db:=hide (show NxE w be (⟨e.id,kd2,sn2,us2,mb2,zl2,tx2,e.prev,e.depth⟩:EvV) (.slice ol2 zl2.length cl2) (.slice oo pv.length co) w17 from ⟨hE17,ze Cb.out hg17 Aa.out.eb (by decide),ze Aa.out.q hg17 Aa.out.eb (by decide),hfl2,Aa.out.fp,hn52,Aa.out.np,htx2,Aa.out.hbe⟩)
        have Dc:=hide (ze Ca.out hg17 Aa.out.eb (by decide))
        clear t0 t1 t2 t3 t4 t5 t6 t7 t8 u0 u1 u2 u3 u4 u5 u6 u7 u8 y0 y1 y2 y3 y4 y5 y6 y7 y8 hw17 hE17 hg17 hb17
        go_roundw
        case rel=>exact⟨j2+1,(⟨e.id,kd2,sn2,us2,mb2,zl2,tx2,e.prev,e.depth⟩:EvV),_,by go_num,by omega,AU.out,El.out,Da.out,Db.out,Dc.out⟩
        case measure=>simp[intOf];omega
       ·go_upto_region 25 with (go_at_call 55;(with_reducible refine Au.out.mono ?_);rintro r w11 ⟨rfl,hb11⟩)
        have A8:=hide (Ac.out.on (hb11.mono Ac.out.size))
        have A7:=hide (Ab.out.on hb11)
        clear hb11 r0 t0 t1 t2 t3 t4 t5 t6 t7 t8 Ac Ab BG Au
        have r0:=za A8.out.r 0 rfl
        by_cases hone:es.length=1
        ·have g1:((es.length:Int)==1)=true:=by rw[hone];rfl
         have De:=hide hone
         clear hone
         obtain⟨x0,b0,q0,xa0,xc0,ya0,yc0,hx0,hidx0,hev0⟩:=(Af.out w11 A8.out.gr).get Tryz.underlying24 z1p 0 hn1
         have hidx1:∀ wx,(Instr.indexAt 24 (.slice oa es.length ca) (.int .i64 0)).run Tryz.prog wx=.ok (.pointer (some ⟨b0,q0,none⟩)) wx:=hidx0
         obtain⟨k0,k1,k2,k3,k4,k5,k6,k7,k8⟩:=hev0.cs
         obtain⟨t0,t1,t2,t3,t4,t5,t6,t7,t8⟩:=A7.out.eb.ev
         have y0:=A7.out.eb.free 0
         have y1:=A7.out.eb.free 1
         have y2:=A7.out.eb.free 2
         have y3:=A7.out.eb.free 3
         have y4:=A7.out.eb.free 4
         have y5:=A7.out.eb.free 5
         have y6:=A7.out.eb.free 6
         have y7:=A7.out.eb.free 7
         have y8:=A7.out.eb.free 8
         go_upto_region 26 with fail
         go_still_tail 16,(by kernel_rfl)
         go_upto_region 27 with fail
         obtain⟨wy,hwy,hEy,hgy⟩:=A7.out.eb.all id 2 x0.sender x0.sender 2 e.depth (.slice none 0 0) (.slice oo pv.length co) []
         try rw[show (.string ⟨#[]⟩:Value)=.string ⟨([]:List UInt8).toArray⟩ from rfl]
         rw[hwy]
         have hby:Below (w.heap.size+2) w11 wy:=(Below.refl _ _).grown hgy A8.out.size (fun k hk=>by cases hk;exact A7.out.hbe)
         have HNy:=hide ((A8.out.on hby).on ((Below.refl (w.heap.size+2) wy).drew))
         have HEy:=hide ((show NxE w be (⟨id,2,x0.sender,x0.sender,2,[],[],e.prev,e.depth⟩:EvV) (.slice none 0 0) (.slice oo pv.length co) wy from ⟨hEy,World.ownsRow_nil _ _ _ _,ze A7.out.q hgy A7.out.eb (by decide),by simp,A7.out.fp,by simp,A7.out.np,by simp,A7.out.hbe⟩).on ((Below.refl wy.heap.size wy).drew))
         generalize wy.drew=wv at HNy HEy ⊢
         clear k0 k1 k2 k3 k4 k5 k6 k7 k8 t0 t1 t2 t3 t4 t5 t6 t7 t8 y0 y1 y2 y3 y4 y5 y6 y7 y8 hwy hEy hgy hby hx0 hidx0 hidx1 hev0
         skip
         obtain⟨t0,t1,t2,t3,t4,t5,t6,t7,t8⟩:=HEy.out.eb.ev
         obtain⟨q0,q1,q2,q3,q4,q5,q6,q7,q8⟩:=HNy.out.rr.ev
         have y0:=HNy.out.rr.free 0
         have y1:=HNy.out.rr.free 1
         have y2:=HNy.out.rr.free 2
         have y3:=HNy.out.rr.free 3
         have y4:=HNy.out.rr.free 4
         have y5:=HNy.out.rr.free 5
         have y6:=HNy.out.rr.free 6
         have y7:=HNy.out.rr.free 7
         have y8:=HNy.out.rr.free 8
         go_wp2_with fail
         obtain⟨wz,hwz,hEz,hgz⟩:=HNy.out.rr.all (⟨id,2,x0.sender,x0.sender,2,[],[],e.prev,e.depth⟩:EvV).id (⟨id,2,x0.sender,x0.sender,2,[],[],e.prev,e.depth⟩:EvV).kind (⟨id,2,x0.sender,x0.sender,2,[],[],e.prev,e.depth⟩:EvV).sender (⟨id,2,x0.sender,x0.sender,2,[],[],e.prev,e.depth⟩:EvV).user (⟨id,2,x0.sender,x0.sender,2,[],[],e.prev,e.depth⟩:EvV).member (⟨id,2,x0.sender,x0.sender,2,[],[],e.prev,e.depth⟩:EvV).depth (.slice none 0 0) (.slice oo pv.length co) (⟨id,2,x0.sender,x0.sender,2,[],[],e.prev,e.depth⟩:EvV).text
         try simp only at hwz hEz
         rw[hwz]
         clear t0 t1 t2 t3 t4 t5 t6 t7 t8 q0 q1 q2 q3 q4 q5 q6 q7 q8 y0 y1 y2 y3 y4 y5 y6 y7 y8
         obtain⟨t0,t1,t2,t3,t4,t5,t6,t7,t8⟩:=hEz.ev
         refine bodyPost_ret (v:=evv (⟨id,2,x0.sender,x0.sender,2,[],[],e.prev,e.depth⟩:EvV) (.slice none 0 0) (.slice oo pv.length co)) (by simp[results,Tryz.results79,go_sem,t0,t1,t2,t3,t4,t5,t6,t7,t8]) rfl ?_
         have hbz:Below (w.heap.size+1) wv wz:=(Below.refl _ _).grown hgz (by have:=HNy.out.size;omega) (fun k hk=>by cases hk;omega)
         exact⟨(⟨id,2,x0.sender,x0.sender,2,[],[],e.prev,e.depth⟩:EvV),_,_,rfl,ze HEy.out.l hgz HNy.out.rr (by decide),ze HEy.out.q hgz HNy.out.rr (by decide),HEy.out.fl,HEy.out.fp,rfl,HEy.out.nl,HEy.out.np,HEy.out.tx,fun h=>absurd h CV.out,HNy.out.cur.kept (hbz.mono (by omega)) (hbz.block p (by omega)),z02 HNy.out.gr (hbz.mono (by omega))⟩
        ·have g1:((es.length:Int)==1)=false:=by rw[beq_eq_false_iff_ne];omega
         clear hone
         obtain⟨t0,t1,t2,t3,t4,t5,t6,t7,t8⟩:=A7.out.eb.ev
         obtain⟨q0,q1,q2,q3,q4,q5,q6,q7,q8⟩:=A8.out.rr.ev
         have y0:=A8.out.rr.free 0
         have y1:=A8.out.rr.free 1
         have y2:=A8.out.rr.free 2
         have y3:=A8.out.rr.free 3
         have y4:=A8.out.rr.free 4
         have y5:=A8.out.rr.free 5
         have y6:=A8.out.rr.free 6
         have y7:=A8.out.rr.free 7
         have y8:=A8.out.rr.free 8
         go_wp2_with fail
         obtain⟨wz,hwz,hEz,hgz⟩:=A8.out.rr.all e.id e.kind e.sender e.user e.member e.depth (.slice ox e.levels.length cx) (.slice oo pv.length co) e.text
         try simp only at hwz hEz
         rw[hwz]
         clear t0 t1 t2 t3 t4 t5 t6 t7 t8 q0 q1 q2 q3 q4 q5 q6 q7 q8 y0 y1 y2 y3 y4 y5 y6 y7 y8
         obtain⟨t0,t1,t2,t3,t4,t5,t6,t7,t8⟩:=hEz.ev
         refine bodyPost_ret (v:=evv e (.slice ox e.levels.length cx) (.slice oo pv.length co)) (by simp[results,Tryz.results79,go_sem,t0,t1,t2,t3,t4,t5,t6,t7,t8]) rfl ?_
         have hbz:Below (w.heap.size+1) w11 wz:=(Below.refl _ _).grown hgz (by have:=A8.out.size;omega) (fun k hk=>by cases hk;omega)
         exact⟨e,_,_,rfl,ze A7.out.l hgz A8.out.rr (by decide),ze A7.out.q hgz A8.out.rr (by decide),A7.out.fl,A7.out.fp,AU.out,A7.out.nl,A7.out.np,A7.out.tx,fun h=>absurd h CV.out,A8.out.cur.kept (hbz.mono (by omega)) (hbz.block p (by omega)),z02 A8.out.gr (hbz.mono (by omega))⟩
      ·have j60:¬ ((j2:Int)<6):=by omega
       go_upto_region 25 with fail
       clear Au
       have r0:=za Ac.out.r 0 rfl
       by_cases hone:es.length=1
       ·have g1:((es.length:Int)==1)=true:=by rw[hone];rfl
        have De:=hide hone
        clear hone
        obtain⟨x0,b0,q0,xa0,xc0,ya0,yc0,hx0,hidx0,hev0⟩:=(Af.out wr Ac.out.gr).get Tryz.underlying24 z1p 0 hn1
        have hidx1:∀ wx,(Instr.indexAt 24 (.slice oa es.length ca) (.int .i64 0)).run Tryz.prog wx=.ok (.pointer (some ⟨b0,q0,none⟩)) wx:=hidx0
        obtain⟨k0,k1,k2,k3,k4,k5,k6,k7,k8⟩:=hev0.cs
        obtain⟨t0,t1,t2,t3,t4,t5,t6,t7,t8⟩:=Ab.out.eb.ev
        have y0:=Ab.out.eb.free 0
        have y1:=Ab.out.eb.free 1
        have y2:=Ab.out.eb.free 2
        have y3:=Ab.out.eb.free 3
        have y4:=Ab.out.eb.free 4
        have y5:=Ab.out.eb.free 5
        have y6:=Ab.out.eb.free 6
        have y7:=Ab.out.eb.free 7
        have y8:=Ab.out.eb.free 8
        go_upto_region 26 with fail
        go_still_tail 16,(by kernel_rfl)
        go_upto_region 27 with fail
        obtain⟨wy,hwy,hEy,hgy⟩:=Ab.out.eb.all id 2 x0.sender x0.sender 2 e.depth (.slice none 0 0) (.slice oo pv.length co) []
        try rw[show (.string ⟨#[]⟩:Value)=.string ⟨([]:List UInt8).toArray⟩ from rfl]
        rw[hwy]
        have hby:Below (w.heap.size+2) wr wy:=(Below.refl _ _).grown hgy Ac.out.size (fun k hk=>by cases hk;exact Ab.out.hbe)
        have HNy:=hide ((Ac.out.on hby).on ((Below.refl (w.heap.size+2) wy).drew))
        have HEy:=hide ((show NxE w be (⟨id,2,x0.sender,x0.sender,2,[],[],e.prev,e.depth⟩:EvV) (.slice none 0 0) (.slice oo pv.length co) wy from ⟨hEy,World.ownsRow_nil _ _ _ _,ze Ab.out.q hgy Ab.out.eb (by decide),by simp,Ab.out.fp,by simp,Ab.out.np,by simp,Ab.out.hbe⟩).on ((Below.refl wy.heap.size wy).drew))
        generalize wy.drew=wv at HNy HEy ⊢
        clear k0 k1 k2 k3 k4 k5 k6 k7 k8 t0 t1 t2 t3 t4 t5 t6 t7 t8 y0 y1 y2 y3 y4 y5 y6 y7 y8 hwy hEy hgy hby hx0 hidx0 hidx1 hev0
        skip
        obtain⟨t0,t1,t2,t3,t4,t5,t6,t7,t8⟩:=HEy.out.eb.ev
        obtain⟨q0,q1,q2,q3,q4,q5,q6,q7,q8⟩:=HNy.out.rr.ev
        have y0:=HNy.out.rr.free 0
        have y1:=HNy.out.rr.free 1
        have y2:=HNy.out.rr.free 2
        have y3:=HNy.out.rr.free 3
        have y4:=HNy.out.rr.free 4
        have y5:=HNy.out.rr.free 5
        have y6:=HNy.out.rr.free 6
        have y7:=HNy.out.rr.free 7
        have y8:=HNy.out.rr.free 8
        go_wp2_with fail
        obtain⟨wz,hwz,hEz,hgz⟩:=HNy.out.rr.all (⟨id,2,x0.sender,x0.sender,2,[],[],e.prev,e.depth⟩:EvV).id (⟨id,2,x0.sender,x0.sender,2,[],[],e.prev,e.depth⟩:EvV).kind (⟨id,2,x0.sender,x0.sender,2,[],[],e.prev,e.depth⟩:EvV).sender (⟨id,2,x0.sender,x0.sender,2,[],[],e.prev,e.depth⟩:EvV).user (⟨id,2,x0.sender,x0.sender,2,[],[],e.prev,e.depth⟩:EvV).member (⟨id,2,x0.sender,x0.sender,2,[],[],e.prev,e.depth⟩:EvV).depth (.slice none 0 0) (.slice oo pv.length co) (⟨id,2,x0.sender,x0.sender,2,[],[],e.prev,e.depth⟩:EvV).text
        try simp only at hwz hEz
        rw[hwz]
        clear t0 t1 t2 t3 t4 t5 t6 t7 t8 q0 q1 q2 q3 q4 q5 q6 q7 q8 y0 y1 y2 y3 y4 y5 y6 y7 y8
        obtain⟨t0,t1,t2,t3,t4,t5,t6,t7,t8⟩:=hEz.ev
        refine bodyPost_ret (v:=evv (⟨id,2,x0.sender,x0.sender,2,[],[],e.prev,e.depth⟩:EvV) (.slice none 0 0) (.slice oo pv.length co)) (by simp[results,Tryz.results79,go_sem,t0,t1,t2,t3,t4,t5,t6,t7,t8]) rfl ?_
        have hbz:Below (w.heap.size+1) wv wz:=(Below.refl _ _).grown hgz (by have:=HNy.out.size;omega) (fun k hk=>by cases hk;omega)
        exact⟨(⟨id,2,x0.sender,x0.sender,2,[],[],e.prev,e.depth⟩:EvV),_,_,rfl,ze HEy.out.l hgz HNy.out.rr (by decide),ze HEy.out.q hgz HNy.out.rr (by decide),HEy.out.fl,HEy.out.fp,rfl,HEy.out.nl,HEy.out.np,HEy.out.tx,fun h=>absurd h CV.out,HNy.out.cur.kept (hbz.mono (by omega)) (hbz.block p (by omega)),z02 HNy.out.gr (hbz.mono (by omega))⟩
       ·have g1:((es.length:Int)==1)=false:=by rw[beq_eq_false_iff_ne];omega
        clear hone
        obtain⟨t0,t1,t2,t3,t4,t5,t6,t7,t8⟩:=Ab.out.eb.ev
        obtain⟨q0,q1,q2,q3,q4,q5,q6,q7,q8⟩:=Ac.out.rr.ev
        have y0:=Ac.out.rr.free 0
        have y1:=Ac.out.rr.free 1
        have y2:=Ac.out.rr.free 2
        have y3:=Ac.out.rr.free 3
        have y4:=Ac.out.rr.free 4
        have y5:=Ac.out.rr.free 5
        have y6:=Ac.out.rr.free 6
        have y7:=Ac.out.rr.free 7
        have y8:=Ac.out.rr.free 8
        go_wp2_with fail
        obtain⟨wz,hwz,hEz,hgz⟩:=Ac.out.rr.all e.id e.kind e.sender e.user e.member e.depth (.slice ox e.levels.length cx) (.slice oo pv.length co) e.text
        try simp only at hwz hEz
        rw[hwz]
        clear t0 t1 t2 t3 t4 t5 t6 t7 t8 q0 q1 q2 q3 q4 q5 q6 q7 q8 y0 y1 y2 y3 y4 y5 y6 y7 y8
        obtain⟨t0,t1,t2,t3,t4,t5,t6,t7,t8⟩:=hEz.ev
        refine bodyPost_ret (v:=evv e (.slice ox e.levels.length cx) (.slice oo pv.length co)) (by simp[results,Tryz.results79,go_sem,t0,t1,t2,t3,t4,t5,t6,t7,t8]) rfl ?_
        have hbz:Below (w.heap.size+1) wr wz:=(Below.refl _ _).grown hgz (by have:=Ac.out.size;omega) (fun k hk=>by cases hk;omega)
        exact⟨e,_,_,rfl,ze Ab.out.l hgz Ac.out.rr (by decide),ze Ab.out.q hgz Ac.out.rr (by decide),Ab.out.fl,Ab.out.fp,AU.out,Ab.out.nl,Ab.out.np,Ab.out.tx,fun h=>absurd h CV.out,Ac.out.cur.kept (hbz.mono (by omega)) (hbz.block p (by omega)),z02 Ac.out.gr (hbz.mono (by omega))⟩
    | true =>
     have r0:=za (CW.out.drawn Dl.out Aw.out).r 0 rfl
     go_upto_region 13 with fail
     refine (fun (KEY:Hid ?G2)=>?main2) (hide ?key2)
     case main2 =>
      go_region_law (rw[if_pos (by rfl)];go_simp;go_at_call 66;refine (z1u B p a len cap es.length hn1 (by omega) _ (Dl.out.kept (Below.refl B w5).drew rfl)).mono ?_;rintro r w6 ⟨x6,hx6,rfl,hc6,hg6⟩;have hg56:w5.grownBy w6 (some p):=z9v hg6;have r06:=za (CW.out.drawn hc6 (zm Aw.out hg56)).r 0 rfl;obtain⟨ev6,b6,q6,xa6,xc6,ya6,yc6,he6,hidx6,hev6⟩:=(Af.out w6 (zm CW.out.gr (zm Aw.out hg56))).get Tryz.underlying24 z1p x6 hx6;obtain⟨c60,c61,c62,c63,c64,c65,c66,c67,c68⟩:=hev6.cs;clear c61 c62 c63 c64 c65 c66 c67 c68 hev6)
      all_goals
       have DC:=hide (show ∀ z∈[ev6.id],(Lit.int .i64 z).wf=true from fun z hz=>by simp at hz;subst hz;exact Dw.out ev6 (List.mem_of_getElem? he6))
       have Cu:=hide (show Below w6.heap.size w6 (w6.alloc (.cells #[.int .i64 ev6.id] 3)) from (Below.refl _ _).alloc (Nat.le_refl _) _)
       have Dm:=hide (z02 (zm Aw.out hg56) (Cu.out.mono (zm Aw.out hg56).size))
       have hs46:=(zm Aw.out hg56).size
       have Ex:=hide (hc6.kept (Cu.out.mono (by omega)) (Cu.out.block p (by omega)))
       have Cg:=hide (show (w6.alloc (.cells #[.int .i64 ev6.id] 3)).ownsRow w4.heap.size 3 1 (.slice (some ⟨w6.heap.size,0,none⟩) 1 1) ([ev6.id]:List Int).length (([ev6.id]:List Int).map zu) from World.ownsRow_lit (base:=w4.heap.size) (size:=1) w6 #[.int .i64 ev6.id] 1 hs46 (by decide) (by simp))
       clear r06 c60 hidx6 he6 hc6 hg6 hg56 Cu hs46
       generalize w6.heap.size=s6 at Cg ⊢
       generalize w6.alloc (.cells #[.int .i64 ev6.id] 3)=w66 at Dm Ex Cg ⊢
       generalize ev6.id=z6 at DC Cg ⊢
       clear hx6
       revert DC
       revert Cg
       revert Ex
       revert Dm
       revert w66
       revert s6
       revert z6
       revert x6
       revert b6
       revert q6
       exact KEY.out
     case key2 =>
      intro q6 b6 x6 z6 s6 w66 Dm Ex Cg DC
      have CR:=hide (show ([z6]:List Int).length≤3 by simp)
      clear r0 Cj Dl Aw ER
      have CO:=hide (CW.out.drawn Ex.out Dm.out)
      have Av:=hide (JV.out.drawn CW.out.hp Dm.out)
      obtain⟨t0,t1,t2,t3,t4,t5,t6,t7,t8⟩:=Av.out.eb.ev
      have f7:=Av.out.eb.free 7
      go_upto_region 15 with fail
      have hg7:=z01 w66 be 7 (.slice (some ⟨s6,0,none⟩) 1 1)
      have hb7:Below (w.heap.size+2) w66 (w66.setCell ⟨be,7,none⟩ (.slice (some ⟨s6,0,none⟩) 1 1)):=(Below.refl _ _).grown hg7 CO.out.size (fun k hk=>by cases hk;exact Av.out.hbe)
      have hE7:NxE w be (⟨id,kd,sn,us,mb,zl,tx,[z6],dp⟩:EvV) (.slice ol zl.length cl) (.slice (some ⟨s6,0,none⟩) 1 1) (w66.setCell ⟨be,7,none⟩ (.slice (some ⟨s6,0,none⟩) 1 1)):=⟨Av.out.eb.put7 _,ze Av.out.l hg7 Av.out.eb (by decide),ze (zq Cg.out (by omega)) hg7 Av.out.eb (by decide),Av.out.fl,DC.out,Av.out.nl,CR.out,Av.out.tx,Av.out.hbe⟩
      have AX:=hide (CO.out.on hb7)
      generalize w66.setCell ⟨be,7,none⟩ (.slice (some ⟨s6,0,none⟩) 1 1)=w7 at hE7 AX ⊢
      have Cs:=hide hE7
      clear hE7 hb7 hg7 t0 t1 t2 t3 t4 t5 t6 t7 t8 f7 Av CO
      have r0:=za AX.out.r 0 rfl
      have r1:=za AX.out.r 1 rfl
      have r2:=za AX.out.r 2 rfl
      obtain⟨_,_,heo,hi7⟩:=z0e Cs.out.q Cs.out.fp
      cases heo
      replace hi7:IntsAt w7 (some ⟨s6,0,none⟩) 1 1 [z6]:=hi7
      go_upto_region 16 with (go_at_call 125;(with_reducible refine (CG.out _ AX.out.gr _ _ _ _ hi7).mono ?_);rintro r w8 ⟨rfl,hb8⟩;have hE8:=Cs.out.on hb8;obtain⟨t0,t1,t2,t3,t4,t5,t6,t7,t8⟩:=hE8.eb.ev;have f8:=hE8.eb.free 8)
      have D9:=hide (AX.out.on (hb8.mono AX.out.size))
      generalize z3r es _=D at *
      have hg9:=z01 w8 be 8 (.int .i64 D)
      have hb9:Below (w.heap.size+2) w8 (w8.setCell ⟨be,8,none⟩ (.int .i64 D)):=(Below.refl _ _).grown hg9 D9.out.size (fun k hk=>by cases hk;exact hE8.hbe)
      have hE9:NxE w be (⟨id,kd,sn,us,mb,zl,tx,[z6],D⟩:EvV) (.slice ol zl.length cl) (.slice (some ⟨s6,0,none⟩) 1 1) (w8.setCell ⟨be,8,none⟩ (.int .i64 D)):=⟨hE8.eb.put8 _,ze hE8.l hg9 hE8.eb (by decide),ze hE8.q hg9 hE8.eb (by decide),hE8.fl,hE8.fp,hE8.nl,hE8.np,hE8.tx,hE8.hbe⟩
      have AC:=hide (D9.out.on hb9)
      generalize w8.setCell ⟨be,8,none⟩ (.int .i64 D)=w9 at hE9 AC ⊢
      have Ct:=hide hE9
      clear hE9 hb9 hg9 t0 t1 t2 t3 t4 t5 t6 t7 t8 f8 hE8 D9 AX Cs hi7 r0 r1 r2 hb8
      have r0:=za AC.out.r 0 rfl
      have r1:=za AC.out.r 1 rfl
      have r2:=za AC.out.r 2 rfl
      obtain⟨_,_,heo,hi9⟩:=z0e Ct.out.q Ct.out.fp
      cases heo
      replace hi9:IntsAt w9 (some ⟨s6,0,none⟩) 1 1 [z6]:=hi9
      go_upto_region 17 with (go_at_call 87;(with_reducible refine (G8.out _ AC.out.gr _ _ _ _ (by first|decide|(have:=CR.out;omega)) hi9).mono ?_);rintro r w10 ⟨v10,rfl,ho10,hb10⟩;obtain⟨os,cs,rfl⟩:=zb ho10)
      generalize (z2r es sts [z6]).getD []=SS at ho10 ⊢
      generalize (z2r es sts [z6]).isSome=bs
      have BR:=hide (zq ho10 (show w.heap.size≤w9.heap.size by have:=AC.out.size;omega))
      have BS:=hide (AC.out.on (hb10.mono AC.out.size))
      have BU:=hide (Ct.out.on hb10)
      clear ho10 hb10 hi9 r0 r1 r2 AC Ct
      go_wp2_with fail
      go_loopw [13] (fun i wr=>∃ (j:Nat) (e:EvV) (vl:Value),i=.int .i64 (j:Int)∧j≤6∧e.id=id∧e.prev.length=1∧NxS B p a len cap w (.slice oa es.length ca) (.slice so sts.length sc) vg wr∧NxE w be e vl (.slice (some ⟨s6,0,none⟩) 1 1) wr∧wr.ownsRow w.heap.size 36 2 (.slice os SS.length cs) SS.length (SS.flatMap z06)) (fun i _=>6 - (intOf i).toNat)
      case atStart=>exact⟨0,_,_,rfl,by omega,rfl,rfl,BS.out,BU.out,BR.out⟩
      case round =>
       obtain⟨j2,e,vl,rfl,hj2,hid,hpm,hns,hne,hss⟩:=hrel
       obtain⟨ox,cx,rfl⟩:=zb hne.l
       have Ac:=hide hns
       have Ab:=hide hne
       have BG:=hide hss
       have AU:=hide hid
       have El:=hide hpm
       obtain⟨_,_,heo,hil⟩:=z0e hne.l hne.fl
       cases heo
       obtain⟨_,_,heo,hiq⟩:=z0e hne.q hne.fp
       injection heo with ho1 ho2 ho3
       subst ho1
       subst ho3
       obtain⟨_,_,heo,his⟩:=z03 hss
       cases heo
       have htx:=hne.tx
       have Au:=hide (z2h oa es.length ca es os SS.length cs SS e ox cx (some ⟨s6,0,none⟩) 1 (by omega) wr ⟨Af.out wr hns.gr,his⟩ hil hiq)
       rw[hpm] at Au
       clear hns hne hss hid hil hiq his BS BU BR hpm ho2
       by_cases hlt6:j2<6
       ·have j60:(j2:Int)<6:=by omega
        have r0:=za Ac.out.r 0 rfl
        obtain⟨t0,t1,t2,t3,t4,t5,t6,t7,t8⟩:=Ab.out.eb.ev
        generalize allowed es SS e=al at Au
        cases al
        ·go_upto_region 20 with (go_at_call 55;(with_reducible refine Au.out.mono ?_);rintro r w11 ⟨rfl,hb11⟩)
         have A8:=hide (Ac.out.on (hb11.mono Ac.out.size))
         have A7:=hide (Ab.out.on hb11)
         have Bc:=hide (own_below BG.out hb11)
         clear hb11 r0 t0 t1 t2 t3 t4 t5 t6 t7 t8 Ac Ab BG Au
         have BV:=hide A8.out.cur
         have hs11:=A8.out.size
         go_upto_region 21 with (go_at_call 124;refine (z3o B p a len cap _ (by omega) BV.out).mono ?_;rintro r w12 ⟨id2,kd2,sn2,us2,mb2,dp2,vl2,vp2,tx2,n2,m2,zl2,zp2,rfl,hn52,hm02,htx2,hown2,hfl2,hfp2,hc12,hg12⟩;obtain⟨ol2,cl2,rfl⟩:=zb hown2.l;obtain⟨oq2,cq2,rfl⟩:=zb hown2.p)
         have hzl2:zl2.length=n2:=by have:=hown2.l.1;simpa using this
         have hzp2:zp2.length=m2:=by have:=hown2.p.1;simpa using this
         subst hzl2
         subst hzp2
         have Bd:=hide (A8.out.drawn hc12 hg12)
         have Be:=hide (A7.out.drawn A8.out.hp hg12)
         have BX:=hide (Bc.out.kept hg12 (z13 Bc.out A8.out.hp))
         have hs12:=Bd.out.size
         obtain⟨w13,hw13⟩:∃ w13,w12.alloc (.cells (zh id2 kd2 sn2 us2 mb2 dp2 (.slice ol2 zl2.length cl2) (.slice oq2 zp2.length cq2) tx2) 47)=w13:=⟨_,rfl⟩
         have hb13:Below w12.heap.size w12 w13:=by rw[← hw13];exact (Below.refl _ _).alloc (Nat.le_refl _) _
         have hB13:EB w13 w12.heap.size id2 kd2 sn2 us2 mb2 dp2 (.slice ol2 zl2.length cl2) (.slice oq2 zp2.length cq2) tx2:=by rw[← hw13];exact EB.new _ _ _ _ _ _ _ _ _ _
         rw[show w12.alloc (.cells #[.int .i64 id2,.int .i64 kd2,.int .i64 sn2,.int .i64 us2,.int .i64 mb2,.slice ol2 zl2.length cl2,.string ⟨tx2.toArray⟩,.slice oq2 zp2.length cq2,.int .i64 dp2] 47)=w13 from hw13]
         have Bf:=hide (Bd.out.on (hb13.mono (by omega)))
         have Ag:=hide (Be.out.on hb13)
         have BZ:=hide (own_below BX.out hb13)
         have C8:=hide (own_below (zq hown2.l (show w.heap.size≤w11.heap.size by omega)) hb13)
         have hbb:w.heap.size+2≤w12.heap.size:=by omega
         have hbne:be≠w12.heap.size:=by have:=Be.out.eb.lt;omega
         generalize w12.heap.size=bb at hB13 hbb hbne ⊢
         have Am:=hide hB13
         clear hw13 hb13 hB13 Bd Be BX A8 A7 Bc BV hown2 hc12 hg12
         obtain⟨t0,t1,t2,t3,t4,t5,t6,t7,t8⟩:=Ag.out.eb.ev
         obtain⟨u0,u1,u2,u3,u4,u5,u6,u7,u8⟩:=Am.out.ev
         have f0:=Am.out.free 0
         go_upto_region 22 with fail
         have hgg:=z01 w13 bb 0 (.int .i64 e.id)
         have hbl:Below (w.heap.size+2) w13 (w13.setCell ⟨bb,0,none⟩ (.int .i64 e.id)):=(Below.refl _ _).grown hgg Bf.out.size (fun k hk=>by cases hk;exact hbb)
         have AJ:=hide (Bf.out.on hbl)
         have Ai:=hide (Am.out.put0 e.id)
         have Bg:=hide (ze BZ.out hgg Am.out (by decide))
         have Bh:=hide (ze C8.out hgg Am.out (by decide))
         have Ad:=hide (show NxE w be e (.slice ox e.levels.length cx) (.slice (some ⟨s6,0,none⟩) 1 1) (w13.setCell ⟨bb,0,none⟩ (.int .i64 e.id)) from ⟨Ag.out.eb.kept hgg (fun q=>hbne (Option.some.inj q).symm),ze Ag.out.l hgg Am.out (by decide),ze Ag.out.q hgg Am.out (by decide),Ag.out.fl,Ag.out.fp,Ag.out.nl,Ag.out.np,Ag.out.tx,Ag.out.hbe⟩)
         generalize w13.setCell ⟨bb,0,none⟩ (.int .i64 e.id)=w14 at AJ Ai Bg Bh Ad ⊢
         clear t0 t1 t2 t3 t4 t5 t6 t7 t8 u0 u1 u2 u3 u4 u5 u6 u7 u8 f0 hgg hbl Bf Ag BZ C8 Am
         obtain⟨t0,t1,t2,t3,t4,t5,t6,t7,t8⟩:=Ad.out.eb.ev
         obtain⟨u0,u1,u2,u3,u4,u5,u6,u7,u8⟩:=Ai.out.ev
         have f7:=Ai.out.free 7
         go_upto_region 23 with fail
         have hgg:=z01 w14 bb 7 (.slice (some ⟨s6,0,none⟩) 1 1)
         have hbl:Below (w.heap.size+2) w14 (w14.setCell ⟨bb,7,none⟩ (.slice (some ⟨s6,0,none⟩) 1 1)):=(Below.refl _ _).grown hgg AJ.out.size (fun k hk=>by cases hk;exact hbb)
         have AL:=hide (AJ.out.on hbl)
         have Aj:=hide (Ai.out.put7 (.slice (some ⟨s6,0,none⟩) 1 1))
         have Bi:=hide (ze Bg.out hgg Ai.out (by decide))
         have Bj:=hide (ze Bh.out hgg Ai.out (by decide))
         have Ae:=hide (show NxE w be e (.slice ox e.levels.length cx) (.slice (some ⟨s6,0,none⟩) 1 1) (w14.setCell ⟨bb,7,none⟩ (.slice (some ⟨s6,0,none⟩) 1 1)) from ⟨Ad.out.eb.kept hgg (fun q=>hbne (Option.some.inj q).symm),ze Ad.out.l hgg Ai.out (by decide),ze Ad.out.q hgg Ai.out (by decide),Ad.out.fl,Ad.out.fp,Ad.out.nl,Ad.out.np,Ad.out.tx,Ad.out.hbe⟩)
         generalize w14.setCell ⟨bb,7,none⟩ (.slice (some ⟨s6,0,none⟩) 1 1)=w15 at AL Aj Bi Bj Ae ⊢
         clear t0 t1 t2 t3 t4 t5 t6 t7 t8 u0 u1 u2 u3 u4 u5 u6 u7 u8 f7 hgg hbl AJ Ad Bg Bh Ai
         obtain⟨t0,t1,t2,t3,t4,t5,t6,t7,t8⟩:=Ae.out.eb.ev
         obtain⟨u0,u1,u2,u3,u4,u5,u6,u7,u8⟩:=Aj.out.ev
         have f8:=Aj.out.free 8
         go_upto_region 24 with fail
         have hgg:=z01 w15 bb 8 (.int .i64 e.depth)
         have hbl:Below (w.heap.size+2) w15 (w15.setCell ⟨bb,8,none⟩ (.int .i64 e.depth)):=(Below.refl _ _).grown hgg AL.out.size (fun k hk=>by cases hk;exact hbb)
         have Bl:=hide (AL.out.on hbl)
         have C9:=hide (Aj.out.put8 e.depth)
         have Ca:=hide (ze Bi.out hgg Aj.out (by decide))
         have Cb:=hide (ze Bj.out hgg Aj.out (by decide))
         have Aa:=hide (show NxE w be e (.slice ox e.levels.length cx) (.slice (some ⟨s6,0,none⟩) 1 1) (w15.setCell ⟨bb,8,none⟩ (.int .i64 e.depth)) from ⟨Ae.out.eb.kept hgg (fun q=>hbne (Option.some.inj q).symm),ze Ae.out.l hgg Aj.out (by decide),ze Ae.out.q hgg Aj.out (by decide),Ae.out.fl,Ae.out.fp,Ae.out.nl,Ae.out.np,Ae.out.tx,Ae.out.hbe⟩)
         generalize w15.setCell ⟨bb,8,none⟩ (.int .i64 e.depth)=w16 at Bl C9 Ca Cb Aa ⊢
         clear t0 t1 t2 t3 t4 t5 t6 t7 t8 u0 u1 u2 u3 u4 u5 u6 u7 u8 f8 hgg hbl AL Ae Bi Bj Aj
         obtain⟨t0,t1,t2,t3,t4,t5,t6,t7,t8⟩:=Aa.out.eb.ev
         obtain⟨u0,u1,u2,u3,u4,u5,u6,u7,u8⟩:=C9.out.ev
         have y0:=Aa.out.eb.free 0
         have y1:=Aa.out.eb.free 1
         have y2:=Aa.out.eb.free 2
         have y3:=Aa.out.eb.free 3
         have y4:=Aa.out.eb.free 4
         have y5:=Aa.out.eb.free 5
         have y6:=Aa.out.eb.free 6
         have y7:=Aa.out.eb.free 7
         have y8:=Aa.out.eb.free 8
         go_wp2_with fail
         obtain⟨w17,hw17,hE17,hg17⟩:=Aa.out.eb.all e.id kd2 sn2 us2 mb2 e.depth (.slice ol2 zl2.length cl2) (.slice (some ⟨s6,0,none⟩) 1 1) tx2
         rw[hw17]
         have hb17:Below (w.heap.size+2) w16 w17:=(Below.refl _ _).grown hg17 Bl.out.size (fun k hk=>by cases hk;exact Aa.out.hbe)
         have Da:=hide (Bl.out.on hb17)
         have Db:=hide (show NxE w be (⟨e.id,kd2,sn2,us2,mb2,zl2,tx2,e.prev,e.depth⟩:EvV) (.slice ol2 zl2.length cl2) (.slice (some ⟨s6,0,none⟩) 1 1) w17 from ⟨hE17,ze Cb.out hg17 Aa.out.eb (by decide),ze Aa.out.q hg17 Aa.out.eb (by decide),hfl2,Aa.out.fp,hn52,Aa.out.np,htx2,Aa.out.hbe⟩)
         have Dc:=hide (ze Ca.out hg17 Aa.out.eb (by decide))
         clear t0 t1 t2 t3 t4 t5 t6 t7 t8 u0 u1 u2 u3 u4 u5 u6 u7 u8 y0 y1 y2 y3 y4 y5 y6 y7 y8 hw17 hE17 hg17 hb17
         go_roundw
         case rel=>exact⟨j2+1,(⟨e.id,kd2,sn2,us2,mb2,zl2,tx2,e.prev,e.depth⟩:EvV),_,by go_num,by omega,AU.out,El.out,Da.out,Db.out,Dc.out⟩
         case measure=>simp[intOf];omega
        ·go_upto_region 25 with (go_at_call 55;(with_reducible refine Au.out.mono ?_);rintro r w11 ⟨rfl,hb11⟩)
         have A8:=hide (Ac.out.on (hb11.mono Ac.out.size))
         have A7:=hide (Ab.out.on hb11)
         clear hb11 r0 t0 t1 t2 t3 t4 t5 t6 t7 t8 Ac Ab BG Au
         have r0:=za A8.out.r 0 rfl
         by_cases hone:es.length=1
         ·have g1:((es.length:Int)==1)=true:=by rw[hone];rfl
          have De:=hide hone
          clear hone
          obtain⟨x0,b0,q0,xa0,xc0,ya0,yc0,hx0,hidx0,hev0⟩:=(Af.out w11 A8.out.gr).get Tryz.underlying24 z1p 0 hn1
          have hidx1:∀ wx,(Instr.indexAt 24 (.slice oa es.length ca) (.int .i64 0)).run Tryz.prog wx=.ok (.pointer (some ⟨b0,q0,none⟩)) wx:=hidx0
          obtain⟨k0,k1,k2,k3,k4,k5,k6,k7,k8⟩:=hev0.cs
          obtain⟨t0,t1,t2,t3,t4,t5,t6,t7,t8⟩:=A7.out.eb.ev
          have y0:=A7.out.eb.free 0
          have y1:=A7.out.eb.free 1
          have y2:=A7.out.eb.free 2
          have y3:=A7.out.eb.free 3
          have y4:=A7.out.eb.free 4
          have y5:=A7.out.eb.free 5
          have y6:=A7.out.eb.free 6
          have y7:=A7.out.eb.free 7
          have y8:=A7.out.eb.free 8
          go_upto_region 26 with fail
          go_still_tail 16,(by kernel_rfl)
          go_upto_region 27 with fail
          obtain⟨wy,hwy,hEy,hgy⟩:=A7.out.eb.all id 2 x0.sender x0.sender 2 e.depth (.slice none 0 0) (.slice (some ⟨s6,0,none⟩) 1 1) []
          try rw[show (.string ⟨#[]⟩:Value)=.string ⟨([]:List UInt8).toArray⟩ from rfl]
          rw[hwy]
          have hby:Below (w.heap.size+2) w11 wy:=(Below.refl _ _).grown hgy A8.out.size (fun k hk=>by cases hk;exact A7.out.hbe)
          have HNy:=hide ((A8.out.on hby).on ((Below.refl (w.heap.size+2) wy).drew))
          have HEy:=hide ((show NxE w be (⟨id,2,x0.sender,x0.sender,2,[],[],e.prev,e.depth⟩:EvV) (.slice none 0 0) (.slice (some ⟨s6,0,none⟩) 1 1) wy from ⟨hEy,World.ownsRow_nil _ _ _ _,ze A7.out.q hgy A7.out.eb (by decide),by simp,A7.out.fp,by simp,A7.out.np,by simp,A7.out.hbe⟩).on ((Below.refl wy.heap.size wy).drew))
          generalize wy.drew=wv at HNy HEy ⊢
          clear k0 k1 k2 k3 k4 k5 k6 k7 k8 t0 t1 t2 t3 t4 t5 t6 t7 t8 y0 y1 y2 y3 y4 y5 y6 y7 y8 hwy hEy hgy hby hx0 hidx0 hidx1 hev0
          skip
          obtain⟨t0,t1,t2,t3,t4,t5,t6,t7,t8⟩:=HEy.out.eb.ev
          obtain⟨q0,q1,q2,q3,q4,q5,q6,q7,q8⟩:=HNy.out.rr.ev
          have y0:=HNy.out.rr.free 0
          have y1:=HNy.out.rr.free 1
          have y2:=HNy.out.rr.free 2
          have y3:=HNy.out.rr.free 3
          have y4:=HNy.out.rr.free 4
          have y5:=HNy.out.rr.free 5
          have y6:=HNy.out.rr.free 6
          have y7:=HNy.out.rr.free 7
          have y8:=HNy.out.rr.free 8
          go_wp2_with fail
          obtain⟨wz,hwz,hEz,hgz⟩:=HNy.out.rr.all (⟨id,2,x0.sender,x0.sender,2,[],[],e.prev,e.depth⟩:EvV).id (⟨id,2,x0.sender,x0.sender,2,[],[],e.prev,e.depth⟩:EvV).kind (⟨id,2,x0.sender,x0.sender,2,[],[],e.prev,e.depth⟩:EvV).sender (⟨id,2,x0.sender,x0.sender,2,[],[],e.prev,e.depth⟩:EvV).user (⟨id,2,x0.sender,x0.sender,2,[],[],e.prev,e.depth⟩:EvV).member (⟨id,2,x0.sender,x0.sender,2,[],[],e.prev,e.depth⟩:EvV).depth (.slice none 0 0) (.slice (some ⟨s6,0,none⟩) 1 1) (⟨id,2,x0.sender,x0.sender,2,[],[],e.prev,e.depth⟩:EvV).text
          try simp only at hwz hEz
          rw[hwz]
          clear t0 t1 t2 t3 t4 t5 t6 t7 t8 q0 q1 q2 q3 q4 q5 q6 q7 q8 y0 y1 y2 y3 y4 y5 y6 y7 y8
          obtain⟨t0,t1,t2,t3,t4,t5,t6,t7,t8⟩:=hEz.ev
          refine bodyPost_ret (v:=evv (⟨id,2,x0.sender,x0.sender,2,[],[],e.prev,e.depth⟩:EvV) (.slice none 0 0) (.slice (some ⟨s6,0,none⟩) 1 1)) (by simp[results,Tryz.results79,go_sem,t0,t1,t2,t3,t4,t5,t6,t7,t8]) rfl ?_
          have hbz:Below (w.heap.size+1) wv wz:=(Below.refl _ _).grown hgz (by have:=HNy.out.size;omega) (fun k hk=>by cases hk;omega)
          exact⟨(⟨id,2,x0.sender,x0.sender,2,[],[],e.prev,e.depth⟩:EvV),_,_,rfl,ze HEy.out.l hgz HNy.out.rr (by decide),ze HEy.out.q hgz HNy.out.rr (by decide),HEy.out.fl,HEy.out.fp,rfl,HEy.out.nl,HEy.out.np,HEy.out.tx,fun h=>absurd h CV.out,HNy.out.cur.kept (hbz.mono (by omega)) (hbz.block p (by omega)),z02 HNy.out.gr (hbz.mono (by omega))⟩
         ·have g1:((es.length:Int)==1)=false:=by rw[beq_eq_false_iff_ne];omega
          clear hone
          obtain⟨t0,t1,t2,t3,t4,t5,t6,t7,t8⟩:=A7.out.eb.ev
          obtain⟨q0,q1,q2,q3,q4,q5,q6,q7,q8⟩:=A8.out.rr.ev
          have y0:=A8.out.rr.free 0
          have y1:=A8.out.rr.free 1
          have y2:=A8.out.rr.free 2
          have y3:=A8.out.rr.free 3
          have y4:=A8.out.rr.free 4
          have y5:=A8.out.rr.free 5
          have y6:=A8.out.rr.free 6
          have y7:=A8.out.rr.free 7
          have y8:=A8.out.rr.free 8
          go_wp2_with fail
          obtain⟨wz,hwz,hEz,hgz⟩:=A8.out.rr.all e.id e.kind e.sender e.user e.member e.depth (.slice ox e.levels.length cx) (.slice (some ⟨s6,0,none⟩) 1 1) e.text
          try simp only at hwz hEz
          rw[hwz]
          clear t0 t1 t2 t3 t4 t5 t6 t7 t8 q0 q1 q2 q3 q4 q5 q6 q7 q8 y0 y1 y2 y3 y4 y5 y6 y7 y8
          obtain⟨t0,t1,t2,t3,t4,t5,t6,t7,t8⟩:=hEz.ev
          refine bodyPost_ret (v:=evv e (.slice ox e.levels.length cx) (.slice (some ⟨s6,0,none⟩) 1 1)) (by simp[results,Tryz.results79,go_sem,t0,t1,t2,t3,t4,t5,t6,t7,t8]) rfl ?_
          have hbz:Below (w.heap.size+1) w11 wz:=(Below.refl _ _).grown hgz (by have:=A8.out.size;omega) (fun k hk=>by cases hk;omega)
          exact⟨e,_,_,rfl,ze A7.out.l hgz A8.out.rr (by decide),ze A7.out.q hgz A8.out.rr (by decide),A7.out.fl,A7.out.fp,AU.out,A7.out.nl,A7.out.np,A7.out.tx,fun h=>absurd h CV.out,A8.out.cur.kept (hbz.mono (by omega)) (hbz.block p (by omega)),z02 A8.out.gr (hbz.mono (by omega))⟩
       ·have j60:¬ ((j2:Int)<6):=by omega
        go_upto_region 25 with fail
        clear Au
        have r0:=za Ac.out.r 0 rfl
        by_cases hone:es.length=1
        ·have g1:((es.length:Int)==1)=true:=by rw[hone];rfl
         have De:=hide hone
         clear hone
         obtain⟨x0,b0,q0,xa0,xc0,ya0,yc0,hx0,hidx0,hev0⟩:=(Af.out wr Ac.out.gr).get Tryz.underlying24 z1p 0 hn1
         have hidx1:∀ wx,(Instr.indexAt 24 (.slice oa es.length ca) (.int .i64 0)).run Tryz.prog wx=.ok (.pointer (some ⟨b0,q0,none⟩)) wx:=hidx0
         obtain⟨k0,k1,k2,k3,k4,k5,k6,k7,k8⟩:=hev0.cs
         obtain⟨t0,t1,t2,t3,t4,t5,t6,t7,t8⟩:=Ab.out.eb.ev
         have y0:=Ab.out.eb.free 0
         have y1:=Ab.out.eb.free 1
         have y2:=Ab.out.eb.free 2
         have y3:=Ab.out.eb.free 3
         have y4:=Ab.out.eb.free 4
         have y5:=Ab.out.eb.free 5
         have y6:=Ab.out.eb.free 6
         have y7:=Ab.out.eb.free 7
         have y8:=Ab.out.eb.free 8
         go_upto_region 26 with fail
         go_still_tail 16,(by kernel_rfl)
         go_upto_region 27 with fail
         obtain⟨wy,hwy,hEy,hgy⟩:=Ab.out.eb.all id 2 x0.sender x0.sender 2 e.depth (.slice none 0 0) (.slice (some ⟨s6,0,none⟩) 1 1) []
         try rw[show (.string ⟨#[]⟩:Value)=.string ⟨([]:List UInt8).toArray⟩ from rfl]
         rw[hwy]
         have hby:Below (w.heap.size+2) wr wy:=(Below.refl _ _).grown hgy Ac.out.size (fun k hk=>by cases hk;exact Ab.out.hbe)
         have HNy:=hide ((Ac.out.on hby).on ((Below.refl (w.heap.size+2) wy).drew))
         have HEy:=hide ((show NxE w be (⟨id,2,x0.sender,x0.sender,2,[],[],e.prev,e.depth⟩:EvV) (.slice none 0 0) (.slice (some ⟨s6,0,none⟩) 1 1) wy from ⟨hEy,World.ownsRow_nil _ _ _ _,ze Ab.out.q hgy Ab.out.eb (by decide),by simp,Ab.out.fp,by simp,Ab.out.np,by simp,Ab.out.hbe⟩).on ((Below.refl wy.heap.size wy).drew))
         generalize wy.drew=wv at HNy HEy ⊢
         clear k0 k1 k2 k3 k4 k5 k6 k7 k8 t0 t1 t2 t3 t4 t5 t6 t7 t8 y0 y1 y2 y3 y4 y5 y6 y7 y8 hwy hEy hgy hby hx0 hidx0 hidx1 hev0
         skip
         obtain⟨t0,t1,t2,t3,t4,t5,t6,t7,t8⟩:=HEy.out.eb.ev
         obtain⟨q0,q1,q2,q3,q4,q5,q6,q7,q8⟩:=HNy.out.rr.ev
         have y0:=HNy.out.rr.free 0
         have y1:=HNy.out.rr.free 1
         have y2:=HNy.out.rr.free 2
         have y3:=HNy.out.rr.free 3
         have y4:=HNy.out.rr.free 4
         have y5:=HNy.out.rr.free 5
         have y6:=HNy.out.rr.free 6
         have y7:=HNy.out.rr.free 7
         have y8:=HNy.out.rr.free 8
         go_wp2_with fail
         obtain⟨wz,hwz,hEz,hgz⟩:=HNy.out.rr.all (⟨id,2,x0.sender,x0.sender,2,[],[],e.prev,e.depth⟩:EvV).id (⟨id,2,x0.sender,x0.sender,2,[],[],e.prev,e.depth⟩:EvV).kind (⟨id,2,x0.sender,x0.sender,2,[],[],e.prev,e.depth⟩:EvV).sender (⟨id,2,x0.sender,x0.sender,2,[],[],e.prev,e.depth⟩:EvV).user (⟨id,2,x0.sender,x0.sender,2,[],[],e.prev,e.depth⟩:EvV).member (⟨id,2,x0.sender,x0.sender,2,[],[],e.prev,e.depth⟩:EvV).depth (.slice none 0 0) (.slice (some ⟨s6,0,none⟩) 1 1) (⟨id,2,x0.sender,x0.sender,2,[],[],e.prev,e.depth⟩:EvV).text
         try simp only at hwz hEz
         rw[hwz]
         clear t0 t1 t2 t3 t4 t5 t6 t7 t8 q0 q1 q2 q3 q4 q5 q6 q7 q8 y0 y1 y2 y3 y4 y5 y6 y7 y8
         obtain⟨t0,t1,t2,t3,t4,t5,t6,t7,t8⟩:=hEz.ev
         refine bodyPost_ret (v:=evv (⟨id,2,x0.sender,x0.sender,2,[],[],e.prev,e.depth⟩:EvV) (.slice none 0 0) (.slice (some ⟨s6,0,none⟩) 1 1)) (by simp[results,Tryz.results79,go_sem,t0,t1,t2,t3,t4,t5,t6,t7,t8]) rfl ?_
         have hbz:Below (w.heap.size+1) wv wz:=(Below.refl _ _).grown hgz (by have:=HNy.out.size;omega) (fun k hk=>by cases hk;omega)
         exact⟨(⟨id,2,x0.sender,x0.sender,2,[],[],e.prev,e.depth⟩:EvV),_,_,rfl,ze HEy.out.l hgz HNy.out.rr (by decide),ze HEy.out.q hgz HNy.out.rr (by decide),HEy.out.fl,HEy.out.fp,rfl,HEy.out.nl,HEy.out.np,HEy.out.tx,fun h=>absurd h CV.out,HNy.out.cur.kept (hbz.mono (by omega)) (hbz.block p (by omega)),z02 HNy.out.gr (hbz.mono (by omega))⟩
        ·have g1:((es.length:Int)==1)=false:=by rw[beq_eq_false_iff_ne];omega
         clear hone
         obtain⟨t0,t1,t2,t3,t4,t5,t6,t7,t8⟩:=Ab.out.eb.ev
         obtain⟨q0,q1,q2,q3,q4,q5,q6,q7,q8⟩:=Ac.out.rr.ev
         have y0:=Ac.out.rr.free 0
         have y1:=Ac.out.rr.free 1
         have y2:=Ac.out.rr.free 2
         have y3:=Ac.out.rr.free 3
         have y4:=Ac.out.rr.free 4
         have y5:=Ac.out.rr.free 5
         have y6:=Ac.out.rr.free 6
         have y7:=Ac.out.rr.free 7
         have y8:=Ac.out.rr.free 8
         go_wp2_with fail
         obtain⟨wz,hwz,hEz,hgz⟩:=Ac.out.rr.all e.id e.kind e.sender e.user e.member e.depth (.slice ox e.levels.length cx) (.slice (some ⟨s6,0,none⟩) 1 1) e.text
         try simp only at hwz hEz
         rw[hwz]
         clear t0 t1 t2 t3 t4 t5 t6 t7 t8 q0 q1 q2 q3 q4 q5 q6 q7 q8 y0 y1 y2 y3 y4 y5 y6 y7 y8
         obtain⟨t0,t1,t2,t3,t4,t5,t6,t7,t8⟩:=hEz.ev
         refine bodyPost_ret (v:=evv e (.slice ox e.levels.length cx) (.slice (some ⟨s6,0,none⟩) 1 1)) (by simp[results,Tryz.results79,go_sem,t0,t1,t2,t3,t4,t5,t6,t7,t8]) rfl ?_
         have hbz:Below (w.heap.size+1) wr wz:=(Below.refl _ _).grown hgz (by have:=Ac.out.size;omega) (fun k hk=>by cases hk;omega)
         exact⟨e,_,_,rfl,ze Ab.out.l hgz Ac.out.rr (by decide),ze Ab.out.q hgz Ac.out.rr (by decide),Ab.out.fl,Ab.out.fp,AU.out,Ab.out.nl,Ab.out.np,Ab.out.tx,fun h=>absurd h CV.out,Ac.out.cur.kept (hbz.mono (by omega)) (hbz.block p (by omega)),z02 Ac.out.gr (hbz.mono (by omega))⟩

end Go.Proofs.YtgebcpkpdbdfoaaGreat
