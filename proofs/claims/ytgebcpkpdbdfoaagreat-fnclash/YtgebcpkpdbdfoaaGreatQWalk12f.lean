/-
  Walks and mathematics of Walk12f.
-/
import Derived.Test.YtgebcpkpdbdfoaaGreatQRoom1
import Derived.Test.YtgebcpkpdbdfoaaGreatQWalk12b
import Derived.Test.YtgebcpkpdbdfoaaGreatQDraw21
import Derived.StillTailTactics
set_option linter.unusedVariables false
set_option linter.unusedSimpArgs false
namespace Go.Proofs.YtgebcpkpdbdfoaaGreat
open Go.RowKit P1 P5 P9 P12 P14 P15 K

def zkf (B p:Nat)(a:Option Addr)(len cap:Nat)(w:World)(es:List EvV)(id:Int)(r:Ending)(w':World):Prop :=
 ∃ (e:EvV)(vl vp:Value),r=.returned (evv e vl vp)∧w'.ownsRow w.heap.size 3 1 vl e.levels.length (e.levels.map zu)∧w'.ownsRow w.heap.size 3 1 vp e.prev.length (e.prev.map zu)∧(∀ z∈e.levels,(Lit.int .i64 z).wf=true)∧(∀ z∈e.prev,(Lit.int .i64 z).wf=true)∧e.id=id∧e.levels.length≤5∧e.prev.length≤3∧e.text.length≤30∧(es=[]→e =⟨id,1,1,0,0,[],[],[],0⟩)∧CurAt B w' p a len cap∧w.grownBy w' (some p)

structure NxS (B p:Nat)(a:Option Addr)(len cap:Nat)(w:World)(ve vs vg:Value)(W:World):Prop where
 cur:CurAt B W p a len cap
 gr:w.grownBy W (some p)
 r:W.heap[w.heap.size]? = some (.cells #[ve,vs,vg] 41 (0,0))
 rr:EB W (w.heap.size+1) 0 0 0 0 0 0 (.slice none 0 0)(.slice none 0 0) []
 hp:p < w.heap.size
 hB:B≤w.heap.size

structure NxE (w:World)(be:Nat)(e:EvV)(vl vp:Value)(W:World):Prop where
 eb:EB W be e.id e.kind e.sender e.user e.member e.depth vl vp e.text
 l:W.ownsRow w.heap.size 3 1 vl e.levels.length (e.levels.map zu)
 q:W.ownsRow w.heap.size 3 1 vp e.prev.length (e.prev.map zu)
 fl:∀ z∈e.levels,(Lit.int .i64 z).wf=true
 fp:∀ z∈e.prev,(Lit.int .i64 z).wf=true
 nl:e.levels.length≤5
 np:e.prev.length≤3
 tx:e.text.length≤30
 hbe:w.heap.size+2≤be

theorem z13 {w:World} {base p k:Nat} {e:TypeId} {v:Value} {n:Nat} {xs:List Value} (h:w.ownsRow base e k v n xs)(hp:p < base):v.ownBlock=none∨v.ownBlock≠some p:=by
 cases hv:v.ownBlock with
 | none=>exact .inl rfl
 | some g=>exact .inr (fun e=>by have:=(h.lt g hv).1;cases e;omega)

section
variable {B p:Nat} {a:Option Addr} {len cap:Nat} {w W W':World} {ve vs vg:Value} {be:Nat} {e:EvV} {vl vp:Value}

theorem NxS.drawn (h:NxS B p a len cap w ve vs vg W)(hc:CurAt B W' p a len cap)(hg:W.grownBy W' (some p)):NxS B p a len cap w ve vs vg W' :=
 ⟨hc,zm h.gr hg,(hg.block _ (zf h.r)(fun q=>by have:=Option.some.inj q;have:=h.hp;omega)).trans h.r,h.rr.kept hg (fun q=>by have:=Option.some.inj q;have:=h.hp;omega),h.hp,h.hB⟩

theorem NxS.on (h:NxS B p a len cap w ve vs vg W)(hb:Below (w.heap.size+2) W W'):NxS B p a len cap w ve vs vg W' :=
 ⟨h.cur.kept (hb.mono (by have:=h.hB;omega))(hb.block p (by have:=h.hp;omega)),z02 h.gr (hb.mono (by omega)),(hb.block _ (by omega)).trans h.r,h.rr.on hb (by omega),h.hp,h.hB⟩

theorem NxS.size (h:NxS B p a len cap w ve vs vg W):w.heap.size+2≤W.heap.size:=by have:=h.rr.lt;omega

theorem NxE.drawn (h:NxE w be e vl vp W)(hp:p < w.heap.size)(hg:W.grownBy W' (some p)):NxE w be e vl vp W' :=
 ⟨h.eb.kept hg (fun q=>by have:=Option.some.inj q;have:=h.hbe;omega),h.l.kept hg (z13 h.l hp),h.q.kept hg (z13 h.q hp),h.fl,h.fp,h.nl,h.np,h.tx,h.hbe⟩
theorem NxE.on (h:NxE w be e vl vp W)(hb:Below W.heap.size W W'):NxE w be e vl vp W':=⟨h.eb.on hb h.eb.lt,own_below h.l hb,own_below h.q hb,h.fl,h.fp,h.nl,h.np,h.tx,h.hbe⟩

theorem NxS.new (hc:CurAt B w p a len cap)(hB:B≤w.heap.size):NxS B p a len cap w ve vs vg ((w.alloc (.cells #[ve,vs,vg] 41)).alloc (.cells (zh 0 0 0 0 0 0 (.slice none 0 0)(.slice none 0 0) []) 47)):=by
 obtain⟨w1,hw1⟩:∃ w1,w.alloc (.cells #[ve,vs,vg] 41)=w1:=⟨_,rfl⟩
 have h1:Below w.heap.size w w1:=by rw [← hw1];exact (Below.refl _ _).alloc (Nat.le_refl _) _
 have hr1:w1.heap[w.heap.size]? = some (.cells #[ve,vs,vg] 41 (0,0)):=by rw [← hw1];exact heap_alloc_new _ _
 have hs1:w1.heap.size=w.heap.size+1:=by rw [← hw1];simp
 rw [hw1]
 clear hw1
 have h2:Below w1.heap.size w1 (w1.alloc (.cells (zh 0 0 0 0 0 0 (.slice none 0 0)(.slice none 0 0) []) 47)):=(Below.refl _ _).alloc (Nat.le_refl _) _
 have h12:=h1.trans (h2.mono h1.size)
 refine⟨hc.kept (h12.mono hB)(h12.block p hc.lt),⟨h12.os,h12.tape,h12.output,h12.size,fun k hk _=>h12.block k hk⟩,(h2.block _ (zf hr1)).trans hr1,?_,hc.lt,hB⟩
 rw [← hs1]
 exact EB.new _ _ _ _ _ _ _ _ _ _
end

theorem z9v {a b:World} {r:Option Nat} (h:a.drew.grownBy b r):a.grownBy b r:=⟨h.os,h.tape,h.output,h.size,fun k hk hn=>h.block k hk hn⟩

set_option maxRecDepth 100000 in
set_option maxHeartbeats 16000000 in
theorem zfw (B p:Nat)(a:Option Addr)(len cap:Nat)(ve vs vg:Value)(es:List EvV)(sts:List St)(id:Int)(hinv:RInv es sts)(w:World)(hB:B≤w.heap.size)(hc:CurAt B w p a len cap)(hroom:RoomM p w ve vs vg es sts) :
  Calls Tryz.prog 79 #[.pointer (some⟨p,0,none⟩),rmv ve vs vg,.int .i64 id] w (zkf B p a len cap w es id):=by
 obtain⟨xs,ys,zs,hX⟩:=hroom
 obtain⟨oa,ca,rfl,hev⟩:=z7j hX.es_ hX.ex
 obtain⟨so,sc,rfl,hst⟩:=z7k hX.ss_ hX.sx
 have hn40:=hinv.len
 have hpw:=hc.lt
 have HEV:=hide (fun W (h:w.grownBy W (some p))=>(hev.below (z1t h hpw)).un)
 have HST:=hide (fun W (h:w.grownBy W (some p))=>(hst.below (z1t h hpw)).un)
 obtain⟨W0,hW0⟩:∃ W0,((w.alloc (.cells #[.slice oa es.length ca,.slice so sts.length sc,vg] 41)).alloc (.cells (zh 0 0 0 0 0 0 (.slice none 0 0)(.slice none 0 0) []) 47))=W0:=⟨_,rfl⟩
 have hN0:NxS B p a len cap w (.slice oa es.length ca)(.slice so sts.length sc) vg W0:=by rw [← hW0];exact NxS.new hc hB
 have HN0:=hide hN0
 have HW0:=hide hW0
 have r0:=za hN0.r 0 rfl
 have HEN:=hide (fun W (h:w.grownBy W (some p))=>z8j oa es.length ca es (.slice so sts.length sc) vg (by omega)(fun e he=>by have:=hinv.ids e he;exact z2i (by omega)(by omega)) W (HEV.out W h))
 have HDP:=hide (fun W (h:w.grownBy W (some p))(oc:Option Addr)(m cc:Nat)(pv:List Int)(hq:IntsAt W oc m cc pv)=>z7z oa es.length ca es (.slice so sts.length sc) vg oc m cc pv W (HEV.out W h) hq)
 have HBF:=hide (fun W (h:w.grownBy W (some p))(oc:Option Addr)(m cc:Nat)(pv:List Int)(hm:m≤65536)(hq:IntsAt W oc m cc pv)=>z9i oa es.length ca es so sts.length sc sts vg oc m cc pv (by omega) hm hinv.fine (fun s hs=>by have:=(hinv.st s hs).len;omega)(fun s hs x hx=>((hinv.st s hs).wide x hx).2) W (HEV.out W h)(HST.out W h) hq)
 have HIDS:=hide (fun (e:EvV)(he:e∈es)=>show (Lit.int .i64 e.id).wf=true by have:=hinv.ids e he;exact z2i (by omega)(by omega))
 clear hX hev hst hN0 hW0 hinv hc
 go_enter Tryz.func79,Tryz.ntmps79
 go_upto_region 1 with fail
 rw [HW0.out]
 clear HW0
 by_cases hes:es=[]
 ·subst hes
  obtain⟨r0',r1',r2',r3',r4',r5',r6',r7',r8'⟩:=HN0.out.rr.ev
  have y0:=HN0.out.rr.free 0
  have y1:=HN0.out.rr.free 1
  have y2:=HN0.out.rr.free 2
  have y3:=HN0.out.rr.free 3
  have y4:=HN0.out.rr.free 4
  have y5:=HN0.out.rr.free 5
  have y6:=HN0.out.rr.free 6
  have y7:=HN0.out.rr.free 7
  have y8:=HN0.out.rr.free 8
  go_wp2_with fail
  obtain⟨w9,hw9,hE9,hg9⟩:=HN0.out.rr.all id 1 1 0 0 0 (.slice none 0 0)(.slice none 0 0) []
  try rw [show (.string⟨#[]⟩:Value)=.string⟨([]:List UInt8).toArray⟩from rfl]
  rw [hw9]
  obtain⟨q0,q1,q2,q3,q4,q5,q6,q7,q8⟩:=hE9.ev
  refine bodyPost_ret (v:=z2g id 1 1 0 0 0 (.slice none 0 0)(.slice none 0 0) [])(by simp [results,Tryz.results79,go_sem,q0,q1,q2,q3,q4,q5,q6,q7,q8]) rfl ?_
  have hb9:Below (w.heap.size+1) W0 w9:=(Below.refl _ _).grown hg9 (by have:=HN0.out.size;omega)(fun k hk=>by cases hk;omega)
  exact⟨⟨id,1,1,0,0,[],[],[],0⟩,_,_,rfl,World.ownsRow_nil _ _ _ _,World.ownsRow_nil _ _ _ _,by simp,by simp,rfl,by simp,by simp,by simp,fun _=>rfl,HN0.out.cur.kept (hb9.mono (by omega))(hb9.block p (by omega)),z02 HN0.out.gr (hb9.mono (by omega))⟩
 ·have hn1:0 < es.length:=by
   cases es with
   | nil=>exact absurd rfl hes
   | cons x r=>simp
  have g0:((es.length:Int) == 0)=false:=by rw [beq_eq_false_iff_ne];omega
  have HES:=hide hes
  clear hes
  have HC0:=hide HN0.out.cur
  have hs0:=HN0.out.size
  go_upto_region 4 with (go_at_call 124;refine (z3o B p a len cap _ (by omega) HC0.out).mono ?_;rintro r w1⟨id1,kd,sn,us,mb,dp,vl,vp,tx,n1,m1,zl,zp,rfl,hn5,hm0,htx,hown,hfl,hfp,hc1,hg1⟩;obtain⟨ol,cl,rfl⟩:=zb hown.l;obtain⟨oq,cq,rfl⟩:=zb hown.p)
  have hzl:zl.length=n1:=by have:=hown.l.1;simpa using this
  have hzp:zp.length=m1:=by have:=hown.p.1;simpa using this
  subst hzl
  subst hzp
  have HN1:=hide (HN0.out.drawn hc1 hg1)
  have hs1:=HN1.out.size
  obtain⟨w2,hw2⟩:∃ w2,w1.alloc (.cells (zh id1 kd sn us mb dp (.slice ol zl.length cl)(.slice oq zp.length cq) tx) 47)=w2:=⟨_,rfl⟩
  have hb2:Below w1.heap.size w1 w2:=by rw [← hw2];exact (Below.refl _ _).alloc (Nat.le_refl _) _
  have hE2:NxE w w1.heap.size⟨id1,kd,sn,us,mb,zl,tx,zp,dp⟩(.slice ol zl.length cl)(.slice oq zp.length cq) w2:=by
   refine⟨by rw [← hw2];exact EB.new _ _ _ _ _ _ _ _ _ _,own_below (zq hown.l (by omega)) hb2,own_below (zq hown.p (by omega)) hb2,hfl,hfp,hn5,by simp at hm0;simp [hm0],htx,by omega⟩
  rw [show w1.alloc (.cells #[.int .i64 id1,.int .i64 kd,.int .i64 sn,.int .i64 us,.int .i64 mb,.slice ol zl.length cl,.string⟨tx.toArray⟩,.slice oq zp.length cq,.int .i64 dp] 47)=w2 from hw2]
  have HN2:=hide (HN1.out.on (hb2.mono (by omega)))
  generalize w1.heap.size=be at hE2 ⊢
  have HE2:=hide hE2
  have he0:=hE2.eb.ev
  obtain⟨t0,t1,t2,t3,t4,t5,t6,t7,t8⟩:=he0
  have f0:=hE2.eb.free 0
  clear hw2 hb2 hE2 HN1 HN0 HC0 hc1 hg1 hown r0
  go_upto_region 5 with fail
  have hE3:NxE w be⟨id,kd,sn,us,mb,zl,tx,zp,dp⟩(.slice ol zl.length cl)(.slice oq zp.length cq)(w2.setCell⟨be,0,none⟩(.int .i64 id)):=⟨HE2.out.eb.put0 id,ze HE2.out.l (z01 w2 be 0 _) HE2.out.eb (by decide),ze HE2.out.q (z01 w2 be 0 _) HE2.out.eb (by decide),HE2.out.fl,HE2.out.fp,HE2.out.nl,HE2.out.np,HE2.out.tx,HE2.out.hbe⟩
  have HN3:=hide (HN2.out.on ((Below.refl (w.heap.size+2) w2).grown (z01 w2 be 0 (.int .i64 id)) HN2.out.size (fun k hk=>by cases hk;exact HE2.out.hbe)))
  generalize w2.setCell⟨be,0,none⟩(.int .i64 id)=w3 at hE3 HN3 ⊢
  have HE3:=hide hE3
  clear hE3 HN2 t0 t1 t2 t3 t4 t5 t6 t7 t8 f0 HE2
  have r0:=za HN3.out.r 0 rfl
  have r1:=za HN3.out.r 1 rfl
  have r2:=za HN3.out.r 2 rfl
  go_upto_region 6 with (go_at_call 88;(with_reducible refine (HEN.out _ HN3.out.gr).mono ?_);rintro r w4⟨⟨ve4,rfl,ho4,hb4⟩,hwf4⟩;obtain⟨oe,ce,rfl⟩:=zb ho4)
  have HN4:=hide (HN3.out.on (hb4.mono HN3.out.size))
  have HE4:=hide (HE3.out.on hb4)
  obtain⟨_,_,heo,hi4⟩:=z0e (z10 ho4 (show p < w3.heap.size by have:=HN3.out.size;omega)) hwf4
  cases heo
  have HI4:=hide hi4
  have HWF4:=hide hwf4
  generalize z7h es=L at HI4 HWF4 ⊢
  clear hi4 hwf4 ho4 hb4 HN3 HE3 r0 r1 r2 HEN
  have hLm:=Nat.le_trans HI4.out.room HI4.out.most
  unfold maxLen at hLm
  have HOW0:=hide (show (w4.alloc (.cells #[] 3)).ownsRow w4.heap.size 3 1 (.slice (some⟨w4.heap.size,0,none⟩) 0 0) 0 [] from World.ownsRow_made (w:=w4) #[] 0 (Nat.le_refl _)(by decide) rfl)
  have HB40:=hide (show Below w4.heap.size w4 (w4.alloc (.cells #[] 3)) from (Below.refl _ _).alloc (Nat.le_refl _) _)
  have hs4:=HN4.out.size
  have HCU0:=hide ((HN4.out.on (HB40.out.mono hs4)).cur)
  have HGR0:=hide (show w4.grownBy (w4.alloc (.cells #[] 3))(some p) from⟨HB40.out.os,HB40.out.tape,HB40.out.output,HB40.out.size,fun k hk _=>HB40.out.block k hk⟩)
  go_wp2_with fail
  go_loopw [9,10] (fun v i wr=>∃ (j:Nat)(oo:Option Addr)(co:Nat)(pv:List Int),i=.int .i64 (j:Int)∧v=.slice oo pv.length co∧j≤L.length∧pv.length≤3∧(∀ z∈pv,(Lit.int .i64 z).wf=true)∧wr.ownsRow w4.heap.size 3 1 (.slice oo pv.length co) pv.length (pv.map zu)∧CurAt B wr p a len cap∧w4.grownBy wr (some p))(fun _ i _=>L.length - (intOf i).toNat)
  case atStart=>exact⟨0,_,_,[],rfl,rfl,Nat.zero_le _,by simp,by simp,HOW0.out,HCU0.out,HGR0.out⟩
  case round =>
   obtain⟨j,oo,co,pv,rfl,rfl,hj,hm3,hpf,hown,hcu,hgr⟩:=hrel
   have HOW:=hide hown
   have HCU:=hide hcu
   have HGR:=hide hgr
   have HPF:=hide hpf
   clear hown hcu hgr hpf HOW0 HB40 HCU0 HGR0
   by_cases hlt:j < L.length
   ·have j0:(j:Int) < (L.length:Int):=by omega
    by_cases hlt3:pv.length < 3
    ·have m0:(pv.length:Int) < 3:=by omega
     obtain⟨z,b,q,hz,hidx,hb,c0w,hwz⟩:=(HI4.out.below (z1t HGR.out (by omega))).un.get Tryz.underlying32 z0m j hlt
     have HWZ:=hide hwz
     clear hz hwz
     have hbz:=hb
     go_wp2_with fail
     refine (z3s B p a len cap 2 (by omega)(by omega) _ HCU.out).mono ?_
     rintro e w5⟨bb,rfl,hc5,hg5⟩
     have HC5:=hide hc5
     have HG5:=hide (zm HGR.out hg5)
     have HO5:=hide (HOW.out.kept hg5 (z13 HOW.out (by omega)))
     obtain⟨z',b',q',hz',hidx',hb',c0',hwz'⟩:=(HI4.out.below (z1t HG5.out (by omega))).un.get Tryz.underlying32 z0m j hlt
     have HWZ':=hide hwz'
     clear hz' hwz' hc5 hg5 c0w hidx hb HWZ hbz
     have ho5:=HO5.out
     have hs5:w4.heap.size≤w5.heap.size:=HG5.out.size
     cases bb with
     | true =>
      go_wp2_with (at_builtin;refine z5u (W0:=w5)(cs:=#[.int .i64 z']) rfl _ _ 32 rfl (by decide) Tryz.underlying32 z11 rfl rfl ho5 rfl rfl (by simp [Value.oneCell']) hs5 (by unfold maxLen;omega)(by omega) ?_;intro v6 w6 ho6 hg6;obtain⟨o6,c6,rfl⟩:=zb ho6)
      have hb6:Below w4.heap.size w5 w6:=((Below.refl w4.heap.size w5).alloc hs5 _).grown hg6 (by simp;omega)(fun k hk=>(ho5.lt k hk).1)
      have HO6:=hide (show w6.ownsRow w4.heap.size 3 1 (.slice o6 (pv++[z']).length c6)(pv++[z']).length ((pv++[z']).map zu) by rw [z5k,z05];exact ho6)
      have HG6:=hide (z02 HG5.out hb6)
      have HC6:=hide (HC5.out.kept (hb6.mono (by omega))(hb6.block p (by omega)))
      clear ho6 hg6
      go_roundw
      case rel=>exact⟨j+1,o6,c6,pv++[z'],by go_num,by rw [z05],by omega,by rw [z05];omega,fun y hy=>by
       rcases List.mem_append.1 hy with hy | hy
       ·exact HPF.out y hy
       ·simp at hy;subst hy;exact HWZ'.out,HO6.out,HC6.out,HG6.out⟩
      case measure=>simp [intOf];omega
     | false =>
      by_cases hlast:(j:Int)+1=(L.length:Int)
      ·have hl2:((j:Int)+1 == (L.length:Int))=true:=by simpa using hlast
       by_cases hpz:pv.length=0
       ·have hpz2:((pv.length:Int) == 0)=true:=by rw [hpz];rfl
        clear hpz
        go_wp2_with (at_builtin;refine z5u (W0:=w5)(cs:=#[.int .i64 z']) rfl _ _ 32 rfl (by decide) Tryz.underlying32 z11 rfl rfl ho5 rfl rfl (by simp [Value.oneCell']) hs5 (by unfold maxLen;omega)(by omega) ?_;intro v6 w6 ho6 hg6;obtain⟨o6,c6,rfl⟩:=zb ho6)
        have hb6:Below w4.heap.size w5 w6:=((Below.refl w4.heap.size w5).alloc hs5 _).grown hg6 (by simp;omega)(fun k hk=>(ho5.lt k hk).1)
        have HO6:=hide (show w6.ownsRow w4.heap.size 3 1 (.slice o6 (pv++[z']).length c6)(pv++[z']).length ((pv++[z']).map zu) by rw [z5k,z05];exact ho6)
        have HG6:=hide (z02 HG5.out hb6)
        have HC6:=hide (HC5.out.kept (hb6.mono (by omega))(hb6.block p (by omega)))
        clear ho6 hg6
        go_roundw
        case rel=>exact⟨j+1,o6,c6,pv++[z'],by go_num,by rw [z05],by omega,by rw [z05];omega,fun y hy=>by
         rcases List.mem_append.1 hy with hy | hy
         ·exact HPF.out y hy
         ·simp at hy;subst hy;exact HWZ'.out,HO6.out,HC6.out,HG6.out⟩
        case measure=>simp [intOf];omega
       ·have hpz2:((pv.length:Int) == 0)=false:=by rw [beq_eq_false_iff_ne];omega
        go_wp2_with fail
        go_roundw
        case rel=>exact⟨j+1,_,_,pv,by go_num,rfl,by omega,hm3,HPF.out,HO5.out,HC5.out,HG5.out⟩
        case measure=>simp [intOf];omega
      ·have hl2:((j:Int)+1 == (L.length:Int))=false:=by simpa using hlast
       go_wp2_with fail
       go_roundw
       case rel=>exact⟨j+1,_,_,pv,by go_num,rfl,by omega,hm3,HPF.out,HO5.out,HC5.out,HG5.out⟩
       case measure=>simp [intOf];omega
    ·have m0:¬ ((pv.length:Int) < 3):=by omega
     go_wp2_with fail
     refine (z3s B p a len cap 4 (by omega)(by omega) _ HCU.out).mono ?_
     rintro e w5⟨bb,rfl,hc5,hg5⟩
     have HG5:=hide (zm HGR.out hg5)
     have HO5:=hide (HOW.out.kept hg5 (z13 HOW.out (by omega)))
     have HC5:=hide hc5
     clear hc5 hg5 HOW HCU HGR HI4 HWF4
     cases bb with
     | false =>
      have HP3:=hide hm3
      have HN6:=hide (HN4.out.drawn HC5.out HG5.out)
      have HE6:=hide (HE4.out.drawn HN4.out.hp HG5.out)
      obtain⟨t0,t1,t2,t3,t4,t5,t6,t7,t8⟩:=HE6.out.eb.ev
      have f7:=HE6.out.eb.free 7
      go_upto_region 15 with fail
      have hg7:=z01 w5 be 7 (.slice oo pv.length co)
      have hb7:Below (w.heap.size+2) w5 (w5.setCell⟨be,7,none⟩(.slice oo pv.length co)):=(Below.refl _ _).grown hg7 HN6.out.size (fun k hk=>by cases hk;exact HE6.out.hbe)
      have hE7:NxE w be (⟨id,kd,sn,us,mb,zl,tx,pv,dp⟩:EvV)(.slice ol zl.length cl)(.slice oo pv.length co)(w5.setCell⟨be,7,none⟩(.slice oo pv.length co)):=⟨HE6.out.eb.put7 _,ze HE6.out.l hg7 HE6.out.eb (by decide),ze (zq HO5.out (by omega)) hg7 HE6.out.eb (by decide),HE6.out.fl,HPF.out,HE6.out.nl,HP3.out,HE6.out.tx,HE6.out.hbe⟩
      have HN7:=hide (HN6.out.on hb7)
      generalize w5.setCell⟨be,7,none⟩(.slice oo pv.length co)=w7 at hE7 HN7 ⊢
      have HE7:=hide hE7
      clear hE7 hb7 hg7 t0 t1 t2 t3 t4 t5 t6 t7 t8 f7 HE6 HN6
      have r0:=za HN7.out.r 0 rfl
      have r1:=za HN7.out.r 1 rfl
      have r2:=za HN7.out.r 2 rfl
      obtain⟨_,_,heo,hi7⟩:=z0e HE7.out.q HE7.out.fp
      cases heo
      replace hi7:IntsAt w7 oo pv.length co pv:=hi7
      go_upto_region 16 with (go_at_call 125;(with_reducible refine (HDP.out _ HN7.out.gr _ _ _ _ hi7).mono ?_);rintro r w8⟨rfl,hb8⟩;have hE8:=HE7.out.on hb8;obtain⟨t0,t1,t2,t3,t4,t5,t6,t7,t8⟩:=hE8.eb.ev;have f8:=hE8.eb.free 8)
      have HN8:=hide (HN7.out.on (hb8.mono HN7.out.size))
      generalize z3r es _=D at *
      have hg9:=z01 w8 be 8 (.int .i64 D)
      have hb9:Below (w.heap.size+2) w8 (w8.setCell⟨be,8,none⟩(.int .i64 D)):=(Below.refl _ _).grown hg9 HN8.out.size (fun k hk=>by cases hk;exact hE8.hbe)
      have hE9:NxE w be (⟨id,kd,sn,us,mb,zl,tx,pv,D⟩:EvV)(.slice ol zl.length cl)(.slice oo pv.length co)(w8.setCell⟨be,8,none⟩(.int .i64 D)):=⟨hE8.eb.put8 _,ze hE8.l hg9 hE8.eb (by decide),ze hE8.q hg9 hE8.eb (by decide),hE8.fl,hE8.fp,hE8.nl,hE8.np,hE8.tx,hE8.hbe⟩
      have HN9:=hide (HN8.out.on hb9)
      generalize w8.setCell⟨be,8,none⟩(.int .i64 D)=w9 at hE9 HN9 ⊢
      have HE9:=hide hE9
      clear hE9 hb9 hg9 t0 t1 t2 t3 t4 t5 t6 t7 t8 f8 hE8 HN8 HN7 HE7 hi7 r0 r1 r2 hb8
      have r0:=za HN9.out.r 0 rfl
      have r1:=za HN9.out.r 1 rfl
      have r2:=za HN9.out.r 2 rfl
      obtain⟨_,_,heo,hi9⟩:=z0e HE9.out.q HE9.out.fp
      cases heo
      replace hi9:IntsAt w9 oo pv.length co pv:=hi9
      go_upto_region 17 with (go_at_call 87;(with_reducible refine (HBF.out _ HN9.out.gr _ _ _ _ (by first | decide | (have:=HP3.out;omega)) hi9).mono ?_);rintro r w10⟨v10,rfl,ho10,hb10⟩;obtain⟨os,cs,rfl⟩:=zb ho10)
      generalize (z2r es sts pv).getD []=SS at ho10 ⊢
      generalize (z2r es sts pv).isSome=bs
      have HS10:=hide (zq ho10 (show w.heap.size≤w9.heap.size by have:=HN9.out.size;omega))
      have HN10:=hide (HN9.out.on (hb10.mono HN9.out.size))
      have HE10:=hide (HE9.out.on hb10)
      clear ho10 hb10 hi9 r0 r1 r2 HN9 HE9
      go_wp2_with fail
      go_loopw [13] (fun i wr=>∃ (j:Nat)(e:EvV)(vl:Value),i=.int .i64 (j:Int)∧j≤6∧e.id=id∧e.prev.length=pv.length∧NxS B p a len cap w (.slice oa es.length ca)(.slice so sts.length sc) vg wr∧NxE w be e vl (.slice oo pv.length co) wr∧wr.ownsRow w.heap.size 36 2 (.slice os SS.length cs) SS.length (SS.flatMap z06))(fun i _=>6 - (intOf i).toNat)
      case atStart=>exact⟨0,_,_,rfl,by omega,rfl,rfl,HN10.out,HE10.out,HS10.out⟩
      case round =>
       obtain⟨j2,e,vl,rfl,hj2,hid,hpm,hns,hne,hss⟩:=hrel
       obtain⟨ox,cx,rfl⟩:=zb hne.l
       have HNS:=hide hns
       have HNE:=hide hne
       have HSS:=hide hss
       have HID:=hide hid
       have HPM:=hide hpm
       obtain⟨_,_,heo,hil⟩:=z0e hne.l hne.fl
       cases heo
       obtain⟨_,_,heo,hiq⟩:=z0e hne.q hne.fp
       injection heo with ho1 ho2 ho3
       subst ho1
       subst ho3
       obtain⟨_,_,heo,his⟩:=z03 hss
       cases heo
       have htx:=hne.tx
       have HAL:=hide (z2h oa es.length ca es os SS.length cs SS e ox cx oo co (by omega) wr⟨HEV.out wr hns.gr,his⟩hil hiq)
       rw [hpm] at HAL
       clear hns hne hss hid hil hiq his HN10 HE10 HS10 hpm ho2
       by_cases hlt6:j2 < 6
       ·have j60:(j2:Int) < 6:=by omega
        have r0:=za HNS.out.r 0 rfl
        obtain⟨t0,t1,t2,t3,t4,t5,t6,t7,t8⟩:=HNE.out.eb.ev
        generalize allowed es SS e=al at HAL
        cases al
        ·go_upto_region 20 with (go_at_call 55;(with_reducible refine HAL.out.mono ?_);rintro r w11⟨rfl,hb11⟩)
         have HN11:=hide (HNS.out.on (hb11.mono HNS.out.size))
         have HE11:=hide (HNE.out.on hb11)
         have HS11:=hide (own_below HSS.out hb11)
         clear hb11 r0 t0 t1 t2 t3 t4 t5 t6 t7 t8 HNS HNE HSS HAL
         have HC11:=hide HN11.out.cur
         have hs11:=HN11.out.size
         go_upto_region 21 with (go_at_call 124;refine (z3o B p a len cap _ (by omega) HC11.out).mono ?_;rintro r w12⟨id2,kd2,sn2,us2,mb2,dp2,vl2,vp2,tx2,n2,m2,zl2,zp2,rfl,hn52,hm02,htx2,hown2,hfl2,hfp2,hc12,hg12⟩;obtain⟨ol2,cl2,rfl⟩:=zb hown2.l;obtain⟨oq2,cq2,rfl⟩:=zb hown2.p)
         have hzl2:zl2.length=n2:=by have:=hown2.l.1;simpa using this
         have hzp2:zp2.length=m2:=by have:=hown2.p.1;simpa using this
         subst hzl2
         subst hzp2
         have HN12:=hide (HN11.out.drawn hc12 hg12)
         have HE12:=hide (HE11.out.drawn HN11.out.hp hg12)
         have HS12:=hide (HS11.out.kept hg12 (z13 HS11.out HN11.out.hp))
         have hs12:=HN12.out.size
         obtain⟨w13,hw13⟩:∃ w13,w12.alloc (.cells (zh id2 kd2 sn2 us2 mb2 dp2 (.slice ol2 zl2.length cl2)(.slice oq2 zp2.length cq2) tx2) 47)=w13:=⟨_,rfl⟩
         have hb13:Below w12.heap.size w12 w13:=by rw [← hw13];exact (Below.refl _ _).alloc (Nat.le_refl _) _
         have hB13:EB w13 w12.heap.size id2 kd2 sn2 us2 mb2 dp2 (.slice ol2 zl2.length cl2)(.slice oq2 zp2.length cq2) tx2:=by rw [← hw13];exact EB.new _ _ _ _ _ _ _ _ _ _
         rw [show w12.alloc (.cells #[.int .i64 id2,.int .i64 kd2,.int .i64 sn2,.int .i64 us2,.int .i64 mb2,.slice ol2 zl2.length cl2,.string⟨tx2.toArray⟩,.slice oq2 zp2.length cq2,.int .i64 dp2] 47)=w13 from hw13]
         have HN13:=hide (HN12.out.on (hb13.mono (by omega)))
         have HE13:=hide (HE12.out.on hb13)
         have HS13:=hide (own_below HS12.out hb13)
         have HL13:=hide (own_below (zq hown2.l (show w.heap.size≤w11.heap.size by omega)) hb13)
         have hbb:w.heap.size+2≤w12.heap.size:=by omega
         have hbne:be≠w12.heap.size:=by have:=HE12.out.eb.lt;omega
         generalize w12.heap.size=bb at hB13 hbb hbne ⊢
         have HB13:=hide hB13
         clear hw13 hb13 hB13 HN12 HE12 HS12 HN11 HE11 HS11 HC11 hown2 hc12 hg12
         obtain⟨t0,t1,t2,t3,t4,t5,t6,t7,t8⟩:=HE13.out.eb.ev
         obtain⟨u0,u1,u2,u3,u4,u5,u6,u7,u8⟩:=HB13.out.ev
         have f0:=HB13.out.free 0
         go_upto_region 22 with fail
         have hgg:=z01 w13 bb 0 (.int .i64 e.id)
         have hbl:Below (w.heap.size+2) w13 (w13.setCell⟨bb,0,none⟩(.int .i64 e.id)):=(Below.refl _ _).grown hgg HN13.out.size (fun k hk=>by cases hk;exact hbb)
         have HN14:=hide (HN13.out.on hbl)
         have HB14:=hide (HB13.out.put0 e.id)
         have HS14:=hide (ze HS13.out hgg HB13.out (by decide))
         have HL14:=hide (ze HL13.out hgg HB13.out (by decide))
         have HE14:=hide (show NxE w be e (.slice ox e.levels.length cx)(.slice oo pv.length co)(w13.setCell⟨bb,0,none⟩(.int .i64 e.id)) from⟨HE13.out.eb.kept hgg (fun q=>hbne (Option.some.inj q).symm),ze HE13.out.l hgg HB13.out (by decide),ze HE13.out.q hgg HB13.out (by decide),HE13.out.fl,HE13.out.fp,HE13.out.nl,HE13.out.np,HE13.out.tx,HE13.out.hbe⟩)
         generalize w13.setCell⟨bb,0,none⟩(.int .i64 e.id)=w14 at HN14 HB14 HS14 HL14 HE14 ⊢
         clear t0 t1 t2 t3 t4 t5 t6 t7 t8 u0 u1 u2 u3 u4 u5 u6 u7 u8 f0 hgg hbl HN13 HE13 HS13 HL13 HB13
         obtain⟨t0,t1,t2,t3,t4,t5,t6,t7,t8⟩:=HE14.out.eb.ev
         obtain⟨u0,u1,u2,u3,u4,u5,u6,u7,u8⟩:=HB14.out.ev
         have f7:=HB14.out.free 7
         go_upto_region 23 with fail
         have hgg:=z01 w14 bb 7 (.slice oo pv.length co)
         have hbl:Below (w.heap.size+2) w14 (w14.setCell⟨bb,7,none⟩(.slice oo pv.length co)):=(Below.refl _ _).grown hgg HN14.out.size (fun k hk=>by cases hk;exact hbb)
         have HN15:=hide (HN14.out.on hbl)
         have HB15:=hide (HB14.out.put7 (.slice oo pv.length co))
         have HS15:=hide (ze HS14.out hgg HB14.out (by decide))
         have HL15:=hide (ze HL14.out hgg HB14.out (by decide))
         have HE15:=hide (show NxE w be e (.slice ox e.levels.length cx)(.slice oo pv.length co)(w14.setCell⟨bb,7,none⟩(.slice oo pv.length co)) from⟨HE14.out.eb.kept hgg (fun q=>hbne (Option.some.inj q).symm),ze HE14.out.l hgg HB14.out (by decide),ze HE14.out.q hgg HB14.out (by decide),HE14.out.fl,HE14.out.fp,HE14.out.nl,HE14.out.np,HE14.out.tx,HE14.out.hbe⟩)
         generalize w14.setCell⟨bb,7,none⟩(.slice oo pv.length co)=w15 at HN15 HB15 HS15 HL15 HE15 ⊢
         clear t0 t1 t2 t3 t4 t5 t6 t7 t8 u0 u1 u2 u3 u4 u5 u6 u7 u8 f7 hgg hbl HN14 HE14 HS14 HL14 HB14
         obtain⟨t0,t1,t2,t3,t4,t5,t6,t7,t8⟩:=HE15.out.eb.ev
         obtain⟨u0,u1,u2,u3,u4,u5,u6,u7,u8⟩:=HB15.out.ev
         have f8:=HB15.out.free 8
         go_upto_region 24 with fail
         have hgg:=z01 w15 bb 8 (.int .i64 e.depth)
         have hbl:Below (w.heap.size+2) w15 (w15.setCell⟨bb,8,none⟩(.int .i64 e.depth)):=(Below.refl _ _).grown hgg HN15.out.size (fun k hk=>by cases hk;exact hbb)
         have HN16:=hide (HN15.out.on hbl)
         have HB16:=hide (HB15.out.put8 e.depth)
         have HS16:=hide (ze HS15.out hgg HB15.out (by decide))
         have HL16:=hide (ze HL15.out hgg HB15.out (by decide))
         have HE16:=hide (show NxE w be e (.slice ox e.levels.length cx)(.slice oo pv.length co)(w15.setCell⟨bb,8,none⟩(.int .i64 e.depth)) from⟨HE15.out.eb.kept hgg (fun q=>hbne (Option.some.inj q).symm),ze HE15.out.l hgg HB15.out (by decide),ze HE15.out.q hgg HB15.out (by decide),HE15.out.fl,HE15.out.fp,HE15.out.nl,HE15.out.np,HE15.out.tx,HE15.out.hbe⟩)
         generalize w15.setCell⟨bb,8,none⟩(.int .i64 e.depth)=w16 at HN16 HB16 HS16 HL16 HE16 ⊢
         clear t0 t1 t2 t3 t4 t5 t6 t7 t8 u0 u1 u2 u3 u4 u5 u6 u7 u8 f8 hgg hbl HN15 HE15 HS15 HL15 HB15
         obtain⟨t0,t1,t2,t3,t4,t5,t6,t7,t8⟩:=HE16.out.eb.ev
         obtain⟨u0,u1,u2,u3,u4,u5,u6,u7,u8⟩:=HB16.out.ev
         have y0:=HE16.out.eb.free 0
         have y1:=HE16.out.eb.free 1
         have y2:=HE16.out.eb.free 2
         have y3:=HE16.out.eb.free 3
         have y4:=HE16.out.eb.free 4
         have y5:=HE16.out.eb.free 5
         have y6:=HE16.out.eb.free 6
         have y7:=HE16.out.eb.free 7
         have y8:=HE16.out.eb.free 8
         go_wp2_with fail
         obtain⟨w17,hw17,hE17,hg17⟩:=HE16.out.eb.all e.id kd2 sn2 us2 mb2 e.depth (.slice ol2 zl2.length cl2)(.slice oo pv.length co) tx2
         rw [hw17]
         have hb17:Below (w.heap.size+2) w16 w17:=(Below.refl _ _).grown hg17 HN16.out.size (fun k hk=>by cases hk;exact HE16.out.hbe)
         have HN17:=hide (HN16.out.on hb17)
         have HE17:=hide (show NxE w be (⟨e.id,kd2,sn2,us2,mb2,zl2,tx2,e.prev,e.depth⟩:EvV)(.slice ol2 zl2.length cl2)(.slice oo pv.length co) w17 from⟨hE17,ze HL16.out hg17 HE16.out.eb (by decide),ze HE16.out.q hg17 HE16.out.eb (by decide),hfl2,HE16.out.fp,hn52,HE16.out.np,htx2,HE16.out.hbe⟩)
         have HS17:=hide (ze HS16.out hg17 HE16.out.eb (by decide))
         clear t0 t1 t2 t3 t4 t5 t6 t7 t8 u0 u1 u2 u3 u4 u5 u6 u7 u8 y0 y1 y2 y3 y4 y5 y6 y7 y8 hw17 hE17 hg17 hb17
         go_roundw
         case rel=>exact⟨j2+1,(⟨e.id,kd2,sn2,us2,mb2,zl2,tx2,e.prev,e.depth⟩:EvV),_,by go_num,by omega,HID.out,HPM.out,HN17.out,HE17.out,HS17.out⟩
         case measure=>simp [intOf];omega
        ·go_upto_region 25 with (go_at_call 55;(with_reducible refine HAL.out.mono ?_);rintro r w11⟨rfl,hb11⟩)
         have HN11:=hide (HNS.out.on (hb11.mono HNS.out.size))
         have HE11:=hide (HNE.out.on hb11)
         clear hb11 r0 t0 t1 t2 t3 t4 t5 t6 t7 t8 HNS HNE HSS HAL
         have r0:=za HN11.out.r 0 rfl
         by_cases hone:es.length=1
         ·have g1:((es.length:Int) == 1)=true:=by rw [hone];rfl
          have HONE:=hide hone
          clear hone
          obtain⟨x0,b0,q0,xa0,xc0,ya0,yc0,hx0,hidx0,hev0⟩:=(HEV.out w11 HN11.out.gr).get Tryz.underlying24 z1p 0 hn1
          have hidx1:∀ wx,(Instr.indexAt 24 (.slice oa es.length ca)(.int .i64 0)).run Tryz.prog wx=.ok (.pointer (some⟨b0,q0,none⟩)) wx:=hidx0
          obtain⟨k0,k1,k2,k3,k4,k5,k6,k7,k8⟩:=hev0.cs
          obtain⟨t0,t1,t2,t3,t4,t5,t6,t7,t8⟩:=HE11.out.eb.ev
          have y0:=HE11.out.eb.free 0
          have y1:=HE11.out.eb.free 1
          have y2:=HE11.out.eb.free 2
          have y3:=HE11.out.eb.free 3
          have y4:=HE11.out.eb.free 4
          have y5:=HE11.out.eb.free 5
          have y6:=HE11.out.eb.free 6
          have y7:=HE11.out.eb.free 7
          have y8:=HE11.out.eb.free 8
          go_upto_region 26 with fail
          go_still_tail 16,(by kernel_rfl)
          go_upto_region 27 with fail
          obtain⟨wy,hwy,hEy,hgy⟩:=HE11.out.eb.all id 2 x0.sender x0.sender 2 e.depth (.slice none 0 0)(.slice oo pv.length co) []
          try rw [show (.string⟨#[]⟩:Value)=.string⟨([]:List UInt8).toArray⟩from rfl]
          rw [hwy]
          have hby:Below (w.heap.size+2) w11 wy:=(Below.refl _ _).grown hgy HN11.out.size (fun k hk=>by cases hk;exact HE11.out.hbe)
          have HNy:=hide ((HN11.out.on hby).on ((Below.refl (w.heap.size+2) wy).drew))
          have HEy:=hide ((show NxE w be (⟨id,2,x0.sender,x0.sender,2,[],[],e.prev,e.depth⟩:EvV)(.slice none 0 0)(.slice oo pv.length co) wy from⟨hEy,World.ownsRow_nil _ _ _ _,ze HE11.out.q hgy HE11.out.eb (by decide),by simp,HE11.out.fp,by simp,HE11.out.np,by simp,HE11.out.hbe⟩).on ((Below.refl wy.heap.size wy).drew))
          generalize wy.drew=wv at HNy HEy ⊢
          clear k0 k1 k2 k3 k4 k5 k6 k7 k8 t0 t1 t2 t3 t4 t5 t6 t7 t8 y0 y1 y2 y3 y4 y5 y6 y7 y8 hwy hEy hgy hby hx0 hidx0 hidx1 hev0
          skip
          obtain⟨t0,t1,t2,t3,t4,t5,t6,t7,t8⟩:=HEy.out.eb.ev
          obtain⟨q0,q1,q2,q3,q4,q5,q6,q7,q8⟩:=HNy.out.rr.ev
          have y0:=HNy.out.rr.free 0
          have y1:=HNy.out.rr.free 1
          have y2:=HNy.out.rr.free 2
          have y3:=HNy.out.rr.free 3
          have y4:=HNy.out.rr.free 4
          have y5:=HNy.out.rr.free 5
          have y6:=HNy.out.rr.free 6
          have y7:=HNy.out.rr.free 7
          have y8:=HNy.out.rr.free 8
          go_wp2_with fail
          obtain⟨wz,hwz,hEz,hgz⟩:=HNy.out.rr.all (⟨id,2,x0.sender,x0.sender,2,[],[],e.prev,e.depth⟩:EvV).id (⟨id,2,x0.sender,x0.sender,2,[],[],e.prev,e.depth⟩:EvV).kind (⟨id,2,x0.sender,x0.sender,2,[],[],e.prev,e.depth⟩:EvV).sender (⟨id,2,x0.sender,x0.sender,2,[],[],e.prev,e.depth⟩:EvV).user (⟨id,2,x0.sender,x0.sender,2,[],[],e.prev,e.depth⟩:EvV).member (⟨id,2,x0.sender,x0.sender,2,[],[],e.prev,e.depth⟩:EvV).depth (.slice none 0 0)(.slice oo pv.length co)(⟨id,2,x0.sender,x0.sender,2,[],[],e.prev,e.depth⟩:EvV).text
          try simp only at hwz hEz
          rw [hwz]
          clear t0 t1 t2 t3 t4 t5 t6 t7 t8 q0 q1 q2 q3 q4 q5 q6 q7 q8 y0 y1 y2 y3 y4 y5 y6 y7 y8
          obtain⟨t0,t1,t2,t3,t4,t5,t6,t7,t8⟩:=hEz.ev
          refine bodyPost_ret (v:=evv (⟨id,2,x0.sender,x0.sender,2,[],[],e.prev,e.depth⟩:EvV)(.slice none 0 0)(.slice oo pv.length co))(by simp [results,Tryz.results79,go_sem,t0,t1,t2,t3,t4,t5,t6,t7,t8]) rfl ?_
          have hbz:Below (w.heap.size+1) wv wz:=(Below.refl _ _).grown hgz (by have:=HNy.out.size;omega)(fun k hk=>by cases hk;omega)
          exact⟨(⟨id,2,x0.sender,x0.sender,2,[],[],e.prev,e.depth⟩:EvV),_,_,rfl,ze HEy.out.l hgz HNy.out.rr (by decide),ze HEy.out.q hgz HNy.out.rr (by decide),HEy.out.fl,HEy.out.fp,rfl,HEy.out.nl,HEy.out.np,HEy.out.tx,fun h=>absurd h HES.out,HNy.out.cur.kept (hbz.mono (by omega))(hbz.block p (by omega)),z02 HNy.out.gr (hbz.mono (by omega))⟩
         ·have g1:((es.length:Int) == 1)=false:=by rw [beq_eq_false_iff_ne];omega
          clear hone
          obtain⟨t0,t1,t2,t3,t4,t5,t6,t7,t8⟩:=HE11.out.eb.ev
          obtain⟨q0,q1,q2,q3,q4,q5,q6,q7,q8⟩:=HN11.out.rr.ev
          have y0:=HN11.out.rr.free 0
          have y1:=HN11.out.rr.free 1
          have y2:=HN11.out.rr.free 2
          have y3:=HN11.out.rr.free 3
          have y4:=HN11.out.rr.free 4
          have y5:=HN11.out.rr.free 5
          have y6:=HN11.out.rr.free 6
          have y7:=HN11.out.rr.free 7
          have y8:=HN11.out.rr.free 8
          go_wp2_with fail
          obtain⟨wz,hwz,hEz,hgz⟩:=HN11.out.rr.all e.id e.kind e.sender e.user e.member e.depth (.slice ox e.levels.length cx)(.slice oo pv.length co) e.text
          try simp only at hwz hEz
          rw [hwz]
          clear t0 t1 t2 t3 t4 t5 t6 t7 t8 q0 q1 q2 q3 q4 q5 q6 q7 q8 y0 y1 y2 y3 y4 y5 y6 y7 y8
          obtain⟨t0,t1,t2,t3,t4,t5,t6,t7,t8⟩:=hEz.ev
          refine bodyPost_ret (v:=evv e (.slice ox e.levels.length cx)(.slice oo pv.length co))(by simp [results,Tryz.results79,go_sem,t0,t1,t2,t3,t4,t5,t6,t7,t8]) rfl ?_
          have hbz:Below (w.heap.size+1) w11 wz:=(Below.refl _ _).grown hgz (by have:=HN11.out.size;omega)(fun k hk=>by cases hk;omega)
          exact⟨e,_,_,rfl,ze HE11.out.l hgz HN11.out.rr (by decide),ze HE11.out.q hgz HN11.out.rr (by decide),HE11.out.fl,HE11.out.fp,HID.out,HE11.out.nl,HE11.out.np,HE11.out.tx,fun h=>absurd h HES.out,HN11.out.cur.kept (hbz.mono (by omega))(hbz.block p (by omega)),z02 HN11.out.gr (hbz.mono (by omega))⟩
       ·have j60:¬ ((j2:Int) < 6):=by omega
        go_upto_region 25 with fail
        clear HAL
        have r0:=za HNS.out.r 0 rfl
        by_cases hone:es.length=1
        ·have g1:((es.length:Int) == 1)=true:=by rw [hone];rfl
         have HONE:=hide hone
         clear hone
         obtain⟨x0,b0,q0,xa0,xc0,ya0,yc0,hx0,hidx0,hev0⟩:=(HEV.out wr HNS.out.gr).get Tryz.underlying24 z1p 0 hn1
         have hidx1:∀ wx,(Instr.indexAt 24 (.slice oa es.length ca)(.int .i64 0)).run Tryz.prog wx=.ok (.pointer (some⟨b0,q0,none⟩)) wx:=hidx0
         obtain⟨k0,k1,k2,k3,k4,k5,k6,k7,k8⟩:=hev0.cs
         obtain⟨t0,t1,t2,t3,t4,t5,t6,t7,t8⟩:=HNE.out.eb.ev
         have y0:=HNE.out.eb.free 0
         have y1:=HNE.out.eb.free 1
         have y2:=HNE.out.eb.free 2
         have y3:=HNE.out.eb.free 3
         have y4:=HNE.out.eb.free 4
         have y5:=HNE.out.eb.free 5
         have y6:=HNE.out.eb.free 6
         have y7:=HNE.out.eb.free 7
         have y8:=HNE.out.eb.free 8
         go_upto_region 26 with fail
         go_still_tail 16,(by kernel_rfl)
         go_upto_region 27 with fail
         obtain⟨wy,hwy,hEy,hgy⟩:=HNE.out.eb.all id 2 x0.sender x0.sender 2 e.depth (.slice none 0 0)(.slice oo pv.length co) []
         try rw [show (.string⟨#[]⟩:Value)=.string⟨([]:List UInt8).toArray⟩from rfl]
         rw [hwy]
         have hby:Below (w.heap.size+2) wr wy:=(Below.refl _ _).grown hgy HNS.out.size (fun k hk=>by cases hk;exact HNE.out.hbe)
         have HNy:=hide ((HNS.out.on hby).on ((Below.refl (w.heap.size+2) wy).drew))
         have HEy:=hide ((show NxE w be (⟨id,2,x0.sender,x0.sender,2,[],[],e.prev,e.depth⟩:EvV)(.slice none 0 0)(.slice oo pv.length co) wy from⟨hEy,World.ownsRow_nil _ _ _ _,ze HNE.out.q hgy HNE.out.eb (by decide),by simp,HNE.out.fp,by simp,HNE.out.np,by simp,HNE.out.hbe⟩).on ((Below.refl wy.heap.size wy).drew))
         generalize wy.drew=wv at HNy HEy ⊢
         clear k0 k1 k2 k3 k4 k5 k6 k7 k8 t0 t1 t2 t3 t4 t5 t6 t7 t8 y0 y1 y2 y3 y4 y5 y6 y7 y8 hwy hEy hgy hby hx0 hidx0 hidx1 hev0
         skip
         obtain⟨t0,t1,t2,t3,t4,t5,t6,t7,t8⟩:=HEy.out.eb.ev
         obtain⟨q0,q1,q2,q3,q4,q5,q6,q7,q8⟩:=HNy.out.rr.ev
         have y0:=HNy.out.rr.free 0
         have y1:=HNy.out.rr.free 1
         have y2:=HNy.out.rr.free 2
         have y3:=HNy.out.rr.free 3
         have y4:=HNy.out.rr.free 4
         have y5:=HNy.out.rr.free 5
         have y6:=HNy.out.rr.free 6
         have y7:=HNy.out.rr.free 7
         have y8:=HNy.out.rr.free 8
         go_wp2_with fail
         obtain⟨wz,hwz,hEz,hgz⟩:=HNy.out.rr.all (⟨id,2,x0.sender,x0.sender,2,[],[],e.prev,e.depth⟩:EvV).id (⟨id,2,x0.sender,x0.sender,2,[],[],e.prev,e.depth⟩:EvV).kind (⟨id,2,x0.sender,x0.sender,2,[],[],e.prev,e.depth⟩:EvV).sender (⟨id,2,x0.sender,x0.sender,2,[],[],e.prev,e.depth⟩:EvV).user (⟨id,2,x0.sender,x0.sender,2,[],[],e.prev,e.depth⟩:EvV).member (⟨id,2,x0.sender,x0.sender,2,[],[],e.prev,e.depth⟩:EvV).depth (.slice none 0 0)(.slice oo pv.length co)(⟨id,2,x0.sender,x0.sender,2,[],[],e.prev,e.depth⟩:EvV).text
         try simp only at hwz hEz
         rw [hwz]
         clear t0 t1 t2 t3 t4 t5 t6 t7 t8 q0 q1 q2 q3 q4 q5 q6 q7 q8 y0 y1 y2 y3 y4 y5 y6 y7 y8
         obtain⟨t0,t1,t2,t3,t4,t5,t6,t7,t8⟩:=hEz.ev
         refine bodyPost_ret (v:=evv (⟨id,2,x0.sender,x0.sender,2,[],[],e.prev,e.depth⟩:EvV)(.slice none 0 0)(.slice oo pv.length co))(by simp [results,Tryz.results79,go_sem,t0,t1,t2,t3,t4,t5,t6,t7,t8]) rfl ?_
         have hbz:Below (w.heap.size+1) wv wz:=(Below.refl _ _).grown hgz (by have:=HNy.out.size;omega)(fun k hk=>by cases hk;omega)
         exact⟨(⟨id,2,x0.sender,x0.sender,2,[],[],e.prev,e.depth⟩:EvV),_,_,rfl,ze HEy.out.l hgz HNy.out.rr (by decide),ze HEy.out.q hgz HNy.out.rr (by decide),HEy.out.fl,HEy.out.fp,rfl,HEy.out.nl,HEy.out.np,HEy.out.tx,fun h=>absurd h HES.out,HNy.out.cur.kept (hbz.mono (by omega))(hbz.block p (by omega)),z02 HNy.out.gr (hbz.mono (by omega))⟩
        ·have g1:((es.length:Int) == 1)=false:=by rw [beq_eq_false_iff_ne];omega
         clear hone
         obtain⟨t0,t1,t2,t3,t4,t5,t6,t7,t8⟩:=HNE.out.eb.ev
         obtain⟨q0,q1,q2,q3,q4,q5,q6,q7,q8⟩:=HNS.out.rr.ev
         have y0:=HNS.out.rr.free 0
         have y1:=HNS.out.rr.free 1
         have y2:=HNS.out.rr.free 2
         have y3:=HNS.out.rr.free 3
         have y4:=HNS.out.rr.free 4
         have y5:=HNS.out.rr.free 5
         have y6:=HNS.out.rr.free 6
         have y7:=HNS.out.rr.free 7
         have y8:=HNS.out.rr.free 8
         go_wp2_with fail
         obtain⟨wz,hwz,hEz,hgz⟩:=HNS.out.rr.all e.id e.kind e.sender e.user e.member e.depth (.slice ox e.levels.length cx)(.slice oo pv.length co) e.text
         try simp only at hwz hEz
         rw [hwz]
         clear t0 t1 t2 t3 t4 t5 t6 t7 t8 q0 q1 q2 q3 q4 q5 q6 q7 q8 y0 y1 y2 y3 y4 y5 y6 y7 y8
         obtain⟨t0,t1,t2,t3,t4,t5,t6,t7,t8⟩:=hEz.ev
         refine bodyPost_ret (v:=evv e (.slice ox e.levels.length cx)(.slice oo pv.length co))(by simp [results,Tryz.results79,go_sem,t0,t1,t2,t3,t4,t5,t6,t7,t8]) rfl ?_
         have hbz:Below (w.heap.size+1) wr wz:=(Below.refl _ _).grown hgz (by have:=HNS.out.size;omega)(fun k hk=>by cases hk;omega)
         exact⟨e,_,_,rfl,ze HNE.out.l hgz HNS.out.rr (by decide),ze HNE.out.q hgz HNS.out.rr (by decide),HNE.out.fl,HNE.out.fp,HID.out,HNE.out.nl,HNE.out.np,HNE.out.tx,fun h=>absurd h HES.out,HNS.out.cur.kept (hbz.mono (by omega))(hbz.block p (by omega)),z02 HNS.out.gr (hbz.mono (by omega))⟩
     | true =>
      have r0:=za (HN4.out.drawn HC5.out HG5.out).r 0 rfl
      go_upto_region 13 with fail
      refine (fun (KEY:Hid ?G1)=>?main1)(hide ?key1)
      case main1 =>
       go_region_law (rw [if_pos (by rfl)];go_simp;go_at_call 66;refine (z1u B p a len cap es.length hn1 (by omega) _ (HC5.out.kept (Below.refl B w5).drew rfl)).mono ?_;rintro r w6⟨x6,hx6,rfl,hc6,hg6⟩;have hg56:w5.grownBy w6 (some p):=z9v hg6;have r06:=za (HN4.out.drawn hc6 (zm HG5.out hg56)).r 0 rfl;obtain⟨ev6,b6,q6,xa6,xc6,ya6,yc6,he6,hidx6,hev6⟩:=(HEV.out w6 (zm HN4.out.gr (zm HG5.out hg56))).get Tryz.underlying24 z1p x6 hx6;obtain⟨c60,c61,c62,c63,c64,c65,c66,c67,c68⟩:=hev6.cs;clear c61 c62 c63 c64 c65 c66 c67 c68 hev6)
       all_goals
        have HWE:=hide (show ∀ z∈[ev6.id],(Lit.int .i64 z).wf=true from fun z hz=>by simp at hz;subst hz;exact HIDS.out ev6 (List.mem_of_getElem? he6))
        have HB67:=hide (show Below w6.heap.size w6 (w6.alloc (.cells #[.int .i64 ev6.id] 3)) from (Below.refl _ _).alloc (Nat.le_refl _) _)
        have HG7:=hide (z02 (zm HG5.out hg56)(HB67.out.mono (zm HG5.out hg56).size))
        have hs46:=(zm HG5.out hg56).size
        have HC7:=hide (hc6.kept (HB67.out.mono (by omega))(HB67.out.block p (by omega)))
        have HO7:=hide (show (w6.alloc (.cells #[.int .i64 ev6.id] 3)).ownsRow w4.heap.size 3 1 (.slice (some⟨w6.heap.size,0,none⟩) 1 1)([ev6.id]:List Int).length (([ev6.id]:List Int).map zu) from World.ownsRow_lit (base:=w4.heap.size)(size:=1) w6 #[.int .i64 ev6.id] 1 hs46 (by decide)(by simp))
        clear r06 c60 hidx6 he6 hc6 hg6 hg56 HB67 hs46
        generalize w6.heap.size=s6 at HO7 ⊢
        generalize w6.alloc (.cells #[.int .i64 ev6.id] 3)=w66 at HG7 HC7 HO7 ⊢
        generalize ev6.id=z6 at HWE HO7 ⊢
        clear hx6
        revert HWE
        revert HO7
        revert HC7
        revert HG7
        revert w66
        revert s6
        revert z6
        revert x6
        revert b6
        revert q6
        exact KEY.out
      case key1 =>
       intro q6 b6 x6 z6 s6 w66 HG7 HC7 HO7 HWE
       have HP3:=hide (show ([z6]:List Int).length≤3 by simp)
       clear r0 HO5 HC5 HG5 HPF
       have HN6:=hide (HN4.out.drawn HC7.out HG7.out)
       have HE6:=hide (HE4.out.drawn HN4.out.hp HG7.out)
       obtain⟨t0,t1,t2,t3,t4,t5,t6,t7,t8⟩:=HE6.out.eb.ev
       have f7:=HE6.out.eb.free 7
       go_upto_region 15 with fail
       have hg7:=z01 w66 be 7 (.slice (some⟨s6,0,none⟩) 1 1)
       have hb7:Below (w.heap.size+2) w66 (w66.setCell⟨be,7,none⟩(.slice (some⟨s6,0,none⟩) 1 1)):=(Below.refl _ _).grown hg7 HN6.out.size (fun k hk=>by cases hk;exact HE6.out.hbe)
       have hE7:NxE w be (⟨id,kd,sn,us,mb,zl,tx,[z6],dp⟩:EvV)(.slice ol zl.length cl)(.slice (some⟨s6,0,none⟩) 1 1)(w66.setCell⟨be,7,none⟩(.slice (some⟨s6,0,none⟩) 1 1)):=⟨HE6.out.eb.put7 _,ze HE6.out.l hg7 HE6.out.eb (by decide),ze (zq HO7.out (by omega)) hg7 HE6.out.eb (by decide),HE6.out.fl,HWE.out,HE6.out.nl,HP3.out,HE6.out.tx,HE6.out.hbe⟩
       have HN7:=hide (HN6.out.on hb7)
       generalize w66.setCell⟨be,7,none⟩(.slice (some⟨s6,0,none⟩) 1 1)=w7 at hE7 HN7 ⊢
       have HE7:=hide hE7
       clear hE7 hb7 hg7 t0 t1 t2 t3 t4 t5 t6 t7 t8 f7 HE6 HN6
       have r0:=za HN7.out.r 0 rfl
       have r1:=za HN7.out.r 1 rfl
       have r2:=za HN7.out.r 2 rfl
       obtain⟨_,_,heo,hi7⟩:=z0e HE7.out.q HE7.out.fp
       cases heo
       replace hi7:IntsAt w7 (some⟨s6,0,none⟩) 1 1 [z6]:=hi7
       go_upto_region 16 with (go_at_call 125;(with_reducible refine (HDP.out _ HN7.out.gr _ _ _ _ hi7).mono ?_);rintro r w8⟨rfl,hb8⟩;have hE8:=HE7.out.on hb8;obtain⟨t0,t1,t2,t3,t4,t5,t6,t7,t8⟩:=hE8.eb.ev;have f8:=hE8.eb.free 8)
       have HN8:=hide (HN7.out.on (hb8.mono HN7.out.size))
       generalize z3r es _=D at *
       have hg9:=z01 w8 be 8 (.int .i64 D)
       have hb9:Below (w.heap.size+2) w8 (w8.setCell⟨be,8,none⟩(.int .i64 D)):=(Below.refl _ _).grown hg9 HN8.out.size (fun k hk=>by cases hk;exact hE8.hbe)
       have hE9:NxE w be (⟨id,kd,sn,us,mb,zl,tx,[z6],D⟩:EvV)(.slice ol zl.length cl)(.slice (some⟨s6,0,none⟩) 1 1)(w8.setCell⟨be,8,none⟩(.int .i64 D)):=⟨hE8.eb.put8 _,ze hE8.l hg9 hE8.eb (by decide),ze hE8.q hg9 hE8.eb (by decide),hE8.fl,hE8.fp,hE8.nl,hE8.np,hE8.tx,hE8.hbe⟩
       have HN9:=hide (HN8.out.on hb9)
       generalize w8.setCell⟨be,8,none⟩(.int .i64 D)=w9 at hE9 HN9 ⊢
       have HE9:=hide hE9
       clear hE9 hb9 hg9 t0 t1 t2 t3 t4 t5 t6 t7 t8 f8 hE8 HN8 HN7 HE7 hi7 r0 r1 r2 hb8
       have r0:=za HN9.out.r 0 rfl
       have r1:=za HN9.out.r 1 rfl
       have r2:=za HN9.out.r 2 rfl
       obtain⟨_,_,heo,hi9⟩:=z0e HE9.out.q HE9.out.fp
       cases heo
       replace hi9:IntsAt w9 (some⟨s6,0,none⟩) 1 1 [z6]:=hi9
       go_upto_region 17 with (go_at_call 87;(with_reducible refine (HBF.out _ HN9.out.gr _ _ _ _ (by first | decide | (have:=HP3.out;omega)) hi9).mono ?_);rintro r w10⟨v10,rfl,ho10,hb10⟩;obtain⟨os,cs,rfl⟩:=zb ho10)
       generalize (z2r es sts [z6]).getD []=SS at ho10 ⊢
       generalize (z2r es sts [z6]).isSome=bs
       have HS10:=hide (zq ho10 (show w.heap.size≤w9.heap.size by have:=HN9.out.size;omega))
       have HN10:=hide (HN9.out.on (hb10.mono HN9.out.size))
       have HE10:=hide (HE9.out.on hb10)
       clear ho10 hb10 hi9 r0 r1 r2 HN9 HE9
       go_wp2_with fail
       go_loopw [13] (fun i wr=>∃ (j:Nat)(e:EvV)(vl:Value),i=.int .i64 (j:Int)∧j≤6∧e.id=id∧e.prev.length=1∧NxS B p a len cap w (.slice oa es.length ca)(.slice so sts.length sc) vg wr∧NxE w be e vl (.slice (some⟨s6,0,none⟩) 1 1) wr∧wr.ownsRow w.heap.size 36 2 (.slice os SS.length cs) SS.length (SS.flatMap z06))(fun i _=>6 - (intOf i).toNat)
       case atStart=>exact⟨0,_,_,rfl,by omega,rfl,rfl,HN10.out,HE10.out,HS10.out⟩
       case round =>
        obtain⟨j2,e,vl,rfl,hj2,hid,hpm,hns,hne,hss⟩:=hrel
        obtain⟨ox,cx,rfl⟩:=zb hne.l
        have HNS:=hide hns
        have HNE:=hide hne
        have HSS:=hide hss
        have HID:=hide hid
        have HPM:=hide hpm
        obtain⟨_,_,heo,hil⟩:=z0e hne.l hne.fl
        cases heo
        obtain⟨_,_,heo,hiq⟩:=z0e hne.q hne.fp
        injection heo with ho1 ho2 ho3
        subst ho1
        subst ho3
        obtain⟨_,_,heo,his⟩:=z03 hss
        cases heo
        have htx:=hne.tx
        have HAL:=hide (z2h oa es.length ca es os SS.length cs SS e ox cx (some⟨s6,0,none⟩) 1 (by omega) wr⟨HEV.out wr hns.gr,his⟩hil hiq)
        rw [hpm] at HAL
        clear hns hne hss hid hil hiq his HN10 HE10 HS10 hpm ho2
        by_cases hlt6:j2 < 6
        ·have j60:(j2:Int) < 6:=by omega
         have r0:=za HNS.out.r 0 rfl
         obtain⟨t0,t1,t2,t3,t4,t5,t6,t7,t8⟩:=HNE.out.eb.ev
         generalize allowed es SS e=al at HAL
         cases al
         ·go_upto_region 20 with (go_at_call 55;(with_reducible refine HAL.out.mono ?_);rintro r w11⟨rfl,hb11⟩)
          have HN11:=hide (HNS.out.on (hb11.mono HNS.out.size))
          have HE11:=hide (HNE.out.on hb11)
          have HS11:=hide (own_below HSS.out hb11)
          clear hb11 r0 t0 t1 t2 t3 t4 t5 t6 t7 t8 HNS HNE HSS HAL
          have HC11:=hide HN11.out.cur
          have hs11:=HN11.out.size
          go_upto_region 21 with (go_at_call 124;refine (z3o B p a len cap _ (by omega) HC11.out).mono ?_;rintro r w12⟨id2,kd2,sn2,us2,mb2,dp2,vl2,vp2,tx2,n2,m2,zl2,zp2,rfl,hn52,hm02,htx2,hown2,hfl2,hfp2,hc12,hg12⟩;obtain⟨ol2,cl2,rfl⟩:=zb hown2.l;obtain⟨oq2,cq2,rfl⟩:=zb hown2.p)
          have hzl2:zl2.length=n2:=by have:=hown2.l.1;simpa using this
          have hzp2:zp2.length=m2:=by have:=hown2.p.1;simpa using this
          subst hzl2
          subst hzp2
          have HN12:=hide (HN11.out.drawn hc12 hg12)
          have HE12:=hide (HE11.out.drawn HN11.out.hp hg12)
          have HS12:=hide (HS11.out.kept hg12 (z13 HS11.out HN11.out.hp))
          have hs12:=HN12.out.size
          obtain⟨w13,hw13⟩:∃ w13,w12.alloc (.cells (zh id2 kd2 sn2 us2 mb2 dp2 (.slice ol2 zl2.length cl2)(.slice oq2 zp2.length cq2) tx2) 47)=w13:=⟨_,rfl⟩
          have hb13:Below w12.heap.size w12 w13:=by rw [← hw13];exact (Below.refl _ _).alloc (Nat.le_refl _) _
          have hB13:EB w13 w12.heap.size id2 kd2 sn2 us2 mb2 dp2 (.slice ol2 zl2.length cl2)(.slice oq2 zp2.length cq2) tx2:=by rw [← hw13];exact EB.new _ _ _ _ _ _ _ _ _ _
          rw [show w12.alloc (.cells #[.int .i64 id2,.int .i64 kd2,.int .i64 sn2,.int .i64 us2,.int .i64 mb2,.slice ol2 zl2.length cl2,.string⟨tx2.toArray⟩,.slice oq2 zp2.length cq2,.int .i64 dp2] 47)=w13 from hw13]
          have HN13:=hide (HN12.out.on (hb13.mono (by omega)))
          have HE13:=hide (HE12.out.on hb13)
          have HS13:=hide (own_below HS12.out hb13)
          have HL13:=hide (own_below (zq hown2.l (show w.heap.size≤w11.heap.size by omega)) hb13)
          have hbb:w.heap.size+2≤w12.heap.size:=by omega
          have hbne:be≠w12.heap.size:=by have:=HE12.out.eb.lt;omega
          generalize w12.heap.size=bb at hB13 hbb hbne ⊢
          have HB13:=hide hB13
          clear hw13 hb13 hB13 HN12 HE12 HS12 HN11 HE11 HS11 HC11 hown2 hc12 hg12
          obtain⟨t0,t1,t2,t3,t4,t5,t6,t7,t8⟩:=HE13.out.eb.ev
          obtain⟨u0,u1,u2,u3,u4,u5,u6,u7,u8⟩:=HB13.out.ev
          have f0:=HB13.out.free 0
          go_upto_region 22 with fail
          have hgg:=z01 w13 bb 0 (.int .i64 e.id)
          have hbl:Below (w.heap.size+2) w13 (w13.setCell⟨bb,0,none⟩(.int .i64 e.id)):=(Below.refl _ _).grown hgg HN13.out.size (fun k hk=>by cases hk;exact hbb)
          have HN14:=hide (HN13.out.on hbl)
          have HB14:=hide (HB13.out.put0 e.id)
          have HS14:=hide (ze HS13.out hgg HB13.out (by decide))
          have HL14:=hide (ze HL13.out hgg HB13.out (by decide))
          have HE14:=hide (show NxE w be e (.slice ox e.levels.length cx)(.slice (some⟨s6,0,none⟩) 1 1)(w13.setCell⟨bb,0,none⟩(.int .i64 e.id)) from⟨HE13.out.eb.kept hgg (fun q=>hbne (Option.some.inj q).symm),ze HE13.out.l hgg HB13.out (by decide),ze HE13.out.q hgg HB13.out (by decide),HE13.out.fl,HE13.out.fp,HE13.out.nl,HE13.out.np,HE13.out.tx,HE13.out.hbe⟩)
          generalize w13.setCell⟨bb,0,none⟩(.int .i64 e.id)=w14 at HN14 HB14 HS14 HL14 HE14 ⊢
          clear t0 t1 t2 t3 t4 t5 t6 t7 t8 u0 u1 u2 u3 u4 u5 u6 u7 u8 f0 hgg hbl HN13 HE13 HS13 HL13 HB13
          obtain⟨t0,t1,t2,t3,t4,t5,t6,t7,t8⟩:=HE14.out.eb.ev
          obtain⟨u0,u1,u2,u3,u4,u5,u6,u7,u8⟩:=HB14.out.ev
          have f7:=HB14.out.free 7
          go_upto_region 23 with fail
          have hgg:=z01 w14 bb 7 (.slice (some⟨s6,0,none⟩) 1 1)
          have hbl:Below (w.heap.size+2) w14 (w14.setCell⟨bb,7,none⟩(.slice (some⟨s6,0,none⟩) 1 1)):=(Below.refl _ _).grown hgg HN14.out.size (fun k hk=>by cases hk;exact hbb)
          have HN15:=hide (HN14.out.on hbl)
          have HB15:=hide (HB14.out.put7 (.slice (some⟨s6,0,none⟩) 1 1))
          have HS15:=hide (ze HS14.out hgg HB14.out (by decide))
          have HL15:=hide (ze HL14.out hgg HB14.out (by decide))
          have HE15:=hide (show NxE w be e (.slice ox e.levels.length cx)(.slice (some⟨s6,0,none⟩) 1 1)(w14.setCell⟨bb,7,none⟩(.slice (some⟨s6,0,none⟩) 1 1)) from⟨HE14.out.eb.kept hgg (fun q=>hbne (Option.some.inj q).symm),ze HE14.out.l hgg HB14.out (by decide),ze HE14.out.q hgg HB14.out (by decide),HE14.out.fl,HE14.out.fp,HE14.out.nl,HE14.out.np,HE14.out.tx,HE14.out.hbe⟩)
          generalize w14.setCell⟨bb,7,none⟩(.slice (some⟨s6,0,none⟩) 1 1)=w15 at HN15 HB15 HS15 HL15 HE15 ⊢
          clear t0 t1 t2 t3 t4 t5 t6 t7 t8 u0 u1 u2 u3 u4 u5 u6 u7 u8 f7 hgg hbl HN14 HE14 HS14 HL14 HB14
          obtain⟨t0,t1,t2,t3,t4,t5,t6,t7,t8⟩:=HE15.out.eb.ev
          obtain⟨u0,u1,u2,u3,u4,u5,u6,u7,u8⟩:=HB15.out.ev
          have f8:=HB15.out.free 8
          go_upto_region 24 with fail
          have hgg:=z01 w15 bb 8 (.int .i64 e.depth)
          have hbl:Below (w.heap.size+2) w15 (w15.setCell⟨bb,8,none⟩(.int .i64 e.depth)):=(Below.refl _ _).grown hgg HN15.out.size (fun k hk=>by cases hk;exact hbb)
          have HN16:=hide (HN15.out.on hbl)
          have HB16:=hide (HB15.out.put8 e.depth)
          have HS16:=hide (ze HS15.out hgg HB15.out (by decide))
          have HL16:=hide (ze HL15.out hgg HB15.out (by decide))
          have HE16:=hide (show NxE w be e (.slice ox e.levels.length cx)(.slice (some⟨s6,0,none⟩) 1 1)(w15.setCell⟨bb,8,none⟩(.int .i64 e.depth)) from⟨HE15.out.eb.kept hgg (fun q=>hbne (Option.some.inj q).symm),ze HE15.out.l hgg HB15.out (by decide),ze HE15.out.q hgg HB15.out (by decide),HE15.out.fl,HE15.out.fp,HE15.out.nl,HE15.out.np,HE15.out.tx,HE15.out.hbe⟩)
          generalize w15.setCell⟨bb,8,none⟩(.int .i64 e.depth)=w16 at HN16 HB16 HS16 HL16 HE16 ⊢
          clear t0 t1 t2 t3 t4 t5 t6 t7 t8 u0 u1 u2 u3 u4 u5 u6 u7 u8 f8 hgg hbl HN15 HE15 HS15 HL15 HB15
          obtain⟨t0,t1,t2,t3,t4,t5,t6,t7,t8⟩:=HE16.out.eb.ev
          obtain⟨u0,u1,u2,u3,u4,u5,u6,u7,u8⟩:=HB16.out.ev
          have y0:=HE16.out.eb.free 0
          have y1:=HE16.out.eb.free 1
          have y2:=HE16.out.eb.free 2
          have y3:=HE16.out.eb.free 3
          have y4:=HE16.out.eb.free 4
          have y5:=HE16.out.eb.free 5
          have y6:=HE16.out.eb.free 6
          have y7:=HE16.out.eb.free 7
          have y8:=HE16.out.eb.free 8
          go_wp2_with fail
          obtain⟨w17,hw17,hE17,hg17⟩:=HE16.out.eb.all e.id kd2 sn2 us2 mb2 e.depth (.slice ol2 zl2.length cl2)(.slice (some⟨s6,0,none⟩) 1 1) tx2
          rw [hw17]
          have hb17:Below (w.heap.size+2) w16 w17:=(Below.refl _ _).grown hg17 HN16.out.size (fun k hk=>by cases hk;exact HE16.out.hbe)
          have HN17:=hide (HN16.out.on hb17)
          have HE17:=hide (show NxE w be (⟨e.id,kd2,sn2,us2,mb2,zl2,tx2,e.prev,e.depth⟩:EvV)(.slice ol2 zl2.length cl2)(.slice (some⟨s6,0,none⟩) 1 1) w17 from⟨hE17,ze HL16.out hg17 HE16.out.eb (by decide),ze HE16.out.q hg17 HE16.out.eb (by decide),hfl2,HE16.out.fp,hn52,HE16.out.np,htx2,HE16.out.hbe⟩)
          have HS17:=hide (ze HS16.out hg17 HE16.out.eb (by decide))
          clear t0 t1 t2 t3 t4 t5 t6 t7 t8 u0 u1 u2 u3 u4 u5 u6 u7 u8 y0 y1 y2 y3 y4 y5 y6 y7 y8 hw17 hE17 hg17 hb17
          go_roundw
          case rel=>exact⟨j2+1,(⟨e.id,kd2,sn2,us2,mb2,zl2,tx2,e.prev,e.depth⟩:EvV),_,by go_num,by omega,HID.out,HPM.out,HN17.out,HE17.out,HS17.out⟩
          case measure=>simp [intOf];omega
         ·go_upto_region 25 with (go_at_call 55;(with_reducible refine HAL.out.mono ?_);rintro r w11⟨rfl,hb11⟩)
          have HN11:=hide (HNS.out.on (hb11.mono HNS.out.size))
          have HE11:=hide (HNE.out.on hb11)
          clear hb11 r0 t0 t1 t2 t3 t4 t5 t6 t7 t8 HNS HNE HSS HAL
          have r0:=za HN11.out.r 0 rfl
          by_cases hone:es.length=1
          ·have g1:((es.length:Int) == 1)=true:=by rw [hone];rfl
           have HONE:=hide hone
           clear hone
           obtain⟨x0,b0,q0,xa0,xc0,ya0,yc0,hx0,hidx0,hev0⟩:=(HEV.out w11 HN11.out.gr).get Tryz.underlying24 z1p 0 hn1
           have hidx1:∀ wx,(Instr.indexAt 24 (.slice oa es.length ca)(.int .i64 0)).run Tryz.prog wx=.ok (.pointer (some⟨b0,q0,none⟩)) wx:=hidx0
           obtain⟨k0,k1,k2,k3,k4,k5,k6,k7,k8⟩:=hev0.cs
           obtain⟨t0,t1,t2,t3,t4,t5,t6,t7,t8⟩:=HE11.out.eb.ev
           have y0:=HE11.out.eb.free 0
           have y1:=HE11.out.eb.free 1
           have y2:=HE11.out.eb.free 2
           have y3:=HE11.out.eb.free 3
           have y4:=HE11.out.eb.free 4
           have y5:=HE11.out.eb.free 5
           have y6:=HE11.out.eb.free 6
           have y7:=HE11.out.eb.free 7
           have y8:=HE11.out.eb.free 8
           go_upto_region 26 with fail
           go_still_tail 16,(by kernel_rfl)
           go_upto_region 27 with fail
           obtain⟨wy,hwy,hEy,hgy⟩:=HE11.out.eb.all id 2 x0.sender x0.sender 2 e.depth (.slice none 0 0)(.slice (some⟨s6,0,none⟩) 1 1) []
           try rw [show (.string⟨#[]⟩:Value)=.string⟨([]:List UInt8).toArray⟩from rfl]
           rw [hwy]
           have hby:Below (w.heap.size+2) w11 wy:=(Below.refl _ _).grown hgy HN11.out.size (fun k hk=>by cases hk;exact HE11.out.hbe)
           have HNy:=hide ((HN11.out.on hby).on ((Below.refl (w.heap.size+2) wy).drew))
           have HEy:=hide ((show NxE w be (⟨id,2,x0.sender,x0.sender,2,[],[],e.prev,e.depth⟩:EvV)(.slice none 0 0)(.slice (some⟨s6,0,none⟩) 1 1) wy from⟨hEy,World.ownsRow_nil _ _ _ _,ze HE11.out.q hgy HE11.out.eb (by decide),by simp,HE11.out.fp,by simp,HE11.out.np,by simp,HE11.out.hbe⟩).on ((Below.refl wy.heap.size wy).drew))
           generalize wy.drew=wv at HNy HEy ⊢
           clear k0 k1 k2 k3 k4 k5 k6 k7 k8 t0 t1 t2 t3 t4 t5 t6 t7 t8 y0 y1 y2 y3 y4 y5 y6 y7 y8 hwy hEy hgy hby hx0 hidx0 hidx1 hev0
           skip
           obtain⟨t0,t1,t2,t3,t4,t5,t6,t7,t8⟩:=HEy.out.eb.ev
           obtain⟨q0,q1,q2,q3,q4,q5,q6,q7,q8⟩:=HNy.out.rr.ev
           have y0:=HNy.out.rr.free 0
           have y1:=HNy.out.rr.free 1
           have y2:=HNy.out.rr.free 2
           have y3:=HNy.out.rr.free 3
           have y4:=HNy.out.rr.free 4
           have y5:=HNy.out.rr.free 5
           have y6:=HNy.out.rr.free 6
           have y7:=HNy.out.rr.free 7
           have y8:=HNy.out.rr.free 8
           go_wp2_with fail
           obtain⟨wz,hwz,hEz,hgz⟩:=HNy.out.rr.all (⟨id,2,x0.sender,x0.sender,2,[],[],e.prev,e.depth⟩:EvV).id (⟨id,2,x0.sender,x0.sender,2,[],[],e.prev,e.depth⟩:EvV).kind (⟨id,2,x0.sender,x0.sender,2,[],[],e.prev,e.depth⟩:EvV).sender (⟨id,2,x0.sender,x0.sender,2,[],[],e.prev,e.depth⟩:EvV).user (⟨id,2,x0.sender,x0.sender,2,[],[],e.prev,e.depth⟩:EvV).member (⟨id,2,x0.sender,x0.sender,2,[],[],e.prev,e.depth⟩:EvV).depth (.slice none 0 0)(.slice (some⟨s6,0,none⟩) 1 1)(⟨id,2,x0.sender,x0.sender,2,[],[],e.prev,e.depth⟩:EvV).text
           try simp only at hwz hEz
           rw [hwz]
           clear t0 t1 t2 t3 t4 t5 t6 t7 t8 q0 q1 q2 q3 q4 q5 q6 q7 q8 y0 y1 y2 y3 y4 y5 y6 y7 y8
           obtain⟨t0,t1,t2,t3,t4,t5,t6,t7,t8⟩:=hEz.ev
           refine bodyPost_ret (v:=evv (⟨id,2,x0.sender,x0.sender,2,[],[],e.prev,e.depth⟩:EvV)(.slice none 0 0)(.slice (some⟨s6,0,none⟩) 1 1))(by simp [results,Tryz.results79,go_sem,t0,t1,t2,t3,t4,t5,t6,t7,t8]) rfl ?_
           have hbz:Below (w.heap.size+1) wv wz:=(Below.refl _ _).grown hgz (by have:=HNy.out.size;omega)(fun k hk=>by cases hk;omega)
           exact⟨(⟨id,2,x0.sender,x0.sender,2,[],[],e.prev,e.depth⟩:EvV),_,_,rfl,ze HEy.out.l hgz HNy.out.rr (by decide),ze HEy.out.q hgz HNy.out.rr (by decide),HEy.out.fl,HEy.out.fp,rfl,HEy.out.nl,HEy.out.np,HEy.out.tx,fun h=>absurd h HES.out,HNy.out.cur.kept (hbz.mono (by omega))(hbz.block p (by omega)),z02 HNy.out.gr (hbz.mono (by omega))⟩
          ·have g1:((es.length:Int) == 1)=false:=by rw [beq_eq_false_iff_ne];omega
           clear hone
           obtain⟨t0,t1,t2,t3,t4,t5,t6,t7,t8⟩:=HE11.out.eb.ev
           obtain⟨q0,q1,q2,q3,q4,q5,q6,q7,q8⟩:=HN11.out.rr.ev
           have y0:=HN11.out.rr.free 0
           have y1:=HN11.out.rr.free 1
           have y2:=HN11.out.rr.free 2
           have y3:=HN11.out.rr.free 3
           have y4:=HN11.out.rr.free 4
           have y5:=HN11.out.rr.free 5
           have y6:=HN11.out.rr.free 6
           have y7:=HN11.out.rr.free 7
           have y8:=HN11.out.rr.free 8
           go_wp2_with fail
           obtain⟨wz,hwz,hEz,hgz⟩:=HN11.out.rr.all e.id e.kind e.sender e.user e.member e.depth (.slice ox e.levels.length cx)(.slice (some⟨s6,0,none⟩) 1 1) e.text
           try simp only at hwz hEz
           rw [hwz]
           clear t0 t1 t2 t3 t4 t5 t6 t7 t8 q0 q1 q2 q3 q4 q5 q6 q7 q8 y0 y1 y2 y3 y4 y5 y6 y7 y8
           obtain⟨t0,t1,t2,t3,t4,t5,t6,t7,t8⟩:=hEz.ev
           refine bodyPost_ret (v:=evv e (.slice ox e.levels.length cx)(.slice (some⟨s6,0,none⟩) 1 1))(by simp [results,Tryz.results79,go_sem,t0,t1,t2,t3,t4,t5,t6,t7,t8]) rfl ?_
           have hbz:Below (w.heap.size+1) w11 wz:=(Below.refl _ _).grown hgz (by have:=HN11.out.size;omega)(fun k hk=>by cases hk;omega)
           exact⟨e,_,_,rfl,ze HE11.out.l hgz HN11.out.rr (by decide),ze HE11.out.q hgz HN11.out.rr (by decide),HE11.out.fl,HE11.out.fp,HID.out,HE11.out.nl,HE11.out.np,HE11.out.tx,fun h=>absurd h HES.out,HN11.out.cur.kept (hbz.mono (by omega))(hbz.block p (by omega)),z02 HN11.out.gr (hbz.mono (by omega))⟩
        ·have j60:¬ ((j2:Int) < 6):=by omega
         go_upto_region 25 with fail
         clear HAL
         have r0:=za HNS.out.r 0 rfl
         by_cases hone:es.length=1
         ·have g1:((es.length:Int) == 1)=true:=by rw [hone];rfl
          have HONE:=hide hone
          clear hone
          obtain⟨x0,b0,q0,xa0,xc0,ya0,yc0,hx0,hidx0,hev0⟩:=(HEV.out wr HNS.out.gr).get Tryz.underlying24 z1p 0 hn1
          have hidx1:∀ wx,(Instr.indexAt 24 (.slice oa es.length ca)(.int .i64 0)).run Tryz.prog wx=.ok (.pointer (some⟨b0,q0,none⟩)) wx:=hidx0
          obtain⟨k0,k1,k2,k3,k4,k5,k6,k7,k8⟩:=hev0.cs
          obtain⟨t0,t1,t2,t3,t4,t5,t6,t7,t8⟩:=HNE.out.eb.ev
          have y0:=HNE.out.eb.free 0
          have y1:=HNE.out.eb.free 1
          have y2:=HNE.out.eb.free 2
          have y3:=HNE.out.eb.free 3
          have y4:=HNE.out.eb.free 4
          have y5:=HNE.out.eb.free 5
          have y6:=HNE.out.eb.free 6
          have y7:=HNE.out.eb.free 7
          have y8:=HNE.out.eb.free 8
          go_upto_region 26 with fail
          go_still_tail 16,(by kernel_rfl)
          go_upto_region 27 with fail
          obtain⟨wy,hwy,hEy,hgy⟩:=HNE.out.eb.all id 2 x0.sender x0.sender 2 e.depth (.slice none 0 0)(.slice (some⟨s6,0,none⟩) 1 1) []
          try rw [show (.string⟨#[]⟩:Value)=.string⟨([]:List UInt8).toArray⟩from rfl]
          rw [hwy]
          have hby:Below (w.heap.size+2) wr wy:=(Below.refl _ _).grown hgy HNS.out.size (fun k hk=>by cases hk;exact HNE.out.hbe)
          have HNy:=hide ((HNS.out.on hby).on ((Below.refl (w.heap.size+2) wy).drew))
          have HEy:=hide ((show NxE w be (⟨id,2,x0.sender,x0.sender,2,[],[],e.prev,e.depth⟩:EvV)(.slice none 0 0)(.slice (some⟨s6,0,none⟩) 1 1) wy from⟨hEy,World.ownsRow_nil _ _ _ _,ze HNE.out.q hgy HNE.out.eb (by decide),by simp,HNE.out.fp,by simp,HNE.out.np,by simp,HNE.out.hbe⟩).on ((Below.refl wy.heap.size wy).drew))
          generalize wy.drew=wv at HNy HEy ⊢
          clear k0 k1 k2 k3 k4 k5 k6 k7 k8 t0 t1 t2 t3 t4 t5 t6 t7 t8 y0 y1 y2 y3 y4 y5 y6 y7 y8 hwy hEy hgy hby hx0 hidx0 hidx1 hev0
          skip
          obtain⟨t0,t1,t2,t3,t4,t5,t6,t7,t8⟩:=HEy.out.eb.ev
          obtain⟨q0,q1,q2,q3,q4,q5,q6,q7,q8⟩:=HNy.out.rr.ev
          have y0:=HNy.out.rr.free 0
          have y1:=HNy.out.rr.free 1
          have y2:=HNy.out.rr.free 2
          have y3:=HNy.out.rr.free 3
          have y4:=HNy.out.rr.free 4
          have y5:=HNy.out.rr.free 5
          have y6:=HNy.out.rr.free 6
          have y7:=HNy.out.rr.free 7
          have y8:=HNy.out.rr.free 8
          go_wp2_with fail
          obtain⟨wz,hwz,hEz,hgz⟩:=HNy.out.rr.all (⟨id,2,x0.sender,x0.sender,2,[],[],e.prev,e.depth⟩:EvV).id (⟨id,2,x0.sender,x0.sender,2,[],[],e.prev,e.depth⟩:EvV).kind (⟨id,2,x0.sender,x0.sender,2,[],[],e.prev,e.depth⟩:EvV).sender (⟨id,2,x0.sender,x0.sender,2,[],[],e.prev,e.depth⟩:EvV).user (⟨id,2,x0.sender,x0.sender,2,[],[],e.prev,e.depth⟩:EvV).member (⟨id,2,x0.sender,x0.sender,2,[],[],e.prev,e.depth⟩:EvV).depth (.slice none 0 0)(.slice (some⟨s6,0,none⟩) 1 1)(⟨id,2,x0.sender,x0.sender,2,[],[],e.prev,e.depth⟩:EvV).text
          try simp only at hwz hEz
          rw [hwz]
          clear t0 t1 t2 t3 t4 t5 t6 t7 t8 q0 q1 q2 q3 q4 q5 q6 q7 q8 y0 y1 y2 y3 y4 y5 y6 y7 y8
          obtain⟨t0,t1,t2,t3,t4,t5,t6,t7,t8⟩:=hEz.ev
          refine bodyPost_ret (v:=evv (⟨id,2,x0.sender,x0.sender,2,[],[],e.prev,e.depth⟩:EvV)(.slice none 0 0)(.slice (some⟨s6,0,none⟩) 1 1))(by simp [results,Tryz.results79,go_sem,t0,t1,t2,t3,t4,t5,t6,t7,t8]) rfl ?_
          have hbz:Below (w.heap.size+1) wv wz:=(Below.refl _ _).grown hgz (by have:=HNy.out.size;omega)(fun k hk=>by cases hk;omega)
          exact⟨(⟨id,2,x0.sender,x0.sender,2,[],[],e.prev,e.depth⟩:EvV),_,_,rfl,ze HEy.out.l hgz HNy.out.rr (by decide),ze HEy.out.q hgz HNy.out.rr (by decide),HEy.out.fl,HEy.out.fp,rfl,HEy.out.nl,HEy.out.np,HEy.out.tx,fun h=>absurd h HES.out,HNy.out.cur.kept (hbz.mono (by omega))(hbz.block p (by omega)),z02 HNy.out.gr (hbz.mono (by omega))⟩
         ·have g1:((es.length:Int) == 1)=false:=by rw [beq_eq_false_iff_ne];omega
          clear hone
          obtain⟨t0,t1,t2,t3,t4,t5,t6,t7,t8⟩:=HNE.out.eb.ev
          obtain⟨q0,q1,q2,q3,q4,q5,q6,q7,q8⟩:=HNS.out.rr.ev
          have y0:=HNS.out.rr.free 0
          have y1:=HNS.out.rr.free 1
          have y2:=HNS.out.rr.free 2
          have y3:=HNS.out.rr.free 3
          have y4:=HNS.out.rr.free 4
          have y5:=HNS.out.rr.free 5
          have y6:=HNS.out.rr.free 6
          have y7:=HNS.out.rr.free 7
          have y8:=HNS.out.rr.free 8
          go_wp2_with fail
          obtain⟨wz,hwz,hEz,hgz⟩:=HNS.out.rr.all e.id e.kind e.sender e.user e.member e.depth (.slice ox e.levels.length cx)(.slice (some⟨s6,0,none⟩) 1 1) e.text
          try simp only at hwz hEz
          rw [hwz]
          clear t0 t1 t2 t3 t4 t5 t6 t7 t8 q0 q1 q2 q3 q4 q5 q6 q7 q8 y0 y1 y2 y3 y4 y5 y6 y7 y8
          obtain⟨t0,t1,t2,t3,t4,t5,t6,t7,t8⟩:=hEz.ev
          refine bodyPost_ret (v:=evv e (.slice ox e.levels.length cx)(.slice (some⟨s6,0,none⟩) 1 1))(by simp [results,Tryz.results79,go_sem,t0,t1,t2,t3,t4,t5,t6,t7,t8]) rfl ?_
          have hbz:Below (w.heap.size+1) wr wz:=(Below.refl _ _).grown hgz (by have:=HNS.out.size;omega)(fun k hk=>by cases hk;omega)
          exact⟨e,_,_,rfl,ze HNE.out.l hgz HNS.out.rr (by decide),ze HNE.out.q hgz HNS.out.rr (by decide),HNE.out.fl,HNE.out.fp,HID.out,HNE.out.nl,HNE.out.np,HNE.out.tx,fun h=>absurd h HES.out,HNS.out.cur.kept (hbz.mono (by omega))(hbz.block p (by omega)),z02 HNS.out.gr (hbz.mono (by omega))⟩
   ·have j0:¬ ((j:Int) < (L.length:Int)):=by omega
    go_wp2_with fail
    refine (z3s B p a len cap 4 (by omega)(by omega) _ HCU.out).mono ?_
    rintro e w5⟨bb,rfl,hc5,hg5⟩
    have HG5:=hide (zm HGR.out hg5)
    have HO5:=hide (HOW.out.kept hg5 (z13 HOW.out (by omega)))
    have HC5:=hide hc5
    clear hc5 hg5 HOW HCU HGR HI4 HWF4
    cases bb with
    | false =>
     have HP3:=hide hm3
     have HN6:=hide (HN4.out.drawn HC5.out HG5.out)
     have HE6:=hide (HE4.out.drawn HN4.out.hp HG5.out)
     obtain⟨t0,t1,t2,t3,t4,t5,t6,t7,t8⟩:=HE6.out.eb.ev
     have f7:=HE6.out.eb.free 7
     go_upto_region 15 with fail
     have hg7:=z01 w5 be 7 (.slice oo pv.length co)
     have hb7:Below (w.heap.size+2) w5 (w5.setCell⟨be,7,none⟩(.slice oo pv.length co)):=(Below.refl _ _).grown hg7 HN6.out.size (fun k hk=>by cases hk;exact HE6.out.hbe)
     have hE7:NxE w be (⟨id,kd,sn,us,mb,zl,tx,pv,dp⟩:EvV)(.slice ol zl.length cl)(.slice oo pv.length co)(w5.setCell⟨be,7,none⟩(.slice oo pv.length co)):=⟨HE6.out.eb.put7 _,ze HE6.out.l hg7 HE6.out.eb (by decide),ze (zq HO5.out (by omega)) hg7 HE6.out.eb (by decide),HE6.out.fl,HPF.out,HE6.out.nl,HP3.out,HE6.out.tx,HE6.out.hbe⟩
     have HN7:=hide (HN6.out.on hb7)
     generalize w5.setCell⟨be,7,none⟩(.slice oo pv.length co)=w7 at hE7 HN7 ⊢
     have HE7:=hide hE7
     clear hE7 hb7 hg7 t0 t1 t2 t3 t4 t5 t6 t7 t8 f7 HE6 HN6
     have r0:=za HN7.out.r 0 rfl
     have r1:=za HN7.out.r 1 rfl
     have r2:=za HN7.out.r 2 rfl
     obtain⟨_,_,heo,hi7⟩:=z0e HE7.out.q HE7.out.fp
     cases heo
     replace hi7:IntsAt w7 oo pv.length co pv:=hi7
     go_upto_region 16 with (go_at_call 125;(with_reducible refine (HDP.out _ HN7.out.gr _ _ _ _ hi7).mono ?_);rintro r w8⟨rfl,hb8⟩;have hE8:=HE7.out.on hb8;obtain⟨t0,t1,t2,t3,t4,t5,t6,t7,t8⟩:=hE8.eb.ev;have f8:=hE8.eb.free 8)
     have HN8:=hide (HN7.out.on (hb8.mono HN7.out.size))
     generalize z3r es _=D at *
     have hg9:=z01 w8 be 8 (.int .i64 D)
     have hb9:Below (w.heap.size+2) w8 (w8.setCell⟨be,8,none⟩(.int .i64 D)):=(Below.refl _ _).grown hg9 HN8.out.size (fun k hk=>by cases hk;exact hE8.hbe)
     have hE9:NxE w be (⟨id,kd,sn,us,mb,zl,tx,pv,D⟩:EvV)(.slice ol zl.length cl)(.slice oo pv.length co)(w8.setCell⟨be,8,none⟩(.int .i64 D)):=⟨hE8.eb.put8 _,ze hE8.l hg9 hE8.eb (by decide),ze hE8.q hg9 hE8.eb (by decide),hE8.fl,hE8.fp,hE8.nl,hE8.np,hE8.tx,hE8.hbe⟩
     have HN9:=hide (HN8.out.on hb9)
     generalize w8.setCell⟨be,8,none⟩(.int .i64 D)=w9 at hE9 HN9 ⊢
     have HE9:=hide hE9
     clear hE9 hb9 hg9 t0 t1 t2 t3 t4 t5 t6 t7 t8 f8 hE8 HN8 HN7 HE7 hi7 r0 r1 r2 hb8
     have r0:=za HN9.out.r 0 rfl
     have r1:=za HN9.out.r 1 rfl
     have r2:=za HN9.out.r 2 rfl
     obtain⟨_,_,heo,hi9⟩:=z0e HE9.out.q HE9.out.fp
     cases heo
     replace hi9:IntsAt w9 oo pv.length co pv:=hi9
     go_upto_region 17 with (go_at_call 87;(with_reducible refine (HBF.out _ HN9.out.gr _ _ _ _ (by first | decide | (have:=HP3.out;omega)) hi9).mono ?_);rintro r w10⟨v10,rfl,ho10,hb10⟩;obtain⟨os,cs,rfl⟩:=zb ho10)
     generalize (z2r es sts pv).getD []=SS at ho10 ⊢
     generalize (z2r es sts pv).isSome=bs
     have HS10:=hide (zq ho10 (show w.heap.size≤w9.heap.size by have:=HN9.out.size;omega))
     have HN10:=hide (HN9.out.on (hb10.mono HN9.out.size))
     have HE10:=hide (HE9.out.on hb10)
     clear ho10 hb10 hi9 r0 r1 r2 HN9 HE9
     go_wp2_with fail
     go_loopw [13] (fun i wr=>∃ (j:Nat)(e:EvV)(vl:Value),i=.int .i64 (j:Int)∧j≤6∧e.id=id∧e.prev.length=pv.length∧NxS B p a len cap w (.slice oa es.length ca)(.slice so sts.length sc) vg wr∧NxE w be e vl (.slice oo pv.length co) wr∧wr.ownsRow w.heap.size 36 2 (.slice os SS.length cs) SS.length (SS.flatMap z06))(fun i _=>6 - (intOf i).toNat)
     case atStart=>exact⟨0,_,_,rfl,by omega,rfl,rfl,HN10.out,HE10.out,HS10.out⟩
     case round =>
      obtain⟨j2,e,vl,rfl,hj2,hid,hpm,hns,hne,hss⟩:=hrel
      obtain⟨ox,cx,rfl⟩:=zb hne.l
      have HNS:=hide hns
      have HNE:=hide hne
      have HSS:=hide hss
      have HID:=hide hid
      have HPM:=hide hpm
      obtain⟨_,_,heo,hil⟩:=z0e hne.l hne.fl
      cases heo
      obtain⟨_,_,heo,hiq⟩:=z0e hne.q hne.fp
      injection heo with ho1 ho2 ho3
      subst ho1
      subst ho3
      obtain⟨_,_,heo,his⟩:=z03 hss
      cases heo
      have htx:=hne.tx
      have HAL:=hide (z2h oa es.length ca es os SS.length cs SS e ox cx oo co (by omega) wr⟨HEV.out wr hns.gr,his⟩hil hiq)
      rw [hpm] at HAL
      clear hns hne hss hid hil hiq his HN10 HE10 HS10 hpm ho2
      by_cases hlt6:j2 < 6
      ·have j60:(j2:Int) < 6:=by omega
       have r0:=za HNS.out.r 0 rfl
       obtain⟨t0,t1,t2,t3,t4,t5,t6,t7,t8⟩:=HNE.out.eb.ev
       generalize allowed es SS e=al at HAL
       cases al
       ·go_upto_region 20 with (go_at_call 55;(with_reducible refine HAL.out.mono ?_);rintro r w11⟨rfl,hb11⟩)
        have HN11:=hide (HNS.out.on (hb11.mono HNS.out.size))
        have HE11:=hide (HNE.out.on hb11)
        have HS11:=hide (own_below HSS.out hb11)
        clear hb11 r0 t0 t1 t2 t3 t4 t5 t6 t7 t8 HNS HNE HSS HAL
        have HC11:=hide HN11.out.cur
        have hs11:=HN11.out.size
        go_upto_region 21 with (go_at_call 124;refine (z3o B p a len cap _ (by omega) HC11.out).mono ?_;rintro r w12⟨id2,kd2,sn2,us2,mb2,dp2,vl2,vp2,tx2,n2,m2,zl2,zp2,rfl,hn52,hm02,htx2,hown2,hfl2,hfp2,hc12,hg12⟩;obtain⟨ol2,cl2,rfl⟩:=zb hown2.l;obtain⟨oq2,cq2,rfl⟩:=zb hown2.p)
        have hzl2:zl2.length=n2:=by have:=hown2.l.1;simpa using this
        have hzp2:zp2.length=m2:=by have:=hown2.p.1;simpa using this
        subst hzl2
        subst hzp2
        have HN12:=hide (HN11.out.drawn hc12 hg12)
        have HE12:=hide (HE11.out.drawn HN11.out.hp hg12)
        have HS12:=hide (HS11.out.kept hg12 (z13 HS11.out HN11.out.hp))
        have hs12:=HN12.out.size
        obtain⟨w13,hw13⟩:∃ w13,w12.alloc (.cells (zh id2 kd2 sn2 us2 mb2 dp2 (.slice ol2 zl2.length cl2)(.slice oq2 zp2.length cq2) tx2) 47)=w13:=⟨_,rfl⟩
        have hb13:Below w12.heap.size w12 w13:=by rw [← hw13];exact (Below.refl _ _).alloc (Nat.le_refl _) _
        have hB13:EB w13 w12.heap.size id2 kd2 sn2 us2 mb2 dp2 (.slice ol2 zl2.length cl2)(.slice oq2 zp2.length cq2) tx2:=by rw [← hw13];exact EB.new _ _ _ _ _ _ _ _ _ _
        rw [show w12.alloc (.cells #[.int .i64 id2,.int .i64 kd2,.int .i64 sn2,.int .i64 us2,.int .i64 mb2,.slice ol2 zl2.length cl2,.string⟨tx2.toArray⟩,.slice oq2 zp2.length cq2,.int .i64 dp2] 47)=w13 from hw13]
        have HN13:=hide (HN12.out.on (hb13.mono (by omega)))
        have HE13:=hide (HE12.out.on hb13)
        have HS13:=hide (own_below HS12.out hb13)
        have HL13:=hide (own_below (zq hown2.l (show w.heap.size≤w11.heap.size by omega)) hb13)
        have hbb:w.heap.size+2≤w12.heap.size:=by omega
        have hbne:be≠w12.heap.size:=by have:=HE12.out.eb.lt;omega
        generalize w12.heap.size=bb at hB13 hbb hbne ⊢
        have HB13:=hide hB13
        clear hw13 hb13 hB13 HN12 HE12 HS12 HN11 HE11 HS11 HC11 hown2 hc12 hg12
        obtain⟨t0,t1,t2,t3,t4,t5,t6,t7,t8⟩:=HE13.out.eb.ev
        obtain⟨u0,u1,u2,u3,u4,u5,u6,u7,u8⟩:=HB13.out.ev
        have f0:=HB13.out.free 0
        go_upto_region 22 with fail
        have hgg:=z01 w13 bb 0 (.int .i64 e.id)
        have hbl:Below (w.heap.size+2) w13 (w13.setCell⟨bb,0,none⟩(.int .i64 e.id)):=(Below.refl _ _).grown hgg HN13.out.size (fun k hk=>by cases hk;exact hbb)
        have HN14:=hide (HN13.out.on hbl)
        have HB14:=hide (HB13.out.put0 e.id)
        have HS14:=hide (ze HS13.out hgg HB13.out (by decide))
        have HL14:=hide (ze HL13.out hgg HB13.out (by decide))
        have HE14:=hide (show NxE w be e (.slice ox e.levels.length cx)(.slice oo pv.length co)(w13.setCell⟨bb,0,none⟩(.int .i64 e.id)) from⟨HE13.out.eb.kept hgg (fun q=>hbne (Option.some.inj q).symm),ze HE13.out.l hgg HB13.out (by decide),ze HE13.out.q hgg HB13.out (by decide),HE13.out.fl,HE13.out.fp,HE13.out.nl,HE13.out.np,HE13.out.tx,HE13.out.hbe⟩)
        generalize w13.setCell⟨bb,0,none⟩(.int .i64 e.id)=w14 at HN14 HB14 HS14 HL14 HE14 ⊢
        clear t0 t1 t2 t3 t4 t5 t6 t7 t8 u0 u1 u2 u3 u4 u5 u6 u7 u8 f0 hgg hbl HN13 HE13 HS13 HL13 HB13
        obtain⟨t0,t1,t2,t3,t4,t5,t6,t7,t8⟩:=HE14.out.eb.ev
        obtain⟨u0,u1,u2,u3,u4,u5,u6,u7,u8⟩:=HB14.out.ev
        have f7:=HB14.out.free 7
        go_upto_region 23 with fail
        have hgg:=z01 w14 bb 7 (.slice oo pv.length co)
        have hbl:Below (w.heap.size+2) w14 (w14.setCell⟨bb,7,none⟩(.slice oo pv.length co)):=(Below.refl _ _).grown hgg HN14.out.size (fun k hk=>by cases hk;exact hbb)
        have HN15:=hide (HN14.out.on hbl)
        have HB15:=hide (HB14.out.put7 (.slice oo pv.length co))
        have HS15:=hide (ze HS14.out hgg HB14.out (by decide))
        have HL15:=hide (ze HL14.out hgg HB14.out (by decide))
        have HE15:=hide (show NxE w be e (.slice ox e.levels.length cx)(.slice oo pv.length co)(w14.setCell⟨bb,7,none⟩(.slice oo pv.length co)) from⟨HE14.out.eb.kept hgg (fun q=>hbne (Option.some.inj q).symm),ze HE14.out.l hgg HB14.out (by decide),ze HE14.out.q hgg HB14.out (by decide),HE14.out.fl,HE14.out.fp,HE14.out.nl,HE14.out.np,HE14.out.tx,HE14.out.hbe⟩)
        generalize w14.setCell⟨bb,7,none⟩(.slice oo pv.length co)=w15 at HN15 HB15 HS15 HL15 HE15 ⊢
        clear t0 t1 t2 t3 t4 t5 t6 t7 t8 u0 u1 u2 u3 u4 u5 u6 u7 u8 f7 hgg hbl HN14 HE14 HS14 HL14 HB14
        obtain⟨t0,t1,t2,t3,t4,t5,t6,t7,t8⟩:=HE15.out.eb.ev
        obtain⟨u0,u1,u2,u3,u4,u5,u6,u7,u8⟩:=HB15.out.ev
        have f8:=HB15.out.free 8
        go_upto_region 24 with fail
        have hgg:=z01 w15 bb 8 (.int .i64 e.depth)
        have hbl:Below (w.heap.size+2) w15 (w15.setCell⟨bb,8,none⟩(.int .i64 e.depth)):=(Below.refl _ _).grown hgg HN15.out.size (fun k hk=>by cases hk;exact hbb)
        have HN16:=hide (HN15.out.on hbl)
        have HB16:=hide (HB15.out.put8 e.depth)
        have HS16:=hide (ze HS15.out hgg HB15.out (by decide))
        have HL16:=hide (ze HL15.out hgg HB15.out (by decide))
        have HE16:=hide (show NxE w be e (.slice ox e.levels.length cx)(.slice oo pv.length co)(w15.setCell⟨bb,8,none⟩(.int .i64 e.depth)) from⟨HE15.out.eb.kept hgg (fun q=>hbne (Option.some.inj q).symm),ze HE15.out.l hgg HB15.out (by decide),ze HE15.out.q hgg HB15.out (by decide),HE15.out.fl,HE15.out.fp,HE15.out.nl,HE15.out.np,HE15.out.tx,HE15.out.hbe⟩)
        generalize w15.setCell⟨bb,8,none⟩(.int .i64 e.depth)=w16 at HN16 HB16 HS16 HL16 HE16 ⊢
        clear t0 t1 t2 t3 t4 t5 t6 t7 t8 u0 u1 u2 u3 u4 u5 u6 u7 u8 f8 hgg hbl HN15 HE15 HS15 HL15 HB15
        obtain⟨t0,t1,t2,t3,t4,t5,t6,t7,t8⟩:=HE16.out.eb.ev
        obtain⟨u0,u1,u2,u3,u4,u5,u6,u7,u8⟩:=HB16.out.ev
        have y0:=HE16.out.eb.free 0
        have y1:=HE16.out.eb.free 1
        have y2:=HE16.out.eb.free 2
        have y3:=HE16.out.eb.free 3
        have y4:=HE16.out.eb.free 4
        have y5:=HE16.out.eb.free 5
        have y6:=HE16.out.eb.free 6
        have y7:=HE16.out.eb.free 7
        have y8:=HE16.out.eb.free 8
        go_wp2_with fail
        obtain⟨w17,hw17,hE17,hg17⟩:=HE16.out.eb.all e.id kd2 sn2 us2 mb2 e.depth (.slice ol2 zl2.length cl2)(.slice oo pv.length co) tx2
        rw [hw17]
        have hb17:Below (w.heap.size+2) w16 w17:=(Below.refl _ _).grown hg17 HN16.out.size (fun k hk=>by cases hk;exact HE16.out.hbe)
        have HN17:=hide (HN16.out.on hb17)
        have HE17:=hide (show NxE w be (⟨e.id,kd2,sn2,us2,mb2,zl2,tx2,e.prev,e.depth⟩:EvV)(.slice ol2 zl2.length cl2)(.slice oo pv.length co) w17 from⟨hE17,ze HL16.out hg17 HE16.out.eb (by decide),ze HE16.out.q hg17 HE16.out.eb (by decide),hfl2,HE16.out.fp,hn52,HE16.out.np,htx2,HE16.out.hbe⟩)
        have HS17:=hide (ze HS16.out hg17 HE16.out.eb (by decide))
        clear t0 t1 t2 t3 t4 t5 t6 t7 t8 u0 u1 u2 u3 u4 u5 u6 u7 u8 y0 y1 y2 y3 y4 y5 y6 y7 y8 hw17 hE17 hg17 hb17
        go_roundw
        case rel=>exact⟨j2+1,(⟨e.id,kd2,sn2,us2,mb2,zl2,tx2,e.prev,e.depth⟩:EvV),_,by go_num,by omega,HID.out,HPM.out,HN17.out,HE17.out,HS17.out⟩
        case measure=>simp [intOf];omega
       ·go_upto_region 25 with (go_at_call 55;(with_reducible refine HAL.out.mono ?_);rintro r w11⟨rfl,hb11⟩)
        have HN11:=hide (HNS.out.on (hb11.mono HNS.out.size))
        have HE11:=hide (HNE.out.on hb11)
        clear hb11 r0 t0 t1 t2 t3 t4 t5 t6 t7 t8 HNS HNE HSS HAL
        have r0:=za HN11.out.r 0 rfl
        by_cases hone:es.length=1
        ·have g1:((es.length:Int) == 1)=true:=by rw [hone];rfl
         have HONE:=hide hone
         clear hone
         obtain⟨x0,b0,q0,xa0,xc0,ya0,yc0,hx0,hidx0,hev0⟩:=(HEV.out w11 HN11.out.gr).get Tryz.underlying24 z1p 0 hn1
         have hidx1:∀ wx,(Instr.indexAt 24 (.slice oa es.length ca)(.int .i64 0)).run Tryz.prog wx=.ok (.pointer (some⟨b0,q0,none⟩)) wx:=hidx0
         obtain⟨k0,k1,k2,k3,k4,k5,k6,k7,k8⟩:=hev0.cs
         obtain⟨t0,t1,t2,t3,t4,t5,t6,t7,t8⟩:=HE11.out.eb.ev
         have y0:=HE11.out.eb.free 0
         have y1:=HE11.out.eb.free 1
         have y2:=HE11.out.eb.free 2
         have y3:=HE11.out.eb.free 3
         have y4:=HE11.out.eb.free 4
         have y5:=HE11.out.eb.free 5
         have y6:=HE11.out.eb.free 6
         have y7:=HE11.out.eb.free 7
         have y8:=HE11.out.eb.free 8
         go_upto_region 26 with fail
         go_still_tail 16,(by kernel_rfl)
         go_upto_region 27 with fail
         obtain⟨wy,hwy,hEy,hgy⟩:=HE11.out.eb.all id 2 x0.sender x0.sender 2 e.depth (.slice none 0 0)(.slice oo pv.length co) []
         try rw [show (.string⟨#[]⟩:Value)=.string⟨([]:List UInt8).toArray⟩from rfl]
         rw [hwy]
         have hby:Below (w.heap.size+2) w11 wy:=(Below.refl _ _).grown hgy HN11.out.size (fun k hk=>by cases hk;exact HE11.out.hbe)
         have HNy:=hide ((HN11.out.on hby).on ((Below.refl (w.heap.size+2) wy).drew))
         have HEy:=hide ((show NxE w be (⟨id,2,x0.sender,x0.sender,2,[],[],e.prev,e.depth⟩:EvV)(.slice none 0 0)(.slice oo pv.length co) wy from⟨hEy,World.ownsRow_nil _ _ _ _,ze HE11.out.q hgy HE11.out.eb (by decide),by simp,HE11.out.fp,by simp,HE11.out.np,by simp,HE11.out.hbe⟩).on ((Below.refl wy.heap.size wy).drew))
         generalize wy.drew=wv at HNy HEy ⊢
         clear k0 k1 k2 k3 k4 k5 k6 k7 k8 t0 t1 t2 t3 t4 t5 t6 t7 t8 y0 y1 y2 y3 y4 y5 y6 y7 y8 hwy hEy hgy hby hx0 hidx0 hidx1 hev0
         skip
         obtain⟨t0,t1,t2,t3,t4,t5,t6,t7,t8⟩:=HEy.out.eb.ev
         obtain⟨q0,q1,q2,q3,q4,q5,q6,q7,q8⟩:=HNy.out.rr.ev
         have y0:=HNy.out.rr.free 0
         have y1:=HNy.out.rr.free 1
         have y2:=HNy.out.rr.free 2
         have y3:=HNy.out.rr.free 3
         have y4:=HNy.out.rr.free 4
         have y5:=HNy.out.rr.free 5
         have y6:=HNy.out.rr.free 6
         have y7:=HNy.out.rr.free 7
         have y8:=HNy.out.rr.free 8
         go_wp2_with fail
         obtain⟨wz,hwz,hEz,hgz⟩:=HNy.out.rr.all (⟨id,2,x0.sender,x0.sender,2,[],[],e.prev,e.depth⟩:EvV).id (⟨id,2,x0.sender,x0.sender,2,[],[],e.prev,e.depth⟩:EvV).kind (⟨id,2,x0.sender,x0.sender,2,[],[],e.prev,e.depth⟩:EvV).sender (⟨id,2,x0.sender,x0.sender,2,[],[],e.prev,e.depth⟩:EvV).user (⟨id,2,x0.sender,x0.sender,2,[],[],e.prev,e.depth⟩:EvV).member (⟨id,2,x0.sender,x0.sender,2,[],[],e.prev,e.depth⟩:EvV).depth (.slice none 0 0)(.slice oo pv.length co)(⟨id,2,x0.sender,x0.sender,2,[],[],e.prev,e.depth⟩:EvV).text
         try simp only at hwz hEz
         rw [hwz]
         clear t0 t1 t2 t3 t4 t5 t6 t7 t8 q0 q1 q2 q3 q4 q5 q6 q7 q8 y0 y1 y2 y3 y4 y5 y6 y7 y8
         obtain⟨t0,t1,t2,t3,t4,t5,t6,t7,t8⟩:=hEz.ev
         refine bodyPost_ret (v:=evv (⟨id,2,x0.sender,x0.sender,2,[],[],e.prev,e.depth⟩:EvV)(.slice none 0 0)(.slice oo pv.length co))(by simp [results,Tryz.results79,go_sem,t0,t1,t2,t3,t4,t5,t6,t7,t8]) rfl ?_
         have hbz:Below (w.heap.size+1) wv wz:=(Below.refl _ _).grown hgz (by have:=HNy.out.size;omega)(fun k hk=>by cases hk;omega)
         exact⟨(⟨id,2,x0.sender,x0.sender,2,[],[],e.prev,e.depth⟩:EvV),_,_,rfl,ze HEy.out.l hgz HNy.out.rr (by decide),ze HEy.out.q hgz HNy.out.rr (by decide),HEy.out.fl,HEy.out.fp,rfl,HEy.out.nl,HEy.out.np,HEy.out.tx,fun h=>absurd h HES.out,HNy.out.cur.kept (hbz.mono (by omega))(hbz.block p (by omega)),z02 HNy.out.gr (hbz.mono (by omega))⟩
        ·have g1:((es.length:Int) == 1)=false:=by rw [beq_eq_false_iff_ne];omega
         clear hone
         obtain⟨t0,t1,t2,t3,t4,t5,t6,t7,t8⟩:=HE11.out.eb.ev
         obtain⟨q0,q1,q2,q3,q4,q5,q6,q7,q8⟩:=HN11.out.rr.ev
         have y0:=HN11.out.rr.free 0
         have y1:=HN11.out.rr.free 1
         have y2:=HN11.out.rr.free 2
         have y3:=HN11.out.rr.free 3
         have y4:=HN11.out.rr.free 4
         have y5:=HN11.out.rr.free 5
         have y6:=HN11.out.rr.free 6
         have y7:=HN11.out.rr.free 7
         have y8:=HN11.out.rr.free 8
         go_wp2_with fail
         obtain⟨wz,hwz,hEz,hgz⟩:=HN11.out.rr.all e.id e.kind e.sender e.user e.member e.depth (.slice ox e.levels.length cx)(.slice oo pv.length co) e.text
         try simp only at hwz hEz
         rw [hwz]
         clear t0 t1 t2 t3 t4 t5 t6 t7 t8 q0 q1 q2 q3 q4 q5 q6 q7 q8 y0 y1 y2 y3 y4 y5 y6 y7 y8
         obtain⟨t0,t1,t2,t3,t4,t5,t6,t7,t8⟩:=hEz.ev
         refine bodyPost_ret (v:=evv e (.slice ox e.levels.length cx)(.slice oo pv.length co))(by simp [results,Tryz.results79,go_sem,t0,t1,t2,t3,t4,t5,t6,t7,t8]) rfl ?_
         have hbz:Below (w.heap.size+1) w11 wz:=(Below.refl _ _).grown hgz (by have:=HN11.out.size;omega)(fun k hk=>by cases hk;omega)
         exact⟨e,_,_,rfl,ze HE11.out.l hgz HN11.out.rr (by decide),ze HE11.out.q hgz HN11.out.rr (by decide),HE11.out.fl,HE11.out.fp,HID.out,HE11.out.nl,HE11.out.np,HE11.out.tx,fun h=>absurd h HES.out,HN11.out.cur.kept (hbz.mono (by omega))(hbz.block p (by omega)),z02 HN11.out.gr (hbz.mono (by omega))⟩
      ·have j60:¬ ((j2:Int) < 6):=by omega
       go_upto_region 25 with fail
       clear HAL
       have r0:=za HNS.out.r 0 rfl
       by_cases hone:es.length=1
       ·have g1:((es.length:Int) == 1)=true:=by rw [hone];rfl
        have HONE:=hide hone
        clear hone
        obtain⟨x0,b0,q0,xa0,xc0,ya0,yc0,hx0,hidx0,hev0⟩:=(HEV.out wr HNS.out.gr).get Tryz.underlying24 z1p 0 hn1
        have hidx1:∀ wx,(Instr.indexAt 24 (.slice oa es.length ca)(.int .i64 0)).run Tryz.prog wx=.ok (.pointer (some⟨b0,q0,none⟩)) wx:=hidx0
        obtain⟨k0,k1,k2,k3,k4,k5,k6,k7,k8⟩:=hev0.cs
        obtain⟨t0,t1,t2,t3,t4,t5,t6,t7,t8⟩:=HNE.out.eb.ev
        have y0:=HNE.out.eb.free 0
        have y1:=HNE.out.eb.free 1
        have y2:=HNE.out.eb.free 2
        have y3:=HNE.out.eb.free 3
        have y4:=HNE.out.eb.free 4
        have y5:=HNE.out.eb.free 5
        have y6:=HNE.out.eb.free 6
        have y7:=HNE.out.eb.free 7
        have y8:=HNE.out.eb.free 8
        go_upto_region 26 with fail
        go_still_tail 16,(by kernel_rfl)
        go_upto_region 27 with fail
        obtain⟨wy,hwy,hEy,hgy⟩:=HNE.out.eb.all id 2 x0.sender x0.sender 2 e.depth (.slice none 0 0)(.slice oo pv.length co) []
        try rw [show (.string⟨#[]⟩:Value)=.string⟨([]:List UInt8).toArray⟩from rfl]
        rw [hwy]
        have hby:Below (w.heap.size+2) wr wy:=(Below.refl _ _).grown hgy HNS.out.size (fun k hk=>by cases hk;exact HNE.out.hbe)
        have HNy:=hide ((HNS.out.on hby).on ((Below.refl (w.heap.size+2) wy).drew))
        have HEy:=hide ((show NxE w be (⟨id,2,x0.sender,x0.sender,2,[],[],e.prev,e.depth⟩:EvV)(.slice none 0 0)(.slice oo pv.length co) wy from⟨hEy,World.ownsRow_nil _ _ _ _,ze HNE.out.q hgy HNE.out.eb (by decide),by simp,HNE.out.fp,by simp,HNE.out.np,by simp,HNE.out.hbe⟩).on ((Below.refl wy.heap.size wy).drew))
        generalize wy.drew=wv at HNy HEy ⊢
        clear k0 k1 k2 k3 k4 k5 k6 k7 k8 t0 t1 t2 t3 t4 t5 t6 t7 t8 y0 y1 y2 y3 y4 y5 y6 y7 y8 hwy hEy hgy hby hx0 hidx0 hidx1 hev0
        skip
        obtain⟨t0,t1,t2,t3,t4,t5,t6,t7,t8⟩:=HEy.out.eb.ev
        obtain⟨q0,q1,q2,q3,q4,q5,q6,q7,q8⟩:=HNy.out.rr.ev
        have y0:=HNy.out.rr.free 0
        have y1:=HNy.out.rr.free 1
        have y2:=HNy.out.rr.free 2
        have y3:=HNy.out.rr.free 3
        have y4:=HNy.out.rr.free 4
        have y5:=HNy.out.rr.free 5
        have y6:=HNy.out.rr.free 6
        have y7:=HNy.out.rr.free 7
        have y8:=HNy.out.rr.free 8
        go_wp2_with fail
        obtain⟨wz,hwz,hEz,hgz⟩:=HNy.out.rr.all (⟨id,2,x0.sender,x0.sender,2,[],[],e.prev,e.depth⟩:EvV).id (⟨id,2,x0.sender,x0.sender,2,[],[],e.prev,e.depth⟩:EvV).kind (⟨id,2,x0.sender,x0.sender,2,[],[],e.prev,e.depth⟩:EvV).sender (⟨id,2,x0.sender,x0.sender,2,[],[],e.prev,e.depth⟩:EvV).user (⟨id,2,x0.sender,x0.sender,2,[],[],e.prev,e.depth⟩:EvV).member (⟨id,2,x0.sender,x0.sender,2,[],[],e.prev,e.depth⟩:EvV).depth (.slice none 0 0)(.slice oo pv.length co)(⟨id,2,x0.sender,x0.sender,2,[],[],e.prev,e.depth⟩:EvV).text
        try simp only at hwz hEz
        rw [hwz]
        clear t0 t1 t2 t3 t4 t5 t6 t7 t8 q0 q1 q2 q3 q4 q5 q6 q7 q8 y0 y1 y2 y3 y4 y5 y6 y7 y8
        obtain⟨t0,t1,t2,t3,t4,t5,t6,t7,t8⟩:=hEz.ev
        refine bodyPost_ret (v:=evv (⟨id,2,x0.sender,x0.sender,2,[],[],e.prev,e.depth⟩:EvV)(.slice none 0 0)(.slice oo pv.length co))(by simp [results,Tryz.results79,go_sem,t0,t1,t2,t3,t4,t5,t6,t7,t8]) rfl ?_
        have hbz:Below (w.heap.size+1) wv wz:=(Below.refl _ _).grown hgz (by have:=HNy.out.size;omega)(fun k hk=>by cases hk;omega)
        exact⟨(⟨id,2,x0.sender,x0.sender,2,[],[],e.prev,e.depth⟩:EvV),_,_,rfl,ze HEy.out.l hgz HNy.out.rr (by decide),ze HEy.out.q hgz HNy.out.rr (by decide),HEy.out.fl,HEy.out.fp,rfl,HEy.out.nl,HEy.out.np,HEy.out.tx,fun h=>absurd h HES.out,HNy.out.cur.kept (hbz.mono (by omega))(hbz.block p (by omega)),z02 HNy.out.gr (hbz.mono (by omega))⟩
       ·have g1:((es.length:Int) == 1)=false:=by rw [beq_eq_false_iff_ne];omega
        clear hone
        obtain⟨t0,t1,t2,t3,t4,t5,t6,t7,t8⟩:=HNE.out.eb.ev
        obtain⟨q0,q1,q2,q3,q4,q5,q6,q7,q8⟩:=HNS.out.rr.ev
        have y0:=HNS.out.rr.free 0
        have y1:=HNS.out.rr.free 1
        have y2:=HNS.out.rr.free 2
        have y3:=HNS.out.rr.free 3
        have y4:=HNS.out.rr.free 4
        have y5:=HNS.out.rr.free 5
        have y6:=HNS.out.rr.free 6
        have y7:=HNS.out.rr.free 7
        have y8:=HNS.out.rr.free 8
        go_wp2_with fail
        obtain⟨wz,hwz,hEz,hgz⟩:=HNS.out.rr.all e.id e.kind e.sender e.user e.member e.depth (.slice ox e.levels.length cx)(.slice oo pv.length co) e.text
        try simp only at hwz hEz
        rw [hwz]
        clear t0 t1 t2 t3 t4 t5 t6 t7 t8 q0 q1 q2 q3 q4 q5 q6 q7 q8 y0 y1 y2 y3 y4 y5 y6 y7 y8
        obtain⟨t0,t1,t2,t3,t4,t5,t6,t7,t8⟩:=hEz.ev
        refine bodyPost_ret (v:=evv e (.slice ox e.levels.length cx)(.slice oo pv.length co))(by simp [results,Tryz.results79,go_sem,t0,t1,t2,t3,t4,t5,t6,t7,t8]) rfl ?_
        have hbz:Below (w.heap.size+1) wr wz:=(Below.refl _ _).grown hgz (by have:=HNS.out.size;omega)(fun k hk=>by cases hk;omega)
        exact⟨e,_,_,rfl,ze HNE.out.l hgz HNS.out.rr (by decide),ze HNE.out.q hgz HNS.out.rr (by decide),HNE.out.fl,HNE.out.fp,HID.out,HNE.out.nl,HNE.out.np,HNE.out.tx,fun h=>absurd h HES.out,HNS.out.cur.kept (hbz.mono (by omega))(hbz.block p (by omega)),z02 HNS.out.gr (hbz.mono (by omega))⟩
    | true =>
     have r0:=za (HN4.out.drawn HC5.out HG5.out).r 0 rfl
     go_upto_region 13 with fail
     refine (fun (KEY:Hid ?G2)=>?main2)(hide ?key2)
     case main2 =>
      go_region_law (rw [if_pos (by rfl)];go_simp;go_at_call 66;refine (z1u B p a len cap es.length hn1 (by omega) _ (HC5.out.kept (Below.refl B w5).drew rfl)).mono ?_;rintro r w6⟨x6,hx6,rfl,hc6,hg6⟩;have hg56:w5.grownBy w6 (some p):=z9v hg6;have r06:=za (HN4.out.drawn hc6 (zm HG5.out hg56)).r 0 rfl;obtain⟨ev6,b6,q6,xa6,xc6,ya6,yc6,he6,hidx6,hev6⟩:=(HEV.out w6 (zm HN4.out.gr (zm HG5.out hg56))).get Tryz.underlying24 z1p x6 hx6;obtain⟨c60,c61,c62,c63,c64,c65,c66,c67,c68⟩:=hev6.cs;clear c61 c62 c63 c64 c65 c66 c67 c68 hev6)
      all_goals
       have HWE:=hide (show ∀ z∈[ev6.id],(Lit.int .i64 z).wf=true from fun z hz=>by simp at hz;subst hz;exact HIDS.out ev6 (List.mem_of_getElem? he6))
       have HB67:=hide (show Below w6.heap.size w6 (w6.alloc (.cells #[.int .i64 ev6.id] 3)) from (Below.refl _ _).alloc (Nat.le_refl _) _)
       have HG7:=hide (z02 (zm HG5.out hg56)(HB67.out.mono (zm HG5.out hg56).size))
       have hs46:=(zm HG5.out hg56).size
       have HC7:=hide (hc6.kept (HB67.out.mono (by omega))(HB67.out.block p (by omega)))
       have HO7:=hide (show (w6.alloc (.cells #[.int .i64 ev6.id] 3)).ownsRow w4.heap.size 3 1 (.slice (some⟨w6.heap.size,0,none⟩) 1 1)([ev6.id]:List Int).length (([ev6.id]:List Int).map zu) from World.ownsRow_lit (base:=w4.heap.size)(size:=1) w6 #[.int .i64 ev6.id] 1 hs46 (by decide)(by simp))
       clear r06 c60 hidx6 he6 hc6 hg6 hg56 HB67 hs46
       generalize w6.heap.size=s6 at HO7 ⊢
       generalize w6.alloc (.cells #[.int .i64 ev6.id] 3)=w66 at HG7 HC7 HO7 ⊢
       generalize ev6.id=z6 at HWE HO7 ⊢
       clear hx6
       revert HWE
       revert HO7
       revert HC7
       revert HG7
       revert w66
       revert s6
       revert z6
       revert x6
       revert b6
       revert q6
       exact KEY.out
     case key2 =>
      intro q6 b6 x6 z6 s6 w66 HG7 HC7 HO7 HWE
      have HP3:=hide (show ([z6]:List Int).length≤3 by simp)
      clear r0 HO5 HC5 HG5 HPF
      have HN6:=hide (HN4.out.drawn HC7.out HG7.out)
      have HE6:=hide (HE4.out.drawn HN4.out.hp HG7.out)
      obtain⟨t0,t1,t2,t3,t4,t5,t6,t7,t8⟩:=HE6.out.eb.ev
      have f7:=HE6.out.eb.free 7
      go_upto_region 15 with fail
      have hg7:=z01 w66 be 7 (.slice (some⟨s6,0,none⟩) 1 1)
      have hb7:Below (w.heap.size+2) w66 (w66.setCell⟨be,7,none⟩(.slice (some⟨s6,0,none⟩) 1 1)):=(Below.refl _ _).grown hg7 HN6.out.size (fun k hk=>by cases hk;exact HE6.out.hbe)
      have hE7:NxE w be (⟨id,kd,sn,us,mb,zl,tx,[z6],dp⟩:EvV)(.slice ol zl.length cl)(.slice (some⟨s6,0,none⟩) 1 1)(w66.setCell⟨be,7,none⟩(.slice (some⟨s6,0,none⟩) 1 1)):=⟨HE6.out.eb.put7 _,ze HE6.out.l hg7 HE6.out.eb (by decide),ze (zq HO7.out (by omega)) hg7 HE6.out.eb (by decide),HE6.out.fl,HWE.out,HE6.out.nl,HP3.out,HE6.out.tx,HE6.out.hbe⟩
      have HN7:=hide (HN6.out.on hb7)
      generalize w66.setCell⟨be,7,none⟩(.slice (some⟨s6,0,none⟩) 1 1)=w7 at hE7 HN7 ⊢
      have HE7:=hide hE7
      clear hE7 hb7 hg7 t0 t1 t2 t3 t4 t5 t6 t7 t8 f7 HE6 HN6
      have r0:=za HN7.out.r 0 rfl
      have r1:=za HN7.out.r 1 rfl
      have r2:=za HN7.out.r 2 rfl
      obtain⟨_,_,heo,hi7⟩:=z0e HE7.out.q HE7.out.fp
      cases heo
      replace hi7:IntsAt w7 (some⟨s6,0,none⟩) 1 1 [z6]:=hi7
      go_upto_region 16 with (go_at_call 125;(with_reducible refine (HDP.out _ HN7.out.gr _ _ _ _ hi7).mono ?_);rintro r w8⟨rfl,hb8⟩;have hE8:=HE7.out.on hb8;obtain⟨t0,t1,t2,t3,t4,t5,t6,t7,t8⟩:=hE8.eb.ev;have f8:=hE8.eb.free 8)
      have HN8:=hide (HN7.out.on (hb8.mono HN7.out.size))
      generalize z3r es _=D at *
      have hg9:=z01 w8 be 8 (.int .i64 D)
      have hb9:Below (w.heap.size+2) w8 (w8.setCell⟨be,8,none⟩(.int .i64 D)):=(Below.refl _ _).grown hg9 HN8.out.size (fun k hk=>by cases hk;exact hE8.hbe)
      have hE9:NxE w be (⟨id,kd,sn,us,mb,zl,tx,[z6],D⟩:EvV)(.slice ol zl.length cl)(.slice (some⟨s6,0,none⟩) 1 1)(w8.setCell⟨be,8,none⟩(.int .i64 D)):=⟨hE8.eb.put8 _,ze hE8.l hg9 hE8.eb (by decide),ze hE8.q hg9 hE8.eb (by decide),hE8.fl,hE8.fp,hE8.nl,hE8.np,hE8.tx,hE8.hbe⟩
      have HN9:=hide (HN8.out.on hb9)
      generalize w8.setCell⟨be,8,none⟩(.int .i64 D)=w9 at hE9 HN9 ⊢
      have HE9:=hide hE9
      clear hE9 hb9 hg9 t0 t1 t2 t3 t4 t5 t6 t7 t8 f8 hE8 HN8 HN7 HE7 hi7 r0 r1 r2 hb8
      have r0:=za HN9.out.r 0 rfl
      have r1:=za HN9.out.r 1 rfl
      have r2:=za HN9.out.r 2 rfl
      obtain⟨_,_,heo,hi9⟩:=z0e HE9.out.q HE9.out.fp
      cases heo
      replace hi9:IntsAt w9 (some⟨s6,0,none⟩) 1 1 [z6]:=hi9
      go_upto_region 17 with (go_at_call 87;(with_reducible refine (HBF.out _ HN9.out.gr _ _ _ _ (by first | decide | (have:=HP3.out;omega)) hi9).mono ?_);rintro r w10⟨v10,rfl,ho10,hb10⟩;obtain⟨os,cs,rfl⟩:=zb ho10)
      generalize (z2r es sts [z6]).getD []=SS at ho10 ⊢
      generalize (z2r es sts [z6]).isSome=bs
      have HS10:=hide (zq ho10 (show w.heap.size≤w9.heap.size by have:=HN9.out.size;omega))
      have HN10:=hide (HN9.out.on (hb10.mono HN9.out.size))
      have HE10:=hide (HE9.out.on hb10)
      clear ho10 hb10 hi9 r0 r1 r2 HN9 HE9
      go_wp2_with fail
      go_loopw [13] (fun i wr=>∃ (j:Nat)(e:EvV)(vl:Value),i=.int .i64 (j:Int)∧j≤6∧e.id=id∧e.prev.length=1∧NxS B p a len cap w (.slice oa es.length ca)(.slice so sts.length sc) vg wr∧NxE w be e vl (.slice (some⟨s6,0,none⟩) 1 1) wr∧wr.ownsRow w.heap.size 36 2 (.slice os SS.length cs) SS.length (SS.flatMap z06))(fun i _=>6 - (intOf i).toNat)
      case atStart=>exact⟨0,_,_,rfl,by omega,rfl,rfl,HN10.out,HE10.out,HS10.out⟩
      case round =>
       obtain⟨j2,e,vl,rfl,hj2,hid,hpm,hns,hne,hss⟩:=hrel
       obtain⟨ox,cx,rfl⟩:=zb hne.l
       have HNS:=hide hns
       have HNE:=hide hne
       have HSS:=hide hss
       have HID:=hide hid
       have HPM:=hide hpm
       obtain⟨_,_,heo,hil⟩:=z0e hne.l hne.fl
       cases heo
       obtain⟨_,_,heo,hiq⟩:=z0e hne.q hne.fp
       injection heo with ho1 ho2 ho3
       subst ho1
       subst ho3
       obtain⟨_,_,heo,his⟩:=z03 hss
       cases heo
       have htx:=hne.tx
       have HAL:=hide (z2h oa es.length ca es os SS.length cs SS e ox cx (some⟨s6,0,none⟩) 1 (by omega) wr⟨HEV.out wr hns.gr,his⟩hil hiq)
       rw [hpm] at HAL
       clear hns hne hss hid hil hiq his HN10 HE10 HS10 hpm ho2
       by_cases hlt6:j2 < 6
       ·have j60:(j2:Int) < 6:=by omega
        have r0:=za HNS.out.r 0 rfl
        obtain⟨t0,t1,t2,t3,t4,t5,t6,t7,t8⟩:=HNE.out.eb.ev
        generalize allowed es SS e=al at HAL
        cases al
        ·go_upto_region 20 with (go_at_call 55;(with_reducible refine HAL.out.mono ?_);rintro r w11⟨rfl,hb11⟩)
         have HN11:=hide (HNS.out.on (hb11.mono HNS.out.size))
         have HE11:=hide (HNE.out.on hb11)
         have HS11:=hide (own_below HSS.out hb11)
         clear hb11 r0 t0 t1 t2 t3 t4 t5 t6 t7 t8 HNS HNE HSS HAL
         have HC11:=hide HN11.out.cur
         have hs11:=HN11.out.size
         go_upto_region 21 with (go_at_call 124;refine (z3o B p a len cap _ (by omega) HC11.out).mono ?_;rintro r w12⟨id2,kd2,sn2,us2,mb2,dp2,vl2,vp2,tx2,n2,m2,zl2,zp2,rfl,hn52,hm02,htx2,hown2,hfl2,hfp2,hc12,hg12⟩;obtain⟨ol2,cl2,rfl⟩:=zb hown2.l;obtain⟨oq2,cq2,rfl⟩:=zb hown2.p)
         have hzl2:zl2.length=n2:=by have:=hown2.l.1;simpa using this
         have hzp2:zp2.length=m2:=by have:=hown2.p.1;simpa using this
         subst hzl2
         subst hzp2
         have HN12:=hide (HN11.out.drawn hc12 hg12)
         have HE12:=hide (HE11.out.drawn HN11.out.hp hg12)
         have HS12:=hide (HS11.out.kept hg12 (z13 HS11.out HN11.out.hp))
         have hs12:=HN12.out.size
         obtain⟨w13,hw13⟩:∃ w13,w12.alloc (.cells (zh id2 kd2 sn2 us2 mb2 dp2 (.slice ol2 zl2.length cl2)(.slice oq2 zp2.length cq2) tx2) 47)=w13:=⟨_,rfl⟩
         have hb13:Below w12.heap.size w12 w13:=by rw [← hw13];exact (Below.refl _ _).alloc (Nat.le_refl _) _
         have hB13:EB w13 w12.heap.size id2 kd2 sn2 us2 mb2 dp2 (.slice ol2 zl2.length cl2)(.slice oq2 zp2.length cq2) tx2:=by rw [← hw13];exact EB.new _ _ _ _ _ _ _ _ _ _
         rw [show w12.alloc (.cells #[.int .i64 id2,.int .i64 kd2,.int .i64 sn2,.int .i64 us2,.int .i64 mb2,.slice ol2 zl2.length cl2,.string⟨tx2.toArray⟩,.slice oq2 zp2.length cq2,.int .i64 dp2] 47)=w13 from hw13]
         have HN13:=hide (HN12.out.on (hb13.mono (by omega)))
         have HE13:=hide (HE12.out.on hb13)
         have HS13:=hide (own_below HS12.out hb13)
         have HL13:=hide (own_below (zq hown2.l (show w.heap.size≤w11.heap.size by omega)) hb13)
         have hbb:w.heap.size+2≤w12.heap.size:=by omega
         have hbne:be≠w12.heap.size:=by have:=HE12.out.eb.lt;omega
         generalize w12.heap.size=bb at hB13 hbb hbne ⊢
         have HB13:=hide hB13
         clear hw13 hb13 hB13 HN12 HE12 HS12 HN11 HE11 HS11 HC11 hown2 hc12 hg12
         obtain⟨t0,t1,t2,t3,t4,t5,t6,t7,t8⟩:=HE13.out.eb.ev
         obtain⟨u0,u1,u2,u3,u4,u5,u6,u7,u8⟩:=HB13.out.ev
         have f0:=HB13.out.free 0
         go_upto_region 22 with fail
         have hgg:=z01 w13 bb 0 (.int .i64 e.id)
         have hbl:Below (w.heap.size+2) w13 (w13.setCell⟨bb,0,none⟩(.int .i64 e.id)):=(Below.refl _ _).grown hgg HN13.out.size (fun k hk=>by cases hk;exact hbb)
         have HN14:=hide (HN13.out.on hbl)
         have HB14:=hide (HB13.out.put0 e.id)
         have HS14:=hide (ze HS13.out hgg HB13.out (by decide))
         have HL14:=hide (ze HL13.out hgg HB13.out (by decide))
         have HE14:=hide (show NxE w be e (.slice ox e.levels.length cx)(.slice (some⟨s6,0,none⟩) 1 1)(w13.setCell⟨bb,0,none⟩(.int .i64 e.id)) from⟨HE13.out.eb.kept hgg (fun q=>hbne (Option.some.inj q).symm),ze HE13.out.l hgg HB13.out (by decide),ze HE13.out.q hgg HB13.out (by decide),HE13.out.fl,HE13.out.fp,HE13.out.nl,HE13.out.np,HE13.out.tx,HE13.out.hbe⟩)
         generalize w13.setCell⟨bb,0,none⟩(.int .i64 e.id)=w14 at HN14 HB14 HS14 HL14 HE14 ⊢
         clear t0 t1 t2 t3 t4 t5 t6 t7 t8 u0 u1 u2 u3 u4 u5 u6 u7 u8 f0 hgg hbl HN13 HE13 HS13 HL13 HB13
         obtain⟨t0,t1,t2,t3,t4,t5,t6,t7,t8⟩:=HE14.out.eb.ev
         obtain⟨u0,u1,u2,u3,u4,u5,u6,u7,u8⟩:=HB14.out.ev
         have f7:=HB14.out.free 7
         go_upto_region 23 with fail
         have hgg:=z01 w14 bb 7 (.slice (some⟨s6,0,none⟩) 1 1)
         have hbl:Below (w.heap.size+2) w14 (w14.setCell⟨bb,7,none⟩(.slice (some⟨s6,0,none⟩) 1 1)):=(Below.refl _ _).grown hgg HN14.out.size (fun k hk=>by cases hk;exact hbb)
         have HN15:=hide (HN14.out.on hbl)
         have HB15:=hide (HB14.out.put7 (.slice (some⟨s6,0,none⟩) 1 1))
         have HS15:=hide (ze HS14.out hgg HB14.out (by decide))
         have HL15:=hide (ze HL14.out hgg HB14.out (by decide))
         have HE15:=hide (show NxE w be e (.slice ox e.levels.length cx)(.slice (some⟨s6,0,none⟩) 1 1)(w14.setCell⟨bb,7,none⟩(.slice (some⟨s6,0,none⟩) 1 1)) from⟨HE14.out.eb.kept hgg (fun q=>hbne (Option.some.inj q).symm),ze HE14.out.l hgg HB14.out (by decide),ze HE14.out.q hgg HB14.out (by decide),HE14.out.fl,HE14.out.fp,HE14.out.nl,HE14.out.np,HE14.out.tx,HE14.out.hbe⟩)
         generalize w14.setCell⟨bb,7,none⟩(.slice (some⟨s6,0,none⟩) 1 1)=w15 at HN15 HB15 HS15 HL15 HE15 ⊢
         clear t0 t1 t2 t3 t4 t5 t6 t7 t8 u0 u1 u2 u3 u4 u5 u6 u7 u8 f7 hgg hbl HN14 HE14 HS14 HL14 HB14
         obtain⟨t0,t1,t2,t3,t4,t5,t6,t7,t8⟩:=HE15.out.eb.ev
         obtain⟨u0,u1,u2,u3,u4,u5,u6,u7,u8⟩:=HB15.out.ev
         have f8:=HB15.out.free 8
         go_upto_region 24 with fail
         have hgg:=z01 w15 bb 8 (.int .i64 e.depth)
         have hbl:Below (w.heap.size+2) w15 (w15.setCell⟨bb,8,none⟩(.int .i64 e.depth)):=(Below.refl _ _).grown hgg HN15.out.size (fun k hk=>by cases hk;exact hbb)
         have HN16:=hide (HN15.out.on hbl)
         have HB16:=hide (HB15.out.put8 e.depth)
         have HS16:=hide (ze HS15.out hgg HB15.out (by decide))
         have HL16:=hide (ze HL15.out hgg HB15.out (by decide))
         have HE16:=hide (show NxE w be e (.slice ox e.levels.length cx)(.slice (some⟨s6,0,none⟩) 1 1)(w15.setCell⟨bb,8,none⟩(.int .i64 e.depth)) from⟨HE15.out.eb.kept hgg (fun q=>hbne (Option.some.inj q).symm),ze HE15.out.l hgg HB15.out (by decide),ze HE15.out.q hgg HB15.out (by decide),HE15.out.fl,HE15.out.fp,HE15.out.nl,HE15.out.np,HE15.out.tx,HE15.out.hbe⟩)
         generalize w15.setCell⟨bb,8,none⟩(.int .i64 e.depth)=w16 at HN16 HB16 HS16 HL16 HE16 ⊢
         clear t0 t1 t2 t3 t4 t5 t6 t7 t8 u0 u1 u2 u3 u4 u5 u6 u7 u8 f8 hgg hbl HN15 HE15 HS15 HL15 HB15
         obtain⟨t0,t1,t2,t3,t4,t5,t6,t7,t8⟩:=HE16.out.eb.ev
         obtain⟨u0,u1,u2,u3,u4,u5,u6,u7,u8⟩:=HB16.out.ev
         have y0:=HE16.out.eb.free 0
         have y1:=HE16.out.eb.free 1
         have y2:=HE16.out.eb.free 2
         have y3:=HE16.out.eb.free 3
         have y4:=HE16.out.eb.free 4
         have y5:=HE16.out.eb.free 5
         have y6:=HE16.out.eb.free 6
         have y7:=HE16.out.eb.free 7
         have y8:=HE16.out.eb.free 8
         go_wp2_with fail
         obtain⟨w17,hw17,hE17,hg17⟩:=HE16.out.eb.all e.id kd2 sn2 us2 mb2 e.depth (.slice ol2 zl2.length cl2)(.slice (some⟨s6,0,none⟩) 1 1) tx2
         rw [hw17]
         have hb17:Below (w.heap.size+2) w16 w17:=(Below.refl _ _).grown hg17 HN16.out.size (fun k hk=>by cases hk;exact HE16.out.hbe)
         have HN17:=hide (HN16.out.on hb17)
         have HE17:=hide (show NxE w be (⟨e.id,kd2,sn2,us2,mb2,zl2,tx2,e.prev,e.depth⟩:EvV)(.slice ol2 zl2.length cl2)(.slice (some⟨s6,0,none⟩) 1 1) w17 from⟨hE17,ze HL16.out hg17 HE16.out.eb (by decide),ze HE16.out.q hg17 HE16.out.eb (by decide),hfl2,HE16.out.fp,hn52,HE16.out.np,htx2,HE16.out.hbe⟩)
         have HS17:=hide (ze HS16.out hg17 HE16.out.eb (by decide))
         clear t0 t1 t2 t3 t4 t5 t6 t7 t8 u0 u1 u2 u3 u4 u5 u6 u7 u8 y0 y1 y2 y3 y4 y5 y6 y7 y8 hw17 hE17 hg17 hb17
         go_roundw
         case rel=>exact⟨j2+1,(⟨e.id,kd2,sn2,us2,mb2,zl2,tx2,e.prev,e.depth⟩:EvV),_,by go_num,by omega,HID.out,HPM.out,HN17.out,HE17.out,HS17.out⟩
         case measure=>simp [intOf];omega
        ·go_upto_region 25 with (go_at_call 55;(with_reducible refine HAL.out.mono ?_);rintro r w11⟨rfl,hb11⟩)
         have HN11:=hide (HNS.out.on (hb11.mono HNS.out.size))
         have HE11:=hide (HNE.out.on hb11)
         clear hb11 r0 t0 t1 t2 t3 t4 t5 t6 t7 t8 HNS HNE HSS HAL
         have r0:=za HN11.out.r 0 rfl
         by_cases hone:es.length=1
         ·have g1:((es.length:Int) == 1)=true:=by rw [hone];rfl
          have HONE:=hide hone
          clear hone
          obtain⟨x0,b0,q0,xa0,xc0,ya0,yc0,hx0,hidx0,hev0⟩:=(HEV.out w11 HN11.out.gr).get Tryz.underlying24 z1p 0 hn1
          have hidx1:∀ wx,(Instr.indexAt 24 (.slice oa es.length ca)(.int .i64 0)).run Tryz.prog wx=.ok (.pointer (some⟨b0,q0,none⟩)) wx:=hidx0
          obtain⟨k0,k1,k2,k3,k4,k5,k6,k7,k8⟩:=hev0.cs
          obtain⟨t0,t1,t2,t3,t4,t5,t6,t7,t8⟩:=HE11.out.eb.ev
          have y0:=HE11.out.eb.free 0
          have y1:=HE11.out.eb.free 1
          have y2:=HE11.out.eb.free 2
          have y3:=HE11.out.eb.free 3
          have y4:=HE11.out.eb.free 4
          have y5:=HE11.out.eb.free 5
          have y6:=HE11.out.eb.free 6
          have y7:=HE11.out.eb.free 7
          have y8:=HE11.out.eb.free 8
          go_upto_region 26 with fail
          go_still_tail 16,(by kernel_rfl)
          go_upto_region 27 with fail
          obtain⟨wy,hwy,hEy,hgy⟩:=HE11.out.eb.all id 2 x0.sender x0.sender 2 e.depth (.slice none 0 0)(.slice (some⟨s6,0,none⟩) 1 1) []
          try rw [show (.string⟨#[]⟩:Value)=.string⟨([]:List UInt8).toArray⟩from rfl]
          rw [hwy]
          have hby:Below (w.heap.size+2) w11 wy:=(Below.refl _ _).grown hgy HN11.out.size (fun k hk=>by cases hk;exact HE11.out.hbe)
          have HNy:=hide ((HN11.out.on hby).on ((Below.refl (w.heap.size+2) wy).drew))
          have HEy:=hide ((show NxE w be (⟨id,2,x0.sender,x0.sender,2,[],[],e.prev,e.depth⟩:EvV)(.slice none 0 0)(.slice (some⟨s6,0,none⟩) 1 1) wy from⟨hEy,World.ownsRow_nil _ _ _ _,ze HE11.out.q hgy HE11.out.eb (by decide),by simp,HE11.out.fp,by simp,HE11.out.np,by simp,HE11.out.hbe⟩).on ((Below.refl wy.heap.size wy).drew))
          generalize wy.drew=wv at HNy HEy ⊢
          clear k0 k1 k2 k3 k4 k5 k6 k7 k8 t0 t1 t2 t3 t4 t5 t6 t7 t8 y0 y1 y2 y3 y4 y5 y6 y7 y8 hwy hEy hgy hby hx0 hidx0 hidx1 hev0
          skip
          obtain⟨t0,t1,t2,t3,t4,t5,t6,t7,t8⟩:=HEy.out.eb.ev
          obtain⟨q0,q1,q2,q3,q4,q5,q6,q7,q8⟩:=HNy.out.rr.ev
          have y0:=HNy.out.rr.free 0
          have y1:=HNy.out.rr.free 1
          have y2:=HNy.out.rr.free 2
          have y3:=HNy.out.rr.free 3
          have y4:=HNy.out.rr.free 4
          have y5:=HNy.out.rr.free 5
          have y6:=HNy.out.rr.free 6
          have y7:=HNy.out.rr.free 7
          have y8:=HNy.out.rr.free 8
          go_wp2_with fail
          obtain⟨wz,hwz,hEz,hgz⟩:=HNy.out.rr.all (⟨id,2,x0.sender,x0.sender,2,[],[],e.prev,e.depth⟩:EvV).id (⟨id,2,x0.sender,x0.sender,2,[],[],e.prev,e.depth⟩:EvV).kind (⟨id,2,x0.sender,x0.sender,2,[],[],e.prev,e.depth⟩:EvV).sender (⟨id,2,x0.sender,x0.sender,2,[],[],e.prev,e.depth⟩:EvV).user (⟨id,2,x0.sender,x0.sender,2,[],[],e.prev,e.depth⟩:EvV).member (⟨id,2,x0.sender,x0.sender,2,[],[],e.prev,e.depth⟩:EvV).depth (.slice none 0 0)(.slice (some⟨s6,0,none⟩) 1 1)(⟨id,2,x0.sender,x0.sender,2,[],[],e.prev,e.depth⟩:EvV).text
          try simp only at hwz hEz
          rw [hwz]
          clear t0 t1 t2 t3 t4 t5 t6 t7 t8 q0 q1 q2 q3 q4 q5 q6 q7 q8 y0 y1 y2 y3 y4 y5 y6 y7 y8
          obtain⟨t0,t1,t2,t3,t4,t5,t6,t7,t8⟩:=hEz.ev
          refine bodyPost_ret (v:=evv (⟨id,2,x0.sender,x0.sender,2,[],[],e.prev,e.depth⟩:EvV)(.slice none 0 0)(.slice (some⟨s6,0,none⟩) 1 1))(by simp [results,Tryz.results79,go_sem,t0,t1,t2,t3,t4,t5,t6,t7,t8]) rfl ?_
          have hbz:Below (w.heap.size+1) wv wz:=(Below.refl _ _).grown hgz (by have:=HNy.out.size;omega)(fun k hk=>by cases hk;omega)
          exact⟨(⟨id,2,x0.sender,x0.sender,2,[],[],e.prev,e.depth⟩:EvV),_,_,rfl,ze HEy.out.l hgz HNy.out.rr (by decide),ze HEy.out.q hgz HNy.out.rr (by decide),HEy.out.fl,HEy.out.fp,rfl,HEy.out.nl,HEy.out.np,HEy.out.tx,fun h=>absurd h HES.out,HNy.out.cur.kept (hbz.mono (by omega))(hbz.block p (by omega)),z02 HNy.out.gr (hbz.mono (by omega))⟩
         ·have g1:((es.length:Int) == 1)=false:=by rw [beq_eq_false_iff_ne];omega
          clear hone
          obtain⟨t0,t1,t2,t3,t4,t5,t6,t7,t8⟩:=HE11.out.eb.ev
          obtain⟨q0,q1,q2,q3,q4,q5,q6,q7,q8⟩:=HN11.out.rr.ev
          have y0:=HN11.out.rr.free 0
          have y1:=HN11.out.rr.free 1
          have y2:=HN11.out.rr.free 2
          have y3:=HN11.out.rr.free 3
          have y4:=HN11.out.rr.free 4
          have y5:=HN11.out.rr.free 5
          have y6:=HN11.out.rr.free 6
          have y7:=HN11.out.rr.free 7
          have y8:=HN11.out.rr.free 8
          go_wp2_with fail
          obtain⟨wz,hwz,hEz,hgz⟩:=HN11.out.rr.all e.id e.kind e.sender e.user e.member e.depth (.slice ox e.levels.length cx)(.slice (some⟨s6,0,none⟩) 1 1) e.text
          try simp only at hwz hEz
          rw [hwz]
          clear t0 t1 t2 t3 t4 t5 t6 t7 t8 q0 q1 q2 q3 q4 q5 q6 q7 q8 y0 y1 y2 y3 y4 y5 y6 y7 y8
          obtain⟨t0,t1,t2,t3,t4,t5,t6,t7,t8⟩:=hEz.ev
          refine bodyPost_ret (v:=evv e (.slice ox e.levels.length cx)(.slice (some⟨s6,0,none⟩) 1 1))(by simp [results,Tryz.results79,go_sem,t0,t1,t2,t3,t4,t5,t6,t7,t8]) rfl ?_
          have hbz:Below (w.heap.size+1) w11 wz:=(Below.refl _ _).grown hgz (by have:=HN11.out.size;omega)(fun k hk=>by cases hk;omega)
          exact⟨e,_,_,rfl,ze HE11.out.l hgz HN11.out.rr (by decide),ze HE11.out.q hgz HN11.out.rr (by decide),HE11.out.fl,HE11.out.fp,HID.out,HE11.out.nl,HE11.out.np,HE11.out.tx,fun h=>absurd h HES.out,HN11.out.cur.kept (hbz.mono (by omega))(hbz.block p (by omega)),z02 HN11.out.gr (hbz.mono (by omega))⟩
       ·have j60:¬ ((j2:Int) < 6):=by omega
        go_upto_region 25 with fail
        clear HAL
        have r0:=za HNS.out.r 0 rfl
        by_cases hone:es.length=1
        ·have g1:((es.length:Int) == 1)=true:=by rw [hone];rfl
         have HONE:=hide hone
         clear hone
         obtain⟨x0,b0,q0,xa0,xc0,ya0,yc0,hx0,hidx0,hev0⟩:=(HEV.out wr HNS.out.gr).get Tryz.underlying24 z1p 0 hn1
         have hidx1:∀ wx,(Instr.indexAt 24 (.slice oa es.length ca)(.int .i64 0)).run Tryz.prog wx=.ok (.pointer (some⟨b0,q0,none⟩)) wx:=hidx0
         obtain⟨k0,k1,k2,k3,k4,k5,k6,k7,k8⟩:=hev0.cs
         obtain⟨t0,t1,t2,t3,t4,t5,t6,t7,t8⟩:=HNE.out.eb.ev
         have y0:=HNE.out.eb.free 0
         have y1:=HNE.out.eb.free 1
         have y2:=HNE.out.eb.free 2
         have y3:=HNE.out.eb.free 3
         have y4:=HNE.out.eb.free 4
         have y5:=HNE.out.eb.free 5
         have y6:=HNE.out.eb.free 6
         have y7:=HNE.out.eb.free 7
         have y8:=HNE.out.eb.free 8
         go_upto_region 26 with fail
         go_still_tail 16,(by kernel_rfl)
         go_upto_region 27 with fail
         obtain⟨wy,hwy,hEy,hgy⟩:=HNE.out.eb.all id 2 x0.sender x0.sender 2 e.depth (.slice none 0 0)(.slice (some⟨s6,0,none⟩) 1 1) []
         try rw [show (.string⟨#[]⟩:Value)=.string⟨([]:List UInt8).toArray⟩from rfl]
         rw [hwy]
         have hby:Below (w.heap.size+2) wr wy:=(Below.refl _ _).grown hgy HNS.out.size (fun k hk=>by cases hk;exact HNE.out.hbe)
         have HNy:=hide ((HNS.out.on hby).on ((Below.refl (w.heap.size+2) wy).drew))
         have HEy:=hide ((show NxE w be (⟨id,2,x0.sender,x0.sender,2,[],[],e.prev,e.depth⟩:EvV)(.slice none 0 0)(.slice (some⟨s6,0,none⟩) 1 1) wy from⟨hEy,World.ownsRow_nil _ _ _ _,ze HNE.out.q hgy HNE.out.eb (by decide),by simp,HNE.out.fp,by simp,HNE.out.np,by simp,HNE.out.hbe⟩).on ((Below.refl wy.heap.size wy).drew))
         generalize wy.drew=wv at HNy HEy ⊢
         clear k0 k1 k2 k3 k4 k5 k6 k7 k8 t0 t1 t2 t3 t4 t5 t6 t7 t8 y0 y1 y2 y3 y4 y5 y6 y7 y8 hwy hEy hgy hby hx0 hidx0 hidx1 hev0
         skip
         obtain⟨t0,t1,t2,t3,t4,t5,t6,t7,t8⟩:=HEy.out.eb.ev
         obtain⟨q0,q1,q2,q3,q4,q5,q6,q7,q8⟩:=HNy.out.rr.ev
         have y0:=HNy.out.rr.free 0
         have y1:=HNy.out.rr.free 1
         have y2:=HNy.out.rr.free 2
         have y3:=HNy.out.rr.free 3
         have y4:=HNy.out.rr.free 4
         have y5:=HNy.out.rr.free 5
         have y6:=HNy.out.rr.free 6
         have y7:=HNy.out.rr.free 7
         have y8:=HNy.out.rr.free 8
         go_wp2_with fail
         obtain⟨wz,hwz,hEz,hgz⟩:=HNy.out.rr.all (⟨id,2,x0.sender,x0.sender,2,[],[],e.prev,e.depth⟩:EvV).id (⟨id,2,x0.sender,x0.sender,2,[],[],e.prev,e.depth⟩:EvV).kind (⟨id,2,x0.sender,x0.sender,2,[],[],e.prev,e.depth⟩:EvV).sender (⟨id,2,x0.sender,x0.sender,2,[],[],e.prev,e.depth⟩:EvV).user (⟨id,2,x0.sender,x0.sender,2,[],[],e.prev,e.depth⟩:EvV).member (⟨id,2,x0.sender,x0.sender,2,[],[],e.prev,e.depth⟩:EvV).depth (.slice none 0 0)(.slice (some⟨s6,0,none⟩) 1 1)(⟨id,2,x0.sender,x0.sender,2,[],[],e.prev,e.depth⟩:EvV).text
         try simp only at hwz hEz
         rw [hwz]
         clear t0 t1 t2 t3 t4 t5 t6 t7 t8 q0 q1 q2 q3 q4 q5 q6 q7 q8 y0 y1 y2 y3 y4 y5 y6 y7 y8
         obtain⟨t0,t1,t2,t3,t4,t5,t6,t7,t8⟩:=hEz.ev
         refine bodyPost_ret (v:=evv (⟨id,2,x0.sender,x0.sender,2,[],[],e.prev,e.depth⟩:EvV)(.slice none 0 0)(.slice (some⟨s6,0,none⟩) 1 1))(by simp [results,Tryz.results79,go_sem,t0,t1,t2,t3,t4,t5,t6,t7,t8]) rfl ?_
         have hbz:Below (w.heap.size+1) wv wz:=(Below.refl _ _).grown hgz (by have:=HNy.out.size;omega)(fun k hk=>by cases hk;omega)
         exact⟨(⟨id,2,x0.sender,x0.sender,2,[],[],e.prev,e.depth⟩:EvV),_,_,rfl,ze HEy.out.l hgz HNy.out.rr (by decide),ze HEy.out.q hgz HNy.out.rr (by decide),HEy.out.fl,HEy.out.fp,rfl,HEy.out.nl,HEy.out.np,HEy.out.tx,fun h=>absurd h HES.out,HNy.out.cur.kept (hbz.mono (by omega))(hbz.block p (by omega)),z02 HNy.out.gr (hbz.mono (by omega))⟩
        ·have g1:((es.length:Int) == 1)=false:=by rw [beq_eq_false_iff_ne];omega
         clear hone
         obtain⟨t0,t1,t2,t3,t4,t5,t6,t7,t8⟩:=HNE.out.eb.ev
         obtain⟨q0,q1,q2,q3,q4,q5,q6,q7,q8⟩:=HNS.out.rr.ev
         have y0:=HNS.out.rr.free 0
         have y1:=HNS.out.rr.free 1
         have y2:=HNS.out.rr.free 2
         have y3:=HNS.out.rr.free 3
         have y4:=HNS.out.rr.free 4
         have y5:=HNS.out.rr.free 5
         have y6:=HNS.out.rr.free 6
         have y7:=HNS.out.rr.free 7
         have y8:=HNS.out.rr.free 8
         go_wp2_with fail
         obtain⟨wz,hwz,hEz,hgz⟩:=HNS.out.rr.all e.id e.kind e.sender e.user e.member e.depth (.slice ox e.levels.length cx)(.slice (some⟨s6,0,none⟩) 1 1) e.text
         try simp only at hwz hEz
         rw [hwz]
         clear t0 t1 t2 t3 t4 t5 t6 t7 t8 q0 q1 q2 q3 q4 q5 q6 q7 q8 y0 y1 y2 y3 y4 y5 y6 y7 y8
         obtain⟨t0,t1,t2,t3,t4,t5,t6,t7,t8⟩:=hEz.ev
         refine bodyPost_ret (v:=evv e (.slice ox e.levels.length cx)(.slice (some⟨s6,0,none⟩) 1 1))(by simp [results,Tryz.results79,go_sem,t0,t1,t2,t3,t4,t5,t6,t7,t8]) rfl ?_
         have hbz:Below (w.heap.size+1) wr wz:=(Below.refl _ _).grown hgz (by have:=HNS.out.size;omega)(fun k hk=>by cases hk;omega)
         exact⟨e,_,_,rfl,ze HNE.out.l hgz HNS.out.rr (by decide),ze HNE.out.q hgz HNS.out.rr (by decide),HNE.out.fl,HNE.out.fp,HID.out,HNE.out.nl,HNE.out.np,HNE.out.tx,fun h=>absurd h HES.out,HNS.out.cur.kept (hbz.mono (by omega))(hbz.block p (by omega)),z02 HNS.out.gr (hbz.mono (by omega))⟩

end Go.Proofs.YtgebcpkpdbdfoaaGreat
