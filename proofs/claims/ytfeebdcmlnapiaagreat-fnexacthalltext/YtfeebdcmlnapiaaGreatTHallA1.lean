/-
  Walks.
-/
import Derived.Test.YtfeebdcmlnapiaaGreatTSess1
import Derived.Test.YtfeebdcmlnapiaaGreatTTwo1
set_option maxRecDepth 100000
set_option maxHeartbeats 8000000
set_option linter.unusedVariables false
set_option linter.unusedSimpArgs false
namespace Go.Proofs.YtfeebdcmlnapiaaGreat
open Go.RowKit Go.Deep Go.ChangeShapes Go.WideShapes P1 P5 P9 P11 P12 P14 K
section
variable {H:Type} {enc:TypeId × Value→H} {W:World}

theorem y2o {fuel:Nat} {cs:Zvs} {x:DataW H × List MemPlace} (h:DataW.trod enc Tryz.prog W 0 (fun _=>true) true fuel 60 cs=some x) :
  ∃ (oa:Zoa) (n cap:Nat) (zs:Zin),cs=[.slice oa n cap]∧IntsAt W oa n cap zs:=by
 rcases open_ints Tryz.underlying60 Tryz.underlying3 (by kernel_rfl) h with ⟨hcs,_⟩|⟨x,l,c,zs,hcs,_,hl,hm,hz,_,hcell,hwz⟩
 ·exact⟨none,0,0,[],hcs,z3p W⟩
 ·exact⟨some x,l,c,zs.take l,hcs,zn9 hl hm (by simpa using hz) hcell hwz⟩

theorem y2w {fuel:Nat} {cs:Zvs} {x:DataW H × List MemPlace} (h:DataW.trod enc Tryz.prog W 0 (fun _=>true) true fuel 143 cs=some x) :
  ∃ (r:OutR) (zs:Zin),cs=y0b r∧r.n=zs.length∧IntsAt W r.oa r.n r.cap zs:=by
 have ce:Tryz.prog.cellsOf 143=3:=by kernel_rfl
 obtain⟨xs,n,_,_,hlen,hxl,hff⟩:=DataW.trod_struct Tryz.underlying143 h
 rw[ce] at hlen
 obtain⟨v0,v1,v2,rfl⟩:∃ a b c,cs=[a,b,c]:=by
  match cs,hlen with
  | [a,b,c],_=>exact⟨a,b,c,rfl⟩
 have g0:=hff 0 _ rfl
 have g1:=hff 1 _ rfl
 have g2:=hff 2 _ rfl
 have cI:Tryz.prog.cellsOf 3=1:=by kernel_rfl
 have cL:Tryz.prog.cellsOf 60=1:=by kernel_rfl
 match xs,hxl with
 | [y0,y1,y2],_ =>
  simp[cI,cL] at g0 g1 g2
  obtain⟨k0,e0,_,m0⟩:=DataW.trod_int Tryz.underlying3 g0
  obtain⟨k1,e1,_,m1⟩:=DataW.trod_int Tryz.underlying3 g1
  obtain⟨oa,n,cap,zs,e2,hat⟩:=y2o g2
  cases e0;cases e1;cases e2
  exact⟨⟨k0,k1,oa,n,cap⟩,zs,rfl,hat.len.symm,hat⟩

theorem y2p {fuel:Nat} {cs:Zvs} {x:DataW H × List MemPlace} (h:DataW.trod enc Tryz.prog W 0 (fun _=>true) true fuel 37 cs=some x) :
  ∃ (oa:Zoa) (n cap:Nat) (os:List OutX),cs=[.slice oa n cap]∧OutsAt W oa n cap os∧∀ x∈os,∀ z∈x.ids,(Lit.int .i64 z).wf=true:=by
 have ce:Tryz.prog.cellsOf 143=3:=by kernel_rfl
 rcases open_slice Tryz.underlying37 h with h0|⟨a,len,cap,m,n,D,Pl,rfl,hb,hl,hm,hmm,_,hx⟩
 ·exact⟨none,0,0,[],h0.1,⟨rfl,[],RowsAt.nil W none 0 (by unfold maxLen;omega),fun i r x hr=>by simp at hr⟩,fun s hs=>by simp at hs⟩
 ·have each:∀ i,i<len→∃ q:OutR × Zin,(∀ j,j<3→W.cell? (a.add (i * 3+j))=(y0b q.1)[j]?)∧q.1.n=q.2.length∧IntsAt W q.1.oa q.1.n q.1.cap q.2:=by
   intro i hi
   obtain⟨cs',h1,h2⟩:=hx i (by rw[hmm];simp;omega)
   rw[ce] at h1
   obtain⟨_,_,hcell⟩:=World.cells?_some h1
   obtain⟨r,zs,rfl,hn,hat⟩:=y2w h2
   refine⟨(r,zs),fun j hj=>?_,hn,hat⟩
   have:=hcell j (by omega)
   rw[add_add] at this
   exact this
  have:Inhabited (OutR × Zin):=⟨(⟨0,0,none,0,0⟩,[])⟩
  obtain⟨F,hF⟩:=choose_lt each
  have hsp:0<len→a.spot=none:=fun h0=>by
   have q1:=(hF 0 h0).1 0 (by omega)
   have q2:W.cell? a=some (.int .i64 (F 0).1.d):=by simpa [Addr.add,y0b] using q1
   exact cell_spot q2
  refine⟨some a,len,cap,(List.range len).map fun i=>⟨(F i).1.d,(F i).1.a,(F i).2⟩,rfl,⟨by simp,(List.range len).map fun i=>(F i).1,⟨by simp,hl,hm,fun i r hr=>?_⟩,fun i r x hr hx=>?_⟩,fun s hs=>?_⟩
  ·have hi:i<len:=by simpa using (zGi.1 hr).1
   have hfe:(F i).1=r:=by simpa [hi] using hr
   obtain⟨k1,_,_⟩:=hF i hi
   have hs:=hsp (by omega)
   obtain⟨b,o,sp⟩:=a
   simp only at hs
   subst hs
   subst hfe
   refine⟨b,o,rfl,fun j u hu=>?_⟩
   have hj:j<3:=by have:=(zGi.1 hu).1;simpa [y0a] using this
   have:=k1 j hj
   rw[Addr.add_mid,hu] at this
   rw[← this,Nat.add_assoc]
  ·have hi:i<len:=by simpa using (zGi.1 hr).1
   have hfe:(F i).1=r:=by simpa [hi] using hr
   have hxe:(⟨(F i).1.d,(F i).1.a,(F i).2⟩:OutX)=x:=by simpa [hi] using hx
   obtain⟨_,k2,k3⟩:=hF i hi
   subst hfe hxe
   exact⟨rfl,rfl,k2,k3⟩
  ·obtain⟨i,hi,rfl⟩:=List.mem_map.1 hs
   exact (hF i (by simpa using hi)).2.2.fits

theorem y1g {fuel:Nat} {cs:Zvs} {x:DataW H × List MemPlace} (h:DataW.trod enc Tryz.prog W 0 (fun _=>true) true fuel 36 cs=some x) :
  ∃ (oa:Zoa) (n cap:Nat) (ps:List SesV),cs=[.slice oa n cap]∧y0d W oa n cap ps∧∀ f∈ps,y0c f:=by
 rcases y2k (tS:=9) (tI:=3) Tryz.underlying36 Tryz.underlying141 Tryz.underlying9 Tryz.underlying3 rfl rfl rfl rfl rfl rfl (by kernel_rfl) (by kernel_rfl) (by kernel_rfl) h with h0|⟨a,len,cap,F,rfl,hl,hm,hF⟩
 ·exact⟨none,0,0,[],h0,RowsAt.nil W none 0 (by unfold maxLen;omega),fun f hf=>by simp at hf⟩
 ·obtain⟨h1,h2⟩:=y1j hl hm hF
  exact⟨some a,len,cap,_,rfl,h1,h2⟩

theorem y2q {fuel:Nat} {c0 c1 c2:Value} {x:DataW H × List MemPlace} (h:DataW.trod enc Tryz.prog W 0 (fun _=>true) true fuel 26 [c0,c1,c2]=some x) :
  ∃ (oa:Zoa) (n cap:Nat) (es:List EvV) (so:Zoa) (sn sc:Nat) (ss:Zis) (go:Zoa) (gn gc:Nat) (gs:List Bool),c0=.slice oa n cap∧c1=.slice so sn sc∧c2=.slice go gn gc∧EvsAt W oa n cap es∧(∀ e∈es,(Lit.int .i64 e.id).wf=true)∧StsAt W so sn sc ss∧(∀ s∈ss,∀ y∈s,z3d y)∧BoolsAt W go gn gc gs:=by
 obtain⟨xs,n,_,_,_,hxl,hff⟩:=DataW.trod_struct Tryz.underlying26 h
 have k1:Tryz.prog.cellsOf 22=1:=by kernel_rfl
 have k2:Tryz.prog.cellsOf 23=1:=by kernel_rfl
 have k3:Tryz.prog.cellsOf 24=1:=by kernel_rfl
 have g0:=hff 0 _ rfl
 have g1:=hff 1 _ rfl
 have g2:=hff 2 _ rfl
 match xs,hxl with
 | [y0,y1,y2],_ =>
  simp[k1,k2,k3] at g0 g1 g2
  obtain⟨oa,n0,cap0,es,e0,hev⟩:=zg1 (tS:=9) (tI:=3) (tL:=60) Tryz.underlying22 Tryz.underlying124 Tryz.underlying9 Tryz.underlying3 Tryz.underlying60 rfl rfl rfl rfl rfl rfl rfl rfl rfl rfl rfl rfl rfl rfl rfl rfl rfl rfl (by kernel_rfl) (by kernel_rfl) (by kernel_rfl) (by kernel_rfl) g0
  obtain⟨so,sn,sc,ss,e1,hst,hsw⟩:=zh2 (tI:=3) Tryz.underlying23 Tryz.underlying126 Tryz.underlying175 Tryz.underlying3 rfl rfl rfl rfl (by kernel_rfl) (by kernel_rfl) (by kernel_rfl) g1
  obtain⟨go,gn,gc,gs,e2,hgs⟩:=open_bools Tryz.underlying24 Tryz.underlying4 (by kernel_rfl) g2
  have hwd:=zh1 (tI:=3) Tryz.underlying22 Tryz.underlying124 rfl Tryz.underlying3 rfl rfl (by kernel_rfl) (by kernel_rfl) g0 e0 hev
  cases e0;cases e1;cases e2
  exact⟨_,_,_,es,_,_,_,ss,_,_,_,gs,rfl,rfl,rfl,hev,hwd,hst,hsw,hgs⟩
end

abbrev y0g (pa:Zoa) (pn pc:Nat) (oa:Zoa) (n cap:Nat) (so:Zoa) (sn sc:Nat) (go:Zoa) (gn gc:Nat) (qa:Zoa) (qn qc:Nat):Value:=.agg #[.slice pa pn pc,.slice oa n cap,.slice so sn sc,.slice go gn gc,.slice qa qn qc]

structure HallAt (w:World) (pa:Zoa) (pn pc:Nat) (oa:Zoa) (n cap:Nat) (so:Zoa) (sn sc:Nat) (go:Zoa) (gn gc:Nat) (qa:Zoa) (qn qc:Nat) (ps:List SesV) (es:List EvV) (ss:Zis) (gs:List Bool) (os:List OutX):Prop where
 p:y0d w pa pn pc ps
 e:EvsAt w oa n cap es
 s:StsAt w so sn sc ss
 g:BoolsAt w go gn gc gs
 o:OutsAt w qa qn qc os

theorem HallAt.below {w w':World} {pa:Zoa} {pn pc:Nat} {oa:Zoa} {n cap:Nat} {so:Zoa} {sn sc:Nat} {go:Zoa} {gn gc:Nat} {qa:Zoa} {qn qc:Nat} {ps:List SesV} {es:List EvV} {ss:Zis} {gs:List Bool} {os:List OutX} (h:HallAt w pa pn pc oa n cap so sn sc go gn gc qa qn qc ps es ss gs os) (hb:Bw w w'):HallAt w' pa pn pc oa n cap so sn sc go gn gc qa qn qc ps es ss gs os :=
 ⟨h.p.below hb,h.e.below hb,h.s.below hb,h.g.below hb,h.o.below hb⟩

structure y0h (ps:List SesV) (es:List EvV) (ss:Zis) (os:List OutX):Prop where
 p:∀ f∈ps,y0c f
 e:∀ e∈es,(Lit.int .i64 e.id).wf=true
 s:∀ s∈ss,∀ y∈s,z3d y
 o:∀ x∈os,∀ z∈x.ids,(Lit.int .i64 z).wf=true

theorem y30 {H:Type} {enc:TypeId × Value→H} {W:World} {r:Reach} {b0:Nat} {v:Value} {d:DataW H} {p:List MemPlace} (hv:Value.okWide Tryz.prog W r b0 39 v) (h:DataW.Trod enc Tryz.prog W 0 (fun _=>true) true 39 v d p) :
  ∃ (pa:Zoa) (pn pc:Nat) (oa:Zoa) (n cap:Nat) (so:Zoa) (sn sc:Nat) (go:Zoa) (gn gc:Nat) (qa:Zoa) (qn qc:Nat) (ps:List SesV) (es:List EvV) (ss:Zis) (gs:List Bool) (os:List OutX),v=y0g pa pn pc oa n cap so sn sc go gn gc qa qn qc∧HallAt W pa pn pc oa n cap so sn sc go gn gc qa qn qc ps es ss gs os∧y0h ps es ss os:=by
 have hD:=Tryz.underlying39
 obtain⟨cs,rfl,hsz⟩:=okWide_struct hD hv
 have cD:Tryz.prog.cellsOf 39=5:=by kernel_rfl
 have k1:Tryz.prog.cellsOf 36=1:=by kernel_rfl
 have k2:Tryz.prog.cellsOf 26=3:=by kernel_rfl
 have k3:Tryz.prog.cellsOf 37=1:=by kernel_rfl
 rw[cD] at hsz
 obtain⟨c0,c1,c2,c3,c4,rfl⟩:∃ a b c d e,cs=#[a,b,c,d,e]:=by
  obtain⟨l⟩:=cs
  match l,hsz with
  | [a,b,c,d,e],_=>exact⟨a,b,c,d,e,rfl⟩
 obtain⟨fuel,hf⟩:=h
 obtain⟨xs,n,_,_,_,hxl,hff⟩:=DataW.trod_struct hD hf
 have g0:=hff 0 _ rfl
 have g1:=hff 1 _ rfl
 have g2:=hff 2 _ rfl
 match xs,hxl with
 | [y0,y1,y2],_ =>
  simp[k1,k2,k3,Value.cells] at g0 g1 g2
  obtain⟨pa,pn,pc,ps,e0,hps,hpw⟩:=y1g g0
  obtain⟨oa,n,cap,es,so,sn,sc,ss,go,gn,gc,gs,e1,e2,e3,hev,hwd,hst,hsw,hgs⟩:=y2q g1
  obtain⟨qa,qn,qc,os,e4,hos,how⟩:=y2p g2
  cases e0;cases e1;cases e2;cases e3;cases e4
  exact⟨_,_,_,_,_,_,_,_,_,_,_,_,_,_,_,ps,es,ss,gs,os,rfl,⟨hps,hev,hst,hgs,hos⟩,⟨hpw,hwd,hsw,how⟩⟩

structure y2c (ps:List SesV) (es:List EvV) (ss:Zis) (gs:List Bool) (os:List OutX):Prop where
 pl:ps.length≤1048576
 pd:∀ f∈ps,f.data.size≤1048576
 r:za7 es ss gs
 ol:os.length≤1048576
 ow:idW os≤1048576

def SzH (w:World) (ps:List SesV) (es:List EvV) (ss:Zis) (gs:List Bool) (os:List OutX) (left:Int) (e:Ending) (w':World):Prop:=∃ z:Int,e=.returned (.int .i64 z)∧z≤left∧(0≤z→y2c ps es ss gs os)∧Below w.heap.size w w'

theorem y2d (left:Int) (h0:0≤left) (h1:left≤1048576) (pa:Zoa) (pn pc:Nat) (oa:Zoa) (n cap:Nat) (so:Zoa) (sn sc:Nat) (go:Zoa) (gn gc:Nat) (qa:Zoa) (qn qc:Nat) (ps:List SesV) (es:List EvV) (ss:Zis) (gs:List Bool) (os:List OutX) (w:World) (hat:HallAt w pa pn pc oa n cap so sn sc go gn gc qa qn qc ps es ss gs os) (hw:y0h ps es ss os) :
  Calls Tryz.prog 12 #[y0g pa pn pc oa n cap so sn sc go gn gc qa qn qc,.int .i64 left] w (SzH w ps es ss gs os left):=by
 obtain⟨W0,hW0,hb0,hR0⟩:=bxN w #[.slice pa pn pc,.slice oa n cap,.slice so sn sc,.slice go gn gc,.slice qa qn qc] 39
 have r0:=zb hR0 0 rfl
 have KF:=ZZ (y11 pa pn pc ps left h0 h1 W0 (hat.p.below hb0) hw.p)
 have HAT:=ZZ (hat.below hb0)
 have Ad:=ZZ hR0
 have HB0:=ZZ hb0
 have HW0:=ZZ hW0
 clear hat hw hR0 hb0 hW0
 go_enter Tryz.func12,Tryz.ntmps12
 go_upto_region 1 with fail
 rw[HW0.o]
 clear HW0
 by_cases c0:y0l ps left<0
 ·go_upto_region 2 with (go_at_call 37;(with_reducible refine KF.o.mono ?_);rintro r w1 ⟨rfl,hb1⟩)
  go_wp2_with fail
  go_ret
  exact⟨-1,rfl,by omega,fun h=>by omega,zTr HB0.o hb1⟩
 have hfine:=y1z (es:=ps) h1 h0 (by omega)
 have HF0:=ZZ hfine
 have hz0:=hfine.1
 generalize y0l ps left=z0 at KF c0 hz0
 clear hfine
 go_upto_region 4 with (go_at_call 37;(with_reducible refine KF.o.mono ?_);rintro r w1 ⟨rfl,hb1⟩)
 have hR1:=(hb1.block w.heap.size (ze Ad.o)).trans Ad.o
 have r1:=zb hR1 1 rfl
 have r2:=zb hR1 2 rfl
 have r3:=zb hR1 3 rfl
 have HB1:=ZZ (zTr HB0.o hb1)
 have HA1:=ZZ (HAT.o.below hb1)
 have HR1:=ZZ hR1
 clear hb1 hR1 r0 KF HAT Ad
 have HSR:=ZZ (zle z0 (by omega) (by omega) oa n cap es so sn sc ss go gn gc gs w1 HA1.o.e HA1.o.s HA1.o.g)
 go_upto_region 5 with (go_at_call 7;(with_reducible refine HSR.o.mono ?_);rintro r w2 ⟨z1,rfl,hz1,hf1,hb2⟩)
 have hR2:=(hb2.block w.heap.size (ze HR1.o)).trans HR1.o
 have r4:=zb hR2 4 rfl
 have HB2:=ZZ (zTr HB1.o hb2)
 have HA2:=ZZ (HA1.o.below hb2)
 have Aa:=ZZ hf1
 clear hb2 hR2 r1 r2 r3 HSR HA1 HR1 hf1
 by_cases c1:z1<0
 ·go_wp2_with fail
  go_ret
  exact⟨-1,rfl,by omega,fun h=>by omega,HB2.o⟩
 ·have CZ:=ZZ (y26 qa qn qc os z1 (by omega) (by omega) w2 HA2.o.o)
  go_upto_region 8 with (go_at_call 38;(with_reducible refine CZ.o.mono ?_);rintro r w3 ⟨z2,rfl,hz2,hf2,hb3⟩)
  have HB3:=ZZ (zTr HB2.o hb3)
  have Aj:=ZZ hf2
  clear hb3 hf2
  by_cases c2:z2<0
  ·go_wp2_with fail
   go_ret
   exact⟨-1,rfl,by omega,fun h=>by omega,HB3.o⟩
  ·go_wp2_with fail
   go_ret
   refine⟨z2,rfl,by omega,fun _=>?_,HB3.o⟩
   have h2:=Aj.o (by omega)
   exact⟨HF0.o.2.1,HF0.o.2.2,Aa.o (by omega),by omega,by omega⟩

def Up (lo:Nat) (w w':World):Prop:=w.heap.size≤w'.heap.size∧∀ k,lo≤k→k<w.heap.size→w'.heap[k]? = w.heap[k]?

theorem Up.below {lo:Nat} {w w':World} (h:Below w.heap.size w w'):Up lo w w':=⟨h.size,fun k _ hk=>h.block k hk⟩

theorem Up.grown {lo v:Nat} {w w':World} (h:w.grownBy w' (some v)) (hv:v<lo):Up lo w w':=⟨h.size,fun k hl hk=>h.block k hk (fun e=>by have:=zSi e;omega)⟩

theorem Up.trans {lo:Nat} {a b c:World} (h:Up lo a b) (k:Up lo b c):Up lo a c:=⟨zNt h.1 k.1,fun i hl hi=>(k.2 i hl (zLt hi h.1)).trans (h.2 i hl hi)⟩

theorem Up.more {lo lo':Nat} {a b:World} (h:Up lo a b) (hl:lo≤lo'):Up lo' a b:=⟨h.1,fun i h1 hi=>h.2 i (zNt hl h1) hi⟩

theorem RmSh.up {w w':World} {lo hi g h k:Nat} {es:List EvV} {ss:Zis} {gs:List Bool} {xs:Zvs} (r:RmSh w lo hi g h k es ss gs xs) (u:Up lo w w'):RmSh w' lo hi g h k es ss gs xs:=by
 obtain⟨m1,m2,a1,a2,a3,a4,a5,a6⟩:=r.fine
 obtain⟨e1,e2⟩:=zc6 r.ev r.es u.1 u.2
 obtain⟨_,e3⟩:=zc6 r.ev a4 u.1 u.2
 exact⟨e1,⟨m1,m2,a1,a2,a3,e3,zfv a5 (u.more a1).2,z81 a6 (u.more (zNt a1 a2)).2⟩,e2,r.sx,zfv r.ss u.2,z81 r.gs u.2,r.gt⟩

theorem OutSh.up {w w':World} {lo hi g k:Nat} {os:List OutX} {rs:List OutR} (h:OutSh w lo hi g os k rs) (u:Up lo w w'):OutSh w' lo hi g os k rs :=
 ⟨h.len,z81 h.own u.2,h.top,fun i x hi hx=>by
  obtain⟨q,q1,q2,q3⟩:=h.each i x hi hx
  exact⟨q,q1,q2,z81 q3 u.2⟩⟩

theorem y2x {w:World} {lo g n:Nat} {ps:List SesV} (h:w.ownsRow lo 86 3 (.slice (some ⟨g,0,none⟩) n n) n (ps.flatMap y03)):y0d w (some ⟨g,0,none⟩) n n ps:=by
 obtain⟨oa,cap,he,hat⟩:=y0m y09 (by omega) h
 cases he
 exact hat

theorem y2r (w:World) (a b c:Array Value) (A B C:TypeId):(((w.alloc (.cells a A)).alloc (.cells b B)).alloc (.cells c C)).heap[w.heap.size]? = some (.cells a A (0,0))∧(((w.alloc (.cells a A)).alloc (.cells b B)).alloc (.cells c C)).heap[w.heap.size+1]? = some (.cells b B (0,0))∧(((w.alloc (.cells a A)).alloc (.cells b B)).alloc (.cells c C)).heap[w.heap.size+1+1]? = some (.cells c C (0,0))∧(((w.alloc (.cells a A)).alloc (.cells b B)).alloc (.cells c C)).heap.size=w.heap.size+1+1+1∧Below w.heap.size w (((w.alloc (.cells a A)).alloc (.cells b B)).alloc (.cells c C)):=by
 have e1:=heap_alloc_new w (.cells a A)
 have e2:=heap_alloc_new (w.alloc (.cells a A)) (.cells b B)
 have e3:=heap_alloc_new ((w.alloc (.cells a A)).alloc (.cells b B)) (.cells c C)
 rw[World.size_alloc] at e2
 rw[World.size_alloc,World.size_alloc] at e3
 have k1:=(Below.refl (w.alloc (.cells a A)).heap.size (w.alloc (.cells a A))).alloc zLe (.cells b B)
 have k2:=(Below.refl ((w.alloc (.cells a A)).alloc (.cells b B)).heap.size ((w.alloc (.cells a A)).alloc (.cells b B))).alloc zLe (.cells c C)
 refine⟨(k2.block _ (by simp;omega)).trans ((k1.block _ (by simp)).trans e1),(k2.block _ (by simp)).trans e2,e3,by simp,((zBa).alloc (by simp) _).alloc (by simp;omega) _⟩

def y35 (w:World) (ps:List SesV) (es:List EvV) (ss:Zis) (gs:List Bool) (os:List OutX) (e:Ending) (w':World):Prop :=
 ∃ pa pn pc oa n cap so sn sc go gn gc qa qn qc,e=.returned (y0g pa pn pc oa n cap so sn sc go gn gc qa qn qc)∧HallAt w' pa pn pc oa n cap so sn sc go gn gc qa qn qc ps es ss gs os∧Below w.heap.size w w'

theorem y2e (pa:Zoa) (pn pc:Nat) (oa:Zoa) (n cap:Nat) (so:Zoa) (sn sc:Nat) (go:Zoa) (gn gc:Nat) (qa:Zoa) (qn qc:Nat) (ps:List SesV) (es:List EvV) (ss:Zis) (gs:List Bool) (os:List OutX) (hf:y2c ps es ss gs os) (hw:y0h ps es ss os) (w:World) (hat:HallAt w pa pn pc oa n cap so sn sc go gn gc qa qn qc ps es ss gs os) :
  Calls Tryz.prog 14 #[y0g pa pn pc oa n cap so sn sc go gn gc qa qn qc] w (y35 w ps es ss gs os):=by
 obtain⟨hA0,hR0,hO0,hs0,hb0⟩:=y2r w #[.slice pa pn pc,.slice oa n cap,.slice so sn sc,.slice go gn gc,.slice qa qn qc] #[.slice none 0 0,.slice none 0 0,.slice none 0 0,.slice none 0 0,.slice none 0 0] #[.slice none 0 0,.slice none 0 0,.slice none 0 0,.slice none 0 0,.slice none 0 0] 39 45 45
 obtain⟨W0,hW0⟩:∃ W0,((w.alloc (.cells #[.slice pa pn pc,.slice oa n cap,.slice so sn sc,.slice go gn gc,.slice qa qn qc] 39)).alloc (.cells #[.slice none 0 0,.slice none 0 0,.slice none 0 0,.slice none 0 0,.slice none 0 0] 45)).alloc (.cells #[.slice none 0 0,.slice none 0 0,.slice none 0 0,.slice none 0 0,.slice none 0 0] 45)=W0:=⟨_,rfl⟩
 rw[hW0] at hA0 hR0 hO0 hs0 hb0
 have hpl:pn≤1048576:=by rw[← hat.p.len];exact hf.pl
 have r0:=zb hA0 0 rfl
 have HTP:=ZZ (y12 pa pn pc ps hpl W0 (hat.p.below hb0))
 have HAT:=ZZ hat
 have HF:=ZZ hf
 have LW:=ZZ hw
 have HW0:=ZZ hW0
 have Au:=ZZ hA0
 have Ad:=ZZ hR0
 have AB:=ZZ hO0
 have HB0:=ZZ hb0
 obtain⟨b,hbd⟩:∃ b,w.heap.size=b:=⟨_,rfl⟩
 clear hW0 hA0 hR0 hO0 hb0 hat hf hw hpl
 go_enter Tryz.func14,Tryz.ntmps14
 go_upto_region 2 with fail
 rw[HW0.o]
 clear HW0
 rw[hbd] at Au Ad AB r0 hs0
 have Aw:=ZZ hbd
 clear hbd
 have hltO:=ze AB.o
 have hltA:=ze Au.o
 go_upto_region 3 with (go_at_call 42;(with_reducible refine HTP.o.mono ?_);rintro r w1 ⟨g1,rfl,ho1,hb1⟩;have hO1:=(hb1.block _ hltO).trans AB.o;have o10:=zb hO1 0 rfl;have f10:=zh hO1 0)
 obtain⟨W1,hW1⟩:∃ W1,w1.setCell ⟨b+1+1,0,none⟩ (.slice (some ⟨g1,0,none⟩) pn pn)=W1:=⟨_,rfl⟩
 try rw[hW1]
 obtain⟨hO2,hg1⟩:=zx [.slice (some ⟨g1,0,none⟩) pn pn] w1 _ 0 hO1
 rw[show w1.setCells (b+1+1) 0 [.slice (some ⟨g1,0,none⟩) pn pn]=W1 from hW1] at hO2 hg1
 have hz1:=hb1.size
 have hzz1:=hg1.size
 have HP1:=ZZ (z81 ho1 (Up.grown (lo:=W0.heap.size) hg1 (by omega)).2)
 have hb2:Below (b+1+1) W0 W1:=(hb1.mono (by omega)).grown hg1 (by omega) (fun k hk=>by cases hk;exact Nat.le_refl _)
 have Ag:=ZZ hO2
 have HB2:=ZZ hb2
 have r1:=(hb2.cell (p:=⟨b,1,none⟩) (show b<b+1+1 by omega)).trans (zb Au.o 1 rfl)
 have r2:=(hb2.cell (p:=⟨b,2,none⟩) (show b<b+1+1 by omega)).trans (zb Au.o 2 rfl)
 have r3:=(hb2.cell (p:=⟨b,3,none⟩) (show b<b+1+1 by omega)).trans (zb Au.o 3 rfl)
 have hz01:W0.heap.size≤W1.heap.size:=by omega
 have hbw1:Below w.heap.size w W1:=HB0.o.trans (hb2.mono (by rw[Aw.o];omega))
 have Bu:=ZZ (zjk oa n cap es so sn sc ss go gn gc gs HF.o.r W1 (HAT.o.e.below hbw1) (HAT.o.s.below hbw1) (HAT.o.g.below hbw1))
 clear hb1 ho1 hO1 hW1 hg1 hO2 hb2 o10 f10 r0 HTP hbw1
 go_upto_region 4 with (go_at_call 9;(with_reducible refine Bu.o.mono ?_);rintro r w2 ⟨g2,h2,k2,xs,rfl,hrm2,hb2⟩;have hO3:=(hb2.block _ (by omega)).trans Ag.o;have o11:=zb hO3 1 rfl;have f11:=zh hO3 1;have o12:=zb hO3 2 rfl;have f12:=zh hO3 2;have o13:=zb hO3 3 rfl;have f13:=zh hO3 3;have hz2:=hb2.size)
 obtain⟨W2,hW2⟩:∃ W2,((w2.setCell ⟨b+1+1,1,none⟩ (.slice (some ⟨g2,0,none⟩) es.length es.length)).setCell ⟨b+1+1,2,none⟩ (.slice (some ⟨h2,0,none⟩) ss.length ss.length)).setCell ⟨b+1+1,3,none⟩ (.slice (some ⟨k2,0,none⟩) gs.length gs.length)=W2:=⟨_,rfl⟩
 try rw[hW2]
 obtain⟨hO4,hg2⟩:=zx [.slice (some ⟨g2,0,none⟩) es.length es.length,.slice (some ⟨h2,0,none⟩) ss.length ss.length,.slice (some ⟨k2,0,none⟩) gs.length gs.length] w2 _ 1 hO3
 rw[show w2.setCells (b+1+1) 1 [.slice (some ⟨g2,0,none⟩) es.length es.length,.slice (some ⟨h2,0,none⟩) ss.length ss.length,.slice (some ⟨k2,0,none⟩) gs.length gs.length]=W2 from hW2] at hO4 hg2
 have hzz2:=hg2.size
 have up2:=Up.grown (lo:=W0.heap.size) hg2 (by omega)
 have KE:=ZZ (z81 (own_below HP1.o hb2) up2.2)
 have JM:=ZZ (hrm2.up (up2.more hz01))
 have hb4:Below (b+1+1) W0 W2:=(HB2.o.trans (hb2.mono (by omega))).grown hg2 (by omega) (fun k hk=>by cases hk;exact Nat.le_refl _)
 have hbw2:Below w.heap.size w W2:=HB0.o.trans (hb4.mono (by rw[Aw.o];omega))
 have Bg:=ZZ hO4
 have AC:=ZZ hb4
 have r4:=(hb4.cell (p:=⟨b,4,none⟩) (show b<b+1+1 by omega)).trans (zb Au.o 4 rfl)
 have Ba:=ZZ (y2b qa qn qc os HF.o.ol HF.o.ow W2 (HAT.o.o.below hbw2))
 have hz02:W0.heap.size≤W2.heap.size:=by omega
 clear hb2 hrm2 hO3 hW2 hg2 hO4 hb4 o11 f11 o12 f12 o13 f13 r1 r2 r3 Bu HP1 Ag HB2 up2 hbw2
 go_upto_region 5 with (go_at_call 43;(with_reducible refine Ba.o.mono ?_);rintro r w3 ⟨g3,rs,rfl,ho3,hb3⟩;have hO5:=(hb3.block _ (by omega)).trans Bg.o;have o14:=zb hO5 4 rfl;have f14:=zh hO5 4;have hz3:=hb3.size)
 obtain⟨W3,hW3⟩:∃ W3,w3.setCell ⟨b+1+1,4,none⟩ (.slice (some ⟨g3,0,none⟩) os.length os.length)=W3:=⟨_,rfl⟩
 try rw[hW3]
 obtain⟨hO6,hg3⟩:=zx [.slice (some ⟨g3,0,none⟩) os.length os.length] w3 _ 4 hO5
 rw[show w3.setCells (b+1+1) 4 [.slice (some ⟨g3,0,none⟩) os.length os.length]=W3 from hW3] at hO6 hg3
 have hzz3:=hg3.size
 have up3:=Up.grown (lo:=W0.heap.size) hg3 (by omega)
 have GK:=ZZ (z81 (own_below KE.o hb3) up3.2)
 have HRM3:=ZZ ((JM.o.on hb3).up (up3.more hz01))
 have HOS3:=ZZ (ho3.up (up3.more hz02))
 have hb6:Below (b+1+1) W0 W3:=(AC.o.trans (hb3.mono (by omega))).grown hg3 (by omega) (fun k hk=>by cases hk;exact Nat.le_refl _)
 have hR6:=(hb6.block (b+1) (by omega)).trans Ad.o
 have t0:W3.cell? ⟨b+1+1,0,none⟩=some (.slice (some ⟨g1,0,none⟩) pn pn):=zb hO6 0 rfl
 have t1:W3.cell? ⟨b+1+1,1,none⟩=some (.slice (some ⟨g2,0,none⟩) es.length es.length):=zb hO6 1 rfl
 have t2:W3.cell? ⟨b+1+1,2,none⟩=some (.slice (some ⟨h2,0,none⟩) ss.length ss.length):=zb hO6 2 rfl
 have t3:W3.cell? ⟨b+1+1,3,none⟩=some (.slice (some ⟨k2,0,none⟩) gs.length gs.length):=zb hO6 3 rfl
 have t4:W3.cell? ⟨b+1+1,4,none⟩=some (.slice (some ⟨g3,0,none⟩) os.length os.length):=zb hO6 4 rfl
 have u0:=zb hR6 0 rfl
 have u1:=zb hR6 1 rfl
 have u2:=zb hR6 2 rfl
 have u3:=zb hR6 3 rfl
 have u4:=zb hR6 4 rfl
 have y0:=zh hR6 0
 have y1:=zh hR6 1
 have y2:=zh hR6 2
 have y3:=zh hR6 3
 have y4:=zh hR6 4
 have Az:=ZZ hb6
 have CE:=ZZ hR6
 clear hb3 ho3 hO5 hW3 hg3 hO6 hb6 o14 f14 r4 Ba KE JM Bg AC up3 hR6
 go_wp2_with fail
 obtain⟨w9,hw9⟩:∃ w9,((((W3.setCell ⟨b+1,0,none⟩ (.slice (some ⟨g1,0,none⟩) pn pn)).setCell ⟨b+1,1,none⟩ (.slice (some ⟨g2,0,none⟩) es.length es.length)).setCell ⟨b+1,2,none⟩ (.slice (some ⟨h2,0,none⟩) ss.length ss.length)).setCell ⟨b+1,3,none⟩ (.slice (some ⟨k2,0,none⟩) gs.length gs.length)).setCell ⟨b+1,4,none⟩ (.slice (some ⟨g3,0,none⟩) os.length os.length)=w9:=⟨_,rfl⟩
 obtain⟨hr,hg9⟩:=zx [.slice (some ⟨g1,0,none⟩) pn pn,.slice (some ⟨g2,0,none⟩) es.length es.length,.slice (some ⟨h2,0,none⟩) ss.length ss.length,.slice (some ⟨k2,0,none⟩) gs.length gs.length,.slice (some ⟨g3,0,none⟩) os.length os.length] W3 _ 0 CE.o
 rw[show W3.setCells (b+1) 0 [.slice (some ⟨g1,0,none⟩) pn pn,.slice (some ⟨g2,0,none⟩) es.length es.length,.slice (some ⟨h2,0,none⟩) ss.length ss.length,.slice (some ⟨k2,0,none⟩) gs.length gs.length,.slice (some ⟨g3,0,none⟩) os.length os.length]=w9 from hw9] at hr hg9
 rw[hw9]
 clear u0 u1 u2 u3 u4
 have u0:w9.cell? ⟨b+1,0,none⟩=some (.slice (some ⟨g1,0,none⟩) pn pn):=zb hr 0 rfl
 have u1:w9.cell? ⟨b+1,1,none⟩=some (.slice (some ⟨g2,0,none⟩) es.length es.length):=zb hr 1 rfl
 have u2:w9.cell? ⟨b+1,2,none⟩=some (.slice (some ⟨h2,0,none⟩) ss.length ss.length):=zb hr 2 rfl
 have u3:w9.cell? ⟨b+1,3,none⟩=some (.slice (some ⟨k2,0,none⟩) gs.length gs.length):=zb hr 3 rfl
 have u4:w9.cell? ⟨b+1,4,none⟩=some (.slice (some ⟨g3,0,none⟩) os.length os.length):=zb hr 4 rfl
 refine bodyPost_ret (v:=y0g (some ⟨g1,0,none⟩) pn pn (some ⟨g2,0,none⟩) es.length es.length (some ⟨h2,0,none⟩) ss.length ss.length (some ⟨k2,0,none⟩) gs.length gs.length (some ⟨g3,0,none⟩) os.length os.length) (by simp[results,Tryz.results14,go_sem,u0,u1,u2,u3,u4]) rfl ?_
 have up9:=Up.grown (lo:=W0.heap.size) hg9 (by omega)
 have hrm9:=HRM3.o.up (up9.more hz01)
 have hos9:=HOS3.o.up (up9.more hz02)
 have hp9:=z81 GK.o up9.2
 have hbe:=Aw.o
 have hb9:Below (b+1) W0 w9:=(Az.o.mono (by omega)).grown hg9 (by have:=Az.o.size;omega) (fun k hk=>by cases hk;exact Nat.le_refl _)
 exact⟨_,_,_,_,_,_,_,_,_,_,_,_,_,_,_,rfl,⟨y2x hp9,hrm9.ev,hrm9.ss.sts hrm9.sx,z7z hrm9.gs,hos9.outs LW.o.o⟩,HB0.o.trans (hb9.mono (by omega))⟩

theorem y2s (es:List EvV) (ss:Zis) (gs:List Bool) (hf:za7 es ss gs) (oa:Zoa) (cap:Nat) (so:Zoa) (sc:Nat) (go:Zoa) (gc:Nat) (ob:Zoa) (cap':Nat) (sp:Zoa) (sc':Nat) (gp:Zoa) (gc':Nat) (w:World) (r1:EvsAt w oa es.length cap es) (r2:StsAt w so ss.length sc ss) (r3:BoolsAt w go gs.length gc gs) (s1:EvsAt w ob es.length cap' es) (s2:StsAt w sp ss.length sc' ss) (s3:BoolsAt w gp gs.length gc' gs) :
  Calls Tryz.prog 11 #[z6j oa es.length cap so ss.length sc go gs.length gc,z6j ob es.length cap' sp ss.length sc' gp gs.length gc'] w fun e w'=>e=.returned (.bool true)∧Bw w w':=by
 obtain⟨W0,hW0⟩:∃ W0,(w.alloc (.cells #[.slice oa es.length cap,.slice so ss.length sc,.slice go gs.length gc] 32)).alloc (.cells #[.slice ob es.length cap',.slice sp ss.length sc',.slice gp gs.length gc'] 32)=W0:=⟨_,rfl⟩
 have hb0:Bw w W0:=by rw[← hW0];exact (zBa).alloc (by simp) _
 have hA0:W0.heap[w.heap.size]? = some (.cells #[.slice oa es.length cap,.slice so ss.length sc,.slice go gs.length gc] 32 (0,0)):=by
  rw[← hW0]
  exact ((zBa:Below (w.alloc (.cells #[.slice oa es.length cap,.slice so ss.length sc,.slice go gs.length gc] 32)).heap.size _ _).block w.heap.size (by simp)).trans (heap_alloc_new w _)
 have hB0:W0.heap[w.heap.size+1]? = some (.cells #[.slice ob es.length cap',.slice sp ss.length sc',.slice gp gs.length gc'] 32 (0,0)):=by
  rw[← hW0]
  have:=heap_alloc_new (w.alloc (.cells #[.slice oa es.length cap,.slice so ss.length sc,.slice go gs.length gc] 32)) (.cells #[.slice ob es.length cap',.slice sp ss.length sc',.slice gp gs.length gc'] 32)
  rw[World.size_alloc] at this
  exact this
 have HR1:=ZZ (r1.below hb0)
 have HR2:=ZZ (r2.below hb0)
 have HR3:=ZZ (r3.below hb0)
 have AX:=ZZ (s1.below hb0)
 have HS2:=ZZ (s2.below hb0)
 have Ap:=ZZ (s3.below hb0)
 have hlA:=ze hA0
 have hlB:=ze hB0
 have Ci:=ZZ (fun W (hb:Bw W0 W)=>ze5 oa es.length cap es ob cap' hf.ev W (HR1.o.below hb) (AX.o.below hb))
 have LG:=ZZ (fun W (hb:Bw W0 W)=>ze6 so ss.length sc ss sp sc' hf.sl hf.sw W (HR2.o.below hb) (HS2.o.below hb))
 have CJ:=ZZ (fun W (hb:Bw W0 W)=>zfu go gs.length gc gp gc' gs hf.gl W (HR3.o.below hb) (Ap.o.below hb))
 have a0:∀ W,Bw W0 W→W.cell? ⟨w.heap.size,0,none⟩=some (.slice oa es.length cap):=fun W hb=>(hb.cell hlA).trans (zb hA0 0 rfl)
 have a1:∀ W,Bw W0 W→W.cell? ⟨w.heap.size,1,none⟩=some (.slice so ss.length sc):=fun W hb=>(hb.cell hlA).trans (zb hA0 1 rfl)
 have a2:∀ W,Bw W0 W→W.cell? ⟨w.heap.size,2,none⟩=some (.slice go gs.length gc):=fun W hb=>(hb.cell hlA).trans (zb hA0 2 rfl)
 have b0:∀ W,Bw W0 W→W.cell? ⟨w.heap.size+1,0,none⟩=some (.slice ob es.length cap'):=fun W hb=>(hb.cell hlB).trans (zb hB0 0 rfl)
 have b1:∀ W,Bw W0 W→W.cell? ⟨w.heap.size+1,1,none⟩=some (.slice sp ss.length sc'):=fun W hb=>(hb.cell hlB).trans (zb hB0 1 rfl)
 have b2:∀ W,Bw W0 W→W.cell? ⟨w.heap.size+1,2,none⟩=some (.slice gp gs.length gc'):=fun W hb=>(hb.cell hlB).trans (zb hB0 2 rfl)
 have Au:=ZZ a0
 have HA1:=ZZ a1
 have HA2:=ZZ a2
 have Bo:=ZZ b0
 have Cc:=ZZ b1
 have Eu:=ZZ b2
 have HW0:=ZZ hW0
 have HB0:=ZZ hb0
 clear hW0 hb0 hA0 hB0 r1 r2 r3 s1 s2 s3 hf a0 a1 a2 b0 b1 b2 HR1 HR2 HR3 AX HS2 Ap
 go_enter Tryz.func11,Tryz.ntmps11
 go_upto_region 1 with fail
 rw[HW0.o]
 clear HW0
 have s0:=Au.o W0 zBr
 have t0:=Bo.o W0 zBr
 go_wp2_with (first
  | (go_at_call 34;(with_reducible refine (Ci.o _ zBr).mono ?_);rintro r w1 ⟨rfl,hb1⟩;have s1:=HA1.o w1 hb1;have t1:=Cc.o w1 hb1)
  | (go_at_call 35;(with_reducible refine (LG.o _ hb1).mono ?_);rintro r w2 ⟨rfl,hb2'⟩;have hb2:Bw W0 w2:=hb1.trans (hb2'.mono hb1.size);have s2:=HA2.o w2 hb2;have t2:=Eu.o w2 hb2)
  | (go_at_call 36;(with_reducible refine (CJ.o _ hb2).mono ?_);rintro r w3 ⟨rfl,hb3⟩))
 go_ret
 exact⟨rfl,HB0.o.trans ((zTr hb2 hb3).mono HB0.o.size)⟩

theorem y1r (ps:List SesV) (es:List EvV) (ss:Zis) (gs:List Bool) (os:List OutX) (hf:y2c ps es ss gs os) (pa:Zoa) (pn pc:Nat) (oa:Zoa) (n cap:Nat) (so:Zoa) (sn sc:Nat) (go:Zoa) (gn gc:Nat) (qa:Zoa) (qn qc:Nat) (pb:Zoa) (pn' pd:Nat) (ob:Zoa) (n' cap':Nat) (sp:Zoa) (sn' sc':Nat) (gp:Zoa) (gn' gc':Nat) (qb:Zoa) (qn' qd:Nat) (w:World) (h:HallAt w pa pn pc oa n cap so sn sc go gn gc qa qn qc ps es ss gs os) (k:HallAt w pb pn' pd ob n' cap' sp sn' sc' gp gn' gc' qb qn' qd ps es ss gs os) :
  Calls Tryz.prog 16 #[y0g pa pn pc oa n cap so sn sc go gn gc qa qn qc,y0g pb pn' pd ob n' cap' sp sn' sc' gp gn' gc' qb qn' qd] w fun e w'=>e=.returned (.bool true)∧Bw w w':=by
 obtain rfl:pn'=pn:=by rw[← h.p.len,← k.p.len]
 obtain rfl:n'=n:=by rw[← h.e.len,← k.e.len]
 obtain rfl:sn'=sn:=by rw[← h.s.len,← k.s.len]
 obtain rfl:gn'=gn:=by rw[← h.g.len,← k.g.len]
 obtain rfl:qn'=qn:=by rw[← h.o.len,← k.o.len]
 have hn:=h.e.len
 have hsn:=h.s.len
 have hgn:=h.g.len
 subst hn hsn hgn
 obtain⟨hA0,hB0,hb0⟩:=zcl w #[.slice pa pn' pc,.slice oa es.length cap,.slice so ss.length sc,.slice go gs.length gc,.slice qa qn' qc] #[.slice pb pn' pd,.slice ob es.length cap',.slice sp ss.length sc',.slice gp gs.length gc',.slice qb qn' qd] 45 45
 have hpl:pn'≤1048576:=by rw[← h.p.len];exact hf.pl
 have hql:qn'≤1048576:=by rw[← h.o.len];exact hf.ol
 have HPH:=ZZ h
 have HPK:=ZZ k
 have HF:=ZZ hf
 obtain⟨W0,hW0⟩:∃ W0,(w.alloc (.cells #[.slice pa pn' pc,.slice oa es.length cap,.slice so ss.length sc,.slice go gs.length gc,.slice qa qn' qc] 45)).alloc (.cells #[.slice pb pn' pd,.slice ob es.length cap',.slice sp ss.length sc',.slice gp gs.length gc',.slice qb qn' qd] 45)=W0:=⟨_,rfl⟩
 rw[hW0] at hA0 hB0 hb0
 have HA:=ZZ (fun W (hb:Bw W0 W)=>(hb.block _ (ze hA0)).trans hA0)
 have HB:=ZZ (fun W (hb:Bw W0 W)=>(hb.block _ (ze hB0)).trans hB0)
 have HB0:=ZZ hb0
 have HW0:=ZZ hW0
 clear h k hf hA0 hB0 hb0 hW0
 have x0:=zb (HA.o W0 zBr) 0 rfl
 have z0:=zb (HB.o W0 zBr) 0 rfl
 go_enter Tryz.func16,Tryz.ntmps16
 go_upto_region 1 with fail
 rw[HW0.o]
 clear HW0
 have A9:=ZZ (y0v pa pn' pc pb pd ps hpl W0 (HPH.o.p.below HB0.o) (HPK.o.p.below HB0.o))
 go_upto_region 3 with (go_at_call 46;(with_reducible refine A9.o.mono ?_);rintro r w1 ⟨rfl,hb1⟩)
 have HB1:=ZZ hb1
 clear hb1 x0 z0 A9
 have x1:=zb (HA.o w1 HB1.o) 1 rfl
 have x2:=zb (HA.o w1 HB1.o) 2 rfl
 have x3:=zb (HA.o w1 HB1.o) 3 rfl
 have z1:=zb (HB.o w1 HB1.o) 1 rfl
 have z2:=zb (HB.o w1 HB1.o) 2 rfl
 have z3:=zb (HB.o w1 HB1.o) 3 rfl
 have Cc:=ZZ (zTr HB0.o HB1.o)
 have HE2:=ZZ (y2s es ss gs HF.o.r oa cap so sc go gc ob cap' sp sc' gp gc' w1 (HPH.o.e.below Cc.o) (HPH.o.s.below Cc.o) (HPH.o.g.below Cc.o) (HPK.o.e.below Cc.o) (HPK.o.s.below Cc.o) (HPK.o.g.below Cc.o))
 go_upto_region 5 with (go_at_call 11;(with_reducible refine HE2.o.mono ?_);rintro r w2 ⟨rfl,hb2⟩)
 have HB2:=ZZ (zTr HB1.o hb2)
 clear hb2 x1 x2 x3 z1 z2 z3 HE2 HB1
 have x4:=zb (HA.o w2 HB2.o) 4 rfl
 have z4:=zb (HB.o w2 HB2.o) 4 rfl
 have Eu:=ZZ (zTr HB0.o HB2.o)
 have BX:=ZZ (y1q qa qn' qc os qb qd hql HF.o.ow w2 (HPH.o.o.below Eu.o) (HPK.o.o.below Eu.o))
 go_wp2_with (go_at_call 47;(with_reducible refine BX.o.mono ?_);rintro r w3 ⟨rfl,hb3⟩)
 go_ret
 exact⟨rfl,zTr Eu.o hb3⟩

end Go.Proofs.YtfeebdcmlnapiaaGreat
