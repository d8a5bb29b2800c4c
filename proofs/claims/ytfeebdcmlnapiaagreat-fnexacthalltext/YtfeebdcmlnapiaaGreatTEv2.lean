/-
  Walks.
-/
import Derived.Test.YtfeebdcmlnapiaaGreatTHeldMore
import Derived.Test.YtfeebdcmlnapiaaGreatTBase
import Derived.Lib.SmallJoins
open Go.Value renaming int->J
open Go.IntKind renaming i64->Y
set_option linter.unusedVariables false
set_option linter.unusedSimpArgs false
namespace Go.Proofs.YtfeebdcmlnapiaaGreat
open Go.RowKit P1 P9 P11 P12 K
abbrev zk (id kd sn us mb dp:Int) (xl xp:Value) (tx:Zbs):Array Value:=#[J Y id,J Y kd,J Y sn,J Y us,J Y mb,xl,.string ⟨tx.toArray⟩,xp,J Y dp]

abbrev z3e (id kd sn us mb dp:Int) (xl xp:Value) (tx:Zbs):Value:=.agg #[J Y id,J Y kd,J Y sn,J Y us,J Y mb,xl,.string ⟨tx.toArray⟩,xp,J Y dp]

structure EV (w:World) (b:Nat) (id kd sn us mb dp:Int) (xl xp:Value) (tx:Zbs):Prop where
 c0:w.cell? ⟨b,0,none⟩=some (J Y id)
 c1:w.cell? ⟨b,1,none⟩=some (J Y kd)
 c2:w.cell? ⟨b,2,none⟩=some (J Y sn)
 c3:w.cell? ⟨b,3,none⟩=some (J Y us)
 c4:w.cell? ⟨b,4,none⟩=some (J Y mb)
 c5:w.cell? ⟨b,5,none⟩=some xl
 c6:w.cell? ⟨b,6,none⟩=some (.string ⟨tx.toArray⟩)
 c7:w.cell? ⟨b,7,none⟩=some xp
 c8:w.cell? ⟨b,8,none⟩=some (J Y dp)

section
variable {w w':World} {b:Nat} {id kd sn us mb dp:Int} {xl xp:Value} {tx:Zbs}

theorem EV.lt (h:EV w b id kd sn us mb dp xl xp tx):b<w.heap.size:=zw h.c0

theorem EV.on (h:EV w b id kd sn us mb dp xl xp tx) (hb:Bw w w'):EV w' b id kd sn us mb dp xl xp tx :=
 ⟨(hb.cell h.lt).trans h.c0,(hb.cell h.lt).trans h.c1,(hb.cell h.lt).trans h.c2,(hb.cell h.lt).trans h.c3,(hb.cell h.lt).trans h.c4,(hb.cell h.lt).trans h.c5,(hb.cell h.lt).trans h.c6,(hb.cell h.lt).trans h.c7,(hb.cell h.lt).trans h.c8⟩

theorem EV.drew (h:EV w b id kd sn us mb dp xl xp tx):EV w.drew b id kd sn us mb dp xl xp tx:=h.on zBr.drew

theorem EV.new (w:World) (id kd sn us mb dp:Int) (xl xp:Value) (tx:Zbs) (ty:TypeId):EV (w.alloc (.cells #[J Y id,J Y kd,J Y sn,J Y us,J Y mb,xl,.string ⟨tx.toArray⟩,xp,J Y dp] ty)) w.heap.size id kd sn us mb dp xl xp tx:=⟨by simp,by simp,by simp,by simp,by simp,by simp,by simp,by simp,by simp⟩
end

def EB (w:World) (b:Nat) (id kd sn us mb dp:Int) (xl xp:Value) (tx:Zbs):Prop:=w.heap[b]? = some (.cells (zk id kd sn us mb dp xl xp tx) 62 (0,0))

section
variable {w w':World} {b:Nat} {id kd sn us mb dp:Int} {xl xp:Value} {tx:Zbs}

theorem EB.new (w:World) (id kd sn us mb dp:Int) (xl xp:Value) (tx:Zbs):EB (w.alloc (.cells (zk id kd sn us mb dp xl xp tx) 62)) w.heap.size id kd sn us mb dp xl xp tx:=heap_alloc_new _ _

theorem EB.lt (h:EB w b id kd sn us mb dp xl xp tx):b<w.heap.size:=ze h

theorem EB.on {B:Nat} (h:EB w b id kd sn us mb dp xl xp tx) (hb:Below B w w') (hlt:b<B):EB w' b id kd sn us mb dp xl xp tx:=(hb.block b hlt).trans h

theorem EB.kept {row:Option Nat} (h:EB w b id kd sn us mb dp xl xp tx) (hg:w.grownBy w' row) (hne:row≠some b):EB w' b id kd sn us mb dp xl xp tx:=(hg.block b h.lt (fun e=>hne e.symm)).trans h

theorem EB.ev (h:EB w b id kd sn us mb dp xl xp tx):EV w b id kd sn us mb dp xl xp tx:=⟨zb h 0 rfl,zb h 1 rfl,zb h 2 rfl,zb h 3 rfl,zb h 4 rfl,zb h 5 rfl,zb h 6 rfl,zb h 7 rfl,zb h 8 rfl⟩

theorem EB.free (h:EB w b id kd sn us mb dp xl xp tx) (j:Nat):w.frozen? ⟨b,j,none⟩=false:=zh h j

theorem EB.set (h:EB w b id kd sn us mb dp xl xp tx) {k:Nat} {p:Nat} (v:Value) (hne:p≠b):EB (w.setCell ⟨p,k,none⟩ v) b id kd sn us mb dp xl xp tx:=h.kept (z1h w p k v) (fun e=>hne (zSi e))

theorem EB.put0 (h:EB w b id kd sn us mb dp xl xp tx) (v:Int):EB (w.setCell ⟨b,0,none⟩ (J Y v)) b v kd sn us mb dp xl xp tx:=z2q _ h

theorem EB.put1 (h:EB w b id kd sn us mb dp xl xp tx) (v:Int):EB (w.setCell ⟨b,1,none⟩ (J Y v)) b id v sn us mb dp xl xp tx:=z2q _ h

theorem EB.put2 (h:EB w b id kd sn us mb dp xl xp tx) (v:Int):EB (w.setCell ⟨b,2,none⟩ (J Y v)) b id kd v us mb dp xl xp tx:=z2q _ h

theorem EB.put3 (h:EB w b id kd sn us mb dp xl xp tx) (v:Int):EB (w.setCell ⟨b,3,none⟩ (J Y v)) b id kd sn v mb dp xl xp tx:=z2q _ h

theorem EB.put4 (h:EB w b id kd sn us mb dp xl xp tx) (v:Int):EB (w.setCell ⟨b,4,none⟩ (J Y v)) b id kd sn us v dp xl xp tx:=z2q _ h

theorem EB.put5 (h:EB w b id kd sn us mb dp xl xp tx) (v:Value):EB (w.setCell ⟨b,5,none⟩ v) b id kd sn us mb dp v xp tx:=z2q _ h

theorem EB.put6 (h:EB w b id kd sn us mb dp xl xp tx) (v:Zbs):EB (w.setCell ⟨b,6,none⟩ (.string ⟨v.toArray⟩)) b id kd sn us mb dp xl xp v:=z2q _ h

theorem EB.put7 (h:EB w b id kd sn us mb dp xl xp tx) (v:Value):EB (w.setCell ⟨b,7,none⟩ v) b id kd sn us mb dp xl v tx:=z2q _ h

theorem EB.put8 (h:EB w b id kd sn us mb dp xl xp tx) (v:Int):EB (w.setCell ⟨b,8,none⟩ (J Y v)) b id kd sn us mb v xl xp tx:=z2q _ h

theorem EB.all (h:EB w b id kd sn us mb dp xl xp tx) (id' kd' sn' us' mb' dp':Int) (xl' xp':Value) (tx':Zbs):∃ W',(((((((((w.setCell ⟨b,0,none⟩ (J Y id')).setCell ⟨b,1,none⟩ (J Y kd')).setCell ⟨b,2,none⟩ (J Y sn')).setCell ⟨b,3,none⟩ (J Y us')).setCell ⟨b,4,none⟩ (J Y mb')).setCell ⟨b,5,none⟩ xl').setCell ⟨b,6,none⟩ (.string ⟨tx'.toArray⟩)).setCell ⟨b,7,none⟩ xp').setCell ⟨b,8,none⟩ (J Y dp'))=W'∧EB W' b id' kd' sn' us' mb' dp' xl' xp' tx'∧w.grownBy W' (some b) :=
 ⟨_,rfl,(((((((((h.put0 id').put1 kd').put2 sn').put3 us').put4 mb').put5 xl').put6 tx').put7 xp').put8 dp'),z00 (z00 (z00 (z00 (z00 (z00 (z00 (z00 (z1h _ _ _ _) (z1h _ _ _ _)) (z1h _ _ _ _)) (z1h _ _ _ _)) (z1h _ _ _ _)) (z1h _ _ _ _)) (z1h _ _ _ _)) (z1h _ _ _ _)) (z1h _ _ _ _)⟩
end

def EL (w:World) (b:Nat) (id kd sn us mb dp:Int) (xl xp:Value) (tx:Zbs):Prop:=w.heap[b]? = some (.cells (zk id kd sn us mb dp xl xp tx) 124 (0,0))

section
variable {w w':World} {b:Nat} {id kd sn us mb dp:Int} {xl xp:Value} {tx:Zbs}

theorem EL.new (w:World) (id kd sn us mb dp:Int) (xl xp:Value) (tx:Zbs):EL (w.alloc (.cells (zk id kd sn us mb dp xl xp tx) 124)) w.heap.size id kd sn us mb dp xl xp tx:=heap_alloc_new _ _

theorem EL.lt (h:EL w b id kd sn us mb dp xl xp tx):b<w.heap.size:=ze h

theorem EL.on {B:Nat} (h:EL w b id kd sn us mb dp xl xp tx) (hb:Below B w w') (hlt:b<B):EL w' b id kd sn us mb dp xl xp tx:=(hb.block b hlt).trans h

theorem EL.kept {row:Option Nat} (h:EL w b id kd sn us mb dp xl xp tx) (hg:w.grownBy w' row) (hne:row≠some b):EL w' b id kd sn us mb dp xl xp tx:=(hg.block b h.lt (fun e=>hne e.symm)).trans h

theorem EL.ev (h:EL w b id kd sn us mb dp xl xp tx):EV w b id kd sn us mb dp xl xp tx:=⟨zb h 0 rfl,zb h 1 rfl,zb h 2 rfl,zb h 3 rfl,zb h 4 rfl,zb h 5 rfl,zb h 6 rfl,zb h 7 rfl,zb h 8 rfl⟩

theorem EL.set (h:EL w b id kd sn us mb dp xl xp tx) {k:Nat} {p:Nat} (v:Value) (hne:p≠b):EL (w.setCell ⟨p,k,none⟩ v) b id kd sn us mb dp xl xp tx:=h.kept (z1h w p k v) (fun e=>hne (zSi e))
end

open Go.Deep Go.ChangeShapes Go.WideShapes P5
theorem zn9 {W:World} {x:Addr} {l c:Nat} {zs:Zin} (hl:l≤c) (hm:c≤maxLen) (hz:zs.length=c) (hcell:∀ i,i<zs.length→W.cell? (x.add i)=some (J Y (zs.getD i 0))) (hwz:∀ z∈zs,(Lit.int .i64 z).wf=true):IntsAt W (some x) l c (zs.take l):=by
 refine⟨by simp;omega,hl,hm,fun z h=>hwz z (List.mem_of_mem_take h),fun i z hi=>?_⟩
 have hin:i<l:=by have:=(zGi.1 hi).1;simp at this;omega
 have hzi:zs[i]? = some z:=by rw[List.getElem?_take_of_lt hin] at hi;exact hi
 have h1:=hcell i (by omega)
 have h2:zs.getD i 0=z:=by simp[List.getD_eq_getElem?_getD,hzi]
 rw[h2] at h1
 have hsp:x.spot=none:=by
  have h0:=hcell 0 (by omega)
  have h3:W.cell? x=some (J Y (zs.getD 0 0)):=by simpa [Addr.add] using h0
  exact cell_spot h3
 obtain⟨bb,o,s⟩:=x
 simp only at hsp
 subst hsp
 rw[Addr.add_mid] at h1
 exact⟨bb,o,rfl,h1⟩

theorem z3p (W:World):IntsAt W none 0 0 []:=⟨rfl,Nat.le_refl _,by unfold maxLen;omega,fun z hz=>by simp at hz,fun i z hz=>by simp at hz⟩

def evL (e:EvV) (xa:Zoa) (xc:Nat) (ya:Zoa) (yc:Nat):Zvs :=
 [J Y e.id,J Y e.kind,J Y e.sender,J Y e.user,J Y e.member,.slice xa e.levels.length xc,.string ⟨e.text.toArray⟩,.slice ya e.prev.length yc,J Y e.depth]

structure EvAt (w:World) (b o:Nat) (e:EvV) (xa:Zoa) (xc:Nat) (ya:Zoa) (yc:Nat):Prop where
 cell:∀ (j:Nat) (u:Value),(evL e xa xc ya yc)[j]? = some u→w.cell? ⟨b,o+j,none⟩=some u
 lev:IntsAt w xa e.levels.length xc e.levels
 prv:IntsAt w ya e.prev.length yc e.prev
 txt:e.text.length≤maxLen

theorem EvAt.lt {w:World} {b o:Nat} {e:EvV} {xa:Zoa} {xc:Nat} {ya:Zoa} {yc:Nat} (h:EvAt w b o e xa xc ya yc):b<w.heap.size:=zw (h.cell 0 _ rfl)

theorem EvAt.below {w w':World} {b o:Nat} {e:EvV} {xa:Zoa} {xc:Nat} {ya:Zoa} {yc:Nat} (h:EvAt w b o e xa xc ya yc) (hb:Bw w w'):EvAt w' b o e xa xc ya yc :=
 ⟨fun j u hu=>(hb.cell (by exact h.lt)).trans (h.cell j u hu),h.lev.below hb,h.prv.below hb,h.txt⟩

structure EvsAt (w:World) (oa:Zoa) (n cap:Nat) (es:List EvV):Prop where
 len:es.length=n
 room:n≤cap
 most:cap≤maxLen
 at_:∀ (i:Nat) (e:EvV),es[i]? = some e→∃ b o xa xc ya yc,oa=some ⟨b,o,none⟩∧EvAt w b (o+i * 9) e xa xc ya yc

theorem EvsAt.below {w w':World} {oa:Zoa} {n cap:Nat} {es:List EvV} (h:EvsAt w oa n cap es) (hb:Bw w w'):EvsAt w' oa n cap es :=
 ⟨h.len,h.room,h.most,fun i e he=>by
  obtain⟨b,o,xa,xc,ya,yc,h1,h2⟩:=h.at_ i e he
  exact⟨b,o,xa,xc,ya,yc,h1,h2.below hb⟩⟩

theorem z9i (w:World):EvsAt w none 0 0 []:=⟨rfl,Nat.le_refl _,by unfold maxLen;omega,fun i e he=>by simp at he⟩

theorem EvsAt.get {w:World} {oa:Zoa} {n cap:Nat} {es:List EvV} (h:EvsAt w oa n cap es) {P:Program} {t e:TypeId} (ht:P.underlying t=some (.slice e)) (hi:(P.info? e).map (·.size)=some 9) (i:Nat) (hin:i<n) :
  ∃ ev b q xa xc ya yc,es[i]? = some ev∧(∀ wx,(Instr.indexAt t (.slice oa n cap) (J Y (i:Int))).run P wx=.ok (.pointer (some ⟨b,q,none⟩)) wx)∧EvAt w b q ev xa xc ya yc:=by
 obtain⟨ev,hev⟩:∃ ev,es[i]? = some ev:=⟨_,List.getElem?_eq_getElem (by rw[h.len];exact hin)⟩
 obtain⟨b,o,xa,xc,ya,yc,rfl,h2⟩:=h.at_ i ev hev
 exact⟨ev,b,o+i * 9,xa,xc,ya,yc,hev,fun wx=>run_indexAt_slice wx t e 9 ht hi b o n cap i hin,h2⟩

section
variable {H:Type} {enc:TypeId × Value→H} {P:Program} {w:World} {base:Nat} {held:Bool}

theorem zdp {e tS tI tL:TypeId} {f0 f1 f2 f3 f4 f5 f6 f7 f8:Field} {fuel:Nat} {cs:Zvs} {x:DataW H × List MemPlace} (he:P.underlying e=some (.struct #[f0,f1,f2,f3,f4,f5,f6,f7,f8]))
  (hS:P.underlying tS=some .string) (hI:P.underlying tI=some (.int .i64)) (hL:P.underlying tL=some (.slice tI))
  (t0:f0.type=tI) (t1:f1.type=tI) (t2:f2.type=tI) (t3:f3.type=tI) (t4:f4.type=tI) (t5:f5.type=tL) (t6:f6.type=tS) (t7:f7.type=tL) (t8:f8.type=tI)
  (o0:f0.offset=0) (o1:f1.offset=1) (o2:f2.offset=2) (o3:f3.offset=3) (o4:f4.offset=4) (o5:f5.offset=5) (o6:f6.offset=6) (o7:f7.offset=7) (o8:f8.offset=8)
  (ce:P.cellsOf e=9) (cS:P.cellsOf tS=1) (cI:P.cellsOf tI=1) (cL:P.cellsOf tL=1) (h:DataW.trod enc P w base (fun _=>true) held fuel e cs=some x) :
  ∃ (ev:EvV) (xa:Zoa) (xc:Nat) (ya:Zoa) (yc:Nat),cs=evL ev xa xc ya yc∧IntsAt w xa ev.levels.length xc ev.levels∧IntsAt w ya ev.prev.length yc ev.prev∧ev.text.length≤maxLen:=by
 obtain⟨xs,n,_,_,hlen,hxl,hf⟩:=DataW.trod_struct he h
 rw[ce] at hlen
 match xs,hxl,cs,hlen with
 | [y0,y1,y2,y3,y4,y5,y6,y7,y8],_,[v0,v1,v2,v3,v4,v5,v6,v7,v8],_ =>
  have g0:=hf 0 f0 rfl
  have g1:=hf 1 f1 rfl
  have g2:=hf 2 f2 rfl
  have g3:=hf 3 f3 rfl
  have g4:=hf 4 f4 rfl
  have g5:=hf 5 f5 rfl
  have g6:=hf 6 f6 rfl
  have g7:=hf 7 f7 rfl
  have g8:=hf 8 f8 rfl
  simp[o0,o1,o2,o3,o4,o5,o6,o7,o8,t0,t1,t2,t3,t4,t5,t6,t7,t8,cS,cI,cL] at g0 g1 g2 g3 g4 g5 g6 g7 g8
  obtain⟨k0,e0,_,m0⟩:=DataW.trod_int hI g0
  obtain⟨k1,e1,_,m1⟩:=DataW.trod_int hI g1
  obtain⟨k2,e2,_,m2⟩:=DataW.trod_int hI g2
  obtain⟨k3,e3,_,m3⟩:=DataW.trod_int hI g3
  obtain⟨k4,e4,_,m4⟩:=DataW.trod_int hI g4
  obtain⟨k8,e8,_,m8⟩:=DataW.trod_int hI g8
  obtain⟨s6,e6,_,m6⟩:=DataW.trod_string hS g6
  cases e0;cases e1;cases e2;cases e3;cases e4;cases e8;cases e6
  have key:∀ {v:Value} {y:DataW H × List MemPlace} {fl:Nat},DataW.trod enc P w base (fun _=>true) held fl tL [v]=some y→∃ (a:Zoa) (c:Nat) (zs:Zin),v=.slice a zs.length c∧IntsAt w a zs.length c zs:=by
   intro v y fl g
   rcases open_ints hL hI cI g with ⟨hcs,_⟩|⟨x,l,c,zs,hcs,_,hl,hm,hz,_,hcell,hwz⟩
   ·cases hcs
    exact⟨none,0,[],rfl,z3p w⟩
   ·cases hcs
    have hz':zs.length=c:=by simpa using hz
    have hll:(zs.take l).length=l:=by rw[List.length_take];omega
    refine⟨some x,c,zs.take l,by rw[hll],?_⟩
    rw[hll]
    exact zn9 hl hm hz' hcell hwz
  obtain⟨xa,xc,zl,rfl,hxl⟩:=key g5
  obtain⟨ya,yc,zp,rfl,hyl⟩:=key g7
  exact⟨⟨k0,k1,k2,k3,k4,zl,s6.data.toList,zp,k8⟩,xa,xc,ya,yc,rfl,hxl,hyl,by simpa using m6⟩

theorem zg1 {t e tS tI tL:TypeId} {f0 f1 f2 f3 f4 f5 f6 f7 f8:Field} {fuel:Nat} {cs:Zvs} {x:DataW H × List MemPlace} (ht:P.underlying t=some (.slice e)) (he:P.underlying e=some (.struct #[f0,f1,f2,f3,f4,f5,f6,f7,f8]))
  (hS:P.underlying tS=some .string) (hI:P.underlying tI=some (.int .i64)) (hL:P.underlying tL=some (.slice tI))
  (t0:f0.type=tI) (t1:f1.type=tI) (t2:f2.type=tI) (t3:f3.type=tI) (t4:f4.type=tI) (t5:f5.type=tL) (t6:f6.type=tS) (t7:f7.type=tL) (t8:f8.type=tI)
  (o0:f0.offset=0) (o1:f1.offset=1) (o2:f2.offset=2) (o3:f3.offset=3) (o4:f4.offset=4) (o5:f5.offset=5) (o6:f6.offset=6) (o7:f7.offset=7) (o8:f8.offset=8)
  (ce:P.cellsOf e=9) (cS:P.cellsOf tS=1) (cI:P.cellsOf tI=1) (cL:P.cellsOf tL=1) (h:DataW.trod enc P w base (fun _=>true) held fuel t cs=some x) :
  ∃ (oa:Zoa) (n cap:Nat) (es:List EvV),cs=[.slice oa n cap]∧EvsAt w oa n cap es:=by
 rcases open_slice ht h with h0|⟨a,len,cap,m,n,D,Pl,rfl,hb,hl,hm,hmm,_,hx⟩
 ·exact⟨none,0,0,[],h0.1,z9i w⟩
 ·have each:∀ i,i<len→∃ q:EvV × Zoa × Nat × Zoa × Nat,(∀ j,j<9→w.cell? (a.add (i * 9+j))=(evL q.1 q.2.1 q.2.2.1 q.2.2.2.1 q.2.2.2.2)[j]?)∧IntsAt w q.2.1 q.1.levels.length q.2.2.1 q.1.levels∧IntsAt w q.2.2.2.1 q.1.prev.length q.2.2.2.2 q.1.prev∧q.1.text.length≤maxLen:=by
   intro i hi
   obtain⟨cs',h1,h2⟩:=hx i (by rw[hmm];simp;omega)
   rw[ce] at h1
   obtain⟨_,_,hcell⟩:=World.cells?_some h1
   obtain⟨ev,xa,xc,ya,yc,rfl,b1,b2,b3⟩:=zdp he hS hI hL t0 t1 t2 t3 t4 t5 t6 t7 t8 o0 o1 o2 o3 o4 o5 o6 o7 o8 ce cS cI cL h2
   exact⟨(ev,xa,xc,ya,yc),fun j hj=>by rw[← add_add];exact hcell j hj,b1,b2,b3⟩
  have:Inhabited (EvV × Zoa × Nat × Zoa × Nat):=⟨(⟨0,0,0,0,0,[],[],[],0⟩,none,0,none,0)⟩
  obtain⟨F,hF⟩:=choose_lt each
  refine⟨some a,len,cap,(List.range len).map fun i=>(F i).1,rfl,⟨by simp,hl,hm,fun i e he=>?_⟩⟩
  have hi:i<len:=by simpa using (zGi.1 he).1
  have hfe:(F i).1=e:=by simpa [hi] using he
  obtain⟨k1,k2,k3,k4⟩:=hF i hi
  have hsp:a.spot=none:=by
   have q1:=(hF 0 (by omega)).1 0 (by omega)
   have q2:w.cell? a=some (J Y (F 0).1.id):=by simpa [Addr.add,evL] using q1
   exact cell_spot q2
  obtain⟨b,o,sp⟩:=a
  simp only at hsp
  subst hsp
  subst hfe
  refine⟨b,o,(F i).2.1,(F i).2.2.1,(F i).2.2.2.1,(F i).2.2.2.2,rfl,⟨fun j u hu=>?_,k2,k3,k4⟩⟩
  have hj:j<9:=by simpa [evL] using (zGi.1 hu).1
  have q1:=k1 j hj
  rw[Addr.add_mid,hu] at q1
  rw[Nat.add_assoc]
  exact q1
end

end Go.Proofs.YtfeebdcmlnapiaaGreat
