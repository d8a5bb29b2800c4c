/-
  Walks.
-/
import Derived.Test.YtfeebdcmlnapiaaGreatTRoomArg
import Derived.Test.YtfeebdcmlnapiaaGreatTWalk10a
import Derived.Deep.Cut
set_option maxRecDepth 100000
set_option maxHeartbeats 4000000
set_option linter.unusedVariables false
set_option linter.unusedSimpArgs false
namespace Go.Proofs.YtfeebdcmlnapiaaGreat
open Go.RowKit P1 P5 P9 P11 P12 P14 K
abbrev z6j (oa:Zoa) (n cap:Nat) (so:Zoa) (sn sc:Nat) (go:Zoa) (gn gc:Nat):Value:=.agg #[.slice oa n cap,.slice so sn sc,.slice go gn gc]

def stW (ss:Zis):Nat:=(ss.map List.length).sum

theorem zn4 {ss:Zis} {j:Nat} {s:Zii} (h:ss[j]? = some s):stW (ss.take (j+1))=stW (ss.take j)+s.length:=by
 unfold stW
 rw[List.take_add_one,h]
 simp

theorem za6:∀ {ss:Zis} {s:Zii},s∈ss→s.length≤stW ss
 | x::r,s,h=>by
  unfold stW
  rw[List.map_cons,List.sum_cons]
  rcases List.mem_cons.1 h with rfl|h
  ·omega
  ·have:=za6 h
   unfold stW at this
   omega

theorem zld:(Tryz.prog.info? 126).map (·.size)=some 1:=by kernel_rfl

theorem z7g:(Tryz.prog.info? 4).map (·.size)=some 1:=by kernel_rfl

theorem zjh (oa:Zoa) (n cap:Nat) (hn:n≤maxLen) (left:Int) (h0:0≤left) (h1:left≤1048576) (w:World) :
  Calls Tryz.prog 68 #[.slice oa n cap,.int .i64 left] w fun e w'=>e=.returned (.int .i64 (if left - n<0 then -1 else left - n))∧w'=w:=by
 unfold maxLen at hn
 by_cases c1:left - n<0
 ·have g1:decide (left - (n:Int)<0)=true:=by simpa using c1
  rw[if_pos c1]
  go_enter Tryz.func68,Tryz.ntmps68
  go_wp2_with fail
  go_ret
  exact⟨rfl,rfl⟩
 ·have g1:decide (left - (n:Int)<0)=false:=by simpa using c1
  rw[if_neg c1]
  go_enter Tryz.func68,Tryz.ntmps68
  go_wp2_with fail
  go_ret
  exact⟨rfl,rfl⟩

theorem zji (oa:Zoa) (n cap:Nat) (hn:n≤maxLen) (left:Int) (h0:0≤left) (h1:left≤1048576) (w:World) :
  Calls Tryz.prog 25 #[.slice oa n cap,.int .i64 left] w fun e w'=>e=.returned (.int .i64 (if left - n<0 then -1 else left - n))∧w'=w:=by
 unfold maxLen at hn
 by_cases c1:left - n<0
 ·have g1:decide (left - (n:Int)<0)=true:=by simpa using c1
  rw[if_pos c1]
  go_enter Tryz.func25,Tryz.ntmps25
  go_wp2_with fail
  go_ret
  exact⟨rfl,rfl⟩
 ·have g1:decide (left - (n:Int)<0)=false:=by simpa using c1
  rw[if_neg c1]
  go_enter Tryz.func25,Tryz.ntmps25
  go_wp2_with fail
  go_ret
  exact⟨rfl,rfl⟩

def SzS (w:World) (ss:Zis) (left:Int) (e:Ending) (w':World):Prop:=∃ z:Int,e=.returned (.int .i64 z)∧z≤left∧(0≤z→z+(stW ss:Int)+(ss.length:Int)=left)∧w'=w

theorem zfs (oa:Zoa) (n cap:Nat) (ss:Zis) (left:Int) (h0:0≤left) (h1:left≤1048576) (w:World) (hat:StsAt w oa n cap ss) :
  Calls Tryz.prog 24 #[.slice oa n cap,.int .i64 left] w (SzS w ss left):=by
 have hn:=hat.len
 have hmx:=zNt hat.room hat.most
 unfold maxLen at hmx
 by_cases c1:left - n<0
 ·go_enter Tryz.func24,Tryz.ntmps24
  go_wp2_with fail
  go_ret
  exact⟨-1,rfl,by omega,fun h=>by omega,rfl⟩
 ·have HN:=ZZ hn
  have HAT:=ZZ hat
  clear hn hat
  go_enter Tryz.func24,Tryz.ntmps24
  go_wp2_with fail
  go_loop [5,1] (fun i l=>∃ (j:Nat) (x:Int),i=.int .i64 (j:Int)∧l=.int .i64 x∧j≤n∧0≤x∧x≤left∧x+(stW (ss.take j):Int)+(n:Int)=left) (fun i _=>n - (intOf i).toNat)
  case atStart=>exact⟨0,left - n,rfl,rfl,Nat.zero_le _,by omega,by omega,by simp[stW]⟩
  case round =>
   obtain⟨j,x,rfl,rfl,hj,hx0,hx1,hsum⟩:=hrel
   have CY:=ZZ hsum
   clear hsum
   by_cases hlt:j<n
   ·have j0:(j:Int)<(n:Int):=by omega
    obtain⟨s,b,q,xa,xc,hs,hidx,hc,hits⟩:=HAT.o.get Tryz.underlying23 zld j hlt
    have HC:=ZZ (zjh xa s.length xc (zNt hits.room hits.most) x hx0 (by omega))
    have HT:=ZZ (zn4 hs)
    have hsl:=zNt hits.room hits.most
    unfold maxLen at hsl
    clear hits hs
    by_cases c2:x - s.length<0
    ·rw[if_pos c2] at HC
     go_wp2_with (go_at_call 68;refine (HC.o _).mono ?_;rintro e' w2 ⟨rfl,rfl⟩)
     go_ret
     exact⟨-1,rfl,by omega,fun h=>by omega,rfl⟩
    ·rw[if_neg c2] at HC
     have HS2:=ZZ (show x - (s.length:Int)+(stW (ss.take (j+1)):Int)+(n:Int)=left by
      have:=CY.o
      rw[HT.o]
      omega)
     have hx2:0≤x - (s.length:Int):=by omega
     have hx3:x - (s.length:Int)≤left:=by omega
     generalize x - (s.length:Int)=y at HC HS2 hx2 hx3
     have g2:¬ y<0:=by omega
     clear HT c2
     go_wp2_with (go_at_call 68;refine (HC.o _).mono ?_;rintro e' w2 ⟨rfl,rfl⟩)
     go_round
     case rel=>exact⟨j+1,y,by go_num,rfl,by omega,hx2,hx3,HS2.o⟩
     case measure=>simp[intOf];omega
   ·have HE:=ZZ (show ss.take j=ss from zTl (by rw[HN.o];omega))
    go_wp2_with fail
    go_ret
    refine⟨x,rfl,hx1,fun _=>?_,rfl⟩
    have:=CY.o
    rw[HE.o] at this
    rw[HN.o]
    exact this

structure za7 (es:List EvV) (ss:Zis) (gs:List Bool):Prop where
 ev:FineE es
 sl:ss.length≤1048576
 sw:stW ss≤1048576
 gl:gs.length≤1048576

def SzRl (w:World) (es:List EvV) (ss:Zis) (gs:List Bool) (left:Int) (e:Ending) (w':World):Prop:=∃ z:Int,e=.returned (.int .i64 z)∧z≤left∧(0≤z→za7 es ss gs)∧Bw w w'

theorem zle (left:Int) (h0:0≤left) (h1:left≤1048576) (oa:Zoa) (n cap:Nat) (es:List EvV) (so:Zoa) (sn sc:Nat) (ss:Zis) (go:Zoa) (gn gc:Nat) (gs:List Bool) (w:World) (hev:EvsAt w oa n cap es) (hst:StsAt w so sn sc ss) (hgs:BoolsAt w go gn gc gs) :
  Calls Tryz.prog 7 #[z6j oa n cap so sn sc go gn gc,.int .i64 left] w (SzRl w es ss gs left):=by
 obtain⟨W0,hW0,hb0,hR0⟩:=bxN w #[.slice oa n cap,.slice so sn sc,.slice go gn gc] 26
 have r0:=zb hR0 0 rfl
 have KF:=ZZ (zfq oa n cap es left h0 h1 W0 (hev.below hb0))
 have HST:=ZZ (hst.below hb0)
 have hgm:=zNt hgs.room hgs.most
 have Ep:=ZZ hgs.len
 have Ad:=ZZ hR0
 have HB0:=ZZ hb0
 have HW0:=ZZ hW0
 clear hev hst hgs hR0 hb0 hW0
 go_enter Tryz.func7,Tryz.ntmps7
 go_upto_region 1 with fail
 rw[HW0.o]
 clear HW0
 go_upto_region 2 with (go_at_call 23;(with_reducible refine KF.o.mono ?_);rintro r w1 ⟨z1,rfl,hz1,hf1,hb1⟩)
 have hR1:=(hb1.block w.heap.size (ze Ad.o)).trans Ad.o
 have r1:=zb hR1 1 rfl
 have r2:=zb hR1 2 rfl
 have HB1:=ZZ (zTr HB0.o hb1)
 have AX:=ZZ (HST.o.below hb1)
 have Aa:=ZZ hf1
 clear hb1 hR1 hf1 r0 KF HST
 by_cases c1:z1<0
 ·go_wp2_with fail
  go_ret
  exact⟨-1,rfl,by omega,fun h=>by omega,HB1.o⟩
 ·have EM:=ZZ (zfs so sn sc ss z1 (by omega) (by omega) w1 AX.o)
  go_upto_region 5 with (go_at_call 24;(with_reducible refine EM.o.mono ?_);rintro r w2 ⟨z2,rfl,hz2,hf2,rfl⟩)
  by_cases c2:z2<0
  ·go_wp2_with fail
   go_ret
   exact⟨-1,rfl,by omega,fun h=>by omega,HB1.o⟩
  ·have Br:=ZZ (zji go gn gc hgm z2 (by omega) (by omega))
   have Aj:=ZZ hf2
   clear hf2
   by_cases c3:z2 - gn<0
   ·rw[if_pos c3] at Br
    go_wp2_with (go_at_call 25;(with_reducible refine (Br.o _).mono ?_);rintro r w3 ⟨rfl,rfl⟩)
    go_ret
    exact⟨-1,rfl,by omega,fun h=>by omega,HB1.o⟩
   ·rw[if_neg c3] at Br
    have Bc:=ZZ (show za7 es ss gs from by
     have h1:=Aa.o (by omega)
     have h2:=Aj.o (by omega)
     have h3:=Ep.o
     exact⟨⟨by omega,by omega⟩,by omega,by omega,by omega⟩)
    have hyl:z2 - (gn:Int)≤left:=by omega
    generalize z2 - (gn:Int)=y at Br c3 hyl
    clear Aa Aj
    go_wp2_with (go_at_call 25;(with_reducible refine (Br.o _).mono ?_);rintro r w3 ⟨rfl,rfl⟩)
    go_ret
    exact⟨y,rfl,hyl,fun _=>Bc.o,HB1.o⟩

abbrev z7y (z:Bool):Value:=.bool z

theorem zo0:(Tryz.prog.info? 74).map (fun i=>(i.zero,i.size,i.bytes))=some (some (.slice none 0 0),1,24):=by kernel_rfl

theorem zo1:(Tryz.prog.info? 4).map (fun i=>(i.zero,i.size,i.bytes))=some (some (.bool false),1,1):=by kernel_rfl

theorem z8t:(Tryz.prog.info? 74).map (·.size)=some 1:=by kernel_rfl

structure StSh (w:World) (lo hi g:Nat) (ss:Zis) (k:Nat) (xs:Zvs):Prop where
 own:w.ownsRow lo 74 1 (.slice (some ⟨g,0,none⟩) xs.length xs.length) xs.length xs
 top:g<hi
 each:∀ i s,i<k→ss[i]? = some s→∃ q,xs[i]? = some (.slice (some ⟨q,0,none⟩) s.length s.length)∧q<hi∧w.ownsRow lo 79 2 (.slice (some ⟨q,0,none⟩) s.length s.length) s.length (s.flatMap z02)

theorem StSh.on {w w':World} {lo hi hi' g k:Nat} {ss:Zis} {xs:Zvs} (h:StSh w lo hi g ss k xs) (hb:Bw w w') (hh:hi≤hi'):StSh w' lo hi' g ss k xs :=
 ⟨own_below h.own hb,zLt h.top hh,fun i s hi hs=>by
  obtain⟨q,q1,q2,q3⟩:=h.each i s hi hs
  exact⟨q,q1,zLt q2 hh,own_below q3 hb⟩⟩

theorem StSh.sts {w:World} {lo hi g:Nat} {ss:Zis} {xs:Zvs} (h:StSh w lo hi g ss ss.length xs) (hl:xs.length=ss.length):StsAt w (some ⟨g,0,none⟩) ss.length ss.length ss:=by
 have hmx:ss.length≤maxLen:=by
  rcases h.own.2 with ⟨q,_⟩|⟨g',cap,cur,q,_,_,h3,h4,_⟩
  ·cases q
  ·omega
 refine⟨rfl,Nat.le_refl _,hmx,fun i s hs=>?_⟩
 have hi:=(zGi.1 hs).1
 obtain⟨q,q1,q2,q3⟩:=h.each i s hi hs
 refine⟨g,0,some ⟨q,0,none⟩,s.length,rfl,?_,?_⟩
 ·rw[Nat.zero_add,h.own.cellAt i (by omega)]
  exact q1
 ·obtain⟨oa',c',e,hat⟩:=z08 q3
  cases e
  exact hat

def zoq (w:World) (ss:Zis) (e:Ending) (w':World):Prop:=∃ g xs,xs.length=ss.length∧e=.returned (.slice (some ⟨g,0,none⟩) ss.length ss.length)∧StSh w' w.heap.size w'.heap.size g ss ss.length xs∧Bw w w'

theorem zft (oa:Zoa) (n cap:Nat) (ss:Zis) (hn20:ss.length≤1048576) (hs20:stW ss≤1048576) (w:World) (hat:StsAt w oa n cap ss) :
  Calls Tryz.prog 29 #[.slice oa n cap] w (zoq w ss):=by
 have hn:=hat.len
 subst hn
 obtain⟨i0,hi,hz0,hz1,hz2⟩:=info_parts zo0
 obtain⟨W0,hmk,hown0,hgr0⟩:=run_make_full (P:=Tryz.prog) w w.heap.size 30 74 i0 _ 1 Tryz.underlying30 hi hz0 hz1 .i64 .i64 ss.length (by rw[hz2];omega) (by unfold maxLen;omega) zLe
 have hb0:Bw w W0:=zBr.grown hgr0 zLe (fun k hk=>by cases hk)
 have HB0:=ZZ hb0
 have HOWN:=ZZ hown0
 have HAT:=ZZ hat
 have Er:=ZZ hs20
 have hxs:∃ xs:Zvs,xs.length=ss.length∧W0.ownsRow w.heap.size 74 1 (.slice (some ⟨w.heap.size,0,none⟩) ss.length ss.length) ss.length xs:=⟨_,hown0.1.trans (Nat.mul_one _),hown0⟩
 obtain⟨xs0,hx0,hxo⟩:=hxs
 have HX0:=ZZ hx0
 have KG:=ZZ hxo
 clear hown0 hgr0 hat hi hz0 hz1 hz2 hb0 hx0 hxo
 go_enter Tryz.func29,Tryz.ntmps29
 go_wp2_with fail
 go_loopw [4] (fun i wr=>∃ (j:Nat) (xs:Zvs),i=.int .i64 (j:Int)∧j≤ss.length∧xs.length=ss.length∧StSh wr w.heap.size wr.heap.size w.heap.size ss j xs∧Bw w wr) (fun i _=>ss.length - (intOf i).toNat)
 case atStart=>exact⟨0,xs0,rfl,Nat.zero_le _,HX0.o,⟨by rw[HX0.o];exact KG.o,(KG.o.lt _ rfl).2,fun i s hi=>by omega⟩,HB0.o⟩
 case round =>
  obtain⟨j,xs,rfl,hj,hxl,hsh,hbel⟩:=hrel
  by_cases hlt:j<ss.length
  ·have j0:(j:Int)<(ss.length:Int):=by omega
   obtain⟨s,b,q,xa,xc,hs,hidx,hc,hits⟩:=(HAT.o.below hbel).get Tryz.underlying23 zld j hlt
   have hsl:s.length≤1048576:=zNt (za6 (zMg hs)) Er.o
   have HC:=ZZ (zg4 xa s.length xc s hsl wr hits)
   have hidx2:∀ wx,(Instr.indexAt 30 (.slice (some ⟨w.heap.size,0,none⟩) ss.length ss.length) (.int .i64 (j:Int))).run Tryz.prog wx=.ok (.pointer (some ⟨w.heap.size,j,none⟩)) wx:=fun wx=>by
    have:=run_indexAt_slice wx 30 74 1 Tryz.underlying30 z8t w.heap.size 0 ss.length ss.length j hlt
    rwa [Nat.zero_add,Nat.mul_one] at this
   have Cu:=ZZ hsh
   have HS:=ZZ hs
   have hsz:=hbel.size
   clear hsh hs hits
   go_wp2_with (go_at_call 79;(with_reducible refine HC.o.mono ?_);rintro e' w2 ⟨g2,rfl,ho2,hb2⟩;have hsh2:=Cu.o.on hb2 zLe;have hx2:=hsh2.own.1;obtain⟨u,hu⟩:∃ u,w2.cell? ⟨w.heap.size,j,none⟩=some u:=⟨_,by rw[hsh2.own.cellAt j (by omega),List.getElem?_eq_getElem (by omega)]⟩;have hfz:=hsh2.own.frozenAt j;have Dw:=ZZ hsh2;clear hsh2 hx2)
   have hst:=Dw.o.own.stored j (.slice (some ⟨g2,0,none⟩) s.length s.length)
   have hg2:=(ho2.lt g2 rfl)
   have hszz:=hb2.size
   have hst2:=hst.2
   have hb3:Bw w (w2.setCell ⟨w.heap.size,j,none⟩ (.slice (some ⟨g2,0,none⟩) s.length s.length)):=(hbel.trans (hb2.mono hsz)).setCell zLe _
   have hsz3:w2.heap.size≤(w2.setCell ⟨w.heap.size,j,none⟩ (.slice (some ⟨g2,0,none⟩) s.length s.length)).heap.size:=hst2.size
   have hsh3:StSh (w2.setCell ⟨w.heap.size,j,none⟩ (.slice (some ⟨g2,0,none⟩) s.length s.length)) w.heap.size (w2.setCell ⟨w.heap.size,j,none⟩ (.slice (some ⟨g2,0,none⟩) s.length s.length)).heap.size w.heap.size ss (j+1) (xs.set j (.slice (some ⟨g2,0,none⟩) s.length s.length)):=by
    refine⟨?_,?_,fun i t hi ht=>?_⟩
    ·rw[List.length_set];exact hst.1
    ·have:=Dw.o.top
     omega
    ·by_cases e:i=j
     ·subst e
      rw[HS.o] at ht
      cases ht
      refine⟨g2,by rw[List.getElem?_set_self (by omega)],by omega,?_⟩
      exact (zu ho2 hsz).kept hst2 (.inr (fun e=>by have e1:g2=w.heap.size:=zSi e;have:=Cu.o.top;omega))
     ·obtain⟨q,q1,q2,q3⟩:=Dw.o.each i t (by omega) ht
      refine⟨q,by rw[List.getElem?_set_ne (Ne.symm e)];exact q1,by omega,q3.kept hst2 (.inr (fun e=>z7k q3 Dw.o.own (by decide) _ e rfl))⟩
   go_roundw
   case rel=>exact⟨j+1,_,by go_num,by omega,by rw[List.length_set];exact hxl,hsh3,hb3⟩
   case measure=>simp[intOf];omega
  ·have hjn:j=ss.length:=by omega
   subst hjn
   have Cu:=ZZ hsh
   clear hsh
   go_wp2_with fail
   go_ret
   exact⟨w.heap.size,xs,hxl,rfl,Cu.o,hbel⟩

theorem zh3 (oa:Zoa) (n cap:Nat) (zs:List Bool) (hn20:zs.length≤1048576) (w:World) (hat:BoolsAt w oa n cap zs) :
  Calls Tryz.prog 30 #[.slice oa n cap] w fun e w'=>∃ g,e=.returned (.slice (some ⟨g,0,none⟩) n n)∧w'.ownsRow w.heap.size 4 1 (.slice (some ⟨g,0,none⟩) n n) n (zs.map z7y)∧Bw w w':=by
 have hn:=hat.len
 subst hn
 obtain⟨i0,hi,hz0,hz1,hz2⟩:=info_parts zo1
 obtain⟨W0,hmk,hown0,hgr0⟩:=run_make_full (P:=Tryz.prog) w w.heap.size 24 4 i0 _ 1 Tryz.underlying24 hi hz0 hz1 .i64 .i64 zs.length (by rw[hz2];omega) (by unfold maxLen;omega) zLe
 have HOWN:=ZZ hown0
 have DV:=ZZ hgr0
 have HAT:=ZZ hat
 clear hown0 hgr0 hat hi hz0 hz1 hz2
 go_enter Tryz.func30,Tryz.ntmps30
 go_wp2_with fail
 go_loopw [4] (fun i wr=>∃ (j:Nat) (xs:Zvs),i=.int .i64 (j:Int)∧j≤zs.length∧xs.take j=(zs.take j).map z7y∧wr.ownsRow w.heap.size 4 1 (.slice (some ⟨w.heap.size,0,none⟩) zs.length zs.length) zs.length xs∧Bw w wr) (fun i _=>zs.length - (intOf i).toNat)
 case atStart=>exact⟨0,_,rfl,Nat.zero_le _,by simp,HOWN.o,zBr.grown DV.o zLe (fun k hk=>by cases hk)⟩
 case round =>
  obtain⟨j,xs,rfl,hj,hfill,hown,hbel⟩:=hrel
  by_cases hlt:j<zs.length
  ·have j0:(j:Int)<(zs.length:Int):=by omega
   obtain⟨z,b,q,hz,hidx,c0⟩:=(HAT.o.below hbel).get Tryz.underlying24 z7g j hlt
   have hidx2:∀ wx,(Instr.indexAt 24 (.slice (some ⟨w.heap.size,0,none⟩) zs.length zs.length) (.int .i64 (j:Int))).run Tryz.prog wx=.ok (.pointer (some ⟨w.heap.size,j,none⟩)) wx:=fun wx=>by
    have:=run_indexAt_slice wx 24 4 1 Tryz.underlying24 z7g w.heap.size 0 zs.length zs.length j hlt
    rwa [Nat.zero_add,Nat.mul_one] at this
   have hl:=hown.1
   obtain⟨u,hu⟩:∃ u,wr.cell? ⟨w.heap.size,j,none⟩=some u:=⟨_,by rw[hown.cellAt j (by omega),List.getElem?_eq_getElem (by omega)]⟩
   have hfz:=hown.frozenAt j
   have HST:=ZZ (hown.stored j (.bool z))
   have BK:=ZZ (show (xs.set j (.bool z)).take (j+1)=(zs.take (j+1)).map z7y by
    rw[List.take_add_one,List.take_set,List.set_eq_of_length_le (by simp;omega),hfill,List.getElem?_set_self (by omega),List.take_add_one,hz]
    simp[z7y])
   have hsz:=hbel.size
   clear hown hfill hz hl
   go_wp2_with fail
   go_roundw
   case rel=>exact⟨j+1,_,by go_num,by omega,BK.o,HST.o.1,hbel.setCell zLe _⟩
   case measure=>simp[intOf];omega
  ·have hjn:j=zs.length:=by omega
   have HE:=ZZ (show xs=zs.map z7y by
    have h1:=hfill
    have h2:=hown.1
    rw[hjn] at h1
    rw[zTl (by omega),zTl (by omega)] at h1
    exact h1)
   have HO:=ZZ hown
   clear hown hfill
   go_wp2_with fail
   go_ret
   refine⟨w.heap.size,rfl,?_,hbel⟩
   rw[← HE.o]
   exact HO.o

theorem z7z {w:World} {base g n:Nat} {zs:List Bool} (h:w.ownsRow base 4 1 (.slice (some ⟨g,0,none⟩) n n) n (zs.map z7y)):BoolsAt w (some ⟨g,0,none⟩) n n zs:=by
 have hl:=h.1
 rw[List.length_map,Nat.mul_one] at hl
 have hmx:n≤maxLen:=by
  rcases h.2 with ⟨q,_⟩|⟨g',cap,cur,q,_,_,h3,h4,_⟩
  ·cases q
  ·omega
 refine⟨hl,Nat.le_refl _,hmx,fun i z hz=>?_⟩
 have hi:=(zGi.1 hz).1
 refine⟨g,0,rfl,?_⟩
 rw[Nat.zero_add,h.cellAt i (by omega),List.getElem?_map,hz]
 rfl

theorem zfu (oa:Zoa) (n cap:Nat) (ob:Zoa) (cap':Nat) (zs:List Bool) (hn20:n≤1048576) (w:World) (hat:BoolsAt w oa n cap zs) (hbt:BoolsAt w ob n cap' zs) :
  Calls Tryz.prog 36 #[.slice oa n cap,.slice ob n cap'] w fun e w'=>e=.returned (.bool true)∧Bw w w':=by
 have HAT:=ZZ hat
 have AA:=ZZ hbt
 clear hat hbt
 go_enter Tryz.func36,Tryz.ntmps36
 go_wp2_with fail
 go_loopw [5] (fun i wr=>∃ (j:Nat),i=.int .i64 (j:Int)∧j≤n∧Bw w wr) (fun i _=>n - (intOf i).toNat)
 case atStart=>exact⟨0,rfl,Nat.zero_le _,zBr⟩
 case round =>
  obtain⟨j,rfl,hj,hbel⟩:=hrel
  have hsz:=hbel.size
  by_cases hlt:j<n
  ·have j0:(j:Int)<(n:Int):=by omega
   obtain⟨z,b,q,hz,hidx,c0⟩:=(HAT.o.below hbel).get Tryz.underlying24 z7g j hlt
   obtain⟨z',b',q',hz',hidx',c0'⟩:=(AA.o.below hbel).get Tryz.underlying24 z7g j hlt
   have hee:z=z':=by rw[hz] at hz';exact zSi hz'
   subst hee
   clear hz hz'
   cases z
   ·go_wp2_with fail
    go_quiet (fail)
    go_wp2_with fail
    go_roundw
    case rel=>exact⟨j+1,by go_num,by omega,below_drewN hbel _⟩
    case measure=>simp[intOf];omega
   ·go_wp2_with fail
    go_quiet (fail)
    go_wp2_with fail
    go_roundw
    case rel=>exact⟨j+1,by go_num,by omega,below_drewN hbel _⟩
    case measure=>simp[intOf];omega
  ·have hjn:j=n:=by omega
   go_wp2_with fail
   go_ret
   exact⟨rfl,hbel⟩

theorem ze6 (oa:Zoa) (n cap:Nat) (ss:Zis) (ob:Zoa) (cap':Nat) (hn20:n≤1048576) (hs20:stW ss≤1048576) (w:World) (hat:StsAt w oa n cap ss) (hbt:StsAt w ob n cap' ss) :
  Calls Tryz.prog 35 #[.slice oa n cap,.slice ob n cap'] w fun e w'=>e=.returned (.bool true)∧Bw w w':=by
 have HAT:=ZZ hat
 have AA:=ZZ hbt
 have Er:=ZZ hs20
 clear hat hbt hs20
 go_enter Tryz.func35,Tryz.ntmps35
 go_wp2_with fail
 go_loopw [5] (fun i wr=>∃ (j:Nat),i=.int .i64 (j:Int)∧j≤n∧Bw w wr) (fun i _=>n - (intOf i).toNat)
 case atStart=>exact⟨0,rfl,Nat.zero_le _,zBr⟩
 case round =>
  obtain⟨j,rfl,hj,hbel⟩:=hrel
  have hsz:=hbel.size
  by_cases hlt:j<n
  ·have j0:(j:Int)<(n:Int):=by omega
   obtain⟨s,b,q,xa,xc,hs,hidx,hc,hit⟩:=(HAT.o.below hbel).get Tryz.underlying30 z8t j hlt
   obtain⟨s',b',q',xa',xc',hs',hidx',hc',hit'⟩:=(AA.o.below hbel).get Tryz.underlying30 z8t j hlt
   have hee:s=s':=by rw[hs] at hs';exact zSi hs'
   subst hee
   have hsl:s.length≤1048576:=zNt (za6 (zMg hs)) Er.o
   have hb:=zw hc
   have hb':=zw hc'
   have HC:=ZZ (fun (w2:World) (hb2:Bw wr w2)=>zeo xa s.length xc s xa' xc' hsl w2 (hit.below hb2) (hit'.below hb2))
   clear hs hs' hit hit'
   go_wp2_with fail
   refine zn (F:=Bw wr) (by kernel_rfl) (by kernel_rfl) zBr.drew ?_
   have hne:Nonempty (InW (Bw wr)):=⟨⟨_,zBr⟩⟩
   have k0:=ciW hc
   have k1:∀ m:InW (Bw wr),m.w.cell? ⟨b',q',none⟩=some (.slice xa' s.length xc'):=fun m=>(m.h.cell hb').trans hc'
   repeat (go_big_quiet_step (first|(go_at_call 88;refine (HC.o _ (InW.h _)).mono ?_;rintro e' w2 ⟨rfl,hb2⟩;exact⟨rfl,iwW hb2,rfl⟩)))
   refine wpQuiet_nil ?_
   intro _ hw'
   obtain⟨nq,hw''⟩:=hw'
   subst hw''
   have hb3:=hbel.trans (nq.h.mono hsz)
   generalize nq.w=w2 at hb3 ⊢
   clear hne k0 k1 hc hc'
   go_wp2_with fail
   go_roundw
   case rel=>exact⟨j+1,by go_num,by omega,hb3⟩
   case measure=>simp[intOf];omega
  ·have hjn:j=n:=by omega
   go_wp2_with fail
   go_ret
   exact⟨rfl,hbel⟩

theorem zhz {w w':World} {lo:Nat} {oa:Zoa} {n cap:Nat} {zs xs:Zvs} {ns:Zin} {m:Nat} (h:IntsAt w oa n cap ns) (ho:w.ownsRow lo 3 1 (.slice oa n cap) m xs) (hk:∀ k,lo≤k→k<w.heap.size→w'.heap[k]? = w.heap[k]?):IntsAt w' oa n cap ns :=
 ⟨h.len,h.room,h.most,h.fits,fun i z hz=>by
  obtain⟨b,o,ha,hc⟩:=h.at_ i z hz
  refine⟨b,o,ha,?_⟩
  subst ha
  exact (World.cell?_of_block (hk b (ho.lt b rfl).1 (zw hc))).trans hc⟩

theorem zc6 {w w':World} {lo hi g n:Nat} {es:List EvV} (h:EvsAt w (some ⟨g,0,none⟩) n n es) (hs:EvSh w lo hi g es) (hsz:w.heap.size≤w'.heap.size) (hk:∀ k,lo≤k→k<w.heap.size→w'.heap[k]? = w.heap[k]?):EvsAt w' (some ⟨g,0,none⟩) n n es∧EvSh w' lo hi g es:=by
 obtain⟨h1,h2,cs,h3,h4,h5⟩:=hs
 have hg:=hk g h1 (ze h3)
 have rowS:∀ {v:Value} {m:Nat},RowS w lo hi v m→RowS w' lo hi v m:=fun {v m} hr=>by
  obtain⟨⟨xs,q1⟩,q2⟩:=hr
  refine⟨⟨xs,?_⟩,q2⟩
  refine⟨q1.1,?_⟩
  rcases q1.2 with hn|⟨q,cap,cur,rfl,a1,a2,r⟩
  ·exact .inl hn
  ·exact .inr ⟨q,cap,cur,rfl,a1,(hk q a1 (ze a2)).trans a2,r⟩
 refine⟨⟨h.len,h.room,h.most,fun i e he=>?_⟩,h1,h2,cs,hg.trans h3,h4,fun i e he=>?_⟩
 ·obtain⟨b,o,xa,xc,ya,yc,ha,hev⟩:=h.at_ i e he
  cases ha
  obtain⟨vl,vp,q1,q2,q3,q4⟩:=h5 i e he
  have c5:=hev.cell 5 _ rfl
  have c7:=hev.cell 7 _ rfl
  have e5:w.cell? ⟨g,i * 9+5,none⟩=some vl:=zb h3 _ q1
  have e7:w.cell? ⟨g,i * 9+7,none⟩=some vp:=zb h3 _ q2
  rw[Nat.zero_add] at c5 c7
  rw[e5] at c5
  rw[e7] at c7
  cases c5
  cases c7
  obtain⟨⟨xs,o1⟩,_⟩:=q3
  obtain⟨⟨ys,o2⟩,_⟩:=q4
  exact⟨g,0,xa,xc,ya,yc,rfl,⟨fun j u hu=>(World.cell?_of_block hg).trans (hev.cell j u hu),zhz (zs:=[]) hev.lev o1 hk,zhz (zs:=[]) hev.prv o2 hk,hev.txt⟩⟩
 ·obtain⟨vl,vp,q1,q2,q3,q4⟩:=h5 i e he
  exact⟨vl,vp,q1,q2,rowS q3,rowS q4⟩

theorem z81 {w w':World} {lo:Nat} {e:TypeId} {k:Nat} {v:Value} {n:Nat} {xs:Zvs} (h:w.ownsRow lo e k v n xs) (hk:∀ k,lo≤k→k<w.heap.size→w'.heap[k]? = w.heap[k]?):w'.ownsRow lo e k v n xs:=by
 refine⟨h.1,?_⟩
 rcases h.2 with hn|⟨q,cap,cur,rfl,a1,a2,r⟩
 ·exact .inl hn
 ·exact .inr ⟨q,cap,cur,rfl,a1,(hk q a1 (ze a2)).trans a2,r⟩

theorem zfv {w w':World} {lo hi g k:Nat} {ss:Zis} {xs:Zvs} (h:StSh w lo hi g ss k xs) (hk:∀ k,lo≤k→k<w.heap.size→w'.heap[k]? = w.heap[k]?):StSh w' lo hi g ss k xs :=
 ⟨z81 h.own hk,h.top,fun i s hi hs=>by
  obtain⟨q,q1,q2,q3⟩:=h.each i s hi hs
  exact⟨q,q1,q2,z81 q3 hk⟩⟩

structure RmSh (w:World) (lo hi g h k:Nat) (es:List EvV) (ss:Zis) (gs:List Bool) (xs:Zvs):Prop where
 ev:EvsAt w (some ⟨g,0,none⟩) es.length es.length es
 fine:∃ m1 m2,lo≤m1∧m1≤m2∧m2≤hi∧EvSh w lo m1 g es∧StSh w m1 m2 h ss ss.length xs∧w.ownsRow m2 4 1 (.slice (some ⟨k,0,none⟩) gs.length gs.length) gs.length (gs.map z7y)
 es:EvSh w lo hi g es
 sx:xs.length=ss.length
 ss:StSh w lo hi h ss ss.length xs
 gs:w.ownsRow lo 4 1 (.slice (some ⟨k,0,none⟩) gs.length gs.length) gs.length (gs.map z7y)
 gt:k<hi

theorem RmSh.on {w w':World} {lo hi g h k:Nat} {es:List EvV} {ss:Zis} {gs:List Bool} {xs:Zvs} (r:RmSh w lo hi g h k es ss gs xs) (hb:Bw w w'):RmSh w' lo hi g h k es ss gs xs :=
 ⟨r.ev.below hb,by
  obtain⟨m1,m2,a1,a2,a3,a4,a5,a6⟩:=r.fine
  exact⟨m1,m2,a1,a2,a3,a4.on hb,a5.on hb zLe,own_below a6 hb⟩,r.es.on hb,r.sx,r.ss.on hb zLe,own_below r.gs hb,r.gt⟩

abbrev rmS (es:List EvV) (ss:Zis) (gs:List Bool) (g h k:Nat):Value:=z6j (some ⟨g,0,none⟩) es.length es.length (some ⟨h,0,none⟩) ss.length ss.length (some ⟨k,0,none⟩) gs.length gs.length

def ToRm (w:World) (es:List EvV) (ss:Zis) (gs:List Bool) (e:Ending) (w':World):Prop:=∃ g h k xs,e=.returned (rmS es ss gs g h k)∧RmSh w' w.heap.size w'.heap.size g h k es ss gs xs∧Bw w w'

theorem EvSh.wide {w:World} {lo lo' hi hi' g:Nat} {es:List EvV} (h:EvSh w lo hi g es) (h1:lo'≤lo) (h2:hi≤hi'):EvSh w lo' hi' g es:=by
 obtain⟨a1,a2,cs,a3,a4,a5⟩:=h
 have rw_:∀ {v:Value} {m:Nat},RowS w lo hi v m→RowS w lo' hi' v m:=fun {v m} hr=>by
  obtain⟨⟨xs,q1⟩,q2⟩:=hr
  exact⟨⟨xs,zu q1 h1⟩,fun q hq=>zLt (q2 q hq) h2⟩
 exact⟨zNt h1 a1,zLt a2 h2,cs,a3,a4,fun i e he=>by
  obtain⟨vl,vp,q1,q2,q3,q4⟩:=a5 i e he
  exact⟨vl,vp,q1,q2,rw_ q3,rw_ q4⟩⟩

theorem StSh.wide {w:World} {lo lo' hi hi' g k:Nat} {ss:Zis} {xs:Zvs} (h:StSh w lo hi g ss k xs) (h1:lo'≤lo) (h2:hi≤hi'):StSh w lo' hi' g ss k xs :=
 ⟨zu h.own h1,zLt h.top h2,fun i s hi hs=>by
  obtain⟨q,q1,q2,q3⟩:=h.each i s hi hs
  exact⟨q,q1,zLt q2 h2,zu q3 h1⟩⟩

theorem zjk (oa:Zoa) (n cap:Nat) (es:List EvV) (so:Zoa) (sn sc:Nat) (ss:Zis) (go:Zoa) (gn gc:Nat) (gs:List Bool) (hf:za7 es ss gs) (w:World) (hev:EvsAt w oa n cap es) (hst:StsAt w so sn sc ss) (hgs:BoolsAt w go gn gc gs) :
  Calls Tryz.prog 9 #[z6j oa n cap so sn sc go gn gc] w (ToRm w es ss gs):=by
 have hn:=hev.len
 have hsn:=hst.len
 have hgn:=hgs.len
 subst hn
 subst hsn
 subst hgn
 obtain⟨W0,hW0⟩:∃ W0,((w.alloc (.cells #[.slice oa es.length cap,.slice so ss.length sc,.slice go gs.length gc] 26)).alloc (.cells #[.slice none 0 0,.slice none 0 0,.slice none 0 0] 32)).alloc (.cells #[.slice none 0 0,.slice none 0 0,.slice none 0 0] 32)=W0:=⟨_,rfl⟩
 have hb0:Bw w W0:=by rw[← hW0];exact ((zBa).alloc (by simp) _).alloc (by simp;omega) _
 have hs0:W0.heap.size=w.heap.size+1+1+1:=by rw[← hW0];simp
 have hA0:W0.heap[w.heap.size]? = some (.cells #[.slice oa es.length cap,.slice so ss.length sc,.slice go gs.length gc] 26 (0,0)):=by
  rw[← hW0]
  exact (((zBa).alloc (by simp) _:Below (w.alloc (.cells #[.slice oa es.length cap,.slice so ss.length sc,.slice go gs.length gc] 26)).heap.size _ _).block w.heap.size (by simp)).trans (heap_alloc_new w _)
 have hR0:W0.heap[w.heap.size+1]? = some (.cells #[.slice none 0 0,.slice none 0 0,.slice none 0 0] 32 (0,0)):=by
  rw[← hW0]
  have:=heap_alloc_new (w.alloc (.cells #[.slice oa es.length cap,.slice so ss.length sc,.slice go gs.length gc] 26)) (.cells #[.slice none 0 0,.slice none 0 0,.slice none 0 0] 32)
  rw[World.size_alloc] at this
  exact ((zBa:Below ((w.alloc (.cells #[.slice oa es.length cap,.slice so ss.length sc,.slice go gs.length gc] 26)).alloc (.cells #[.slice none 0 0,.slice none 0 0,.slice none 0 0] 32)).heap.size _ _).block (w.heap.size+1) (by simp)).trans this
 have hO0:W0.heap[w.heap.size+1+1]? = some (.cells #[.slice none 0 0,.slice none 0 0,.slice none 0 0] 32 (0,0)):=by
  rw[← hW0]
  have:=heap_alloc_new ((w.alloc (.cells #[.slice oa es.length cap,.slice so ss.length sc,.slice go gs.length gc] 26)).alloc (.cells #[.slice none 0 0,.slice none 0 0,.slice none 0 0] 32)) (.cells #[.slice none 0 0,.slice none 0 0,.slice none 0 0] 32)
  rw[World.size_alloc,World.size_alloc] at this
  exact this
 have r0:=zb hA0 0 rfl
 have DU:=ZZ (zfr oa es.length cap es hf.ev W0 (hev.below hb0))
 have HST:=ZZ hst
 have Es:=ZZ hgs
 have HF:=ZZ hf
 have HW0:=ZZ hW0
 have Au:=ZZ hA0
 have Ad:=ZZ hR0
 have AB:=ZZ hO0
 have HB0:=ZZ hb0
 obtain⟨b,hbd⟩:∃ b,w.heap.size=b:=⟨_,rfl⟩
 clear hW0 hA0 hR0 hO0 hb0 hev hst hgs hf
 go_enter Tryz.func9,Tryz.ntmps9
 go_upto_region 2 with fail
 rw[HW0.o]
 clear HW0
 rw[hbd] at Au Ad AB r0 hs0
 have Aw:=ZZ hbd
 clear hbd
 have hltO:=ze AB.o
 have hltA:=ze Au.o
 go_upto_region 3 with (go_at_call 28;(with_reducible refine DU.o.mono ?_);rintro r w1 ⟨g1,rfl,he1,hs1,hb1⟩;have hO1:=(hb1.block _ hltO).trans AB.o;have o10:=zb hO1 0 rfl;have f10:=zh hO1 0)
 obtain⟨W1,hW1⟩:∃ W1,w1.setCell ⟨b+1+1,0,none⟩ (.slice (some ⟨g1,0,none⟩) es.length es.length)=W1:=⟨_,rfl⟩
 try rw[hW1]
 obtain⟨hO2,hg1⟩:=zx [.slice (some ⟨g1,0,none⟩) es.length es.length] w1 _ 0 hO1
 rw[show w1.setCells (b+1+1) 0 [.slice (some ⟨g1,0,none⟩) es.length es.length]=W1 from hW1] at hO2 hg1
 have hz1:=hb1.size
 have hzz1:=hg1.size
 have up1:∀ k,W0.heap.size≤k→k<w1.heap.size→W1.heap[k]? = w1.heap[k]?:=fun k h1 h2=>hg1.block k h2 (fun e=>by have:=zSi e;omega)
 obtain⟨he2,hs2⟩:=zc6 he1 hs1 hzz1 up1
 have dn1:∀ k,k<b+1+1→W1.heap[k]? = W0.heap[k]?:=fun k hk=>(hg1.block k (by omega) (fun e=>by have:=zSi e;omega)).trans (hb1.block k (by omega))
 have hb2:Below (b+1+1) W0 W1:=(hb1.mono (by omega)).grown hg1 (by omega) (fun k hk=>by cases hk;exact Nat.le_refl _)
 have HE2:=ZZ he2
 have HS2:=ZZ hs2
 have Ag:=ZZ hO2
 have HB2:=ZZ hb2
 have r1:=(hb2.cell (p:=⟨b,1,none⟩) (show b<b+1+1 by omega)).trans (zb Au.o 1 rfl)
 have r2:=(hb2.cell (p:=⟨b,2,none⟩) (show b<b+1+1 by omega)).trans (zb Au.o 2 rfl)
 have hz01:W0.heap.size≤W1.heap.size:=by omega
 have hbw1:Bw w W1:=HB0.o.trans (hb2.mono (by rw[Aw.o];omega))
 have Et:=ZZ (zft so ss.length sc ss HF.o.sl HF.o.sw W1 (HST.o.below hbw1))
 have Df:=ZZ hbw1
 clear hb1 he1 hs1 hO1 hW1 hg1 he2 hs2 hO2 hb2 o10 f10 r0 DU up1 dn1 hbw1
 go_upto_region 4 with (go_at_call 29;(with_reducible refine Et.o.mono ?_);rintro r w2 ⟨g2,xs,hxl,rfl,hs2,hb2⟩;have hO3:=(hb2.block _ (by omega)).trans Ag.o;have o11:=zb hO3 1 rfl;have f11:=zh hO3 1;have hz2:=hb2.size)
 obtain⟨W2,hW2⟩:∃ W2,w2.setCell ⟨b+1+1,1,none⟩ (.slice (some ⟨g2,0,none⟩) ss.length ss.length)=W2:=⟨_,rfl⟩
 try rw[hW2]
 obtain⟨hO4,hg2⟩:=zx [.slice (some ⟨g2,0,none⟩) ss.length ss.length] w2 _ 1 hO3
 rw[show w2.setCells (b+1+1) 1 [.slice (some ⟨g2,0,none⟩) ss.length ss.length]=W2 from hW2] at hO4 hg2
 have hzz2:=hg2.size
 have up2:∀ k,W0.heap.size≤k→k<w2.heap.size→W2.heap[k]? = w2.heap[k]?:=fun k h1 h2=>hg2.block k h2 (fun e=>by have:=zSi e;omega)
 obtain⟨he4,hs4⟩:=zc6 (HE2.o.below hb2) (HS2.o.on hb2) hzz2 up2
 have GA:=ZZ (zfv hs2 (fun k h1 h2=>up2 k (zNt hz01 h1) h2))
 have hb4:Below (b+1+1) W0 W2:=(HB2.o.trans (hb2.mono (by omega))).grown hg2 (by omega) (fun k hk=>by cases hk;exact Nat.le_refl _)
 have hbw2:Bw w W2:=HB0.o.trans (hb4.mono (by rw[Aw.o];omega))
 have Db:=ZZ he4
 have CW:=ZZ hs4
 have Bg:=ZZ hO4
 have AC:=ZZ hb4
 have r2':=(hb4.cell (p:=⟨b,2,none⟩) (show b<b+1+1 by omega)).trans (zb Au.o 2 rfl)
 have EO:=ZZ (zh3 go gs.length gc gs HF.o.gl W2 (Es.o.below hbw2))
 clear hb2 hs2 hO3 hW2 hg2 he4 hs4 hO4 hb4 o11 f11 r1 r2 Et HE2 HS2 Ag HB2 Df up2 hbw2
 go_upto_region 5 with (go_at_call 30;(with_reducible refine EO.o.mono ?_);rintro r w3 ⟨g3,rfl,hg3o,hb3⟩;have hO5:=(hb3.block _ (by omega)).trans Bg.o;have o12:=zb hO5 2 rfl;have f12:=zh hO5 2;have hz3:=hb3.size)
 obtain⟨W3,hW3⟩:∃ W3,w3.setCell ⟨b+1+1,2,none⟩ (.slice (some ⟨g3,0,none⟩) gs.length gs.length)=W3:=⟨_,rfl⟩
 try rw[hW3]
 obtain⟨hO6,hg3⟩:=zx [.slice (some ⟨g3,0,none⟩) gs.length gs.length] w3 _ 2 hO5
 rw[show w3.setCells (b+1+1) 2 [.slice (some ⟨g3,0,none⟩) gs.length gs.length]=W3 from hW3] at hO6 hg3
 have hzz3:=hg3.size
 have up3:∀ k,W0.heap.size≤k→k<w3.heap.size→W3.heap[k]? = w3.heap[k]?:=fun k h1 h2=>hg3.block k h2 (fun e=>by have:=zSi e;omega)
 obtain⟨he6,hs6⟩:=zc6 (Db.o.below hb3) (CW.o.on hb3) hzz3 up3
 have JV:=ZZ (zfv (GA.o.on hb3 zLe) (fun k h1 h2=>up3 k (zNt hz01 h1) h2))
 have hz02:W0.heap.size≤W2.heap.size:=by omega
 have JW:=ZZ (z81 hg3o (fun k h1 h2=>up3 k (zNt hz02 h1) h2))
 have Gd:=ZZ (show g3<W3.heap.size from by have:=(hg3o.lt g3 rfl).2;omega)
 have hb6:Below (b+1+1) W0 W3:=(AC.o.trans (hb3.mono (by omega))).grown hg3 (by omega) (fun k hk=>by cases hk;exact Nat.le_refl _)
 have hR6:=(hb6.block (b+1) (by omega)).trans Ad.o
 have t0:W3.cell? ⟨b+1+1,0,none⟩=some (.slice (some ⟨g1,0,none⟩) es.length es.length):=zb hO6 0 rfl
 have t1:W3.cell? ⟨b+1+1,1,none⟩=some (.slice (some ⟨g2,0,none⟩) ss.length ss.length):=zb hO6 1 rfl
 have t2:W3.cell? ⟨b+1+1,2,none⟩=some (.slice (some ⟨g3,0,none⟩) gs.length gs.length):=zb hO6 2 rfl
 have u0:=zb hR6 0 rfl
 have u1:=zb hR6 1 rfl
 have u2:=zb hR6 2 rfl
 have y0:=zh hR6 0
 have y1:=zh hR6 1
 have y2:=zh hR6 2
 have LD:=ZZ he6
 have Gu:=ZZ hs6
 have Az:=ZZ hb6
 have CE:=ZZ hR6
 clear hb3 hg3o hO5 hW3 hg3 he6 hs6 hO6 hb6 o12 f12 r2' EO Db CW Bg AC up3 GA hR6
 go_wp2_with fail
 obtain⟨w9,hw9⟩:∃ w9,(((W3.setCell ⟨b+1,0,none⟩ (.slice (some ⟨g1,0,none⟩) es.length es.length)).setCell ⟨b+1,1,none⟩ (.slice (some ⟨g2,0,none⟩) ss.length ss.length)).setCell ⟨b+1,2,none⟩ (.slice (some ⟨g3,0,none⟩) gs.length gs.length))=w9:=⟨_,rfl⟩
 obtain⟨hr,hg9⟩:=zx [.slice (some ⟨g1,0,none⟩) es.length es.length,.slice (some ⟨g2,0,none⟩) ss.length ss.length,.slice (some ⟨g3,0,none⟩) gs.length gs.length] W3 _ 0 CE.o
 rw[show W3.setCells (b+1) 0 [.slice (some ⟨g1,0,none⟩) es.length es.length,.slice (some ⟨g2,0,none⟩) ss.length ss.length,.slice (some ⟨g3,0,none⟩) gs.length gs.length]=w9 from hw9] at hr hg9
 rw[hw9]
 clear u0 u1 u2
 have u0:w9.cell? ⟨b+1,0,none⟩=some (.slice (some ⟨g1,0,none⟩) es.length es.length):=zb hr 0 rfl
 have u1:w9.cell? ⟨b+1,1,none⟩=some (.slice (some ⟨g2,0,none⟩) ss.length ss.length):=zb hr 1 rfl
 have u2:w9.cell? ⟨b+1,2,none⟩=some (.slice (some ⟨g3,0,none⟩) gs.length gs.length):=zb hr 2 rfl
 refine bodyPost_ret (v:=rmS es ss gs g1 g2 g3) (by simp[results,Tryz.results9,go_sem,u0,u1,u2]) rfl ?_
 have hzz9:=hg9.size
 have up9:∀ k,W0.heap.size≤k→k<W3.heap.size→w9.heap[k]? = W3.heap[k]?:=fun k h1 h2=>hg9.block k h2 (fun e=>by have:=zSi e;omega)
 obtain⟨he9,hs9⟩:=zc6 LD.o Gu.o hzz9 up9
 have hbe:=Aw.o
 have hb9:Below (b+1) W0 w9:=(Az.o.mono (by omega)).grown hg9 (by omega) (fun k hk=>by cases hk;exact Nat.le_refl _)
 have hgg:=Gd.o
 have hSS9:=zfv JV.o (fun k h1 h2=>up9 k (zNt hz01 h1) h2)
 have hBO9:=z81 JW.o (fun k h1 h2=>up9 k (zNt hz02 h1) h2)
 exact⟨g1,g2,g3,xs,rfl,⟨he9,⟨W1.heap.size,W2.heap.size,by omega,by omega,by omega,hs9.wide (by omega) (by omega),hSS9.wide zLe (by omega),hBO9⟩,hs9.wide (by omega) (by omega),hxl,hSS9.wide (by omega) (by omega),zu hBO9 (by omega),by omega⟩,HB0.o.trans (hb9.mono (by omega))⟩

end Go.Proofs.YtfeebdcmlnapiaaGreat
