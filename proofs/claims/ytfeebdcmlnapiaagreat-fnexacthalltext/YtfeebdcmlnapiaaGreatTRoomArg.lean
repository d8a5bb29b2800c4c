/-
  Walks.
-/
import Derived.Test.YtfeebdcmlnapiaaGreatTEv3
set_option maxHeartbeats 8000000
set_option linter.unusedVariables false
set_option linter.unusedSimpArgs false
namespace Go.Proofs.YtfeebdcmlnapiaaGreat
open Go.RowKit Go.Deep Go.ChangeShapes Go.WideShapes P5 P12 K
structure BoolsAt (w:World) (oa:Zoa) (n cap:Nat) (zs:List Bool):Prop where
 len:zs.length=n
 room:n≤cap
 most:cap≤maxLen
 at_:∀ (i:Nat) (z:Bool),zs[i]? = some z→∃ b o,oa=some ⟨b,o,none⟩∧w.cell? ⟨b,o+i,none⟩=some (.bool z)

theorem BoolsAt.below {w w':World} {oa:Zoa} {n cap:Nat} {zs:List Bool} (h:BoolsAt w oa n cap zs) (hb:Bw w w'):BoolsAt w' oa n cap zs :=
 ⟨h.len,h.room,h.most,fun i s hs=>by
  obtain⟨b,o,h1,h2⟩:=h.at_ i s hs
  exact⟨b,o,h1,(hb.cell (zw h2)).trans h2⟩⟩

theorem zh0 (w:World):BoolsAt w none 0 0 []:=⟨rfl,Nat.le_refl _,by unfold maxLen;omega,fun i e he=>by simp at he⟩

theorem BoolsAt.get {w:World} {oa:Zoa} {n cap:Nat} {zs:List Bool} (h:BoolsAt w oa n cap zs) {P:Program} {t e:TypeId} (ht:P.underlying t=some (.slice e)) (hi:(P.info? e).map (·.size)=some 1) (i:Nat) (hin:i<n) :
  ∃ z b q,zs[i]? = some z∧(∀ wx,(Instr.indexAt t (.slice oa n cap) (.int .i64 (i:Int))).run P wx=.ok (.pointer (some ⟨b,q,none⟩)) wx)∧w.cell? ⟨b,q,none⟩=some (.bool z):=by
 obtain⟨z,hz⟩:∃ z,zs[i]? = some z:=⟨_,List.getElem?_eq_getElem (by rw[h.len];exact hin)⟩
 obtain⟨b,o,rfl,h2⟩:=h.at_ i z hz
 refine⟨z,b,o+i,hz,fun wx=>?_,h2⟩
 have:=run_indexAt_slice wx t e 1 ht hi b o n cap i hin
 rwa [Nat.mul_one] at this

section
variable {H:Type} {enc:TypeId × Value→H} {P:Program} {w:World} {base:Nat} {held:Bool}

theorem zh1 {t e tI:TypeId} {fs:Array Field} {f0:Field} {fuel:Nat} {cs:Zvs} {x:DataW H × List MemPlace} (ht:P.underlying t=some (.slice e)) (he:P.underlying e=some (.struct fs)) (hf0:fs[0]? = some f0)
  (hI:P.underlying tI=some (.int .i64)) (t0:f0.type=tI) (o0:f0.offset=0) (ce:P.cellsOf e=9) (cI:P.cellsOf tI=1) (h:DataW.trod enc P w base (fun _=>true) held fuel t cs=some x)
  {oa:Zoa} {n cap:Nat} {es:List EvV} (hcs:cs=[.slice oa n cap]) (hat:EvsAt w oa n cap es):∀ e∈es,(Lit.int .i64 e.id).wf=true:=by
 intro ev hev
 obtain⟨i,hi⟩:=List.getElem?_of_mem hev
 obtain⟨b,o,xa,xc,ya,yc,rfl,h2⟩:=hat.at_ i ev hi
 have hin:i<n:=by rw[← hat.len];exact (zGi.1 hi).1
 rcases open_slice ht h with h0|⟨a,len,cap',m,n',D,Pl,rfl,hb,hl,hm,hmm,_,hx⟩
 ·rw[h0.1] at hcs;cases hcs
 ·cases hcs
  obtain⟨cs',h3,h4⟩:=hx i (by rw[hmm];simp;omega)
  rw[ce] at h3
  obtain⟨_,_,hcell⟩:=World.cells?_some h3
  obtain⟨xs,n2,_,_,hlen,hxl,hf⟩:=DataW.trod_struct he h4
  rw[ce] at hlen
  match cs',hlen with
  | [v0,v1,v2,v3,v4,v5,v6,v7,v8],_ =>
   have g0:=hf 0 f0 hf0
   obtain⟨y,hy⟩:∃ y,xs[0]? = some y:=⟨_,List.getElem?_eq_getElem (by rw[hxl];exact (Array.getElem?_eq_some_iff.1 hf0).1)⟩
   rw[hy] at g0
   simp[o0,t0,cI] at g0
   obtain⟨k0,e0,_,m0⟩:=DataW.trod_int hI g0
   cases e0
   have h5:=hcell 0 (by omega)
   have h6:=h2.cell 0 _ rfl
   rw[add_add,Addr.add_mid] at h5
   simp only[Nat.add_zero] at h5 h6
   rw[h6] at h5
   cases h5
   exact m0

theorem open_bools {t e:TypeId} {fuel:Nat} {cs:Zvs} {x:DataW H × List MemPlace} (ht:P.underlying t=some (.slice e)) (he:P.underlying e=some .bool) (ce:P.cellsOf e=1) (h:DataW.trod enc P w base (fun _=>true) held fuel t cs=some x) :
  ∃ (oa:Zoa) (n cap:Nat) (zs:List Bool),cs=[.slice oa n cap]∧BoolsAt w oa n cap zs:=by
 rcases open_slice ht h with h0|⟨a,len,cap,m,n,D,Pl,rfl,hb,hl,hm,hmm,_,hx⟩
 ·exact⟨none,0,0,[],h0.1,zh0 w⟩
 ·have each:∀ i,i<len→∃ q:Bool,w.cell? (a.add i)=some (.bool q):=by
   intro i hi
   obtain⟨cs',h1,h2⟩:=hx i (by rw[hmm];simp;omega)
   rw[ce] at h1
   obtain⟨_,_,hcell⟩:=World.cells?_some h1
   obtain⟨y,rfl,_⟩:=DataW.trod_bool he h2
   have:=hcell 0 (by omega)
   rw[add_add,Nat.mul_one,Nat.add_zero] at this
   exact⟨y,this⟩
  obtain⟨F,hF⟩:=choose_lt each
  refine⟨some a,len,cap,(List.range len).map F,rfl,⟨by simp,hl,hm,fun i x hx=>?_⟩⟩
  have hi:i<len:=by simpa using (zGi.1 hx).1
  have hfe:F i=x:=by simpa [hi] using hx
  have k1:=hF i hi
  have hsp:a.spot=none:=by
   have q2:w.cell? a=some (.bool (F 0)):=by simpa [Addr.add] using hF 0 (by omega)
   exact cell_spot q2
  obtain⟨b,o,sp⟩:=a
  simp only at hsp
  subst hsp
  subst hfe
  rw[Addr.add_mid] at k1
  exact⟨b,o,rfl,k1⟩

theorem zh2 {t t1 e tI:TypeId} {f0 f1:Field} {fuel:Nat} {cs:Zvs} {x:DataW H × List MemPlace} (ht:P.underlying t=some (.slice t1)) (ht1:P.underlying t1=some (.slice e)) (he:P.underlying e=some (.struct #[f0,f1]))
  (hI:P.underlying tI=some (.int .i64)) (y0:f0.type=tI) (y1:f1.type=tI) (o0:f0.offset=0) (o1:f1.offset=1)
  (ce:P.cellsOf e=2) (cI:P.cellsOf tI=1) (ct:P.cellsOf t1=1) (h:DataW.trod enc P w base (fun _=>true) held fuel t cs=some x) :
  ∃ (oa:Zoa) (n cap:Nat) (ss:Zis),cs=[.slice oa n cap]∧StsAt w oa n cap ss∧∀ s∈ss,∀ y∈s,z3d y:=by
 rcases open_slice ht h with h0|⟨a,len,cap,m,n,D,Pl,rfl,hb,hl,hm,hmm,_,hx⟩
 ·exact⟨none,0,0,[],h0.1,z9h w,fun s hs=>by simp at hs⟩
 ·have each:∀ i,i<len→∃ q:Zii × Zoa × Nat,w.cell? (a.add i)=some (.slice q.2.1 q.1.length q.2.2)∧ItemsAt w q.2.1 q.1.length q.2.2 q.1∧∀ y∈q.1,z3d y:=by
   intro i hi
   obtain⟨cs',h1,h2⟩:=hx i (by rw[hmm];simp;omega)
   rw[ct] at h1
   obtain⟨_,_,hcell⟩:=World.cells?_some h1
   obtain⟨xa,xn,xc,s,rfl,hat,hw⟩:=zi2 ht1 he hI y0 y1 o0 o1 ce cI h2
   have hlen:=hat.len
   subst hlen
   have:=hcell 0 (by omega)
   rw[add_add,Nat.mul_one,Nat.add_zero] at this
   exact⟨(s,xa,xc),this,hat,hw⟩
  have:Inhabited (Zii × Zoa × Nat):=⟨([],none,0)⟩
  obtain⟨F,hF⟩:=choose_lt each
  refine⟨some a,len,cap,(List.range len).map fun i=>(F i).1,rfl,⟨by simp,hl,hm,fun i x hx=>?_⟩,fun s hs=>?_⟩
  ·have hi:i<len:=by simpa using (zGi.1 hx).1
   have hfe:(F i).1=x:=by simpa [hi] using hx
   obtain⟨k1,k2,k3⟩:=hF i hi
   have hsp:a.spot=none:=by
    have q1:=(hF 0 (by omega)).1
    have q2:w.cell? a=some (.slice (F 0).2.1 (F 0).1.length (F 0).2.2):=by simpa [Addr.add] using q1
    exact cell_spot q2
   obtain⟨b,o,sp⟩:=a
   simp only at hsp
   subst hsp
   subst hfe
   rw[Addr.add_mid] at k1
   exact⟨b,o,_,_,rfl,k1,k2⟩
  ·obtain⟨i,hi,rfl⟩:=List.mem_map.1 hs
   exact (hF i (by simpa using hi)).2.2
end

open P1 P9 P11 P14
theorem znz {n k m:Nat} {left:Int} (h:left<(n:Int)+k+m):szV n k m left = -1:=if_pos h

theorem zof {n k m:Nat} {left:Int} (h:¬ left<(n:Int)+k+m):szV n k m left=left - n - k - m:=if_neg h

def zog (w:World) (es:List EvV) (left:Int) (e:Ending) (w':World):Prop:=∃ z:Int,e=.returned (.int .i64 z)∧z≤left∧(0≤z→z+(evW es:Int)+(es.length:Int)=left)∧Bw w w'

theorem zfq (oa:Zoa) (n cap:Nat) (es:List EvV) (left:Int) (h0:0≤left) (h1:left≤1048576) (w:World) (hat:EvsAt w oa n cap es) :
  Calls Tryz.prog 23 #[.slice oa n cap,.int .i64 left] w (zog w es left):=by
 have hn:=hat.len
 have hmx:=zNt hat.room hat.most
 unfold maxLen at hmx
 by_cases c1:left - n<0
 ·go_enter Tryz.func23,Tryz.ntmps23
  go_wp2_with fail
  go_ret
  exact⟨-1,rfl,by omega,fun h=>by omega,zBr⟩
 ·have HN:=ZZ hn
  have HAT:=ZZ hat
  clear hn hat
  go_enter Tryz.func23,Tryz.ntmps23
  go_wp2_with fail
  go_loopw [5,1] (fun i l wr=>∃ (j:Nat) (x:Int),i=.int .i64 (j:Int)∧l=.int .i64 x∧j≤n∧0≤x∧x≤left∧x+(evW (es.take j):Int)+(n:Int)=left∧Bw w wr) (fun i _ _=>n - (intOf i).toNat)
  case atStart=>exact⟨0,left - n,rfl,rfl,Nat.zero_le _,by omega,by omega,by simp[evW],zBr⟩
  case round =>
   obtain⟨j,x,rfl,rfl,hj,hx0,hx1,hsum,hbel⟩:=hrel
   have CY:=ZZ hsum
   clear hsum
   by_cases hlt:j<n
   ·have j0:(j:Int)<(n:Int):=by omega
    obtain⟨e,b,q,xa,xc,ya,yc,he,hidx,hev⟩:=(HAT.o.below hbel).get Tryz.underlying22 zjo j hlt
    obtain⟨c0,c1',c2,c3,c4,c5,c6,c7,c8⟩:=hev.cs
    have HC:=ZZ (zg2 e.id e.kind e.sender e.user e.member e.depth xa e.levels.length xc e.text ya e.prev.length yc (zNt hev.lev.room hev.lev.most) hev.txt (zNt hev.prv.room hev.prv.most) x hx0 (by omega))
    have HT:=ZZ (zlp he)
    clear hev he
    by_cases c2':x<(e.levels.length:Int)+(e.text.length:Int)+(e.prev.length:Int)
    ·rw[znz c2'] at HC
     clear HT c2'
     go_wp2_with (go_at_call 67;refine (HC.o _).mono ?_;rintro e' w2 ⟨rfl,hb2⟩)
     go_ret
     exact⟨-1,rfl,by omega,fun h=>by omega,zTr hbel hb2⟩
    ·rw[zof c2'] at HC
     have hx2:0≤x - (e.levels.length:Int) - (e.text.length:Int) - (e.prev.length:Int):=by omega
     have hx3:x - (e.levels.length:Int) - (e.text.length:Int) - (e.prev.length:Int)≤left:=by omega
     have HS2:=ZZ (show x - (e.levels.length:Int) - (e.text.length:Int) - (e.prev.length:Int)+(evW (es.take (j+1)):Int)+(n:Int)=left by
      have:=CY.o
      rw[HT.o]
      unfold evw
      omega)
     generalize x - (e.levels.length:Int) - (e.text.length:Int) - (e.prev.length:Int)=y at HC HS2 hx2 hx3
     have g2:¬ y<0:=by omega
     clear HT c2'
     go_wp2_with (go_at_call 67;refine (HC.o _).mono ?_;rintro e' w2 ⟨rfl,hb2⟩)
     go_roundw
     case rel=>exact⟨j+1,y,by go_num,rfl,by omega,hx2,hx3,HS2.o,zTr hbel hb2⟩
     case measure=>simp[intOf];omega
   ·have HE:=ZZ (show es.take j=es from zTl (by rw[HN.o];omega))
    go_wp2_with fail
    go_ret
    refine⟨x,rfl,hx1,fun _=>?_,hbel⟩
    have:=CY.o
    rw[HE.o] at this
    rw[HN.o]
    exact this

def zop (w:World) (n:Nat) (es:List EvV) (e:Ending) (w':World):Prop :=
 ∃ g,e=.returned (.slice (some ⟨g,0,none⟩) n n)∧EvsAt w' (some ⟨g,0,none⟩) n n es∧EvSh w' w.heap.size w'.heap.size g es∧Bw w w'

theorem zfr (oa:Zoa) (n cap:Nat) (es:List EvV) (hfine:FineE es) (w:World) (hat:EvsAt w oa n cap es) :
  Calls Tryz.prog 28 #[.slice oa n cap] w (zop w n es):=by
 have hn:=hat.len
 have hn20:n≤1048576:=by rw[← hn];exact hfine.len
 obtain⟨i0,hi,hz0,hz1,hz2⟩:=info_parts zhc
 obtain⟨W0,hmk,hown0,hgr0⟩:=run_make_full (P:=Tryz.prog) w w.heap.size 29 62 i0 _ 9 Tryz.underlying29 hi hz0 hz1 .i64 .i64 n (by rw[hz2];omega) (by unfold maxLen;omega) zLe
 have hin0:EvsIn W0 w.heap.size w.heap.size n es 0:=by
  rcases hown0.2 with ⟨h1,-⟩|⟨g,c,cur,h1,-,hb,-,-,hcs,-⟩
  ·cases h1
  ·cases h1
   exact⟨cur,hb,hcs,fun i e hi=>absurd hi (Nat.not_lt_zero _)⟩
 have hfit:∀ e∈es,(∀ z∈e.levels,(Lit.int .i64 z).wf=true)∧(∀ z∈e.prev,(Lit.int .i64 z).wf=true)∧e.text.length≤maxLen:=by
  intro e he
  obtain⟨i,hi⟩:=List.getElem?_of_mem he
  obtain⟨b,o,xa,xc,ya,yc,_,hev⟩:=hat.at_ i e hi
  exact⟨hev.lev.fits,hev.prv.fits,hev.txt⟩
 have Jw:=ZZ hin0
 have DV:=ZZ hgr0
 have HN:=ZZ hn
 have HAT:=ZZ hat
 have BK:=ZZ hfine
 have DD:=ZZ hfit
 clear hown0 hgr0 hn hat hi hz0 hz1 hz2 hin0 hfine hfit
 go_enter Tryz.func28,Tryz.ntmps28
 go_wp2_with fail
 go_loopw [4] (fun i wr=>∃ (j:Nat),i=.int .i64 (j:Int)∧j≤n∧EvsIn wr w.heap.size w.heap.size n es j∧Bw w wr) (fun i _=>n - (intOf i).toNat)
 case atStart=>exact⟨0,rfl,Nat.zero_le _,Jw.o,zBr.grown DV.o zLe (fun k hk=>by cases hk)⟩
 case round =>
  obtain⟨j,rfl,hj,hin,hbel⟩:=hrel
  have hsz:=hbel.size
  by_cases hlt:j<n
  ·have j0:(j:Int)<(n:Int):=by omega
   obtain⟨e,b,q,xa,xc,ya,yc,he,hidx,hev⟩:=(HAT.o.below hbel).get Tryz.underlying22 zjo j hlt
   obtain⟨c0,c1,c2,c3,c4,c5,c6,c7,c8⟩:=hev.cs
   obtain⟨l1,l2,l3⟩:=BK.o.one (zMg he)
   have HC:=ZZ (zg3 e.id e.kind e.sender e.user e.member e.depth xa e.levels.length xc e.levels e.text ya e.prev.length yc e.prev l1 l3 wr hev.lev hev.prv)
   have hidx2:∀ wx,(Instr.indexAt 29 (.slice (some ⟨w.heap.size,0,none⟩) n n) (.int .i64 (j:Int))).run Tryz.prog wx=.ok (.pointer (some ⟨w.heap.size,j * 9,none⟩)) wx:=fun wx=>by
    have:=run_indexAt_slice wx 29 62 9 Tryz.underlying29 z2t w.heap.size 0 n n j hlt
    rwa [Nat.zero_add] at this
   obtain⟨cs,hblk,hcs,hall⟩:=hin
   have BU:=ZZ hblk
   have JU:=ZZ hcs
   have Ar:=ZZ hall
   have HE:=ZZ he
   clear hev he hblk hcs hall l1 l2 l3
   go_wp2_with (go_at_call 78;refine HC.o.mono ?_;rintro e' w2 ⟨g1,g2,rfl,hl2,hp2,hlt2,hb2⟩;have hbk2:=(hb2.block w.heap.size (ze BU.o)).trans BU.o;have hos:=JU.o;obtain⟨y0,y1,y2,y3,y4,y5,y6,y7,y8,d0,d1,d2,d3,d4,d5,d6,d7,d8⟩:=zel (o:=j * 9) hbk2 (by omega);have f0:=zh hbk2 (j * 9);have f1:=zh hbk2 (j * 9+1);have f2:=zh hbk2 (j * 9+2);have f3:=zh hbk2 (j * 9+3);have f4:=zh hbk2 (j * 9+4);have f5:=zh hbk2 (j * 9+5);have f6:=zh hbk2 (j * 9+6);have f7:=zh hbk2 (j * 9+7);have f8:=zh hbk2 (j * 9+8);have De:=ZZ hbk2;have HL2:=ZZ hl2;have KE:=ZZ hp2;clear hbk2 hl2 hp2 hos)
   obtain⟨w5,hw5,⟨cs5,hb5,hs5,ho5,hn5⟩,hg5⟩:=zlq (o:=j * 9) De.o (by have:=JU.o;omega) (.int .i64 e.id) (.int .i64 e.kind) (.int .i64 e.sender) (.int .i64 e.user) (.int .i64 e.member) (.slice (some ⟨g1,0,none⟩) e.levels.length e.levels.length) (.string ⟨e.text.toArray⟩) (.slice (some ⟨g2,0,none⟩) e.prev.length e.prev.length) (.int .i64 e.depth)
   rw[hw5]
   have hin5:EvsIn w5 w.heap.size w.heap.size n es (j+1):=by
    refine⟨cs5,hb5,by rw[hs5,JU.o],fun i e2 hi he2=>?_⟩
    by_cases hij:i=j
    ·subst hij
     have hee:e=e2:=by have:=HE.o;rw[he2] at this;exact (zSi this).symm
     subst hee
     have hne:∀ {v:Value} {m:Nat} {xs:Zvs},w2.ownsRow wr.heap.size 3 1 v m xs→v.ownBlock≠some w.heap.size:=by
      intro v m xs ho qq
      have:=(ho.lt _ qq).1
      have:=ze BU.o
      omega
     exact⟨g1,g2,fun jj u hu=>hn5 jj u hu,zu (HL2.o.kept hg5 (Or.inr (hne HL2.o))) hsz,zu (KE.o.kept hg5 (Or.inr (hne KE.o))) hsz⟩
    ·exact ((Ar.o i e2 (by omega) he2).on hb2).set De.o hg5 (fun jj hjj=>ho5 _ (by omega))
   have hB5:Bw w w5:=(hbel.trans (hb2.mono hsz)).grown hg5 (zNt hsz hb2.size) (fun k hk=>by cases hk;exact Nat.le_refl _)
   have Jt:=ZZ hin5
   clear hin5 hw5 hb5 hs5 ho5 hn5 hg5
   go_roundw
   case rel=>exact⟨j+1,by go_num,by omega,Jt.o,hB5⟩
   case measure=>simp[intOf];omega
  ·have hjn:j=n:=by omega
   subst hjn
   have HI:=ZZ hin
   clear hin
   go_wp2_with fail
   go_ret
   exact⟨w.heap.size,rfl,HI.o.at_ HN.o (by unfold maxLen;omega) DD.o,HI.o.sh HN.o zLe,hbel⟩

theorem ze5 (oa:Zoa) (n cap:Nat) (es:List EvV) (ob:Zoa) (cap':Nat) (hfine:FineE es) (w:World) (hat:EvsAt w oa n cap es) (hbt:EvsAt w ob n cap' es) :
  Calls Tryz.prog 34 #[.slice oa n cap,.slice ob n cap'] w fun e w'=>e=.returned (.bool true)∧Bw w w':=by
 have hmx:=zNt hat.room hat.most
 unfold maxLen at hmx
 have HAT:=ZZ hat
 have AA:=ZZ hbt
 have BK:=ZZ hfine
 clear hat hbt hfine
 go_enter Tryz.func34,Tryz.ntmps34
 go_wp2_with fail
 go_loopw [5] (fun i wr=>∃ (j:Nat),i=.int .i64 (j:Int)∧j≤n∧Bw w wr) (fun i _=>n - (intOf i).toNat)
 case atStart=>exact⟨0,rfl,Nat.zero_le _,zBr⟩
 case round =>
  obtain⟨j,rfl,hj,hbel⟩:=hrel
  have hsz:=hbel.size
  by_cases hlt:j<n
  ·have j0:(j:Int)<(n:Int):=by omega
   obtain⟨e,b,q,xa,xc,ya,yc,he,hidx,hev⟩:=(HAT.o.below hbel).get Tryz.underlying29 z2t j hlt
   obtain⟨e',b',q',xa',xc',ya',yc',he',hidx',hev'⟩:=(AA.o.below hbel).get Tryz.underlying29 z2t j hlt
   have hee:e=e':=by rw[he] at he';exact zSi he'
   subst hee
   obtain⟨l1,l2,l3⟩:=BK.o.one (zMg he)
   clear he he'
   have hb:=hev.lt
   have hb':=hev'.lt
   obtain⟨c0,c1,c2,c3,c4,c5,c6,c7,c8⟩:=hev.cs
   obtain⟨d0,d1,d2,d3,d4,d5,d6,d7,d8⟩:=hev'.cs
   have HC:=ZZ (fun (w2:World) (hb2:Bw wr w2)=>zej e.id e.kind e.sender e.user e.member e.depth xa e.levels.length xc e.text ya e.prev.length yc e.levels e.prev xa' ya' xc' yc' l1 l3 w2 (hev.lev.below hb2) (hev'.lev.below hb2) (hev.prv.below hb2) (hev'.prv.below hb2))
   clear hev hev'
   go_wp2_with fail
   refine zn (F:=Bw wr) (by kernel_rfl) (by kernel_rfl) zBr.drew ?_
   have hne:Nonempty (InW (Bw wr)):=⟨⟨_,zBr⟩⟩
   have k0:=ciW c0
   have k1:=ciW c1
   have k2:=ciW c2
   have k3:=ciW c3
   have k4:=ciW c4
   have k5:=ciW c5
   have k6:=ciW c6
   have k7:=ciW c7
   have k8:=ciW c8
   have m0:∀ m:InW (Bw wr),m.w.cell? ⟨b',q',none⟩=some (.int .i64 e.id):=fun m=>(m.h.cell hb').trans d0
   have m1:∀ m:InW (Bw wr),m.w.cell? ⟨b',q'+1,none⟩=some (.int .i64 e.kind):=fun m=>(m.h.cell hb').trans d1
   have m2:∀ m:InW (Bw wr),m.w.cell? ⟨b',q'+2,none⟩=some (.int .i64 e.sender):=fun m=>(m.h.cell hb').trans d2
   have m3:∀ m:InW (Bw wr),m.w.cell? ⟨b',q'+3,none⟩=some (.int .i64 e.user):=fun m=>(m.h.cell hb').trans d3
   have m4:∀ m:InW (Bw wr),m.w.cell? ⟨b',q'+4,none⟩=some (.int .i64 e.member):=fun m=>(m.h.cell hb').trans d4
   have m5:∀ m:InW (Bw wr),m.w.cell? ⟨b',q'+5,none⟩=some (.slice xa' e.levels.length xc'):=fun m=>(m.h.cell hb').trans d5
   have m6:∀ m:InW (Bw wr),m.w.cell? ⟨b',q'+6,none⟩=some (.string ⟨e.text.toArray⟩):=fun m=>(m.h.cell hb').trans d6
   have m7:∀ m:InW (Bw wr),m.w.cell? ⟨b',q'+7,none⟩=some (.slice ya' e.prev.length yc'):=fun m=>(m.h.cell hb').trans d7
   have m8:∀ m:InW (Bw wr),m.w.cell? ⟨b',q'+8,none⟩=some (.int .i64 e.depth):=fun m=>(m.h.cell hb').trans d8
   repeat (go_big_quiet_step (first|(go_at_call 87;refine (HC.o _ (InW.h _)).mono ?_;rintro e' w2 ⟨rfl,hb2⟩;exact⟨rfl,iwW hb2,rfl⟩)))
   refine wpQuiet_nil ?_
   intro _ hw'
   obtain⟨nq,hw''⟩:=hw'
   subst hw''
   have hb3:=hbel.trans (nq.h.mono hsz)
   generalize nq.w=w2 at hb3 ⊢
   clear hne k0 k1 k2 k3 k4 k5 k6 k7 k8 m0 m1 m2 m3 m4 m5 m6 m7 m8 c0 c1 c2 c3 c4 c5 c6 c7 c8 d0 d1 d2 d3 d4 d5 d6 d7 d8
   go_wp2_with fail
   go_roundw
   case rel=>exact⟨j+1,by go_num,by omega,hb3⟩
   case measure=>simp[intOf];omega
  ·have hjn:j=n:=by omega
   go_wp2_with fail
   go_ret
   exact⟨rfl,hbel⟩

end Go.Proofs.YtfeebdcmlnapiaaGreat
