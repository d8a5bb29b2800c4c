/-
  Walks.
-/
import Derived.Test.YtfeebdcmlnapiaaGreatTPlain5
import Derived.Deep.RegionHeld3
import Derived.BigQuiet
open Go.Value renaming int->J
open Go.IntKind renaming i64->Y
set_option maxHeartbeats 1000000
set_option linter.unusedVariables false
set_option linter.unusedSimpArgs false
namespace Go.Proofs.YtfeebdcmlnapiaaGreat
open Go.RowKit P5 K
structure IntsAt (w:World) (oa:Zoa) (n cap:Nat) (zs:Zin):Prop where
 len:zs.length=n
 room:n≤cap
 most:cap≤maxLen
 fits:∀ z∈zs,(Lit.int .i64 z).wf=true
 at_:∀ (i:Nat) (z:Int),zs[i]? = some z→∃ b o,oa=some ⟨b,o,none⟩∧w.cell? ⟨b,o+i,none⟩=some (J Y z)

theorem IntsAt.below {w w':World} {oa:Zoa} {n cap:Nat} {zs:Zin} (h:IntsAt w oa n cap zs) (hb:Bw w w'):IntsAt w' oa n cap zs :=
 ⟨h.len,h.room,h.most,h.fits,fun i z hz=>by
  obtain⟨b,o,ha,hc⟩:=h.at_ i z hz
  exact⟨b,o,ha,by rw[hb.cell (zw hc)];exact hc⟩⟩

theorem IntsAt.get {w:World} {oa:Zoa} {n cap:Nat} {zs:Zin} (h:IntsAt w oa n cap zs) {P:Program} {t e:TypeId} (ht:P.underlying t=some (.slice e)) (hi:(P.info? e).map (·.size)=some 1) (i:Nat) (hin:i<n) :
  ∃ z b q,zs[i]? = some z∧(∀ wx,(Instr.indexAt t (.slice oa n cap) (J Y (i:Int))).run P wx=.ok (.pointer (some ⟨b,q,none⟩)) wx)∧b<w.heap.size∧w.cell? ⟨b,q,none⟩=some (J Y z)∧(Lit.int .i64 z).wf=true:=by
 obtain⟨z,hz⟩:∃ z,zs[i]? = some z:=⟨_,List.getElem?_eq_getElem (by rw[h.len];exact hin)⟩
 obtain⟨b,o,rfl,hc⟩:=h.at_ i z hz
 refine⟨z,b,o+i,hz,fun wx=>?_,zw hc,hc,h.fits z (zMg hz)⟩
 have:=run_indexAt_slice wx t e 1 ht hi b o n cap i hin
 rwa [Nat.mul_one] at this

def z03 (z:Int):Value:=J Y z

theorem z0d {w:World} {base:Nat} {e:TypeId} {v:Value} {n:Nat} {zs:Zin} (h:w.ownsRow base e 1 v n (zs.map z03)) (hf:∀ z∈zs,(Lit.int .i64 z).wf=true) :
  ∃ oa cap,v=.slice oa n cap∧IntsAt w oa n cap zs:=by
 have hlen:zs.length=n:=by have:=h.1;simpa using this
 rcases h.2 with ⟨rfl,rfl⟩|⟨g,cap,cur,rfl,hb,hg,hnc,hcm,hcs,htake⟩
 ·have:zs=[]:=List.eq_nil_of_length_eq_zero hlen
  subst this
  exact⟨none,0,rfl,⟨rfl,Nat.le_refl _,by unfold maxLen;omega,hf,fun i f hf=>by simp at hf⟩⟩
 ·refine⟨some ⟨g,0,none⟩,cap,rfl,⟨hlen,hnc,hcm,hf,fun i z hz=>⟨g,0,rfl,?_⟩⟩⟩
  have hi:i<zs.length:=(zGi.1 hz).1
  rw[Nat.zero_add,h.cellAt i (by omega)]
  simp[hz,z03]

theorem z0f:(Tryz.prog.info? 3).map (·.size)=some 1:=by kernel_rfl

theorem z1u:(Tryz.prog.info? 3).map (fun i=>(i.zero,i.size,i.bytes))=some (some (J Y 0),1,8):=by kernel_rfl

theorem zb2 (oa:Zoa) (n cap:Nat) (zs:Zin) (hn20:n≤1048576) (w:World) (hat:IntsAt w oa n cap zs) :
  Calls Tryz.prog 130 #[.slice oa n cap] w fun e w'=>∃ g,e=.returned (.slice (some ⟨g,0,none⟩) n n)∧w'.ownsRow w.heap.size 3 1 (.slice (some ⟨g,0,none⟩) n n) n (zs.map z03)∧Bw w w':=by
 have hn:=hat.len
 have hc:=hat.room
 have hm:=hat.most
 unfold maxLen at hm
 obtain⟨i0,hi,hz0,hz1,hz2⟩:=info_parts z1u
 obtain⟨W0,hmk,hown0,hgr0⟩:=run_make_full (P:=Tryz.prog) w w.heap.size 60 3 i0 _ 1 Tryz.underlying60 hi hz0 hz1 .i64 .i64 n (by rw[hz2];omega) (by unfold maxLen;omega) zLe
 have HOWN:=ZZ hown0
 have DV:=ZZ hgr0
 have HN:=ZZ hn
 have HAT:=ZZ hat
 clear hown0 hgr0 hn hat hi hz0 hz1 hz2
 go_enter Tryz.func130,Tryz.ntmps130
 go_wp2_with fail
 go_loopw [4] (fun i wr=>∃ (j:Nat) (xs:Zvs),i=J Y (j:Int)∧j≤n∧xs.take j=(zs.take j).map z03∧wr.ownsRow w.heap.size 3 1 (.slice (some ⟨w.heap.size,0,none⟩) n n) n xs∧Bw w wr) (fun i _=>n - (intOf i).toNat)
 case atStart=>exact⟨0,_,rfl,Nat.zero_le _,by simp,HOWN.o,zBr.grown DV.o zLe (fun k hk=>by cases hk)⟩
 case round =>
  obtain⟨j,xs,rfl,hj,hfill,hown,hbel⟩:=hrel
  by_cases hlt:j<n
  ·have j0:(j:Int)<(n:Int):=by omega
   obtain⟨z,b,q,hz,hidx,hb,c0,hwf⟩:=(HAT.o.below hbel).get Tryz.underlying60 z0f j hlt
   have hidx2:∀ wx,(Instr.indexAt 60 (.slice (some ⟨w.heap.size,0,none⟩) n n) (J Y (j:Int))).run Tryz.prog wx=.ok (.pointer (some ⟨w.heap.size,j,none⟩)) wx:=fun wx=>by
    have:=run_indexAt_slice wx 60 3 1 Tryz.underlying60 z0f w.heap.size 0 n n j hlt
    rwa [Nat.zero_add,Nat.mul_one] at this
   have hl:=hown.1
   obtain⟨u,hu⟩:∃ u,wr.cell? ⟨w.heap.size,j,none⟩=some u:=⟨_,by rw[hown.cellAt j (by omega),List.getElem?_eq_getElem (by omega)]⟩
   have hfz:=hown.frozenAt j
   have HST:=ZZ (hown.stored j (J Y z))
   have BK:=ZZ (show (xs.set j (J Y z)).take (j+1)=(zs.take (j+1)).map z03 by
    rw[List.take_add_one,List.take_set,List.set_eq_of_length_le (by simp;omega),hfill,List.getElem?_set_self (by omega),List.take_add_one,hz]
    simp[z03])
   have hsz:=hbel.size
   clear hown hfill hz hl
   go_wp2_with fail
   go_roundw
   case rel=>exact⟨j+1,_,by go_num,by omega,BK.o,HST.o.1,hbel.setCell zLe _⟩
   case measure=>simp[intOf];omega
  ·have hjn:j=n:=by omega
   have HE:=ZZ (show xs=zs.map z03 by
    have h1:=hfill
    have h2:=hown.1
    rw[hjn] at h1
    rw[zTl (by omega),zTl (by rw[HN.o];omega)] at h1
    exact h1)
   have HO:=ZZ hown
   clear hown hfill
   go_wp2_with fail
   go_ret
   refine⟨w.heap.size,rfl,?_,hbel⟩
   rw[← HE.o]
   exact HO.o

theorem za8 (oa:Zoa) (n cap:Nat) (ob:Zoa) (cap':Nat) (zs:Zin) (hn20:n≤1048576) (w:World) (hat:IntsAt w oa n cap zs) (hbt:IntsAt w ob n cap' zs) :
  Calls Tryz.prog 145 #[.slice oa n cap,.slice ob n cap'] w fun e w'=>e=.returned (.bool true)∧Bw w w':=by
 have HAT:=ZZ hat
 have AA:=ZZ hbt
 clear hat hbt
 go_enter Tryz.func145,Tryz.ntmps145
 go_wp2_with fail
 go_loopw [5] (fun i wr=>∃ (j q:Nat),i=J Y (j:Int)∧j≤n∧wr=w.drewN q) (fun i _=>n - (intOf i).toNat)
 case atStart=>exact⟨0,0,rfl,Nat.zero_le _,rfl⟩
 case round =>
  obtain⟨j,q,rfl,hj,rfl⟩:=hrel
  by_cases hlt:j<n
  ·have j0:(j:Int)<(n:Int):=by omega
   obtain⟨z,b,p,hz,hidx,hb,c0,hwf⟩:=HAT.o.get Tryz.underlying60 z0f j hlt
   obtain⟨z',b',p',hz',hidx',hb',c0',hwf'⟩:=AA.o.get Tryz.underlying60 z0f j hlt
   rw[hz] at hz'
   cases hz'
   clear hz
   go_wp2_with fail
   go_quiet (fail)
   go_wp2_with fail
   go_roundw
   case rel=>exact⟨j+1,q+nq,by go_num,by omega,by simp⟩
   case measure=>simp[intOf];omega
  ·go_wp2_with fail
   go_ret
   exact⟨rfl,below_drewN zBr _⟩

open Go.Deep Go.ChangeShapes Go.WideShapes
def z02 (x:Int × Int):Zvs:=[J Y x.1,J Y x.2]

def ival (x:Int × Int):Value:=.agg #[J Y x.1,J Y x.2]

theorem z1t (x:Int × Int):(z02 x).length=2:=rfl

def z3d (x:Int × Int):Prop:=(Lit.int .i64 x.1).wf=true∧(Lit.int .i64 x.2).wf=true

structure ItemsAt (w:World) (oa:Zoa) (n cap:Nat) (s:Zii):Prop where
 len:s.length=n
 room:n≤cap
 most:cap≤maxLen
 at_:∀ (i:Nat) (x:Int × Int),s[i]? = some x→∃ b o,oa=some ⟨b,o,none⟩∧∀ (j:Nat) u,(z02 x)[j]? = some u→w.cell? ⟨b,o+i * 2+j,none⟩=some u

theorem ItemsAt.below {w w':World} {oa:Zoa} {n cap:Nat} {s:Zii} (h:ItemsAt w oa n cap s) (hb:Bw w w'):ItemsAt w' oa n cap s :=
 ⟨h.len,h.room,h.most,fun i f hf=>by
  obtain⟨b,o,ha,hc⟩:=h.at_ i f hf
  refine⟨b,o,ha,fun j u hu=>?_⟩
  have h1:=hc j u hu
  rw[hb.cell (zw h1)]
  exact h1⟩

theorem zco (w:World):ItemsAt w none 0 0 []:=⟨rfl,Nat.le_refl _,by unfold maxLen;omega,fun i x hx=>by simp at hx⟩

theorem ItemsAt.get {w:World} {oa:Zoa} {n cap:Nat} {s:Zii} (h:ItemsAt w oa n cap s) {P:Program} {t e:TypeId} (ht:P.underlying t=some (.slice e)) (hi:(P.info? e).map (·.size)=some 2) (i:Nat) (hin:i<n) :
  ∃ x b q,s[i]? = some x∧(∀ wx,(Instr.indexAt t (.slice oa n cap) (J Y (i:Int))).run P wx=.ok (.pointer (some ⟨b,q,none⟩)) wx)∧b<w.heap.size ∧
   w.cell? ⟨b,q,none⟩=some (J Y x.1)∧w.cell? ⟨b,q+1,none⟩=some (J Y x.2):=by
 obtain⟨f,hf⟩:∃ f,s[i]? = some f:=⟨_,List.getElem?_eq_getElem (by rw[h.len];exact hin)⟩
 obtain⟨b,o,rfl,hc⟩:=h.at_ i f hf
 refine⟨f,b,o+i * 2,hf,fun wx=>run_indexAt_slice wx t e 2 ht hi b o n cap i hin,?_,hc 0 _ rfl,hc 1 _ rfl⟩
 exact zw (hc 0 _ rfl)

def z8g (s:Zii) (j:Nat) (xs:Zvs):Prop:=∀ (i:Nat) x,i<j→s[i]? = some x→∀ (c:Nat) u,(z02 x)[c]? = some u→xs[i * 2+c]? = some u

theorem zec (s:Zii) (xs:Zvs):z8g s 0 xs:=fun i f h=>absurd h (Nat.not_lt_zero _)

def set2 (xs:Zvs) (j:Nat) (x:Int × Int):Zvs:=(xs.set (j * 2) (J Y x.1)).set (j * 2+1) (J Y x.2)

theorem zed {s:Zii} {j:Nat} {xs:Zvs} (h:z8g s j xs) {x:Int × Int} (hf:s[j]? = some x) (hl:j * 2+2≤xs.length):z8g s (j+1) (set2 xs j x):=by
 intro i g hi hg c u hu
 have hc:c<2:=by
  have:=(zGi.1 hu).1
  simpa [z02] using this
 by_cases e:i=j
 ·subst e
  rw[hf] at hg
  cases hg
  unfold set2
  match c,hc with
  | 0,_ =>
   simp only[z02,List.getElem?_cons_zero] at hu
   cases hu
   rw[List.getElem?_set_ne (by omega),Nat.add_zero,List.getElem?_set_self (by omega)]
  | 1,_ =>
   simp only[z02,List.getElem?_cons_succ,List.getElem?_cons_zero] at hu
   cases hu
   rw[List.getElem?_set_self (by simp;omega)]
 ·unfold set2
  rw[List.getElem?_set_ne (by omega),List.getElem?_set_ne (by omega)]
  exact h i g (by omega) hg c u hu

theorem zfy {s:Zii} {n:Nat} {xs:Zvs} (h:z8g s n xs) (hn:s.length=n) (hl:xs.length=n * 2):xs=s.flatMap z02:=by
 apply List.ext_getElem?
 intro k
 by_cases hk:k<n * 2
 ·have h1:k / 2<s.length:=by omega
  have e1:k=k / 2 * 2+k % 2:=by omega
  obtain⟨f,hf⟩:∃ f,s[k / 2]? = some f:=⟨_,List.getElem?_eq_getElem h1⟩
  have hfe:s[k / 2]=f:=(zGi.1 hf).2
  obtain⟨u,hu⟩:∃ u,(z02 f)[k % 2]? = some u:=⟨_,List.getElem?_eq_getElem (by rw[z1t];omega)⟩
  have h2:=h (k / 2) f (by omega) hf (k % 2) u hu
  rw[← e1] at h2
  have h3:=flat_get z02 2 z1t s (k / 2) (k % 2) h1 (by omega)
  rw[← e1,hfe] at h3
  rw[h2,h3,hu]
 ·rw[List.getElem?_eq_none (by omega),List.getElem?_eq_none (by rw[z3b z02 2 z1t];omega)]

theorem zlk {w:World} {base:Nat} {e:TypeId} {g n cap:Nat} {xs:Zvs} (h:w.ownsRow base e 2 (.slice (some ⟨g,0,none⟩) n cap) n xs) (j:Nat) (x:Int × Int) :
  ((w.setCell ⟨g,j * 2,none⟩ (J Y x.1)).setCell ⟨g,j * 2+1,none⟩ (J Y x.2)).ownsRow base e 2 (.slice (some ⟨g,0,none⟩) n cap) n (set2 xs j x) ∧
   w.grownBy ((w.setCell ⟨g,j * 2,none⟩ (J Y x.1)).setCell ⟨g,j * 2+1,none⟩ (J Y x.2)) (some g) :=
 ⟨((h.stored (j * 2) _).1.stored (j * 2+1) _).1,z00 (h.stored (j * 2) _).2 ((h.stored (j * 2) _).1.stored (j * 2+1) _).2⟩

theorem z08 {w:World} {base:Nat} {e:TypeId} {v:Value} {n:Nat} {s:Zii} (h:w.ownsRow base e 2 v n (s.flatMap z02)) :
  ∃ oa cap,v=.slice oa n cap∧ItemsAt w oa n cap s:=by
 have hlen:s.length=n:=by
  have:=h.1
  rw[z3b z02 2 z1t] at this
  omega
 rcases h.2 with ⟨rfl,rfl⟩|⟨g,cap,cur,rfl,hb,hg,hnc,hcm,hcs,htake⟩
 ·have:s=[]:=List.eq_nil_of_length_eq_zero hlen
  subst this
  exact⟨none,0,rfl,zco w⟩
 ·refine⟨some ⟨g,0,none⟩,cap,rfl,⟨hlen,hnc,hcm,fun i f hf=>⟨g,0,rfl,fun j u hu=>?_⟩⟩⟩
  have hi:i<s.length:=(zGi.1 hf).1
  have hfe:s[i]=f:=(zGi.1 hf).2
  have hj:j<2:=by simpa [z02] using (zGi.1 hu).1
  have h3:=flat_get z02 2 z1t s i j hi hj
  rw[hfe,hu] at h3
  rw[Nat.zero_add]
  rw[h.cellAt (i * 2+j) (by omega),h3]

theorem zi1 {P:Program} {w:World} {ops:Array Oper} {o:Oper} {a:Act} {K:Act→World→Prop} {Q:Exit→Act→World→Prop} {E:Prop} (hgd:o.guard=none) (s x:Operand) (t:TypeId)
  (ho:o.op=.call { callee:=.builtin .append,args:=#[s,x],argTypes:=#[t,t] })
  {base:Nat} {e:TypeId} {z:Value} {bytes:Nat} (ht:P.underlying t=some (.slice e)) (hi:(P.info? e).map (fun i=>(i.zero,i.size,i.bytes))=some (some z,2,bytes)) (hzs:z.cells.size=2)
  {v:Value} {n:Nat} {xs:Zvs} (hs:a.eval s=v) (hown:w.ownsRow base e 2 v n xs)
  {b c:Nat} {cs:Array Value} (hx:a.eval x=.slice (some ⟨b,0,none⟩) 1 c) (hm:cs.toList.length=2) (hb:w.heap[b]? = some (.cells cs e (0,0))) (hu:∀ u∈cs.toList,u.oneCell'=true)
  (hbase:base≤w.heap.size) (h63:n+1≤maxLen) (hbytes:(n+1) * bytes≤140737488355328)
  (h:∀ v' w',w'.ownsRow base e 2 v' (n+1) (xs++cs.toList)→w.grownBy w' v.ownBlock→K (a.put o.dst v') w') :
  if Region.wanted o (yielded ops a.tmps)=true then Oper.wp P o a w K Q else E:=by
 obtain⟨i,hi,hz,h1,h2⟩:=info_parts hi
 have hw:Region.wanted o (yielded ops a.tmps)=true:=by simp[Region.wanted,hgd]
 rw[if_pos hw]
 refine wp_append_own w s x t ho base e i z 2 bytes ht hi hz h1 h2 hzs (by decide) v n xs hs hown ⟨b,0,none⟩ 1 c cs.toList hx (by rw[hm]) (World.news_of_block hb) hu h63 hbytes hbase ?_
 intro v' w' hown' hgrow _
 exact h v' w' hown' hgrow

section
variable {H:Type} {enc:TypeId × Value→H} {P:Program} {w:World} {base:Nat} {held:Bool}

theorem zee {e tI:TypeId} {f0 f1:Field} {fuel:Nat} {cs:Zvs} {x:DataW H × List MemPlace} (he:P.underlying e=some (.struct #[f0,f1]))
  (hI:P.underlying tI=some (.int .i64)) (t0:f0.type=tI) (t1:f1.type=tI) (o0:f0.offset=0) (o1:f1.offset=1)
  (ce:P.cellsOf e=2) (cI:P.cellsOf tI=1) (h:DataW.trod enc P w base (fun _=>true) held fuel e cs=some x) :
  ∃ y:Int × Int,cs=z02 y∧z3d y:=by
 obtain⟨xs,n,_,_,hlen,hxl,hf⟩:=DataW.trod_struct he h
 rw[ce] at hlen
 match xs,hxl,cs,hlen with
 | [y0,y1],_,[v0,v1],_ =>
  have g0:=hf 0 f0 rfl
  have g1:=hf 1 f1 rfl
  simp[o0,o1,t0,t1,cI] at g0 g1
  obtain⟨k0,e0,_,m0⟩:=DataW.trod_int hI g0
  obtain⟨k1,e1,_,m1⟩:=DataW.trod_int hI g1
  cases e0;cases e1
  exact⟨(k0,k1),rfl,m0,m1⟩

theorem zi2 {t e tI:TypeId} {f0 f1:Field} {fuel:Nat} {cs:Zvs} {x:DataW H × List MemPlace} (ht:P.underlying t=some (.slice e)) (he:P.underlying e=some (.struct #[f0,f1]))
  (hI:P.underlying tI=some (.int .i64)) (t0:f0.type=tI) (t1:f1.type=tI) (o0:f0.offset=0) (o1:f1.offset=1)
  (ce:P.cellsOf e=2) (cI:P.cellsOf tI=1) (h:DataW.trod enc P w base (fun _=>true) held fuel t cs=some x) :
  ∃ (oa:Zoa) (n cap:Nat) (s:Zii),cs=[.slice oa n cap]∧ItemsAt w oa n cap s∧∀ y∈s,z3d y:=by
 rcases open_slice ht h with h0|⟨a,len,cap,m,n,D,Pl,rfl,hb,hl,hm,hmm,_,hx⟩
 ·exact⟨none,0,0,[],h0.1,zco w,fun y hy=>by simp at hy⟩
 ·have each:∀ i,i<len→∃ q:Int × Int,(∀ j,j<2→w.cell? (a.add (i * 2+j))=(z02 q)[j]?)∧z3d q:=by
   intro i hi
   obtain⟨cs',h1,h2⟩:=hx i (by rw[hmm];simp;omega)
   rw[ce] at h1
   obtain⟨_,_,hcell⟩:=World.cells?_some h1
   obtain⟨y,rfl,hy⟩:=zee he hI t0 t1 o0 o1 ce cI h2
   exact⟨y,fun j hj=>by rw[← add_add];exact hcell j hj,hy⟩
  obtain⟨F,hF⟩:=choose_lt each
  refine⟨some a,len,cap,(List.range len).map F,rfl,⟨by simp,hl,hm,fun i x hx=>?_⟩,fun y hy=>?_⟩
  ·have hi:i<len:=by simpa using (zGi.1 hx).1
   have hfe:F i=x:=by simpa [hi] using hx
   have k1:=(hF i hi).1
   have hsp:a.spot=none:=by
    have q1:=(hF 0 (by omega)).1 0 (by omega)
    have q2:w.cell? a=some (J Y (F 0).1):=by simpa [Addr.add,z02] using q1
    exact cell_spot q2
   obtain⟨b,o,sp⟩:=a
   simp only at hsp
   subst hsp
   subst hfe
   refine⟨b,o,rfl,fun j u hu=>?_⟩
   have hj:j<2:=by simpa [z02] using (zGi.1 hu).1
   have q1:=k1 j hj
   rw[Addr.add_mid,hu] at q1
   rw[Nat.add_assoc]
   exact q1
  ·obtain⟨i,hi,rfl⟩:=List.mem_map.1 hy
   exact (hF i (by simpa using hi)).2
end

end Go.Proofs.YtfeebdcmlnapiaaGreat
