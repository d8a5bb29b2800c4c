/-
  Walks.
-/
import Derived.Test.YtfeebdcmlnapiaaGreatTSame0
import Derived.Test.YtfeebdcmlnapiaaGreatTTwo1
open Go.Value renaming int->J
open Go.IntKind renaming i64->Y
set_option maxRecDepth 100000
set_option maxHeartbeats 16000000
set_option linter.unusedVariables false
set_option linter.unusedSimpArgs false
namespace Go.Proofs.YtfeebdcmlnapiaaGreat
open Go.RowKit P1 P9 P11 P12 P18 K
theorem z88 (oa:Zoa) (n cap:Nat) (ob:Zoa) (m cap':Nat) (zs ys:Zin) (w:World) (hat:IntsAt w oa n cap zs) (hbt:IntsAt w ob m cap' ys) :
  Calls Tryz.prog 41 #[.slice oa n cap,.slice ob m cap'] w fun e w'=>e=.returned (.bool (decide (zs=ys)))∧Bw w w':=by
 have hn:=hat.len
 have hm:=hbt.len
 have hmx:=zNt hat.room hat.most
 unfold maxLen at hmx
 by_cases c:n=m
 ·subst c
  have HAT:=ZZ hat
  have AA:=ZZ hbt
  have HN:=ZZ hn
  have HM:=ZZ hm
  clear hat hbt hn hm
  go_enter Tryz.func41,Tryz.ntmps41
  go_wp2_with fail
  go_loopw [5] (fun i wr=>∃ (j q:Nat),i=J Y (j:Int)∧j≤n∧wr=w.drewN q∧(∀ k,k<j→zs[k]? = ys[k]?)) (fun i _=>n - (intOf i).toNat)
  case atStart=>exact⟨0,0,rfl,Nat.zero_le _,rfl,fun k hk=>absurd hk (Nat.not_lt_zero _)⟩
  case round =>
   obtain⟨j,q,rfl,hj,rfl,hall⟩:=hrel
   have Ar:=ZZ hall
   clear hall
   by_cases hlt:j<n
   ·have j0:(j:Int)<(n:Int):=by omega
    obtain⟨z,b,p,hz,hidx,hb,c0,hwf⟩:=HAT.o.get Tryz.underlying60 z0f j hlt
    obtain⟨z',b',p',hz',hidx',hb',c0',hwf'⟩:=AA.o.get Tryz.underlying60 z0f j hlt
    by_cases he:z=z'
    ·subst he
     have HZ:=ZZ (hz.trans hz'.symm)
     clear hz hz'
     go_wp2_with fail
     go_quiet (fail)
     go_wp2_with fail
     go_roundw
     case rel =>
      refine⟨j+1,q+nq,by go_num,by omega,by simp,fun k hk=>?_⟩
      by_cases e:k=j
      ·subst e;exact HZ.o
      ·exact Ar.o k (by omega)
     case measure=>simp[intOf];omega
    ·have he2:(z==z')=false:=by simpa using he
     have Bq:=ZZ (show decide (zs=ys)=false by
      simp only[decide_eq_false_iff_not]
      intro e
      subst e
      rw[hz] at hz'
      exact he (zSi hz'))
     clear hz hz'
     go_wp2_with fail
     go_quiet (fail)
     go_wp2_with fail
     go_ret
     exact⟨by rw[Bq.o];rfl,below_drewN (below_drewN zBr _) _⟩
   ·have Bq:=ZZ (show decide (zs=ys)=true by
     simp only[decide_eq_true_eq]
     apply List.ext_getElem?
     intro k
     by_cases hk:k<j
     ·exact Ar.o k hk
     ·rw[List.getElem?_eq_none (by have:=HN.o;omega),List.getElem?_eq_none (by have:=HM.o;omega)])
    go_wp2_with fail
    go_ret
    exact⟨by rw[Bq.o];rfl,below_drewN zBr _⟩
 ·have c2:((n:Int)==(m:Int))=false:=by simp;omega
  have hne:decide (zs=ys)=false:=by
   simp only[decide_eq_false_iff_not]
   intro e
   subst e
   omega
  rw[hne]
  clear hat hbt
  go_enter Tryz.func41,Tryz.ntmps41
  go_wp2_with fail
  go_ret
  exact⟨rfl,zBr⟩

def zc7 (e f:EvV):Bool:=decide (e.id=f.id)&&(decide (e.kind=f.kind)&&(decide (e.sender=f.sender)&&(decide (e.user=f.user)&&(decide (e.member=f.member)&&(decide (e.text=f.text)&&(decide (e.depth=f.depth)&&(decide (e.levels=f.levels)&&decide (e.prev=f.prev))))))))

theorem zlg {e f:EvV}:zc7 e f=true↔e=f:=by
 obtain⟨a1,a2,a3,a4,a5,a6,a7,a8,a9⟩:=e
 obtain⟨b1,b2,b3,b4,b5,b6,b7,b8,b9⟩:=f
 simp only[zc7,Bool.and_eq_true,decide_eq_true_eq,EvV.mk.injEq]
 constructor
 ·rintro ⟨h1,h2,h3,h4,h5,h6,h7,h8,h9⟩
  exact⟨h1,h2,h3,h4,h5,h8,h6,h9,h7⟩
 ·rintro ⟨h1,h2,h3,h4,h5,h6,h7,h8,h9⟩
  exact⟨h1,h2,h3,h4,h5,h7,h9,h6,h8⟩

theorem zh9 (id kd sn us mb dp:Int) (oa:Zoa) (n cl:Nat) (tx:Zbs) (ob:Zoa) (m cp:Nat) (zl zp:Zin) (id2 kd2 sn2 us2 mb2 dp2:Int) (oa2:Zoa) (n2 cl2:Nat) (tx2:Zbs) (ob2:Zoa) (m2 cp2:Nat) (zl2 zp2:Zin) (w:World) (h1:IntsAt w oa n cl zl) (h2:IntsAt w oa2 n2 cl2 zl2) (h3:IntsAt w ob m cp zp) (h4:IntsAt w ob2 m2 cp2 zp2) :
  Calls Tryz.prog 76 #[z3e id kd sn us mb dp (.slice oa n cl) (.slice ob m cp) tx,z3e id2 kd2 sn2 us2 mb2 dp2 (.slice oa2 n2 cl2) (.slice ob2 m2 cp2) tx2] w fun e w'=>e=.returned (.bool (zc7 (⟨id,kd,sn,us,mb,zl,tx,zp,dp⟩:EvV) (⟨id2,kd2,sn2,us2,mb2,zl2,tx2,zp2,dp2⟩:EvV)))∧Bw w w':=by
 have hb0:=((Below.refl w.heap.size w).alloc zLe (.cells #[J Y id,J Y kd,J Y sn,J Y us,J Y mb,.slice oa n cl,.string ⟨tx.toArray⟩,.slice ob m cp,J Y dp] 62)).alloc (by simp) (.cells #[J Y id2,J Y kd2,J Y sn2,J Y us2,J Y mb2,.slice oa2 n2 cl2,.string ⟨tx2.toArray⟩,.slice ob2 m2 cp2,J Y dp2] 62)
 have HL:=ZZ (fun w h1 h2=>z88 oa n cl oa2 n2 cl2 zl zl2 w h1 h2)
 have HP:=ZZ (fun w h1 h2=>z88 ob m cp ob2 m2 cp2 zp zp2 w h1 h2)
 have HQ:=ZZ ((EB.new w id kd sn us mb dp (.slice oa n cl) (.slice ob m cp) tx).on (zBr.alloc zLe (.cells #[J Y id2,J Y kd2,J Y sn2,J Y us2,J Y mb2,.slice oa2 n2 cl2,.string ⟨tx2.toArray⟩,.slice ob2 m2 cp2,J Y dp2] 62)) (by simp))
 have hR:=EB.new (w.alloc (.cells #[J Y id,J Y kd,J Y sn,J Y us,J Y mb,.slice oa n cl,.string ⟨tx.toArray⟩,.slice ob m cp,J Y dp] 62)) id2 kd2 sn2 us2 mb2 dp2 (.slice oa2 n2 cl2) (.slice ob2 m2 cp2) tx2
 rw[World.size_alloc] at hR
 have HR:=ZZ hR
 have HB0:=ZZ hb0
 have Au:=ZZ (h1.below hb0)
 have HX0:=ZZ (h2.below hb0)
 have Bo:=ZZ (h3.below hb0)
 have JY:=ZZ (h4.below hb0)
 clear h1 h2 h3 h4 hb0 hR
 unfold zc7
 simp only
 generalize decide (zl=zl2)=bL at HL ⊢
 generalize decide (zp=zp2)=bP at HP ⊢
 obtain⟨b0,q0⟩:∃ b0,decide (id=id2)=b0:=⟨_,rfl⟩
 obtain⟨b1,q1⟩:∃ b1,decide (kd=kd2)=b1:=⟨_,rfl⟩
 obtain⟨b2,q2⟩:∃ b2,decide (sn=sn2)=b2:=⟨_,rfl⟩
 obtain⟨b3,q3⟩:∃ b3,decide (us=us2)=b3:=⟨_,rfl⟩
 obtain⟨b4,q4⟩:∃ b4,decide (mb=mb2)=b4:=⟨_,rfl⟩
 obtain⟨b5,q5⟩:∃ b5,decide (tx=tx2)=b5:=⟨_,rfl⟩
 obtain⟨b6,q6⟩:∃ b6,decide (dp=dp2)=b6:=⟨_,rfl⟩
 rw[q0,q1,q2,q3,q4,q5,q6]
 have i0:(id==id2)=b0:=by rw[← q0,Bool.eq_iff_iff];simp
 have i1:(kd==kd2)=b1:=by rw[← q1,Bool.eq_iff_iff];simp
 have i2:(sn==sn2)=b2:=by rw[← q2,Bool.eq_iff_iff];simp
 have i3:(us==us2)=b3:=by rw[← q3,Bool.eq_iff_iff];simp
 have i4:(mb==mb2)=b4:=by rw[← q4,Bool.eq_iff_iff];simp
 have i5:(tx==tx2)=b5:=by rw[← q5,Bool.eq_iff_iff];simp
 have i6:(dp==dp2)=b6:=by rw[← q6,Bool.eq_iff_iff];simp
 clear q0 q1 q2 q3 q4 q5 q6
 cases b0 with
 | false =>
  go_enter Tryz.func76,Tryz.ntmps76
  go_wp2_with fail
  go_ret
  exact⟨rfl,HB0.o⟩
 | true =>
  cases b1 with
  | false =>
   go_enter Tryz.func76,Tryz.ntmps76
   go_wp2_with fail
   go_ret
   exact⟨rfl,HB0.o⟩
  | true =>
   cases b2 with
   | false =>
    go_enter Tryz.func76,Tryz.ntmps76
    go_wp2_with fail
    go_ret
    exact⟨rfl,HB0.o⟩
   | true =>
    cases b3 with
    | false =>
     go_enter Tryz.func76,Tryz.ntmps76
     go_wp2_with fail
     go_ret
     exact⟨rfl,HB0.o⟩
    | true =>
     cases b4 with
     | false =>
      go_enter Tryz.func76,Tryz.ntmps76
      go_wp2_with fail
      go_ret
      exact⟨rfl,HB0.o⟩
     | true =>
      cases b5 with
      | false =>
       go_enter Tryz.func76,Tryz.ntmps76
       go_wp2_with fail
       go_ret
       exact⟨rfl,HB0.o⟩
      | true =>
       cases b6 with
       | false =>
        go_enter Tryz.func76,Tryz.ntmps76
        go_wp2_with fail
        go_ret
        exact⟨rfl,HB0.o⟩
       | true =>
        cases bL with
        | false =>
         go_enter Tryz.func76,Tryz.ntmps76
         go_wp2_with fail
         refine (HL.o _ Au.o HX0.o).mono ?_
         rintro e w1 ⟨rfl,hb1⟩
         have HB1:=ZZ (zTr HB0.o hb1)
         have Cc:=ZZ (Bo.o.below hb1)
         have Jb:=ZZ (JY.o.below hb1)
         obtain⟨k0,k1,k2,k3,k4,k5,k6,k7,k8⟩:=(HQ.o.on hb1 HQ.o.lt).ev
         obtain⟨l0,l1,l2,l3,l4,l5,l6,l7,l8⟩:=(HR.o.on hb1 HR.o.lt).ev
         clear hb1
         go_wp2_with fail
         go_ret
         exact⟨rfl,HB1.o⟩
        | true =>
         cases bP with
         | false =>
          go_enter Tryz.func76,Tryz.ntmps76
          go_wp2_with fail
          refine (HL.o _ Au.o HX0.o).mono ?_
          rintro e w1 ⟨rfl,hb1⟩
          have HB1:=ZZ (zTr HB0.o hb1)
          have Cc:=ZZ (Bo.o.below hb1)
          have Jb:=ZZ (JY.o.below hb1)
          obtain⟨k0,k1,k2,k3,k4,k5,k6,k7,k8⟩:=(HQ.o.on hb1 HQ.o.lt).ev
          obtain⟨l0,l1,l2,l3,l4,l5,l6,l7,l8⟩:=(HR.o.on hb1 HR.o.lt).ev
          clear hb1
          go_wp2_with fail
          refine (HP.o _ Cc.o Jb.o).mono ?_
          rintro e w2 ⟨rfl,hb2⟩
          have HB2:=ZZ (zTr HB1.o hb2)
          clear hb2
          go_wp2_with fail
          go_ret
          exact⟨rfl,HB2.o⟩
         | true =>
          go_enter Tryz.func76,Tryz.ntmps76
          go_wp2_with fail
          refine (HL.o _ Au.o HX0.o).mono ?_
          rintro e w1 ⟨rfl,hb1⟩
          have HB1:=ZZ (zTr HB0.o hb1)
          have Cc:=ZZ (Bo.o.below hb1)
          have Jb:=ZZ (JY.o.below hb1)
          obtain⟨k0,k1,k2,k3,k4,k5,k6,k7,k8⟩:=(HQ.o.on hb1 HQ.o.lt).ev
          obtain⟨l0,l1,l2,l3,l4,l5,l6,l7,l8⟩:=(HR.o.on hb1 HR.o.lt).ev
          clear hb1
          go_wp2_with fail
          refine (HP.o _ Cc.o Jb.o).mono ?_
          rintro e w2 ⟨rfl,hb2⟩
          have HB2:=ZZ (zTr HB1.o hb2)
          clear hb2
          go_wp2_with fail
          go_ret
          exact⟨rfl,HB2.o⟩

open P5 P14
theorem zb1 (oa:Zoa) (n cap:Nat) (s:Zii) (ob:Zoa) (m cb:Nat) (t:Zii) (hn20:n≤1048576) (w:World) (hs:ItemsAt w oa n cap s) (ht:ItemsAt w ob m cb t) :
  Calls Tryz.prog 77 #[.slice oa n cap,.slice ob m cb] w fun e w'=>e=.returned (.bool (eqB s t))∧Bw w w':=by
 have hsl:=hs.len
 have htl:=ht.len
 by_cases hnm:n=m
 ·subst hnm
  have HS:=ZZ hs
  have HT:=ZZ ht
  have Dc:=ZZ hsl
  have Ea:=ZZ htl
  clear hs ht hsl htl
  go_enter Tryz.func77,Tryz.ntmps77
  go_wp2_with fail
  go_loopw [5] (fun x wr=>∃ (j q:Nat),x=J Y (j:Int)∧j≤n∧s.take j=t.take j∧wr=w.drewN q) (fun x _=>n - (intOf x).toNat)
  case atStart=>exact⟨0,0,rfl,Nat.zero_le _,by simp,rfl⟩
  case round =>
   obtain⟨j,q,rfl,hj,htk,rfl⟩:=hrel
   have Af:=ZZ htk
   clear htk
   by_cases hlt:j<n
   ·have j0:(j:Int)<(n:Int):=by omega
    obtain⟨x,bx,qx,hx,hidx,hbx,c0,c1⟩:=HS.o.get Tryz.underlying74 z1i j hlt
    obtain⟨y,bY,qy,hy,hidy,hby,d0,d1⟩:=HT.o.get Tryz.underlying74 z1i j hlt
    have hne:=fun W=>zdn x.1 x.2 y.1 y.2 W
    rw[zdo x y] at hne
    have HX:=ZZ hx
    have HY:=ZZ hy
    clear hx hy
    by_cases e:x=y
    ·have HE:=ZZ e
     rw[z2e e] at hne
     clear e
     go_wp2_with fail
     go_quiet (fail)
     go_wp2_with fail
     go_roundw
     case rel=>exact⟨j+1,q+nq,by go_num,by omega,z4e Af.o HX.o (by rw[HE.o];exact HY.o),by simp⟩
     case measure=>simp[intOf];omega
    ·have HE:=ZZ e
     rw[z1k e] at hne
     clear e
     go_wp2_with fail
     go_quiet (fail)
     go_wp2_with fail
     go_ret
     refine⟨?_,below_drewN (below_drewN zBr _) _⟩
     rw[z1k (fun h=>HE.o (by
      have h1:=HX.o
      rw[h,HY.o] at h1
      exact (zSi h1).symm))]
     rfl
   ·have hst:s=t:=by
     have h1:=Af.o
     rwa [zTl (by rw[Dc.o];omega),zTl (by rw[Ea.o];omega)] at h1
    have HST:=ZZ hst
    clear hst
    go_wp2_with fail
    go_ret
    exact⟨by rw[z2e HST.o];rfl,below_drewN zBr _⟩
 ·have Bq:=ZZ (show s≠t from fun h=>hnm (by rw[← hsl,← htl,h]))
  have h1:=zNt ht.room ht.most
  unfold maxLen at h1
  have q2:((n:Int) != (m:Int))=true:=by rw[bne_iff_ne];omega
  clear hs ht hsl htl hnm
  go_enter Tryz.func77,Tryz.ntmps77
  go_wp2_with fail
  go_ret
  exact⟨by rw[z1k Bq.o];rfl,zBr⟩

theorem zlh (x y:EvV):zc7 (⟨x.id,x.kind,x.sender,x.user,x.member,x.levels,x.text,x.prev,x.depth⟩:EvV) (⟨y.id,y.kind,y.sender,y.user,y.member,y.levels,y.text,y.prev,y.depth⟩:EvV)=eqB x y:=by
 rw[Bool.eq_iff_iff,zlg,zi0]

theorem zha (es es2:List EvV) (ss ss2:Zis) (gs gs2:List Bool) (hf:za7 es ss gs) (oa:Zoa) (n cap:Nat) (so:Zoa) (sn sc:Nat) (go:Zoa) (gn gc:Nat) (ob:Zoa) (n' cap':Nat) (sp:Zoa) (sn' sc':Nat) (gp:Zoa) (gn' gc':Nat) (w:World) (r1:EvsAt w oa n cap es) (r2:StsAt w so sn sc ss) (r3:BoolsAt w go gn gc gs) (s1:EvsAt w ob n' cap' es2) (s2:StsAt w sp sn' sc' ss2) (s3:BoolsAt w gp gn' gc' gs2) :
  Calls Tryz.prog 27 #[z6j oa n cap so sn sc go gn gc,z6j ob n' cap' sp sn' sc' gp gn' gc'] w fun e w'=>e=.returned (.bool (eqB es es2&&(eqB ss ss2&&eqB gs gs2)))∧Bw w w':=by
 have HF:=ZZ hf.sw
 clear hf
 have hn1:=r1.len
 have hn2:=s1.len
 have hn3:=r2.len
 have hn4:=s2.len
 have hn5:=r3.len
 have hn6:=s3.len
 have hx1:=zNt r1.room r1.most
 have hx2:=zNt s1.room s1.most
 have hx3:=zNt r2.room r2.most
 have hx4:=zNt s2.room s2.most
 have hx5:=zNt r3.room r3.most
 have hx6:=zNt s3.room s3.most
 unfold maxLen at hx1 hx2 hx3 hx4 hx5 hx6
 obtain⟨W0,hW0⟩:∃ W0,(w.alloc (.cells #[.slice oa n cap,.slice so sn sc,.slice go gn gc] 32)).alloc (.cells #[.slice ob n' cap',.slice sp sn' sc',.slice gp gn' gc'] 32)=W0:=⟨_,rfl⟩
 obtain⟨hA0,hB0,hb0⟩:=zcl w #[.slice oa n cap,.slice so sn sc,.slice go gn gc] #[.slice ob n' cap',.slice sp sn' sc',.slice gp gn' gc'] 32 32
 rw[hW0] at hA0 hB0 hb0
 have hlA:=ze hA0
 have hlB:=ze hB0
 have Au:=ZZ (show ∀ W,Bw W0 W→W.cell? ⟨w.heap.size,0,none⟩=some (.slice oa n cap) from fun W hb=>(hb.cell hlA).trans (zb hA0 0 rfl))
 have HA1:=ZZ (show ∀ W,Bw W0 W→W.cell? ⟨w.heap.size,1,none⟩=some (.slice so sn sc) from fun W hb=>(hb.cell hlA).trans (zb hA0 1 rfl))
 have HA2:=ZZ (show ∀ W,Bw W0 W→W.cell? ⟨w.heap.size,2,none⟩=some (.slice go gn gc) from fun W hb=>(hb.cell hlA).trans (zb hA0 2 rfl))
 have Bo:=ZZ (show ∀ W,Bw W0 W→W.cell? ⟨w.heap.size+1,0,none⟩=some (.slice ob n' cap') from fun W hb=>(hb.cell hlB).trans (zb hB0 0 rfl))
 have Cc:=ZZ (show ∀ W,Bw W0 W→W.cell? ⟨w.heap.size+1,1,none⟩=some (.slice sp sn' sc') from fun W hb=>(hb.cell hlB).trans (zb hB0 1 rfl))
 have Eu:=ZZ (show ∀ W,Bw W0 W→W.cell? ⟨w.heap.size+1,2,none⟩=some (.slice gp gn' gc') from fun W hb=>(hb.cell hlB).trans (zb hB0 2 rfl))
 have HB0:=ZZ hb0
 have HW0:=ZZ hW0
 have HR1:=ZZ (r1.below hb0)
 have HR2:=ZZ (r2.below hb0)
 have HR3:=ZZ (r3.below hb0)
 have AX:=ZZ (s1.below hb0)
 have HS2:=ZZ (s2.below hb0)
 have Ap:=ZZ (s3.below hb0)
 clear hW0 hb0 hA0 hB0 hlA hlB r1 r2 r3 s1 s2 s3
 by_cases c1:n=n'
 ·subst c1
  by_cases c2:sn=sn'
  ·subst c2
   by_cases c3:gn=gn'
   ·subst c3
    have HLes:=ZZ hn1
    have HLes2:=ZZ hn2
    have HLss:=ZZ hn3
    have HLss2:=ZZ hn4
    have HLgs:=ZZ hn5
    have HLgs2:=ZZ hn6
    clear hn1 hn2 hn3 hn4 hn5 hn6 hx2 hx4 hx6
    go_enter Tryz.func27,Tryz.ntmps27
    go_upto_region 1 with fail
    rw[HW0.o]
    clear HW0
    have s0:=Au.o W0 zBr
    have s1:=HA1.o W0 zBr
    have s2:=HA2.o W0 zBr
    have t0:=Bo.o W0 zBr
    have t1:=Cc.o W0 zBr
    have t2:=Eu.o W0 zBr
    go_wp2_with fail
    clear s0 s1 s2 t0 t1 t2
    go_loopw [5] (fun x wr=>∃ (j:Nat),x=J Y (j:Int)∧j≤n∧es.take j=es2.take j∧Bw W0 wr) (fun x _=>n - (intOf x).toNat)
    case atStart=>exact⟨0,rfl,Nat.zero_le _,by simp,zBr⟩
    case round =>
     obtain⟨j,rfl,hj,htk,hbel⟩:=hrel
     have Af:=ZZ htk
     have hsz:=hbel.size
     clear htk
     have s0:=Au.o wr hbel
     have t0:=Bo.o wr hbel
     by_cases hlt:j<n
     ·have j0:(j:Int)<(n:Int):=by omega
      obtain⟨x,bx,qx,xa,xc,ya,yc,hx,hidx,hev⟩:=(HR1.o.below hbel).get Tryz.underlying29 z2t j hlt
      obtain⟨y,bY,qy,xa',xc',ya',yc',hy,hidy,hev'⟩:=(AX.o.below hbel).get Tryz.underlying29 z2t j hlt
      have hbx:=hev.lt
      have hby:=hev'.lt
      obtain⟨c0,c1,c2,c3,c4,c5,c6,c7,c8⟩:=hev.cs
      obtain⟨d0,d1,d2,d3,d4,d5,d6,d7,d8⟩:=hev'.cs
      have HQ:=ZZ (fun (w2:World) (hb2:Bw wr w2)=>zh9 x.id x.kind x.sender x.user x.member x.depth xa x.levels.length xc x.text ya x.prev.length yc x.levels x.prev y.id y.kind y.sender y.user y.member y.depth xa' y.levels.length xc' y.text ya' y.prev.length yc' y.levels y.prev w2 (hev.lev.below hb2) (hev'.lev.below hb2) (hev.prv.below hb2) (hev'.prv.below hb2))
      simp only[zlh] at HQ
      have HX:=ZZ hx
      have HY:=ZZ hy
      clear hx hy hev hev'
      by_cases e:x=y
      ·have HE:=ZZ e
       have he:=z2e e
       skip
       rw[he] at HQ
       clear e he
       go_wp2_with fail
       refine zn (F:=Bw wr) (by kernel_rfl) (by kernel_rfl) zBr.drew ?_
       have hne:Nonempty (InW (Bw wr)):=⟨⟨_,zBr⟩⟩
       have k0:=fun mw:InW (Bw wr)=>Au.o mw.w (hbel.trans (mw.h.mono hsz))
       have k1:=fun mw:InW (Bw wr)=>Bo.o mw.w (hbel.trans (mw.h.mono hsz))
       have k2:=ciW c0
       have k3:=ciW c1
       have k4:=ciW c2
       have k5:=ciW c3
       have k6:=ciW c4
       have k7:=ciW c5
       have k8:=ciW c6
       have k9:=ciW c7
       have k10:=ciW c8
       have k11:=ciW d0
       have k12:=ciW d1
       have k13:=ciW d2
       have k14:=ciW d3
       have k15:=ciW d4
       have k16:=ciW d5
       have k17:=ciW d6
       have k18:=ciW d7
       have k19:=ciW d8
       repeat (go_big_quiet_step (first
        | fail
        | (go_at_call 76;(with_reducible refine (HQ.o _ (InW.h _)).mono ?_);rintro e w3 ⟨rfl,hb3⟩;exact⟨rfl,iwW hb3,rfl⟩)
        ))
       refine wpQuiet_nil ?_
       intro _ hw'
       obtain⟨nq,hw''⟩:=hw'
       subst hw''
       have hb3:=hbel.trans (nq.h.mono hsz)
       clear hne k0 k1 k2 k3 k4 k5 k6 k7 k8 k9 k10 k11 k12 k13 k14 k15 k16 k17 k18 k19
       generalize nq.w=w1 at hb3 ⊢
       go_wp2_with fail
       go_roundw
       case rel=>exact⟨j+1,by go_num,by omega,z4e Af.o HX.o (by first|exact HY.o|(rw[HE.o];exact HY.o)),hb3⟩
       case measure=>simp[intOf];omega
      ·have HE:=ZZ e
       have he:=z1k e
       skip
       rw[he] at HQ
       clear e he
       go_wp2_with fail
       refine zn (F:=Bw wr) (by kernel_rfl) (by kernel_rfl) zBr.drew ?_
       have hne:Nonempty (InW (Bw wr)):=⟨⟨_,zBr⟩⟩
       have k0:=fun mw:InW (Bw wr)=>Au.o mw.w (hbel.trans (mw.h.mono hsz))
       have k1:=fun mw:InW (Bw wr)=>Bo.o mw.w (hbel.trans (mw.h.mono hsz))
       have k2:=ciW c0
       have k3:=ciW c1
       have k4:=ciW c2
       have k5:=ciW c3
       have k6:=ciW c4
       have k7:=ciW c5
       have k8:=ciW c6
       have k9:=ciW c7
       have k10:=ciW c8
       have k11:=ciW d0
       have k12:=ciW d1
       have k13:=ciW d2
       have k14:=ciW d3
       have k15:=ciW d4
       have k16:=ciW d5
       have k17:=ciW d6
       have k18:=ciW d7
       have k19:=ciW d8
       repeat (go_big_quiet_step (first
        | fail
        | (go_at_call 76;(with_reducible refine (HQ.o _ (InW.h _)).mono ?_);rintro e w3 ⟨rfl,hb3⟩;exact⟨rfl,iwW hb3,rfl⟩)
        ))
       refine wpQuiet_nil ?_
       intro _ hw'
       obtain⟨nq,hw''⟩:=hw'
       subst hw''
       have hb3:=hbel.trans (nq.h.mono hsz)
       clear hne k0 k1 k2 k3 k4 k5 k6 k7 k8 k9 k10 k11 k12 k13 k14 k15 k16 k17 k18 k19
       generalize nq.w=w1 at hb3 ⊢
       go_wp2_with fail
       go_ret
       refine⟨?_,zTr HB0.o hb3⟩
       rw[z1k (show es≠es2 from fun h=>HE.o (by have h1:=HX.o;rw[h,HY.o] at h1;exact (zSi h1).symm))]
       rfl
     ·have HST:Hd (es=es2):=ZZ (by
       have h1:=Af.o
       rwa [zTl (by rw[HLes.o];omega),zTl (by rw[HLes2.o];omega)] at h1)
      clear Af
      have EW:=HST
      clear HST
      go_wp2_with fail
      clear s0 t0
      go_loopw [6] (fun x wr=>∃ (j:Nat),x=J Y (j:Int)∧j≤sn∧ss.take j=ss2.take j∧Bw W0 wr) (fun x _=>sn - (intOf x).toNat)
      case atStart=>exact⟨0,rfl,Nat.zero_le _,by simp,hbel⟩
      case round =>
       obtain⟨j,rfl,hj,htk,hbel⟩:=hrel
       have Af:=ZZ htk
       have hsz:=hbel.size
       clear htk
       have s1:=HA1.o wr hbel
       have t1:=Cc.o wr hbel
       by_cases hlt:j<sn
       ·have j0:(j:Int)<(sn:Int):=by omega
        obtain⟨x,bx,qx,xa,xc,hx,hidx,c0,hit⟩:=(HR2.o.below hbel).get Tryz.underlying30 z8t j hlt
        obtain⟨y,bY,qy,ya,yc,hy,hidy,d0,hit'⟩:=(HS2.o.below hbel).get Tryz.underlying30 z8t j hlt
        have hbx:=zw c0
        have hby:=zw d0
        have hxl:x.length≤1048576:=zNt (za6 (zMg hx)) HF.o
        have HQ:=ZZ (fun (w2:World) (hb2:Bw wr w2)=>zb1 xa x.length xc x ya y.length yc y hxl w2 (hit.below hb2) (hit'.below hb2))
        have HX:=ZZ hx
        have HY:=ZZ hy
        clear hx hy hit hit'
        by_cases e:x=y
        ·have HE:=ZZ e
         have he:=z2e e
         skip
         rw[he] at HQ
         clear e he
         go_wp2_with fail
         refine zn (F:=Bw wr) (by kernel_rfl) (by kernel_rfl) zBr.drew ?_
         have hne:Nonempty (InW (Bw wr)):=⟨⟨_,zBr⟩⟩
         have k0:=fun mw:InW (Bw wr)=>HA1.o mw.w (hbel.trans (mw.h.mono hsz))
         have k1:=fun mw:InW (Bw wr)=>Cc.o mw.w (hbel.trans (mw.h.mono hsz))
         have k2:=ciW c0
         have k3:=ciW d0
         repeat (go_big_quiet_step (first
          | fail
          | (go_at_call 77;(with_reducible refine (HQ.o _ (InW.h _)).mono ?_);rintro e w3 ⟨rfl,hb3⟩;exact⟨rfl,iwW hb3,rfl⟩)
          ))
         refine wpQuiet_nil ?_
         intro _ hw'
         obtain⟨nq,hw''⟩:=hw'
         subst hw''
         have hb3:=hbel.trans (nq.h.mono hsz)
         clear hne k0 k1 k2 k3
         generalize nq.w=w1 at hb3 ⊢
         go_wp2_with fail
         go_roundw
         case rel=>exact⟨j+1,by go_num,by omega,z4e Af.o HX.o (by first|exact HY.o|(rw[HE.o];exact HY.o)),hb3⟩
         case measure=>simp[intOf];omega
        ·have HE:=ZZ e
         have he:=z1k e
         skip
         rw[he] at HQ
         clear e he
         go_wp2_with fail
         refine zn (F:=Bw wr) (by kernel_rfl) (by kernel_rfl) zBr.drew ?_
         have hne:Nonempty (InW (Bw wr)):=⟨⟨_,zBr⟩⟩
         have k0:=fun mw:InW (Bw wr)=>HA1.o mw.w (hbel.trans (mw.h.mono hsz))
         have k1:=fun mw:InW (Bw wr)=>Cc.o mw.w (hbel.trans (mw.h.mono hsz))
         have k2:=ciW c0
         have k3:=ciW d0
         repeat (go_big_quiet_step (first
          | fail
          | (go_at_call 77;(with_reducible refine (HQ.o _ (InW.h _)).mono ?_);rintro e w3 ⟨rfl,hb3⟩;exact⟨rfl,iwW hb3,rfl⟩)
          ))
         refine wpQuiet_nil ?_
         intro _ hw'
         obtain⟨nq,hw''⟩:=hw'
         subst hw''
         have hb3:=hbel.trans (nq.h.mono hsz)
         clear hne k0 k1 k2 k3
         generalize nq.w=w1 at hb3 ⊢
         go_wp2_with fail
         go_ret
         refine⟨?_,zTr HB0.o hb3⟩
         rw[show (eqB es es2&&(eqB ss ss2&&eqB gs gs2))=false by rw[z1k (show ss≠ss2 from fun h=>HE.o (by have h1:=HX.o;rw[h,HY.o] at h1;exact (zSi h1).symm))];simp]
         rfl
       ·have HST:Hd (ss=ss2):=ZZ (by
         have h1:=Af.o
         rwa [zTl (by rw[HLss.o];omega),zTl (by rw[HLss2.o];omega)] at h1)
        clear Af
        have LU:=HST
        clear HST
        go_wp2_with fail
        clear s1 t1
        go_loopw [7] (fun x wr=>∃ (j:Nat),x=J Y (j:Int)∧j≤gn∧gs.take j=gs2.take j∧Bw W0 wr) (fun x _=>gn - (intOf x).toNat)
        case atStart=>exact⟨0,rfl,Nat.zero_le _,by simp,hbel⟩
        case round =>
         obtain⟨j,rfl,hj,htk,hbel⟩:=hrel
         have Af:=ZZ htk
         have hsz:=hbel.size
         clear htk
         have s2:=HA2.o wr hbel
         have t2:=Eu.o wr hbel
         by_cases hlt:j<gn
         ·have j0:(j:Int)<(gn:Int):=by omega
          obtain⟨x,bx,qx,hx,hidx,c0⟩:=(HR3.o.below hbel).get Tryz.underlying24 z7g j hlt
          obtain⟨y,bY,qy,hy,hidy,d0⟩:=(Ap.o.below hbel).get Tryz.underlying24 z7g j hlt
          have HX:=ZZ hx
          have HY:=ZZ hy
          clear hx hy 
          cases x with
          | false =>
           cases y with
           | false =>
            have HE:=ZZ (show (false:Bool)=false by decide)
            go_wp2_with fail
            go_quiet (fail)
            have hb3:=below_drewN hbel nq
            go_wp2_with fail
            go_roundw
            case rel=>exact⟨j+1,by go_num,by omega,z4e Af.o HX.o (by first|exact HY.o|(rw[HE.o];exact HY.o)),hb3⟩
            case measure=>simp[intOf];omega
           | true =>
            have HE:=ZZ (show (false:Bool)≠true by decide)
            go_wp2_with fail
            go_quiet (fail)
            have hb3:=below_drewN hbel nq
            go_wp2_with fail
            go_ret
            refine⟨?_,zTr HB0.o hb3⟩
            rw[show (eqB es es2&&(eqB ss ss2&&eqB gs gs2))=false by rw[z1k (show gs≠gs2 from fun h=>HE.o (by have h1:=HX.o;rw[h,HY.o] at h1;exact (zSi h1).symm))];simp]
            rfl
          | true =>
           cases y with
           | false =>
            have HE:=ZZ (show (true:Bool)≠false by decide)
            go_wp2_with fail
            go_quiet (fail)
            have hb3:=below_drewN hbel nq
            go_wp2_with fail
            go_ret
            refine⟨?_,zTr HB0.o hb3⟩
            rw[show (eqB es es2&&(eqB ss ss2&&eqB gs gs2))=false by rw[z1k (show gs≠gs2 from fun h=>HE.o (by have h1:=HX.o;rw[h,HY.o] at h1;exact (zSi h1).symm))];simp]
            rfl
           | true =>
            have HE:=ZZ (show (true:Bool)=true by decide)
            go_wp2_with fail
            go_quiet (fail)
            have hb3:=below_drewN hbel nq
            go_wp2_with fail
            go_roundw
            case rel=>exact⟨j+1,by go_num,by omega,z4e Af.o HX.o (by first|exact HY.o|(rw[HE.o];exact HY.o)),hb3⟩
            case measure=>simp[intOf];omega
         ·have HST:Hd (gs=gs2):=ZZ (by
           have h1:=Af.o
           rwa [zTl (by rw[HLgs.o];omega),zTl (by rw[HLgs2.o];omega)] at h1)
          clear Af
          go_wp2_with fail
          go_ret
          exact⟨by rw[show (eqB es es2&&(eqB ss ss2&&eqB gs gs2))=true by rw[z2e EW.o,z2e LU.o,z2e HST.o];rfl];rfl,zTr HB0.o hbel⟩
   ·have Bq:=ZZ (show gs≠gs2 from fun h=>by subst h;omega)
    have q2:((gn:Int) != (gn':Int))=true:=by rw[bne_iff_ne];omega
    go_enter Tryz.func27,Tryz.ntmps27
    go_upto_region 1 with fail
    rw[HW0.o]
    clear HW0
    have s0:=Au.o W0 zBr
    have s1:=HA1.o W0 zBr
    have s2:=HA2.o W0 zBr
    have t0:=Bo.o W0 zBr
    have t1:=Cc.o W0 zBr
    have t2:=Eu.o W0 zBr
    go_wp2_with fail
    go_ret
    exact⟨by rw[show (eqB es es2&&(eqB ss ss2&&eqB gs gs2))=false by rw[z1k Bq.o];simp];rfl,HB0.o⟩
  ·have Bq:=ZZ (show ss≠ss2 from fun h=>by subst h;omega)
   have q2:((sn:Int) != (sn':Int))=true:=by rw[bne_iff_ne];omega
   go_enter Tryz.func27,Tryz.ntmps27
   go_upto_region 1 with fail
   rw[HW0.o]
   clear HW0
   have s0:=Au.o W0 zBr
   have s1:=HA1.o W0 zBr
   have s2:=HA2.o W0 zBr
   have t0:=Bo.o W0 zBr
   have t1:=Cc.o W0 zBr
   have t2:=Eu.o W0 zBr
   go_wp2_with fail
   go_ret
   exact⟨by rw[show (eqB es es2&&(eqB ss ss2&&eqB gs gs2))=false by rw[z1k Bq.o];simp];rfl,HB0.o⟩
 ·have Bq:=ZZ (show es≠es2 from fun h=>by subst h;omega)
  have q2:((n:Int) != (n':Int))=true:=by rw[bne_iff_ne];omega
  go_enter Tryz.func27,Tryz.ntmps27
  go_upto_region 1 with fail
  rw[HW0.o]
  clear HW0
  have s0:=Au.o W0 zBr
  have s1:=HA1.o W0 zBr
  have s2:=HA2.o W0 zBr
  have t0:=Bo.o W0 zBr
  have t1:=Cc.o W0 zBr
  have t2:=Eu.o W0 zBr
  go_wp2_with fail
  go_ret
  exact⟨by rw[show (eqB es es2&&(eqB ss ss2&&eqB gs gs2))=false by rw[z1k Bq.o];simp];rfl,HB0.o⟩

end Go.Proofs.YtfeebdcmlnapiaaGreat
