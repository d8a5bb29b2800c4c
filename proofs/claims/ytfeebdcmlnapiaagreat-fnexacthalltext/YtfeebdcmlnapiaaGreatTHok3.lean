/-
  Walks.
-/
import Derived.Test.YtfeebdcmlnapiaaGreatTHok1
set_option maxRecDepth 100000
set_option maxHeartbeats 4000000
set_option linter.unusedVariables false
set_option linter.unusedSimpArgs false
namespace Go.Proofs.YtfeebdcmlnapiaaGreat
open Go.RowKit P1 P5 P9 P11 P12 P14 K
def y0s (es:List EvV) (gs:List Bool) (w:World) (r:Ending) (w':World):Prop:=∃ o c,r=.returned (.slice o (ownL es gs).length c)∧w'.ownsRow w.heap.size 3 1 (.slice o (ownL es gs).length c) (ownL es gs).length ((ownL es gs).map z03)∧Bw w w'

theorem y1n {w:World} {B:Nat} {v:Value} {l:Zin} {z:Int} (h:w.ownsRow B 3 1 v (l.length+1) (l.map z03++[.int .i64 z])):w.ownsRow B 3 1 v (l++[z]).length ((l++[z]).map z03):=by
 rw[List.map_append,List.length_append]
 exact h

theorem y1o (x:Int):(x.tmod 2==0)=decide (x.tmod 2=0):=by
 rw[Bool.eq_iff_iff]
 simp

theorem y1p (oa:Zoa) (n cap:Nat) (es:List EvV) (so:Zoa) (sn sc:Nat) (go:Zoa) (gc:Nat) (gs:List Bool) (hn:n≤1048576) (w:World) (hev:EvsAt w oa n cap es) (hgs:BoolsAt w go n gc gs) :
  Calls Tryz.prog 95 #[z6j oa n cap so sn sc go n gc] w (y0s es gs w):=by
 obtain⟨W0,hW0,hb0,hA0⟩:=bxN w #[.slice oa n cap,.slice so sn sc,.slice go n gc] 32
 have A8:=ZZ (hev.below hb0)
 have Es:=ZZ (hgs.below hb0)
 have CS:=ZZ hev.len
 have HW0:=ZZ hW0
 have HB0:=ZZ hb0
 have HA:=ZZ (fun (W:World) (h:Bw W0 W)=>(h.block _ (ze hA0)).trans hA0)
 have r0:=zb (HA.o W0 zBr) 0 rfl
 clear hev hgs hb0 hA0 hW0
 go_enter Tryz.func95,Tryz.ntmps95
 go_upto_region 1 with fail
 rw[HW0.o]
 clear HW0
 go_wp2_with fail
 clear r0
 go_loopw [3,9] (fun v x wr=>∃ (j:Nat) (o:Zoa) (c:Nat),x=.int .i64 (j:Int)∧v=.slice o (y01 es gs j).length c∧j≤n∧wr.ownsRow W0.heap.size 3 1 (.slice o (y01 es gs j).length c) (y01 es gs j).length ((y01 es gs j).map z03)∧Bw W0 wr) (fun _ x _=>n - (intOf x).toNat)
 case atStart=>exact⟨0,_,_,rfl,rfl,Nat.zero_le _,World.ownsRow_nil _ _ _ _,zBr⟩
 case round =>
  obtain⟨j,o,c,rfl,rfl,hj,hown,hbel⟩:=hrel
  have HO:=ZZ hown
  have HB:=ZZ hbel
  clear hown hbel
  by_cases hlt:j<n
  ·have j0:(j:Int)<(n:Int):=by omega
   obtain⟨x,bx,qx,xa,xc,ya,yc,hx,hidx,hev0⟩:=(A8.o.below HB.o).get Tryz.underlying29 z2t j hlt
   obtain⟨t,bg,qg,ht,hidg,hcg⟩:=(Es.o.below HB.o).get Tryz.underlying24 z7g j hlt
   obtain⟨c0,c1,c2,c3,c4,c5,c6,c7,c8⟩:=hev0.cs
   have hnx:=y0x hx ht
   have htl:=y1b es gs j
   obtain⟨Wa,hWa⟩:∃ Wa,wr.alloc (.cells (zk x.id x.kind x.sender x.user x.member x.depth (.slice xa x.levels.length xc) (.slice ya x.prev.length yc) x.text) 62)=Wa:=⟨_,rfl⟩
   have hba:Bw wr Wa:=by rw[← hWa];exact zBa
   have hEa:EB Wa wr.heap.size x.id x.kind x.sender x.user x.member x.depth (.slice xa x.levels.length xc) (.slice ya x.prev.length yc) x.text:=by rw[← hWa];exact EB.new _ _ _ _ _ _ _ _ _ _
   have DC:=ZZ hWa
   have hb2:=zTr HB.o hba
   have Ag:=ZZ (own_below HO.o hba)
   have HB2:=ZZ hb2
   have r2:=zb (HA.o Wa hb2) 2 rfl
   have hcg2:=(hba.cell (zw hcg)).trans hcg
   have AO:=ZZ hnx
   obtain⟨a0,a1,a2,a3,a4,a5,a6,a7,a8⟩:=hEa.ev
   clear hx hev0 hba hEa hWa hb2 ht hnx HO HB hcg
   go_upto_region 5 with fail
   rw[DC.o]
   clear DC c0 c1 c2 c3 c4 c5 c6 c7 c8 hidx
   have qm:=y1o x.id
   cases t with
   | false =>
    have HN:=ZZ (show y01 es gs (j+1)=y01 es gs j by rw[AO.o];simp)
    go_wp2_with fail
    go_roundw
    case rel=>exact⟨j+1,o,c,by go_num,by rw[HN.o],by omega,by rw[HN.o];exact Ag.o,HB2.o⟩
    case measure=>simp[intOf];omega
   | true =>
    by_cases hm:x.id.tmod 2=0
    ·have HN:=ZZ (show y01 es gs (j+1)=y01 es gs j++[x.id] by rw[AO.o,if_pos ⟨rfl,hm⟩])
     rw[decide_eq_true hm] at qm
     clear hm
     have hown:=Ag.o
     have hbel:=HB2.o
     have hsz:=hbel.size
     go_wp2_with (at_builtin;refine y0t rfl _ _ 60 rfl Tryz.underlying60 z1u rfl rfl hown rfl rfl hbel hsz (by unfold maxLen;omega) (by omega) ?_;intro v6 w6 ho6 hb6 hl6;obtain⟨o6,c6,rfl⟩:=zi ho6)
     have D7:=ZZ (y1n ho6)
     have Az:=ZZ hb6
     rw[← HN.o] at D7
     have HL6:=ZZ (show (y01 es gs j).length+1=(y01 es gs (j+1)).length by rw[HN.o];simp)
     clear ho6 hb6 hl6 hown hbel
     go_roundw
     case rel=>exact⟨j+1,o6,c6,by go_num,by rw[← HL6.o],by omega,by have h:=D7.o;rw[← HL6.o] at h ⊢;exact h,Az.o⟩
     case measure=>simp[intOf];omega
    ·have HN:=ZZ (show y01 es gs (j+1)=y01 es gs j by rw[AO.o,if_neg (fun h=>hm h.2)];simp)
     rw[decide_eq_false hm] at qm
     clear hm
     go_wp2_with fail
     go_roundw
     case rel=>exact⟨j+1,o,c,by go_num,by rw[HN.o],by omega,by rw[HN.o];exact Ag.o,HB2.o⟩
     case measure=>simp[intOf];omega
  ·have j0:¬ ((j:Int)<(n:Int)):=by omega
   have HN:=ZZ (y0k (es:=es) (gs:=gs) (j:=j) (by rw[CS.o];omega))
   go_wp2_with fail
   go_ret
   exact⟨o,c,by rw[← HN.o];rfl,by rw[← HN.o];exact zu HO.o HB0.o.size,zTr HB0.o HB.o⟩

theorem y2g (oa:Zoa) (n cap:Nat) (es:List EvV) (so:Zoa) (sn sc:Nat) (go:Zoa) (gc:Nat) (gs:List Bool) (hn:n≤1048576) (w:World) (hev:EvsAt w oa n cap es) (hgs:BoolsAt w go n gc gs) :
  Calls Tryz.prog 40 #[z6j oa n cap so sn sc go n gc] w (y0s es gs w):=by
 obtain⟨W0,hW0,hb0,hA0⟩:=bxN w #[.slice oa n cap,.slice so sn sc,.slice go n gc] 32
 have A8:=ZZ (hev.below hb0)
 have Es:=ZZ (hgs.below hb0)
 have CS:=ZZ hev.len
 have HW0:=ZZ hW0
 have HB0:=ZZ hb0
 have HA:=ZZ (fun (W:World) (h:Bw W0 W)=>(h.block _ (ze hA0)).trans hA0)
 obtain⟨W1,hW1⟩:∃ W1,W0.alloc (.cells #[] 3)=W1:=⟨_,rfl⟩
 have he:W1.ownsRow W0.heap.size 3 1 (.slice (some ⟨W0.heap.size,0,none⟩) 0 0) 0 []∧Bw W0 W1:=by
  rw[← hW1]
  exact⟨World.ownsRow_made (w:=W0) #[] 0 zLe (by decide) rfl,zBa⟩
 have HW1:=ZZ hW1
 have HE:=ZZ he
 clear he hW1
 have r0:=zb (HA.o W1 HE.o.2) 0 rfl
 clear hev hgs hb0 hA0 hW0
 go_enter Tryz.func40,Tryz.ntmps40
 go_upto_region 1 with fail
 rw[HW0.o]
 clear HW0
 go_upto_region 2 with fail
 rw[HW1.o]
 clear HW1
 go_wp2_with fail
 clear r0
 go_loopw [3,4] (fun v x wr=>∃ (j:Nat) (o:Zoa) (c:Nat),x=.int .i64 (j:Int)∧v=.slice o (y01 es gs j).length c∧j≤n∧wr.ownsRow W0.heap.size 3 1 (.slice o (y01 es gs j).length c) (y01 es gs j).length ((y01 es gs j).map z03)∧Bw W0 wr) (fun _ x _=>n - (intOf x).toNat)
 case atStart=>exact⟨0,_,_,rfl,rfl,Nat.zero_le _,HE.o.1,HE.o.2⟩
 case round =>
  obtain⟨j,o,c,rfl,rfl,hj,hown,hbel⟩:=hrel
  have HO:=ZZ hown
  have HB:=ZZ hbel
  have hA:=HA.o wr hbel
  have r0:=zb hA 0 rfl
  have r2:=zb hA 2 rfl
  clear hown hbel hA
  by_cases hlt:j<n
  ·have j0:(j:Int)<(n:Int):=by omega
   obtain⟨x,bx,qx,xa,xc,ya,yc,hx,hidx,hev0⟩:=(A8.o.below HB.o).get Tryz.underlying29 z2t j hlt
   obtain⟨t,bg,qg,ht,hidg,hcg⟩:=(Es.o.below HB.o).get Tryz.underlying24 z7g j hlt
   obtain⟨c0,c1,c2,c3,c4,c5,c6,c7,c8⟩:=hev0.cs
   have hnx:=y0x hx ht
   have htl:=y1b es gs j
   have AO:=ZZ hnx
   have Ag:=HO
   have HB2:=HB
   clear hx hev0 ht hnx HO HB
   have qm:=y1o x.id
   cases t with
   | false =>
    have HN:=ZZ (show y01 es gs (j+1)=y01 es gs j by rw[AO.o];simp)
    go_wp2_with fail
    go_roundw
    case rel=>exact⟨j+1,o,c,by go_num,by rw[HN.o],by omega,by rw[HN.o];exact Ag.o,HB2.o⟩
    case measure=>simp[intOf];omega
   | true =>
    by_cases hm:x.id.tmod 2=0
    ·have HN:=ZZ (show y01 es gs (j+1)=y01 es gs j++[x.id] by rw[AO.o,if_pos ⟨rfl,hm⟩])
     rw[decide_eq_true hm] at qm
     clear hm
     have hown:=Ag.o
     have hbel:=HB2.o
     have hsz:=hbel.size
     go_wp2_with (at_builtin;refine y0t rfl _ _ 60 rfl Tryz.underlying60 z1u rfl rfl hown rfl rfl hbel hsz (by unfold maxLen;omega) (by omega) ?_;intro v6 w6 ho6 hb6 hl6;obtain⟨o6,c6,rfl⟩:=zi ho6)
     have D7:=ZZ (y1n ho6)
     have Az:=ZZ hb6
     rw[← HN.o] at D7
     have HL6:=ZZ (show (y01 es gs j).length+1=(y01 es gs (j+1)).length by rw[HN.o];simp)
     clear ho6 hb6 hl6 hown hbel
     go_roundw
     case rel=>exact⟨j+1,o6,c6,by go_num,by rw[← HL6.o],by omega,by have h:=D7.o;rw[← HL6.o] at h ⊢;exact h,Az.o⟩
     case measure=>simp[intOf];omega
    ·have HN:=ZZ (show y01 es gs (j+1)=y01 es gs j by rw[AO.o,if_neg (fun h=>hm h.2)];simp)
     rw[decide_eq_false hm] at qm
     clear hm
     go_wp2_with fail
     go_roundw
     case rel=>exact⟨j+1,o,c,by go_num,by rw[HN.o],by omega,by rw[HN.o];exact Ag.o,HB2.o⟩
     case measure=>simp[intOf];omega
  ·have j0:¬ ((j:Int)<(n:Int)):=by omega
   have HN:=ZZ (y0k (es:=es) (gs:=gs) (j:=j) (by rw[CS.o];omega))
   go_wp2_with fail
   go_ret
   exact⟨o,c,by rw[← HN.o];rfl,by rw[← HN.o];exact zu HO.o HB0.o.size,zTr HB0.o HB.o⟩

theorem y0z {es:List EvV} {gs:List Bool} {os:List OutX} (h:os.length≠2):y04 es gs os=false:=by
 unfold y04
 rw[decide_eq_false h]
 rfl

theorem y2h (pa:Zoa) (pn pc:Nat) (oa:Zoa) (n cap:Nat) (so:Zoa) (sn sc:Nat) (go:Zoa) (gc:Nat) (qa:Zoa) (qn qc:Nat) (es:List EvV) (gs:List Bool) (os:List OutX) (hn:n≤1048576) (hwd:∀ e∈es,(Lit.int .i64 e.id).wf=true) (hob:∀ x∈os,x.ids.length≤1048576) (w:World) (hev:EvsAt w oa n cap es) (hgs:BoolsAt w go n gc gs) (hos:OutsAt w qa qn qc os) :
  Calls Tryz.prog 45 #[y0g pa pn pc oa n cap so sn sc go n gc qa qn qc] w fun r w'=>r=.returned (.bool (y04 es gs os))∧Bw w w':=by
 have hqm:=zNt hos.room.1 hos.room.2
 unfold maxLen at hqm
 obtain⟨W0,hW0,hb0,hA0⟩:=bxN w #[.slice pa pn pc,.slice oa n cap,.slice so sn sc,.slice go n gc,.slice qa qn qc] 45
 have HOL:=ZZ hos.len
 have HOS:=ZZ (hos.below hb0)
 have HOB:=ZZ hob
 have HW0:=ZZ hW0
 have HB0:=ZZ hb0
 have Ba:=ZZ (y1p oa n cap es so sn sc go gc gs hn W0 (hev.below hb0) (hgs.below hb0))
 have HOW:=ZZ (show ∀ z∈ownL es gs,(Lit.int .i64 z).wf=true from by rw[← y0k (es:=es) (gs:=gs) (j:=es.length) zLe];exact y1l hwd gs _)
 have hol:(ownL es gs).length≤1048576:=by have h1:=y1k es gs;have h2:=hev.len;omega
 have r1:=zb hA0 1 rfl
 have r2:=zb hA0 2 rfl
 have r3:=zb hA0 3 rfl
 have r4:=zb hA0 4 rfl
 have hlA:=ze hA0
 clear hev hgs hos hob hwd hW0 hb0 hA0
 by_cases hq2:qn=2
 ·have q2:((qn:Int) != 2)=false:=by rw[hq2];rfl
  have HOO:=ZZ (show y04 es gs os=y0e (ownL es gs) 0 (os.drop 0) from by unfold y04;rw[decide_eq_true (by rw[HOL.o];exact hq2)];rfl)
  clear hq2
  unfold y0s at Ba
  generalize ownL es gs=own at Ba HOW HOO hol
  go_enter Tryz.func45,Tryz.ntmps45
  go_upto_region 1 with fail
  rw[HW0.o]
  clear HW0
  go_wp2_with (go_at_call 95;(with_reducible refine Ba.o.mono ?_);rintro r w1 ⟨oI,cI,rfl,hoI,hb1⟩;have r41:=(hb1.cell hlA).trans r4)
  obtain⟨_,_,heo,hI⟩:=z6z hoI HOW.o
  cases heo
  have HI:=ZZ hI
  have HB1:=ZZ (zTr HB0.o hb1)
  have HOS1:=ZZ (HOS.o.below hb1)
  clear hoI hI hb1 r1 r2 r3 r4 r41 HOS Ba hlA
  go_loopw [16] (fun x wr=>∃ (j:Nat),x=.int .i64 (j:Int)∧j≤qn∧y04 es gs os=y0e own j (os.drop j)∧Bw w1 wr) (fun x _=>qn - (intOf x).toNat)
  case atStart=>exact⟨0,rfl,Nat.zero_le _,HOO.o,zBr⟩
  case round =>
   obtain⟨j,rfl,hj,hgo,hbel⟩:=hrel
   have HB:=ZZ hbel
   have Lx:=ZZ hgo
   clear hbel hgo HOO
   by_cases hlt:j<qn
   ·have j0:(j:Int)<(qn:Int):=by omega
    obtain⟨x,xa,xc,bx,qx,hx,hidx,hbx,c0,c1,c2,hit⟩:=(HOS1.o.below HB.o).get Tryz.underlying43 y0p j hlt
    have HST:=ZZ (Lx.o.trans (y0y own os hx))
    have hx20:=HOB.o x (zMg hx)
    obtain⟨Wa,hWa,hba,hEa⟩:=bxN wr #[.int .i64 x.d,.int .i64 x.a,.slice xa x.ids.length xc] 90
    have DC:=ZZ hWa
    have Bh:=ZZ (zTr HB.o hba)
    have Cg:=ZZ hEa
    have Ci:=ZZ (y1h xa x.ids.length xc x.ids oI own.length cI own hx20 Wa (hit.below hba) (HI.o.below Bh.o))
    clear hx hba hEa hWa hit hx20
    go_upto_region 7 with fail
    rw[DC.o]
    clear DC c0 c1 c2 hidx
    have a0:=zb Cg.o 0 rfl
    have a1:=zb Cg.o 1 rfl
    have a2:=zb Cg.o 2 rfl
    by_cases hd:x.d=(j:Int)+1
    ·have qd:(x.d != (j:Int)+1)=false:=by simpa using hd
     have Bi:=ZZ (show y0i own j x=(eqB x.ids own&&(decide (0≤x.a)&&decide (x.a≤(own.length:Int)))) from by unfold y0i;rw[show (x.d==((j+1:Nat):Int))=true from by simpa using hd];rfl)
     clear hd
     generalize eqB x.ids own=be at Ci Bi
     cases be with
     | false =>
      have HF:=ZZ (show y04 es gs os=false by rw[HST.o,Bi.o];rfl)
      go_wp2_with (go_at_call 96;(with_reducible refine Ci.o.mono ?_);rintro r w2 ⟨rfl,hb2⟩)
      go_ret
      have hb3:=zTr Bh.o hb2
      exact⟨by rw[HF.o];rfl,zTr HB1.o hb3⟩
     | true =>
      have HWI:=ZZ (fun w=>z6f x.a 0 (own.length:Int) w)
      generalize (decide (0≤x.a)&&decide (x.a≤(own.length:Int)))=bw at HWI Bi
      cases bw with
      | false =>
       have HF:=ZZ (show y04 es gs os=false by rw[HST.o,Bi.o];rfl)
       go_wp2_with (first
        | (go_at_call 96;(with_reducible refine Ci.o.mono ?_);rintro r w2 ⟨rfl,hb2⟩;have b1:=(hb2.cell (ze Cg.o)).trans a1)
        | (go_at_call 93;(with_reducible refine (HWI.o _).mono ?_);rintro r w3 ⟨rfl,rfl⟩))
       go_ret
       have hb3:=zTr Bh.o hb2
       exact⟨by rw[HF.o];rfl,zTr HB1.o hb3⟩
      | true =>
       have HN:=ZZ (show y04 es gs os=y0e own (j+1) (os.drop (j+1)) by rw[HST.o,Bi.o];rfl)
       go_wp2_with (first
        | (go_at_call 96;(with_reducible refine Ci.o.mono ?_);rintro r w2 ⟨rfl,hb2⟩;have b1:=(hb2.cell (ze Cg.o)).trans a1)
        | (go_at_call 93;(with_reducible refine (HWI.o _).mono ?_);rintro r w3 ⟨rfl,rfl⟩))
       have HB2:=ZZ (zTr Bh.o hb2)
       clear hb2 b1
       go_roundw
       case rel=>exact⟨j+1,by go_num,by omega,HN.o,HB2.o⟩
       case measure=>simp[intOf];omega
    ·have qd:(x.d != (j:Int)+1)=true:=by rw[bne_iff_ne];exact hd
     have HF:=ZZ (show y04 es gs os=false by rw[HST.o];unfold y0i;rw[show (x.d==((j+1:Nat):Int))=false from by simpa using hd];rfl)
     clear hd
     go_wp2_with fail
     go_ret
     exact⟨by rw[HF.o];rfl,zTr HB1.o Bh.o⟩
   ·have j0:¬ ((j:Int)<(qn:Int)):=by omega
    have HF:=ZZ (show y04 es gs os=true by rw[Lx.o];exact y1c own os (by rw[HOL.o];omega) _)
    go_wp2_with fail
    go_ret
    exact⟨by rw[HF.o];rfl,zTr HB1.o HB.o⟩
 ·have q2:((qn:Int) != 2)=true:=by rw[bne_iff_ne];omega
  have HF:=ZZ (y0z (es:=es) (gs:=gs) (os:=os) (by rw[HOL.o];exact hq2))
  clear hq2
  go_enter Tryz.func45,Tryz.ntmps45
  go_upto_region 1 with fail
  rw[HW0.o]
  clear HW0
  go_wp2_with fail
  go_ret
  exact⟨by rw[HF.o];rfl,HB0.o⟩

end Go.Proofs.YtfeebdcmlnapiaaGreat
