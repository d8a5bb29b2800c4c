/-
  Walks.
-/
import Derived.Test.YtfeebdcmlnapiaaGreatTWalk11b
import Derived.Test.YtfeebdcmlnapiaaGreatTWalk10o
open Go.Value renaming int->J
open Go.IntKind renaming i64->Y
set_option maxRecDepth 100000
set_option maxHeartbeats 16000000
set_option linter.unusedVariables false
set_option linter.unusedSimpArgs false
namespace Go.Proofs.YtfeebdcmlnapiaaGreat
open Go.RowKit P1 P5 P9 P11 P12 P14 P15 K
structure InsN (w wr:World) (oo:Zoa) (m co:Nat) (L:Zin):Prop where
 at_:IntsAt wr oo m co L
 bel:Bw w wr

theorem InsN.below {w wr w2:World} {oo:Zoa} {m co:Nat} {L:Zin} (h:InsN w wr oo m co L) (hb:Bw wr w2):InsN w w2 oo m co L:=⟨h.at_.below hb,zTr h.bel hb⟩

theorem InsN.new (w:World):InsN w (w.alloc (.cells #[] 3)) (some ⟨w.heap.size,0,none⟩) 0 0 [] :=
 ⟨⟨rfl,Nat.le_refl _,by unfold maxLen;omega,fun z hz=>by simp at hz,fun i z h=>by simp at h⟩,zBa⟩

def updB (es:List EvV) (s:St) (b:Option EvV) (e:EvV):Option EvV:=match b with|none=>some e|some y=>if z0k es s e y then some e else some y

theorem znl {es:List EvV} {s:St} {y e:EvV} (h:z0k es s e y=false):updB es s (some y) e=some y:=by simp[updB,h]

theorem zm2 {es:List EvV} {s:St} {y e:EvV} (h:z0k es s e y=true):updB es s (some y) e=some e:=by simp[updB,h]

theorem zkc {es:List EvV} {s:St} {L out:Zin} {bv:Option EvV} {l:Zin} {j:Nat} {z:Int} (h:l[j]? = some z):z0m es s L out (l.drop j) bv=if inL out z||!ready (behind es z) L out then z0m es s L out (l.drop (j+1)) bv else z0m es s L out (l.drop (j+1)) (updB es s bv (evOf es z)):=by
 obtain⟨hj,rfl⟩:=zGi.1 h
 rw[List.drop_eq_getElem_cons hj]
 rfl

theorem z8d {es:List EvV} {s:St} {L out:Zin}:∀ (l:Zin) (bv:Option EvV) (b:EvV),z0m es s L out l bv=some b→(∃ z∈l,b=evOf es z)∨bv=some b
 | [],bv,b,h=>.inr h
 | z::r,bv,b,h=>by
  unfold z0m at h
  split at h
  ·rcases z8d r _ b h with ⟨y,hy,e⟩|e
   ·exact .inl ⟨y,List.mem_cons_of_mem _ hy,e⟩
   ·exact .inr e
  ·rcases z8d r _ b h with ⟨y,hy,e⟩|e
   ·exact .inl ⟨y,List.mem_cons_of_mem _ hy,e⟩
   ·cases bv with
    | none=>exact .inl ⟨z,by simp,(zSi e).symm⟩
    | some y =>
     simp only at e
     split at e
     ·exact .inl ⟨z,by simp,(zSi e).symm⟩
     ·exact .inr e

theorem zkd {es:List EvV} {s:St} {L out l:Zin} {b:EvV} (hl:∀ z∈l,(Lit.int .i64 z).wf=true) (h:z0m es s L out l none=some b):(Lit.int .i64 b.id).wf=true:=by
 rcases z8d l none b h with ⟨z,hz,rfl⟩|e
 ·unfold evOf
  cases hf:zf es z with
  | none=>exact z3o (by decide) (by decide)
  | some e=>show (Lit.int .i64 e.id).wf=true;rw[(z2h hf).2];exact hl z hz
 ·cases e

theorem ordGo_step {es:List EvV} {s:St} {L out:Zin} {f:Nat} (h:out.length<L.length):z0r es s L (f+1) out=match z0m es s L out L none with|none=>out|some b=>z0r es s L f (out++[b.id]):=by
 rw[z0r,if_pos h]
 cases z0m es s L out L none<;>rfl

theorem zdw (oa:Zoa) (n cap:Nat) (es:List EvV) (ob:Zoa) (m cb:Nat) (s:Zii) (oc:Zoa) (p cc:Nat) (ids:Zin) (hn20:n≤1048576) (hp20:p≤33554432) (w:World) (hat:ArgsE w oa n cap es ob m cb s) (hids:IntsAt w oc p cc ids) :
  Calls Tryz.prog 164 #[.slice oa n cap,.slice ob m cb,.slice oc p cc] w fun r w'=>z5c w (order es s ids) r w'∧∀ z∈order es s ids,(Lit.int .i64 z).wf=true:=by
 have HAT:=ZZ hat
 have Bj:=ZZ hids
 have Cn:=ZZ hids.len
 have HF:=ZZ (fun z w1 (hb:Bw w w1)=>z4x w oa n cap es z w1 hat.evs hb)
 have Am:=ZZ (fun (oo:Zoa) (m co:Nat) (L:Zin) (x:Int) w1 (h:IntsAt w1 oo m co L) (hm:m≤33554432)=>zib oo m co L x hm w1 h)
 have HI0:=ZZ (InsN.new w)
 obtain⟨LF,hLF⟩:∃ LF,P15.leftOf es ids []=LF:=⟨_,rfl⟩
 have DI:=ZZ hLF
 obtain⟨R,hR⟩:∃ R,order es s ids=R:=⟨_,rfl⟩
 rw[hR]
 have Ad:=ZZ (show z0r es s LF (LF.length+1) []=R by rw[← hLF];exact hR)
 clear hat hids hLF hR
 go_enter Tryz.func164,Tryz.ntmps164
 go_wp2_with fail
 go_loopw [7,8] (fun v i wr=>∃ (j:Nat) (oo:Zoa) (m co:Nat) (L:Zin),i=J Y (j:Int)∧v=.slice oo m co∧j≤p∧m≤j∧P15.leftOf es (ids.drop j) L=LF∧InsN w wr oo m co L) (fun _ i _=>p - (intOf i).toNat)
 case atStart=>exact⟨0,_,_,_,[],rfl,rfl,Nat.zero_le _,Nat.le_refl _,DI.o,HI0.o⟩
 case round =>
  obtain⟨j,oo,m1,co,L,rfl,rfl,hj,hmj,hrest,hI⟩:=hrel
  have HI:=ZZ hI
  have hbel:=hI.bel
  have hsz:=hbel.size
  clear hI HI0 DI
  by_cases hlt:j<p
  ·have j0:(j:Int)<(p:Int):=by omega
   obtain⟨z,b,q,hz,hidx,hb,c0w,hwz⟩:=Bj.o.get Tryz.underlying60 z0f j hlt
   have c0:=(hbel.cell hb).trans c0w
   have hbr:=zLt hb hsz
   have Aa:=ZZ (HF.o z wr hbel)
   rw[zjv hz] at hrest
   rw[z6o] at Aa
   simp only at Aa
   generalize evOf es z=e2 at Aa
   generalize hok:(zf es z).isSome=ok2 at Aa hrest
   have A7:=ZZ hrest
   clear hrest hok c0w hz
   cases ok2
   ·have HE:=ZZ (show P15.leftOf es (ids.drop (j+1)) L=LF from A7.o)
    clear A7
    go_wp2_with (go_at_call 123;(with_reducible refine Aa.o.mono ?_);rintro r w4 ⟨xa4,xc4,ya4,yc4,rfl,hl4,hp4,hb4⟩)
    have HI3:=ZZ (HI.o.below (zg hb4 (.cells (zk e2.id e2.kind e2.sender e2.user e2.member e2.depth (.slice xa4 e2.levels.length xc4) (.slice ya4 e2.prev.length yc4) e2.text) 62)))
    go_roundw
    case rel=>exact⟨j+1,_,_,_,L,by go_num,rfl,by omega,by omega,HE.o,HI3.o⟩
    case measure=>simp[intOf];omega
   ·have HE:=ZZ (show P15.leftOf es (ids.drop (j+1)) (addI L z)=LF from A7.o)
    have hml:=HI.o.at_.len
    have hal:=zep L z
    clear A7
    go_wp2_with (first
     | (go_at_call 123;(with_reducible refine Aa.o.mono ?_);rintro r w4 ⟨xa4,xc4,ya4,yc4,rfl,hl4,hp4,hb4⟩;have c04:=(hb4.cell hbr).trans c0;have hbr4:=zLt hbr hb4.size)
     | (go_at_call 196;refine (Am.o _ _ _ _ _ _ (HI.o.at_.below (zg hb4 _)) (by omega)).mono ?_;rintro r w5 ⟨v5,rfl,hown5,hb5⟩;have hbv:=(zg hb4 _).trans (hb5.mono (zg hb4 _).size);obtain⟨o5,c5,rfl⟩:=zi hown5))
    have HI3:=ZZ (show InsN w w5 o5 (addI L z).length c5 (addI L z) from ⟨by
     obtain⟨_,_,he,hio⟩:=z0d hown5 (zne HI.o.at_.fits hwz)
     cases he
     exact hio,hbel.trans (hbv.mono hsz)⟩)
    go_roundw
    case rel=>exact⟨j+1,_,_,_,addI L z,by go_num,rfl,by omega,by omega,HE.o,HI3.o⟩
    case measure=>simp[intOf];omega
  ·have hdr:ids.drop j=[]:=List.drop_eq_nil_of_le (by rw[Cn.o];omega)
   rw[hdr] at hrest
   have hLL:L=LF:=hrest
   subst hLL
   have hml:=HI.o.at_.len
   subst hml
   have hlp:L.length≤p:=by omega
   have HO:=ZZ (Ahd.new wr)
   clear hdr hrest hmj
   go_wp2_with fail
   obtain⟨wB,rfl⟩:∃ wB,wB=wr:=⟨_,rfl⟩
   have hbB:Bw w wB:=hbel
   have Br:=ZZ hbB
   have A8:=ZZ (HAT.o.on hbB)
   have ED:=ZZ (fun z (hz:(Lit.int .i64 z).wf=true) w1 (h:EvsAt w1 oa n cap es)=>zdr oa n cap es z hz hn20 w1 h)
   clear hbB hbel hsz
   go_loopw [11,12] (fun v i wr=>∃ (j:Nat) (oo:Zoa) (m co:Nat),i=J Y (j:Int)∧v=.slice oo m co∧j≤L.length∧Ahd wB wr (.slice oo m co) ((L.take j).map (behind es))) (fun _ i _=>L.length - (intOf i).toNat)
   case atStart=>exact⟨0,_,_,_,rfl,rfl,Nat.zero_le _,HO.o⟩
   case round =>
    obtain⟨j,oo2,m2,co2,rfl,rfl,hj,hA⟩:=hrel
    have HA:=ZZ hA
    have hbel:=hA.bel
    have hsz:=hbel.size
    clear hA HO
    by_cases hlt:j<L.length
    ·have j0:(j:Int)<(L.length:Int):=by omega
     obtain⟨z,b,q,hz,hidx,hb,c0w,hwz⟩:=HI.o.at_.get Tryz.underlying60 z0f j hlt
     have c0:=(hbel.cell hb).trans c0w
     have hbr:=zLt hb hsz
     have HB1:=ZZ (ED.o z hwz wr (A8.o.evs.below hbel))
     have HT:=ZZ (show (L.take (j+1)).map (behind es)=(L.take j).map (behind es)++[behind es z] from by rw[List.take_add_one,hz];simp)
     have htl:((L.take j).map (behind es)).length≤33554432:=by rw[List.length_map,List.length_take];omega
     clear c0w hz
     generalize (L.take j).map (behind es)=ls at HA HT htl
     generalize behind es z=bz at HB1 HT
     go_wp2_with (first
      | (go_at_call 197;(with_reducible refine HB1.o.mono ?_);rintro r w4 ⟨⟨v4,rfl,hown4,hb4⟩,hwf4⟩;obtain⟨o4,c4,rfl⟩:=zi hown4;have hA4:=HA.o.below hb4)
      | (at_builtin;go_loud (refine zes rfl _ _ rfl hA4 hown4 (by obtain⟨vs,hvs⟩:=HA.o.own;exact (z7p hvs hown4 zLe).symm) hwf4 rfl rfl (by omega) ?_;intro va w5 hA5;obtain⟨vs5,hvs5⟩:=hA5.own;obtain⟨o5,c5,rfl⟩:=zi hvs5;clear hvs5)))
     have EY:=ZZ (show Ahd wB w5 (.slice o5 (ls.length+1) c5) ((L.take (j+1)).map (behind es)) by rw[HT.o];have h5:=hA5;rw[z0p] at h5;exact h5)
     clear hA5 hA4
     go_roundw
     case rel=>exact⟨j+1,_,_,_,by go_num,rfl,by omega,EY.o⟩
     case measure=>simp[intOf];omega
    ·have hjl:L.take j=L:=zTl (by omega)
     rw[hjl] at HA
     obtain⟨oh,ch,hv,hR⟩:=HA.o.view
     cases hv
     obtain⟨wC,rfl⟩:∃ wC,wC=wr:=⟨_,rfl⟩
     have EZ:=ZZ hR
     have CG:=ZZ (zTr Br.o hbel)
     have Jk:=ZZ (HI.o.at_.below hbel)
     have Kc:=ZZ (A8.o.on hbel)
     have Ag:=ZZ (OutN.new wC)
     clear hjl hR hbel hsz HA HI A8
     go_wp2_with fail
     -- PHASE 3
     have hml2:(L.map (behind es)).length=L.length:=List.length_map _
     rw[hml2] at EZ
     rw[hml2]
     clear hml2
     have Cs:=ZZ (fun (a:EvV) (al ap:Value) (y:EvV) (bl bp:Value) w1 (h:ArgsE w1 oa n cap es ob m cb s)=>zbb oa n cap es ob m cb s a al ap y bl bp w1 h)
     go_loopw [13] (fun v wr=>∃ (oo:Zoa) (m co:Nat) (out:Zin) (f:Nat),v=.slice oo m co∧OutN wC wr (.slice oo m co) out∧(∀ z∈out,(Lit.int .i64 z).wf=true)∧out.length≤L.length∧L.length≤f+out.length∧z0r es s L f out=R) (fun v _=>L.length - lenS v)
     case atStart=>exact⟨_,_,_,[],L.length+1,rfl,Ag.o,fun z hz=>by simp at hz,Nat.zero_le _,by simp,Ad.o⟩
     case round =>
      obtain⟨oo3,m3,co3,out,f,rfl,hO,hwo,hol,hf,hrest⟩:=hrel
      have HO:=ZZ hO
      have hm3:m3=out.length:=by
       obtain⟨_,_,e⟩:=zi hO.own
       injection e
      subst hm3
      have GN:=ZZ hwo
      clear hO Ag Ad hwo
      by_cases hlo:out.length<L.length
      ·have l0:(out.length:Int)<(L.length:Int):=by omega
       obtain⟨f',rfl⟩:∃ f',f=f'+1:=⟨f - 1,by omega⟩
       rw[ordGo_step hlo] at hrest
       obtain⟨NX,hNX⟩:∃ NX,z0m es s L out L none=NX:=⟨_,rfl⟩
       rw[hNX] at hrest
       have A7:=ZZ hrest
       have AO:=ZZ hNX
       have Di:=ZZ (show ∀ b,NX=some b→(Lit.int .i64 b.id).wf=true from fun b hb=>zkd (l:=L) Jk.o.fits (by rw[hNX];exact hb))
       clear hrest hNX
       obtain⟨wD,rfl⟩:∃ wD,wD=wr:=⟨_,rfl⟩
       have Ah:=ZZ (EB.new wD 0 0 0 0 0 0 (.slice none 0 0) (.slice none 0 0) [])
       have HB0:=ZZ ((Below.refl wD.heap.size wD).alloc zLe (.cells (zk 0 0 0 0 0 0 (.slice none 0 0) (.slice none 0 0) []) 62))
       obtain⟨_,_,heo,hio⟩:=z0d HO.o.own GN.o
       cases heo
       have DW:=ZZ hio
       have Aw:=ZZ HO.o.bel
       clear hio
       go_wp2_with fail
       go_loopw [15,16] (fun fv i wr=>∃ (j:Nat) (bv:Option EvV) (y:EvV) (xl xp:Value),i=J Y (j:Int)∧fv=.bool bv.isSome∧j≤L.length∧z0m es s L out (L.drop j) bv=NX∧(∀ b,bv=some b→y=b)∧EB wr wD.heap.size y.id y.kind y.sender y.user y.member y.depth xl xp y.text∧Bw wD wr) (fun _ i _=>L.length - (intOf i).toNat)
       case atStart=>exact⟨0,none,noEv,_,_,rfl,rfl,Nat.zero_le _,AO.o,(fun b hb=>by cases hb),Ah.o,HB0.o⟩
       case round =>
        obtain⟨j,bv,y,xl,xp,rfl,rfl,hj,hnx,hyb,hEB,hbX⟩:=hrel
        have CJ:=ZZ hEB
        have BD:=ZZ hbX
        have hbC:Bw wC wr:=zTr Aw.o hbX
        have hbW:Bw w wr:=zTr CG.o hbC
        have hszD:=hbX.size
        have hszC:=hbC.size
        have hlB:=hEB.lt
        clear hEB Ah HB0 AO
        by_cases hlt:j<L.length
        ·have j0:(j:Int)<(L.length:Int):=by omega
         obtain⟨z,b,q,hz,hidx,hb,c0w,hwz⟩:=Jk.o.get Tryz.underlying60 z0f j hlt
         have c0:=(hbC.cell hb).trans c0w
         have hbr:=zLt hb hszC
         obtain⟨az,b2,q2,xa,xc,haz,hidx2,c2w,hia⟩:=EZ.o.get Tryz.underlying224 zo3 j hlt
         rw[List.getElem?_map,hz] at haz
         have haz2:behind es z=az:=by simpa using haz
         subst haz2
         have hb2:=zw c2w
         have c2:=(hbC.cell hb2).trans c2w
         have hb2r:=zLt hb2 hszC
         have Ct:=ZZ (z5w _ _ _ out z wr (DW.o.below hbX))
         have D6:=ZZ (zer _ _ _ _ _ _ _ L _ _ _ out wr (hia.below hbC) (Jk.o.below hbC) (DW.o.below hbX))
         have Aa:=ZZ (HF.o z wr hbW)
         rw[z6o] at Aa
         simp only at Aa
         rw[zkc hz] at hnx
         have hupd:∀ bv,updB es s bv (evOf es z)=updB es s bv (evOf es z):=fun _=>rfl
         generalize inL out z=r1 at Ct hnx
         generalize ready (behind es z) L out=r2 at D6 hnx
         generalize evOf es z=e at Aa hnx
         generalize (zf es z).isSome=ok at Aa
         have AO:=ZZ hnx
         clear hnx c0w c2w haz hia hz hupd
         cases r1
         ·cases r2
          ·have HE:=ZZ (show z0m es s L out (L.drop (j+1)) bv=NX from AO.o)
           clear AO
           go_wp2_with (first
            | (go_at_call 198;(with_reducible refine Ct.o.mono ?_);rintro r w2 ⟨rfl,rfl⟩)
            | (go_at_call 199;(with_reducible refine D6.o.mono ?_);rintro r w2 ⟨rfl,rfl⟩))
           go_roundw
           case rel=>exact⟨j+1,bv,y,xl,xp,by go_num,rfl,by omega,HE.o,hyb,CJ.o,BD.o⟩
           case measure=>simp[intOf];omega
          ·have HE:=ZZ (show z0m es s L out (L.drop (j+1)) (updB es s bv e)=NX from AO.o)
           clear AO
           cases bv with
           | none =>
            have HE2:=ZZ (show z0m es s L out (L.drop (j+1)) (some e)=NX from HE.o)
            clear HE
            go_upto_region 22 with (first
             | (go_at_call 198;(with_reducible refine Ct.o.mono ?_);rintro r w2 ⟨rfl,rfl⟩)
             | (go_at_call 199;(with_reducible refine D6.o.mono ?_);rintro r w2 ⟨rfl,rfl⟩)
             | (go_at_call 123;(with_reducible refine Aa.o.mono ?_);rintro r w4 ⟨xa4,xc4,ya4,yc4,rfl,hl4,hp4,hb4⟩))
            have Bl:=ZZ (BD.o.trans (hb4.mono hszD))
            have Bn:=ZZ (CJ.o.on hb4 hlB)
            obtain⟨w5,hw5⟩:∃ w5,w4.alloc (.cells (zk e.id e.kind e.sender e.user e.member e.depth (.slice xa4 e.levels.length xc4) (.slice ya4 e.prev.length yc4) e.text) 62)=w5:=⟨_,rfl⟩
            have AV:=ZZ (show EB w5 w4.heap.size e.id e.kind e.sender e.user e.member e.depth (.slice xa4 e.levels.length xc4) (.slice ya4 e.prev.length yc4) e.text from by rw[← hw5];exact EB.new _ _ _ _ _ _ _ _ _ _)
            have hb5:Bw w4 w5:=by rw[← hw5];exact zBa
            have Al:=ZZ (Bn.o.on hb5 Bn.o.lt)
            have Bp:=ZZ (zTr Bl.o hb5)
            have Cm:=ZZ hw5
            clear hw5 hb5 Bn Bl
            try rw[show w4.alloc (.cells #[J Y e.id,J Y e.kind,J Y e.sender,J Y e.user,J Y e.member,.slice xa4 e.levels.length xc4,.string ⟨e.text.toArray⟩,.slice ya4 e.prev.length yc4,J Y e.depth] 62)=w5 from Cm.o]
            generalize w4.heap.size=eb at AV ⊢
            clear Cm
            obtain⟨t0,t1,t2,t3,t4,t5,t6,t7,t8⟩:=AV.o.ev
            obtain⟨q0,q1,q2,q3,q4,q5,q6,q7,q8⟩:=Al.o.ev
            have y0:=Al.o.free 0
            have y1:=Al.o.free 1
            have y2:=Al.o.free 2
            have y3:=Al.o.free 3
            have y4:=Al.o.free 4
            have y5:=Al.o.free 5
            have y6:=Al.o.free 6
            have y7:=Al.o.free 7
            have y8:=Al.o.free 8
            have hlb:=Al.o.lt
            have hle:=AV.o.lt
            obtain⟨wN,hwN,hEN,hgN⟩:=Al.o.all e.id e.kind e.sender e.user e.member e.depth (.slice xa4 e.levels.length xc4) (.slice ya4 e.prev.length yc4) e.text
            have Jl:=ZZ hwN
            have Jm:=ZZ hEN
            have Jn:=ZZ (Bp.o.grown hgN Bp.o.size (fun k hk=>by cases hk;exact Nat.le_refl _))
            clear hwN hEN hgN
            go_wp2_with fail
            clear t0 t1 t2 t3 t4 t5 t6 t7 t8 q0 q1 q2 q3 q4 q5 q6 q7 q8 y0 y1 y2 y3 y4 y5 y6 y7 y8
            try rw[Jl.o]
            go_roundw
            case rel=>exact⟨j+1,some e,e,_,_,by go_num,rfl,by omega,HE2.o,fun b hb=>zSi hb,Jm.o,Jn.o⟩
            case measure=>simp[intOf];omega
           | some y0 =>
            have hy0:=hyb y0 rfl
            subst hy0
            cases hh:z0k es s e y
            ·have HE2:=ZZ (show z0m es s L out (L.drop (j+1)) (some y)=NX from by rw[← znl hh];exact HE.o)
             clear HE
             go_upto_region 22 with (first
              | (go_at_call 198;(with_reducible refine Ct.o.mono ?_);rintro r w2 ⟨rfl,rfl⟩)
              | (go_at_call 199;(with_reducible refine D6.o.mono ?_);rintro r w2 ⟨rfl,rfl⟩)
              | (go_at_call 123;(with_reducible refine Aa.o.mono ?_);rintro r w4 ⟨xa4,xc4,ya4,yc4,rfl,hl4,hp4,hb4⟩))
             have Bl:=ZZ (BD.o.trans (hb4.mono hszD))
             have Bn:=ZZ (CJ.o.on hb4 hlB)
             obtain⟨w5,hw5⟩:∃ w5,w4.alloc (.cells (zk e.id e.kind e.sender e.user e.member e.depth (.slice xa4 e.levels.length xc4) (.slice ya4 e.prev.length yc4) e.text) 62)=w5:=⟨_,rfl⟩
             have AV:=ZZ (show EB w5 w4.heap.size e.id e.kind e.sender e.user e.member e.depth (.slice xa4 e.levels.length xc4) (.slice ya4 e.prev.length yc4) e.text from by rw[← hw5];exact EB.new _ _ _ _ _ _ _ _ _ _)
             have hb5:Bw w4 w5:=by rw[← hw5];exact zBa
             have Al:=ZZ (Bn.o.on hb5 Bn.o.lt)
             have Bp:=ZZ (zTr Bl.o hb5)
             have Cm:=ZZ hw5
             clear hw5 hb5 Bn Bl
             try rw[show w4.alloc (.cells #[J Y e.id,J Y e.kind,J Y e.sender,J Y e.user,J Y e.member,.slice xa4 e.levels.length xc4,.string ⟨e.text.toArray⟩,.slice ya4 e.prev.length yc4,J Y e.depth] 62)=w5 from Cm.o]
             generalize w4.heap.size=eb at AV ⊢
             clear Cm
             obtain⟨t0,t1,t2,t3,t4,t5,t6,t7,t8⟩:=AV.o.ev
             obtain⟨q0,q1,q2,q3,q4,q5,q6,q7,q8⟩:=Al.o.ev
             have hlb5:=Al.o.lt
             have hle5:=AV.o.lt
             have Bf:=ZZ (Cs.o e (.slice xa4 e.levels.length xc4) (.slice ya4 e.prev.length yc4) y xl xp w5 (Kc.o.on (zTr Aw.o Bp.o)))
             rw[hh] at Bf
             go_wp2_with (go_at_call 200;refine Bf.o.mono ?_;rintro r w6 ⟨rfl,hb6⟩)
             have Az:=ZZ (zTr Bp.o hb6)
             have AP:=ZZ (Al.o.on hb6 Al.o.lt)
             clear t0 t1 t2 t3 t4 t5 t6 t7 t8 q0 q1 q2 q3 q4 q5 q6 q7 q8
             go_roundw
             case rel=>exact⟨j+1,some y,y,_,_,by go_num,rfl,by omega,HE2.o,fun b hb=>zSi hb,AP.o,Az.o⟩
             case measure=>simp[intOf];omega
            ·have HE2:=ZZ (show z0m es s L out (L.drop (j+1)) (some e)=NX from by rw[← zm2 hh];exact HE.o)
             clear HE
             go_upto_region 22 with (first
              | (go_at_call 198;(with_reducible refine Ct.o.mono ?_);rintro r w2 ⟨rfl,rfl⟩)
              | (go_at_call 199;(with_reducible refine D6.o.mono ?_);rintro r w2 ⟨rfl,rfl⟩)
              | (go_at_call 123;(with_reducible refine Aa.o.mono ?_);rintro r w4 ⟨xa4,xc4,ya4,yc4,rfl,hl4,hp4,hb4⟩))
             have Bl:=ZZ (BD.o.trans (hb4.mono hszD))
             have Bn:=ZZ (CJ.o.on hb4 hlB)
             obtain⟨w5,hw5⟩:∃ w5,w4.alloc (.cells (zk e.id e.kind e.sender e.user e.member e.depth (.slice xa4 e.levels.length xc4) (.slice ya4 e.prev.length yc4) e.text) 62)=w5:=⟨_,rfl⟩
             have AV:=ZZ (show EB w5 w4.heap.size e.id e.kind e.sender e.user e.member e.depth (.slice xa4 e.levels.length xc4) (.slice ya4 e.prev.length yc4) e.text from by rw[← hw5];exact EB.new _ _ _ _ _ _ _ _ _ _)
             have hb5:Bw w4 w5:=by rw[← hw5];exact zBa
             have Al:=ZZ (Bn.o.on hb5 Bn.o.lt)
             have Bp:=ZZ (zTr Bl.o hb5)
             have Cm:=ZZ hw5
             clear hw5 hb5 Bn Bl
             try rw[show w4.alloc (.cells #[J Y e.id,J Y e.kind,J Y e.sender,J Y e.user,J Y e.member,.slice xa4 e.levels.length xc4,.string ⟨e.text.toArray⟩,.slice ya4 e.prev.length yc4,J Y e.depth] 62)=w5 from Cm.o]
             generalize w4.heap.size=eb at AV ⊢
             clear Cm
             obtain⟨t0,t1,t2,t3,t4,t5,t6,t7,t8⟩:=AV.o.ev
             obtain⟨q0,q1,q2,q3,q4,q5,q6,q7,q8⟩:=Al.o.ev
             have hlb5:=Al.o.lt
             have hle5:=AV.o.lt
             have Bf:=ZZ (Cs.o e (.slice xa4 e.levels.length xc4) (.slice ya4 e.prev.length yc4) y xl xp w5 (Kc.o.on (zTr Aw.o Bp.o)))
             rw[hh] at Bf
             go_upto_region 23 with (go_at_call 200;refine Bf.o.mono ?_;rintro r w6 ⟨rfl,hb6⟩)
             have Az:=ZZ (zTr Bp.o hb6)
             have AP:=ZZ (Al.o.on hb6 Al.o.lt)
             have G5:=ZZ (AV.o.on hb6 AV.o.lt)
             clear t0 t1 t2 t3 t4 t5 t6 t7 t8 q0 q1 q2 q3 q4 q5 q6 q7 q8
             obtain⟨t0,t1,t2,t3,t4,t5,t6,t7,t8⟩:=G5.o.ev
             obtain⟨q0,q1,q2,q3,q4,q5,q6,q7,q8⟩:=AP.o.ev
             have y0:=AP.o.free 0
             have y1:=AP.o.free 1
             have y2:=AP.o.free 2
             have y3:=AP.o.free 3
             have y4:=AP.o.free 4
             have y5:=AP.o.free 5
             have y6:=AP.o.free 6
             have y7:=AP.o.free 7
             have y8:=AP.o.free 8
             have hlb:=AP.o.lt
             have hle:=G5.o.lt
             obtain⟨wN,hwN,hEN,hgN⟩:=AP.o.all e.id e.kind e.sender e.user e.member e.depth (.slice xa4 e.levels.length xc4) (.slice ya4 e.prev.length yc4) e.text
             have Jl:=ZZ hwN
             have Jm:=ZZ hEN
             have Jn:=ZZ (Az.o.grown hgN Az.o.size (fun k hk=>by cases hk;exact Nat.le_refl _))
             clear hwN hEN hgN
             go_wp2_with fail
             clear t0 t1 t2 t3 t4 t5 t6 t7 t8 q0 q1 q2 q3 q4 q5 q6 q7 q8 y0 y1 y2 y3 y4 y5 y6 y7 y8
             try rw[Jl.o]
             go_roundw
             case rel=>exact⟨j+1,some e,e,_,_,by go_num,rfl,by omega,HE2.o,fun b hb=>zSi hb,Jm.o,Jn.o⟩
             case measure=>simp[intOf];omega
         ·have HE:=ZZ (show z0m es s L out (L.drop (j+1)) bv=NX from AO.o)
          clear AO D6
          go_wp2_with (go_at_call 198;(with_reducible refine Ct.o.mono ?_);rintro r w2 ⟨rfl,rfl⟩)
          go_roundw
          case rel=>exact⟨j+1,bv,y,xl,xp,by go_num,rfl,by omega,HE.o,hyb,CJ.o,BD.o⟩
          case measure=>simp[intOf];omega
        ·have hdr:L.drop j=[]:=List.drop_eq_nil_of_le (by omega)
         rw[hdr] at hnx
         have hbn:bv=NX:=hnx
         subst hbn
         clear hnx hdr
         cases bv with
         | none =>
          have HE:=ZZ (show out=R from A7.o)
          go_wp2_with fail
          go_ret
          exact⟨⟨_,rfl,by rw[← HE.o];exact zu (own_below HO.o.own hbX) CG.o.size,hbW⟩,by rw[← HE.o];exact GN.o⟩
         | some y0 =>
          have hy0:=hyb y0 rfl
          subst hy0
          have HE:=ZZ (show z0r es s L f' (out++[y.id])=R from A7.o)
          have hwy:=Di.o y rfl
          obtain⟨q0,q1,q2,q3,q4,q5,q6,q7,q8⟩:=CJ.o.ev
          have hown:=own_below HO.o.own hbX
          clear A7 q1 q2 q3 q4 q5 q6 q7 q8
          go_wp2_with (at_builtin;refine z0t (W:=wC) (cs:=#[J Y y.id]) rfl _ _ 60 rfl (by decide) Tryz.underlying60 z1u rfl rfl hown rfl rfl (by simp[Value.oneCell']) hbC hszC (by unfold maxLen;omega) (by omega) ?_;intro v' w2 how2 hbw2 hsw2;obtain⟨o2,c2,rfl⟩:=zi how2)
          have Aq:=ZZ (OutN.snoc (x:=y.id) how2 hbw2)
          clear how2 hbw2 hown
          go_roundw
          case rel=>exact⟨_,_,_,out++[y.id],f',rfl,Aq.o,fun z hz=>by
           rcases List.mem_append.1 hz with hz|hz
           ·exact GN.o z hz
           ·simp at hz;subst hz;exact hwy,by rw[z0p];omega,by rw[z0p];omega,HE.o⟩
          case measure=>simp only[lenS];omega
      ·have HE:=ZZ (show out=R from by rw[← hrest];cases f with|zero=>rfl|succ f=>unfold z0r;rw[if_neg (by omega)])
       clear hrest
       go_wp2_with fail
       go_ret
       exact⟨⟨_,rfl,by rw[← HE.o];exact zu HO.o.own CG.o.size,zTr CG.o HO.o.bel⟩,by rw[← HE.o];exact GN.o⟩

theorem znm (e:EvV):keyE e=if (e.kind==1)=true then 1 else if (e.kind==3)=true then 2 else if (e.kind==4)=true then 3 else if (e.kind==2)=true then (if inR e.user 1 5 then 10+e.user else 0) else 0:=by
 unfold keyE
 simp only[beq_iff_eq]
 by_cases h1:e.kind=1
 ·simp[h1]
 ·by_cases h3:e.kind=3
  ·simp[h3]
  ·by_cases h4:e.kind=4
   ·simp[h4]
   ·by_cases h2:e.kind=2
    ·simp[h2]
    ·simp[h1,h2,h3,h4]

theorem z9d (e:EvV) (xl xp:Value) (w:World) :
  Calls Tryz.prog 74 #[evv e xl xp] w fun r w'=>r=.returned (J Y (keyE e))∧Bw w w':=by
 have HB0:=ZZ ((Below.refl w.heap.size w).alloc zLe (.cells (zk e.id e.kind e.sender e.user e.member e.depth xl xp e.text) 62))
 have HI:=ZZ (fun w=>z4n e.user 1 5 w)
 rw[znm]
 cases k1:(e.kind==1)
 ·cases k3:(e.kind==3)
  ·cases k4:(e.kind==4)
   ·cases k2:(e.kind==2)
    ·go_enter Tryz.func74,Tryz.ntmps74
     go_wp2_with fail
     go_ret
     exact⟨rfl,HB0.o⟩
    ·cases hin:inR e.user 1 5
     ·rw[hin] at HI
      go_enter Tryz.func74,Tryz.ntmps74
      go_wp2_with (go_at_call 39;refine (HI.o _).mono ?_;rintro r w' ⟨rfl,rfl⟩)
      go_ret
      exact⟨rfl,HB0.o⟩
     ·obtain⟨hu1,hu2⟩:=inR_iff.1 hin
      rw[hin] at HI
      go_enter Tryz.func74,Tryz.ntmps74
      go_wp2_with (go_at_call 39;refine (HI.o _).mono ?_;rintro r w' ⟨rfl,rfl⟩)
      go_ret
      exact⟨rfl,HB0.o⟩
   ·go_enter Tryz.func74,Tryz.ntmps74
    go_wp2_with fail
    go_ret
    exact⟨rfl,HB0.o⟩
  ·go_enter Tryz.func74,Tryz.ntmps74
   go_wp2_with fail
   go_ret
   exact⟨rfl,HB0.o⟩
 ·go_enter Tryz.func74,Tryz.ntmps74
  go_wp2_with fail
  go_ret
  exact⟨rfl,HB0.o⟩

end Go.Proofs.YtfeebdcmlnapiaaGreat
