/-
  Walks.
-/
import Derived.Test.YtfeebdcmlnapiaaGreatTWalk11i
import Derived.Test.YtfeebdcmlnapiaaGreatTWalk12a
set_option maxRecDepth 100000
set_option maxHeartbeats 16000000
set_option linter.unusedVariables false
set_option linter.unusedSimpArgs false
namespace Go.Proofs.YtfeebdcmlnapiaaGreat
open Go.RowKit P1 P5 P9 P11 P12 P14 P15 K
theorem zcg {s:Zii} {k:Int} (h:∀ x∈s,(Lit.int .i64 x.2).wf=true):(Lit.int .i64 (stAt s k)).wf=true:=by
 induction s with
 | nil=>show (Lit.int .i64 (0:Int)).wf=true;exact z3o (by decide) (by decide)
 | cons x r ih =>
  unfold stAt
  split
  ·exact h x (by simp)
  ·exact ih (fun y hy=>h y (List.mem_cons_of_mem _ hy))

theorem zbm {s:Zii} {k i:Int} (hs:s.length≤16):(z0n s k i).length≤16:=by
 rw[z8w]
 split
 ·rename_i h
  simp only[Bool.and_eq_true] at h
  have h2:=zas (k:=k) (i:=i) h.1
  rw[h.2.1,h.2.2] at h2
  have:=z4g (by rw[← z1g];exact h2:zt none (z2r s k i)=true)
  omega
 ·exact hs

theorem z9u (ss:List St):(agreed ss).length≤16:=by
 unfold agreed
 rw[List.length_map]
 exact zNt (List.length_filter_le _ _) (z4k ss)

theorem zgi (ss:List St):(clash ss).length≤16:=zNt (List.length_filter_le _ _) (z4k ss)

theorem zm4 (ss:List St):∀ z∈clash ss,(Lit.int .i64 z).wf=true:=fun z hz=>zcb ss z (List.mem_filter.1 hz).1

def z4v (s:St) (ks:Zin):Zin:=(ks.map (fun k=>stAt s k)).filter (fun i=>!decide (i=0))

theorem zm5 {ss:List St} {ks:Zin} {i:Nat} {s:St} (h:ss[i]? = some s):z0g (ss.drop i) ks=z4v s ks++z0g (ss.drop (i+1)) ks:=by
 obtain⟨hj,rfl⟩:=zGi.1 h
 rw[List.drop_eq_getElem_cons hj]
 rfl

theorem zkh {s:St} {ks:Zin} {j:Nat} {k:Int} (h:ks[j]? = some k):z4v s (ks.drop j)=(if (stAt s k==0)=true then [] else [stAt s k])++z4v s (ks.drop (j+1)):=by
 obtain⟨hj,rfl⟩:=zGi.1 h
 rw[List.drop_eq_getElem_cons hj]
 unfold z4v
 rw[List.map_cons,List.filter_cons]
 by_cases h0:stAt s ks[j]=0
 ·simp[h0]
 ·simp[h0]

theorem zki (ss:List St) (ks:Zin) (hk:ks.length≤16):(z0g ss ks).length≤ss.length * 16:=by
 induction ss with
 | nil=>simp[z0g]
 | cons s r ih =>
  have e:z0g (s::r) ks=z4v s ks++z0g r ks:=rfl
  rw[e,List.length_append,List.length_cons]
  have:(z4v s ks).length≤16:=by
   unfold z4v
   exact zNt (List.length_filter_le _ _) (by rw[List.length_map];exact hk)
  omega

theorem zm6 {ss:List St} {ks:Zin} (h:∀ s∈ss,∀ x∈s,(Lit.int .i64 x.2).wf=true):∀ z∈z0g ss ks,(Lit.int .i64 z).wf=true:=by
 intro z hz
 unfold z0g at hz
 obtain⟨s,hs,hz⟩:=List.mem_flatMap.1 hz
 obtain⟨k,_,rfl⟩:=List.mem_map.1 (List.mem_filter.1 hz).1
 exact zcg (h s hs)

theorem resolve_many {es:List EvV} {ss:List St} (h:2≤ss.length):P15.resolve es ss=(order es (agreed ss) (z0g ss (clash ss))).foldl (tell es) (agreed ss):=by
 match ss,h with
 | s::t::r,_=>rfl

theorem zm7 {es:List EvV} {N:St} {l:Zin} {j:Nat} {z:Int} (h:l[j]? = some z):(l.drop j).foldl (tell es) N=(l.drop (j+1)).foldl (tell es) (tell es N z):=by
 obtain⟨hj,rfl⟩:=zGi.1 h
 rw[List.drop_eq_getElem_cons hj]
 rfl

theorem znn (es:List EvV) (N:St) (z:Int):tell es N z=if allowed es N (evOf es z)&&!(keyE (evOf es z)==0) then z0n N (keyE (evOf es z)) (evOf es z).id else N:=rfl

theorem zbn (oa:Zoa) (n cap:Nat) (es:List EvV) (ob:Zoa) (m cb:Nat) (ss:List St) (hn20:n≤1048576) (hm16:m≤1048576) (hfine:FineE es) (hsn:∀ s∈ss,s.length≤1048576) (hwf:∀ s∈ss,∀ x∈s,(Lit.int .i64 x.2).wf=true) (w:World) (hev:EvsAt w oa n cap es) (hat:StsAt w ob m cb ss) :
  Calls Tryz.prog 121 #[.slice oa n cap,.slice ob m cb] w (z5e w (P15.resolve es ss)):=by
 have hl:=hat.len
 rcases (show m=0∨m=1∨2≤m by omega) with rfl|rfl|h2
 ·have hss:ss=[]:=List.eq_nil_of_length_eq_zero hl
  subst hss
  have HO:=ZZ (show (w.alloc (.cells #[] 79)).ownsRow w.heap.size 79 2 (.slice (some ⟨w.heap.size,0,none⟩) 0 0) 0 [] from World.ownsRow_made (w:=w) #[] 0 zLe (by decide) rfl)
  have HB:=ZZ ((Below.refl w.heap.size w).alloc zLe (.cells #[] 79))
  go_enter Tryz.func121,Tryz.ntmps121
  go_wp2_with fail
  go_ret
  exact⟨_,rfl,HO.o,HB.o⟩
 ·obtain⟨s,b,q,xa,xc,hs,hidx,c0,hia⟩:=hat.get Tryz.underlying30 z5l 0 (by omega)
  have hss:ss=[s]:=by
   match ss,hl with
   | [x],_=>simp at hs;subst hs;rfl
  subst hss
  have hsl:=hsn s (by simp)
  have hO:=(show (w.alloc (.cells #[] 79)).ownsRow w.heap.size 79 2 (.slice (some ⟨w.heap.size,0,none⟩) 0 0) 0 [] from World.ownsRow_made (w:=w) #[] 0 zLe (by decide) rfl)
  have hB:=((Below.refl w.heap.size w).alloc zLe (.cells #[] 79))
  have hi2:=hia.below hB
  have hbl:=zw c0
  have HB:=ZZ hB
  obtain⟨o1,rfl⟩:∃ a,ob=some a:=by
   obtain⟨b',o',_,_,e,_⟩:=hat.at_ 0 s rfl
   exact⟨_,e⟩
  obtain⟨b',o',xa',xc',e,c0',hia'⟩:=hat.at_ 0 s rfl
  cases e
  have c00:w.cell? ⟨b',o',none⟩=some (.slice xa' s.length xc'):=c0'
  have hi3:=hia'.below hB
  have hbl':=zw c00
  have HR:=ZZ hl
  clear hs hidx c0 hia hi2 hia' c0' hat hl hbl
  go_enter Tryz.func121,Tryz.ntmps121
  go_wp2_with (at_builtin;refine z2p rfl _ _ rfl rfl hO rfl hi3 (by simp) (by unfold maxLen;omega) (by omega) ?_;intro v' w2 how2 hg2;obtain⟨o2,c2,rfl⟩:=zi how2)
  have HB2:=ZZ (HB.o.grown hg2 HB.o.size (fun q hq=>by cases hq;exact Nat.le_refl _))
  have Ag:=ZZ how2
  clear how2 hg2
  go_ret
  exact⟨_,rfl,by simpa [P15.resolve] using Ag.o,HB2.o⟩
 ·-- MANY
  have g0:((m:Int)==0)=false:=by simp;omega
  have g1:((m:Int)==1)=false:=by simp;omega
  rw[resolve_many (by omega)]
  have A8:=ZZ hev
  have HAT:=ZZ hat
  have HL:=ZZ hl
  have hks:=zgi ss
  have CF:=ZZ (zm4 ss)
  have hags:=z9u ss
  have GQ:=ZZ (zki ss (clash ss) hks)
  have EE:=ZZ (zm6 (ks:=clash ss) hwf)
  have D5:=ZZ (fun w1 (h:StsAt w1 ob m cb ss)=>zcc ob m cb ss w1 h)
  have Bz:=ZZ (fun w1 (h:StsAt w1 ob m cb ss)=>zds ob m cb ss w1 h)
  have DY:=ZZ (fun (oo:Zoa) (k co:Nat) (s:St) (z:Int) w1 (h:ItemsAt w1 oo k co s)=>z2u oo k co s z w1 h)
  have G8:=ZZ (fun (o1:Zoa) (m1 c1:Nat) (s:St) (o2:Zoa) (m2 c2:Nat) (ids:Zin) (hm2:m2≤33554432) w1 (h:ArgsE w1 oa n cap es o1 m1 c1 s) (h2:IntsAt w1 o2 m2 c2 ids)=>zdw oa n cap es o1 m1 c1 s o2 m2 c2 ids hn20 hm2 w1 h h2)
  generalize agreed ss=AG at D5 hags ⊢
  generalize clash ss=KS at Bz hks CF GQ EE ⊢
  obtain⟨IDS,hIDS⟩:∃ IDS,z0g ss KS=IDS:=⟨_,rfl⟩
  rw[hIDS] at GQ EE ⊢
  have G9:=ZZ hIDS
  clear hev hat hl hIDS
  go_enter Tryz.func121,Tryz.ntmps121
  go_wp2_with (first
   | (go_at_call 162;(with_reducible refine (D5.o w HAT.o).mono ?_);rintro r w1 ⟨v1,rfl,ho1,hb1⟩;obtain⟨o1,c1,rfl⟩:=zi ho1)
   | (go_at_call 163;refine (Bz.o w1 (HAT.o.below hb1)).mono ?_;rintro r wC ⟨v2,rfl,ho2,hb2⟩;obtain⟨o2,c2,rfl⟩:=zi ho2))
  have hbC:=zTr hb1 hb2
  have CG:=ZZ hbC
  have Ga:=ZZ (own_below ho1 hb2)
  obtain⟨_,_,he2,hk2⟩:=z0d ho2 CF.o
  cases he2
  have Cy:=ZZ hk2
  have HST:=ZZ (HAT.o.below hbC)
  have AB:=ZZ (OutN.new wC)
  clear hb1 hb2 ho1 ho2 hk2 hbC
  go_loopw [7,8] (fun v x wr=>∃ (i:Nat) (oo:Zoa) (k co:Nat) (I:Zin),x=.int .i64 (i:Int)∧v=.slice oo k co∧i≤m∧I++z0g (ss.drop i) KS=IDS∧OutN wC wr (.slice oo k co) I) (fun _ x _=>m - (intOf x).toNat)
  case atStart=>exact⟨0,_,_,_,[],rfl,rfl,Nat.zero_le _,G9.o,AB.o⟩
  case round =>
   obtain⟨i,oo,k,co,I,rfl,rfl,hi,hrest,hO⟩:=hrel
   have HO:=ZZ hO
   have hbel:=hO.bel
   have hsz:=hbel.size
   clear hO AB G9
   by_cases hlt:i<m
   ·have i0:(i:Int)<(m:Int):=by omega
    obtain⟨s,b,q,xa,xc,hs,hidx,c0w,hiaw⟩:=HST.o.get Tryz.underlying30 z5l i hlt
    rw[zm5 hs] at hrest
    have Dx:=ZZ (fun k=>zcg (k:=k) (hwf s (zMg hs)))
    have hbb:=zw c0w
    have HC:=ZZ (show ∀ w1,Bw wC w1→w1.cell? ⟨b,q,none⟩=some (.slice xa s.length xc) from fun w1 h=>(h.cell hbb).trans c0w)
    have BO:=ZZ hiaw
    generalize hREST:z0g (ss.drop (i+1)) KS=REST at hrest
    have Jr:=ZZ hREST
    have A7:=ZZ hrest
    clear hrest c0w hiaw hs hREST hbel hsz
    go_wp2_with fail
    go_loopw [7,9] (fun v x wr=>∃ (j:Nat) (oo:Zoa) (k co:Nat) (I:Zin),x=.int .i64 (j:Int)∧v=.slice oo k co∧j≤KS.length∧I++(z4v s (KS.drop j)++REST)=IDS∧OutN wC wr (.slice oo k co) I) (fun _ x _=>KS.length - (intOf x).toNat)
    case atStart=>exact⟨0,_,_,_,I,rfl,rfl,Nat.zero_le _,A7.o,HO.o⟩
    case round =>
     obtain⟨j,oo,k,co,I,rfl,rfl,hj,hrest,hO⟩:=hrel
     clear HO A7
     have HO:=ZZ hO
     have hk:k=I.length:=by
      obtain⟨_,_,e⟩:=zi hO.own
      injection e
     subst hk
     have hbel:=hO.bel
     have hsz:=hbel.size
     have hIl:I.length≤33554432:=by
      have h1:=congrArg List.length hrest
      rw[List.length_append] at h1
      have h2:=GQ.o
      have h3:=HL.o
      omega
     have hown:=hO.own
     clear hO
     by_cases hltj:j<KS.length
     ·have j0:(j:Int)<(KS.length:Int):=by omega
      obtain⟨z,b2,q2,hz,hidx2,hb2,c2w,hwz⟩:=Cy.o.get Tryz.underlying60 z0f j hltj
      have c2:=(hbel.cell hb2).trans c2w
      have hb2r:=zLt hb2 hsz
      have c0:=HC.o wr hbel
      have hbr:=zLt hbb hsz
      have HA1:=ZZ (fun wx (hb:Bw wr wx)=>z8c xa s.length xc s z wx ((BO.o.below hbel).below hb))
      have hwx:=Dx.o z
      rw[zkh hz] at hrest
      generalize stAt s z=x at HA1 hwx hrest
      have A7:=ZZ hrest
      clear hrest c2w hz
      cases hx:(x==0)
      ·have hx2:=z0h hx
       have HE:=ZZ (show (I++[x])++(z4v s (KS.drop (j+1))++REST)=IDS by have h:=A7.o;rw[hx] at h;simpa using h)
       clear A7
       go_wp2_with fail
       go_quiet (first
        | (go_at_call 124;with_reducible exact Calls.quiet_of_same (HA1.o _ (below_drewN zBr _))))
       have hbQ:Bw wr (wr.drewN nq):=below_drewN zBr nq
       have EF:=ZZ (show OutN wC (wr.drewN nq) (.slice oo I.length co) I from ⟨own_below HO.o.own hbQ,hbel.trans (hbQ.mono hsz)⟩)
       generalize wr.drewN nq=wQ at EF hbQ ⊢
       have hownQ:=EF.o.own
       have hbelQ:=EF.o.bel
       have hszQ:=hbelQ.size
       clear hown
       go_wp2_with (at_builtin;refine z0t (W:=wC) (cs:=#[.int .i64 x]) rfl _ _ 60 rfl (by decide) Tryz.underlying60 z1u rfl rfl hownQ rfl rfl (by simp[Value.oneCell']) hbelQ hszQ (by unfold maxLen;omega) (by omega) ?_;intro v' w4 how4 hbw4 hsw4;obtain⟨o4,c4,rfl⟩:=zi how4)
       have Bg:=ZZ (OutN.snoc (x:=x) how4 hbw4)
       clear how4 hbw4 hownQ
       go_roundw
       case rel=>exact⟨j+1,_,_,_,I++[x],by go_num,rfl,by omega,HE.o,Bg.o⟩
       case measure=>simp[intOf];omega
      ·have hx2:=z0h hx
       have HE:=ZZ (show I++(z4v s (KS.drop (j+1))++REST)=IDS by have h:=A7.o;rw[hx] at h;simpa using h)
       clear A7
       go_wp2_with fail
       go_quiet (first
        | (go_at_call 124;with_reducible exact Calls.quiet_of_same (HA1.o _ (below_drewN zBr _))))
       have hbQ:Bw wr (wr.drewN nq):=below_drewN zBr nq
       have EF:=ZZ (show OutN wC (wr.drewN nq) (.slice oo I.length co) I from ⟨own_below HO.o.own hbQ,hbel.trans (hbQ.mono hsz)⟩)
       generalize wr.drewN nq=wQ at EF hbQ ⊢
       clear hown
       go_wp2_with fail
       go_roundw
       case rel=>exact⟨j+1,_,_,_,I,by go_num,rfl,by omega,HE.o,EF.o⟩
       case measure=>simp[intOf];omega
     ·have hdr:KS.drop j=[]:=List.drop_eq_nil_of_le (by omega)
      rw[hdr] at hrest
      have HE:=ZZ (show I++z0g (ss.drop (i+1)) KS=IDS by rw[Jr.o,← hrest];rfl)
      clear hrest hdr hown
      go_wp2_with fail
      go_roundw
      case rel=>exact⟨i+1,_,_,_,I,by go_num,rfl,by omega,HE.o,HO.o⟩
      case measure=>simp[intOf];omega
   ·have hdr:ss.drop i=[]:=List.drop_eq_nil_of_le (by rw[HL.o];omega)
    rw[hdr] at hrest
    have hII:I=IDS:=by rw[← hrest];simp[z0g]
    subst hII
    have hk:k=I.length:=by
     obtain⟨_,_,e⟩:=zi HO.o.own
     injection e
    subst hk
    have hIl:I.length≤33554432:=by
     have h2:=GQ.o
     have h3:=HL.o
     omega
    obtain⟨_,_,heo,hio⟩:=z0d HO.o.own EE.o
    cases heo
    have DW:=ZZ hio
    clear hrest hdr hio
    have hbW:=zTr CG.o hbel
    go_wp2_with (first
     | (go_at_call 162;(with_reducible refine (D5.o wr (HST.o.below hbel)).mono ?_);rintro r w3 ⟨v3,rfl,ho3,hb3⟩;obtain⟨o3,c3,rfl⟩:=zi ho3;have hbW3:=zTr hbW hb3)
     | (go_at_call 164;obtain⟨_,_,he3,hi3⟩:=z08 ho3;cases he3;refine (G8.o _ _ _ _ _ _ _ _ hIl w3 ⟨A8.o.below hbW3,hi3⟩ (DW.o.below hb3)).mono ?_;rintro r wE ⟨⟨v5,rfl,ho5,hb5⟩,hwf5⟩;obtain⟨o5,c5,rfl⟩:=zi ho5))
    -- LAST
    have hbCE:=(hbel.trans (hb3.mono hsz)).trans (hb5.mono ((hbel.trans (hb3.mono hsz))).size)
    have Bq:=ZZ (own_below Ga.o hbCE)
    have hbWE:=zTr CG.o hbCE
    have Gb:=ZZ hbWE
    obtain⟨_,_,he5,hi5⟩:=z0d ho5 hwf5
    cases he5
    have BK:=ZZ (fun z=>(zjr hfine z).2.1)
    have HF:=ZZ (fun z w1 (hb:Bw w w1)=>z4x w oa n cap es z w1 A8.o hb)
    have Js:=ZZ (fun (o1:Zoa) (m1 c1:Nat) (N:St) (e:EvV) (xa:Zoa) (xc:Nat) (ya:Zoa) (yc:Nat) (htx:e.text.length≤1048576) w1 (h:ArgsE w1 oa n cap es o1 m1 c1 N) (hx:IntsAt w1 xa e.levels.length xc e.levels) (hy:IntsAt w1 ya e.prev.length yc e.prev)=>z7t oa n cap es o1 m1 c1 N e xa xc ya yc htx w1 h hx hy)
    generalize hOR:order es AG I=OR at hi5 ⊢
    have Jt:=ZZ hi5
    have hOL:=zNt hi5.room hi5.most
    unfold maxLen at hOL
    have Ju:=ZZ hOR
    obtain⟨R,hR⟩:∃ R,OR.foldl (tell es) AG=R:=⟨_,rfl⟩
    rw[hR]
    have HR:=ZZ hR
    have Dm:=ZZ hR
    clear hR hOR hbCE hb3 hb5 ho3 ho5 hi3 hi5 hwf5 hbel hsz HO Ga hbW hbW3 G8 D5 Bz DY hbWE
    go_loopw [5,12] (fun v x wr=>∃ (j:Nat) (oo:Zoa) (k co:Nat) (N:St),x=.int .i64 (j:Int)∧v=.slice oo k co∧j≤OR.length∧(OR.drop j).foldl (tell es) N=R∧N.length≤16∧wr.ownsRow w.heap.size 79 2 (.slice oo k co) N.length (N.flatMap z02)∧Bw wE wr) (fun _ x _=>OR.length - (intOf x).toNat)
    case atStart=>exact⟨0,_,_,_,AG,rfl,rfl,Nat.zero_le _,HR.o,hags,Bq.o,zBr⟩
    case round =>
     obtain⟨j,oo,k,co,N,rfl,rfl,hj,hrest,hN16,hown,hbE⟩:=hrel
     have HO:=ZZ hown
     have hk:k=N.length:=by
      obtain⟨_,_,e⟩:=zi hown
      injection e
     subst hk
     have hbW:Bw w wr:=zTr Gb.o hbE
     have hszE:=hbE.size
     have hszW:=hbW.size
     clear hown Bq HR
     by_cases hlt:j<OR.length
     ·have j0:(j:Int)<(OR.length:Int):=by omega
      obtain⟨z,b,q,hz,hidx,hb,c0w,hwz⟩:=Jt.o.get Tryz.underlying60 z0f j hlt
      have c0:=(hbE.cell hb).trans c0w
      have hbr:=zLt hb hszE
      have hft:(evOf es z).text.length≤1048576:=by have h:=BK.o z;rw[z6o] at h;exact h
      have Aa:=ZZ (HF.o z wr hbW)
      rw[z6o] at Aa
      simp only at Aa
      rw[zm7 hz,znn] at hrest
      generalize evOf es z=e at Aa hrest hft
      generalize (zf es z).isSome=ok at Aa
      have A7:=ZZ hrest
      clear hrest c0w hz
      go_upto_region 22 with (go_at_call 123;(with_reducible refine Aa.o.mono ?_);rintro r w4 ⟨xa4,xc4,ya4,yc4,rfl,hl4,hp4,hb4⟩)
      obtain⟨w5,hw5⟩:∃ w5,w4.alloc (.cells (zk e.id e.kind e.sender e.user e.member e.depth (.slice xa4 e.levels.length xc4) (.slice ya4 e.prev.length yc4) e.text) 62)=w5:=⟨_,rfl⟩
      have hEE:EB w5 w4.heap.size e.id e.kind e.sender e.user e.member e.depth (.slice xa4 e.levels.length xc4) (.slice ya4 e.prev.length yc4) e.text:=by rw[← hw5];exact EB.new _ _ _ _ _ _ _ _ _ _
      have hb5:Bw wr w5:=by rw[← hw5];exact zg hb4 _
      try rw[show w4.alloc (.cells #[.int .i64 e.id,.int .i64 e.kind,.int .i64 e.sender,.int .i64 e.user,.int .i64 e.member,.slice xa4 e.levels.length xc4,.string ⟨e.text.toArray⟩,.slice ya4 e.prev.length yc4,.int .i64 e.depth] 62)=w5 from hw5]
      clear hw5
      generalize w4.heap.size=eb at hEE ⊢
      have KR:=ZZ hEE
      have hbW5:Bw w w5:=hbW.trans (hb5.mono hszW)
      have BQ:=ZZ hb5
      have hO5:=own_below HO.o hb5
      obtain⟨_,_,heo,hi5⟩:=z08 hO5
      cases heo
      have Ez:=ZZ hO5
      have AU:=ZZ (Js.o _ _ _ N e xa4 xc4 ya4 yc4 hft w5 ⟨A8.o.below hbW5,hi5⟩ (hl4.below hbW5) (hp4.below hbW5))
      have BZ:=ZZ (fun w1=>z9d e (.slice xa4 e.levels.length xc4) (.slice ya4 e.prev.length yc4) w1)
      have hszb5:=hb5.size
      obtain⟨t0,t1,t2,t3,t4,t5,t6,t7,t8⟩:=hEE.ev
      have hle:=hEE.lt
      clear hEE hO5 hi5 hb4 hl4 hp4 hb5
      generalize keyE e=KY at BZ A7
      generalize allowed es N e=al at AU A7
      cases al
      ·have HE:=ZZ (show (OR.drop (j+1)).foldl (tell es) N=R from A7.o)
       clear A7
       go_wp2_with (go_at_call 73;(with_reducible refine AU.o.mono ?_);rintro r w6 ⟨rfl,hb6⟩)
       have hb56:=BQ.o.trans (hb6.mono hszb5)
       have D7:=ZZ (own_below HO.o hb56)
       have Az:=ZZ (hbE.trans (hb56.mono hszE))
       clear t0 t1 t2 t3 t4 t5 t6 t7 t8
       go_roundw
       case rel=>exact⟨j+1,_,_,_,N,by go_num,rfl,by omega,HE.o,hN16,D7.o,Az.o⟩
       case measure=>simp[intOf];omega
      ·cases hky:(KY==0)
       ·have hky2:=z0h hky
        have HE:=ZZ (show (OR.drop (j+1)).foldl (tell es) (z0n N KY e.id)=R by have h:=A7.o;rw[hky] at h;exact h)
        clear A7
        go_upto_region 23 with (first
         | (go_at_call 73;(with_reducible refine AU.o.mono ?_);rintro r w6 ⟨rfl,hb6⟩;have t06:=(hb6.cell hle).trans t0;have t16:=(hb6.cell hle).trans t1;have t26:=(hb6.cell hle).trans t2;have t36:=(hb6.cell hle).trans t3;have t46:=(hb6.cell hle).trans t4;have t56:=(hb6.cell hle).trans t5;have t66:=(hb6.cell hle).trans t6;have t76:=(hb6.cell hle).trans t7;have t86:=(hb6.cell hle).trans t8)
         | (go_at_call 74;(with_reducible refine (BZ.o _).mono ?_);rintro r w7 ⟨rfl,hb7⟩))
        have hb67:=zTr hb6 hb7
        have hb57:=BQ.o.trans (hb67.mono hszb5)
        have hO7:=own_below HO.o hb57
        obtain⟨_,_,heo,hi7⟩:=z08 hO7
        cases heo
        have KT:=ZZ hi7
        have DJ:=ZZ hO7
        have Gc:=ZZ (KR.o.on hb67 hle)
        have D8:=ZZ (hbE.trans (hb57.mono hszE))
        clear t0 t1 t2 t3 t4 t5 t6 t7 t8 hO7 hi7
        obtain⟨t0,t1,t2,t3,t4,t5,t6,t7,t8⟩:=Gc.o.ev
        have hle7:=Gc.o.lt
        have hszW7:=(hbW.trans (hb57.mono hszW)).size
        clear t06 t16 t26 t36 t46 t56 t66 t76 t86
        go_region_law (first
         | (rw[if_pos (by rfl)];go_simp;go_at_call 74;refine (BZ.o _).mono ?_;rintro r w8 ⟨rfl,hb8⟩;have hb78:Bw w7 w8:=(Below.refl w7.heap.size w7).drew.trans hb8;have t08:=(hb78.cell hle7).trans t0)
         | (rw[if_pos (by rfl)];go_simp;go_at_call 75;refine (zad _ _ _ N KY e.id (by omega) w8 (KT.o.below hb78)).mono ?_;rintro r w9 ⟨v9,rfl,ho9,hb9⟩;obtain⟨o9,c9,rfl⟩:=zi ho9))
        all_goals
         have hb79:=zTr hb78 hb9
         have KU:=ZZ (zTr D8.o hb79)
         have KV:=ZZ (zu ho9 (zNt hszW7 hb78.size))
         clear ho9 t0 t1 t2 t3 t4 t5 t6 t7 t8
         go_wp2_with fail
         go_roundw
         case rel=>exact⟨j+1,_,_,_,z0n N KY e.id,by go_num,rfl,by omega,HE.o,zbm hN16,KV.o,KU.o⟩
         case measure=>simp[intOf];omega
       ·have hky2:=z0h hky
        have HE:=ZZ (show (OR.drop (j+1)).foldl (tell es) N=R by have h:=A7.o;rw[hky] at h;exact h)
        clear A7
        go_wp2_with (first
         | (go_at_call 73;(with_reducible refine AU.o.mono ?_);rintro r w6 ⟨rfl,hb6⟩;have t06:=(hb6.cell hle).trans t0;have t16:=(hb6.cell hle).trans t1;have t26:=(hb6.cell hle).trans t2;have t36:=(hb6.cell hle).trans t3;have t46:=(hb6.cell hle).trans t4;have t56:=(hb6.cell hle).trans t5;have t66:=(hb6.cell hle).trans t6;have t76:=(hb6.cell hle).trans t7;have t86:=(hb6.cell hle).trans t8)
         | (go_at_call 74;(with_reducible refine (BZ.o _).mono ?_);rintro r w7 ⟨rfl,hb7⟩))
        have hb67:=zTr hb6 hb7
        have hb57:=BQ.o.trans (hb67.mono hszb5)
        have DJ:=ZZ (own_below HO.o hb57)
        have D8:=ZZ (hbE.trans (hb57.mono hszE))
        clear t0 t1 t2 t3 t4 t5 t6 t7 t8
        go_roundw
        case rel=>exact⟨j+1,_,_,_,N,by go_num,rfl,by omega,HE.o,hN16,DJ.o,D8.o⟩
        case measure=>simp[intOf];omega
     ·have hdr:OR.drop j=[]:=List.drop_eq_nil_of_le (by omega)
      rw[hdr] at hrest
      have HE:=ZZ (show N=R from hrest)
      clear hrest hdr
      go_wp2_with fail
      go_ret
      exact⟨_,rfl,by rw[Ju.o,Dm.o,← HE.o];exact HO.o,hbW⟩

theorem zo7:(Tryz.prog.info? 74).map (fun i=>(i.zero,i.size,i.bytes))=some (some (.slice none 0 0),1,24):=by kernel_rfl

structure OutS (B:Nat) (w wr:World) (va:Value) (ls:List St):Prop where
 rows:∃ vs:Zvs,vs.length=ls.length∧wr.ownsRow B 74 1 va ls.length vs∧∀ (i:Nat) (v:Value) (l:St),vs[i]? = some v→ls[i]? = some l→∃ xa xc,v=.slice xa l.length xc∧ItemsAt w xa l.length xc l
 bel:Bw w wr
 base:w.heap.size≤B
 up:B≤wr.heap.size

theorem OutS.new {w W0:World} (hb:Bw w W0):OutS W0.heap.size w (W0.alloc (.cells #[] 74)) (.slice (some ⟨W0.heap.size,0,none⟩) 0 0) [] :=
 ⟨⟨[],rfl,World.ownsRow_made (w:=W0) #[] 0 zLe (by decide) rfl,fun i v l h=>by simp at h⟩,hb.trans (((Below.refl W0.heap.size W0).alloc zLe _).mono hb.size),hb.size,by simp⟩

theorem OutS.below {B:Nat} {w wr w2:World} {va:Value} {ls:List St} (h:OutS B w wr va ls) (hb:Bw wr w2):OutS B w w2 va ls:=by
 obtain⟨⟨vs,h1,h2,h3⟩,h4,h5,h6⟩:=h
 exact⟨⟨vs,h1,own_below h2 hb,h3⟩,zTr h4 hb,h5,zNt h6 hb.size⟩

theorem OutS.form {B:Nat} {w wr:World} {va:Value} {ls:List St} (h:OutS B w wr va ls):∃ oa cap,va=.slice oa ls.length cap:=by
 obtain⟨⟨vs,_,h2,_⟩,_⟩:=h
 exact zi h2

theorem z9v {W0:World} {ops:Array Oper} {rest:List Oper} {o:Oper} {a:Act} {Q:Exit→Act→World→Prop} (hgd:o.guard=none) (s x:Operand)
  (ho:o.op=.call { callee:=.builtin .append,args:=#[s,x],argTypes:=#[30,30] })
  {B:Nat} {w:World} {va:Value} {ls:List St} (h:OutS B w W0 va ls) {l:St} {xa:Zoa} {xc:Nat} (hi:ItemsAt w xa l.length xc l)
  (hs:a.eval s=va) (hx:a.eval x=.slice (some ⟨W0.heap.size,0,none⟩) 1 1) (hl:ls.length+1≤10000000)
  (hK:∀ va' w',OutS B w w' va' (ls++[l])→Below B W0 w'→wpList Tryz.prog ops Q rest (a.put o.dst va') w'):wpList Tryz.prog ops Q (o::rest) a (W0.alloc (.cells #[.slice xa l.length xc] 74)):=by
 obtain⟨⟨vs,h1,h2,h3⟩,h4,h5,h6⟩:=h
 refine z1n (cs:=#[.slice xa l.length xc]) hgd s x 30 ho (by decide) Tryz.underlying30 zo7 rfl hs h2 hx rfl (by simp[Value.oneCell']) h6 (by unfold maxLen;omega) (by omega) ?_
 intro va' w' hown hg hloc
 have hbB:Below B W0 w':=((Below.refl B W0).alloc h6 _).grown hg (by simp;omega) (fun q hq=>(h2.lt q hq).1)
 refine hK va' w' ⟨⟨vs++[.slice xa l.length xc],by simp[h1],by rw[z0p];exact hown,fun i v' l' hv' hl'=>?_⟩,h4.trans (hbB.mono h5),h5,zNt h6 hbB.size⟩ hbB
 rcases Nat.lt_or_ge i ls.length with hi'|hi'
 ·rw[List.getElem?_append_left (by omega)] at hv' hl'
  exact h3 i v' l' hv' hl'
 ·have hie:i=ls.length:=by
   have:=(zGi.1 hl').1
   simp at this
   omega
  subst hie
  rw[List.getElem?_append_right zLe] at hl'
  rw[← h1,List.getElem?_append_right zLe] at hv'
  simp at hl' hv'
  subst hl'
  subst hv'
  exact⟨xa,xc,rfl,hi⟩

theorem OutS.view {B:Nat} {w wr:World} {va:Value} {ls:List St} (h:OutS B w wr va ls):∃ oa cap,va=.slice oa ls.length cap∧StsAt wr oa ls.length cap ls:=by
 obtain⟨⟨vs,h1,h2,h3⟩,h4,h5,h6⟩:=h
 rcases h2.2 with ⟨rfl,hn⟩|⟨g,cap,cur,rfl,hb,hg,hnc,hcm,hcs,htake⟩
 ·have hls:ls=[]:=List.eq_nil_of_length_eq_zero hn
  subst hls
  exact⟨none,0,rfl,z9h wr⟩
 ·refine⟨some ⟨g,0,none⟩,cap,rfl,⟨rfl,hnc,hcm,fun i l hl=>?_⟩⟩
  have hi:i<ls.length:=(zGi.1 hl).1
  obtain⟨v,hv⟩:∃ v,vs[i]? = some v:=⟨_,List.getElem?_eq_getElem (by omega)⟩
  obtain⟨xa,xc,rfl,hia⟩:=h3 i v l hv hl
  refine⟨g,0,xa,xc,rfl,?_,hia.below h4⟩
  rw[Nat.zero_add,h2.cellAt i (by omega)]
  exact hv

def z1q (es:List EvV) (sts:List St) (z:Int):Option St:=if hasI es z<0 then none else sts[(hasI es z).toNat]?

def z3f (es:List EvV) (sts:List St):Zin→List St→Option (List St)
 | [],acc=>some acc
 | z::r,acc=>match z1q es sts z with|none=>none|some s=>z3f es sts r (acc++[s])

def z2y (es:List EvV) (sts:List St) (prev:Zin):Option St:=(z3f es sts prev []).map (P15.resolve es)

theorem zm8 {es:List EvV} {sts acc:List St} {zs:Zin} {j:Nat} {z:Int} (h:zs[j]? = some z):z3f es sts (zs.drop j) acc=match z1q es sts z with|none=>none|some s=>z3f es sts (zs.drop (j+1)) (acc++[s]):=by
 obtain⟨hj,rfl⟩:=zGi.1 h
 rw[List.drop_eq_getElem_cons hj]
 rfl

theorem zno (es:List EvV) (z:Int):-1≤hasI es z:=by
 cases h:zf es z with
 | none=>rw[z7q h];decide
 | some e =>
  obtain⟨k,h1,_⟩:=z5g h
  omega

def zhm (w:World) (o:Option St) (r:Ending) (w':World):Prop:=∃ v,r=.returned (.tuple #[v,.bool o.isSome])∧w'.ownsRow w.heap.size 79 2 v (o.getD []).length ((o.getD []).flatMap z02)∧Bw w w'

theorem zdz (oa:Zoa) (n cap:Nat) (es:List EvV) (so:Zoa) (sn sc:Nat) (sts:List St) (vg:Value) (oc:Zoa) (p cc:Nat) (prev:Zin) (hn20:n≤1048576) (hp16:p≤1048576) (hfine:FineE es) (hsn:∀ s∈sts,s.length≤1048576) (hwf:∀ s∈sts,∀ x∈s,(Lit.int .i64 x.2).wf=true) (w:World) (hat:EvsAt w oa n cap es) (hst:StsAt w so sn sc sts) (hpt:IntsAt w oc p cc prev) :
  Calls Tryz.prog 69 #[rmv (.slice oa n cap) (.slice so sn sc) vg,.slice oc p cc] w (zhm w (z2y es sts prev)):=by
 have HN:=ZZ hat.len
 have Dn:=ZZ hst.len
 have hsmx:=zNt hst.room hst.most
 unfold maxLen at hsmx
 have Cn:=ZZ hpt.len
 have Dz:=ZZ hpt
 have HAT:=ZZ hat
 have HST:=ZZ hst
 obtain⟨W0,hW0⟩:∃ W0,w.alloc (.cells #[.slice oa n cap,.slice so sn sc,vg] 32)=W0:=⟨_,rfl⟩
 have hb0:Bw w W0:=by rw[← hW0];exact (Below.refl w.heap.size w).alloc zLe _
 have hR0:W0.heap[w.heap.size]? = some (.cells #[.slice oa n cap,.slice so sn sc,vg] 32 (0,0)):=by rw[← hW0];exact heap_alloc_new _ _
 have hs0:W0.heap.size=w.heap.size+1:=by rw[← hW0];simp
 have Ad:=ZZ hR0
 have HB0:=ZZ hb0
 have HW0:=ZZ hW0
 have Ak:=ZZ (show OutS W0.heap.size w (W0.alloc (.cells #[] 74)) (.slice (some ⟨w.heap.size+1,0,none⟩) 0 0) [] from by have h:=OutS.new hb0;rw[hs0] at h ⊢;exact h)
 have Bh:=ZZ (show Bw W0 (W0.alloc (.cells #[] 74)) from zBa)
 have HH:=ZZ (fun (z:Int) w1 (h:EvsAt w1 oa n cap es)=>z8z oa n cap es (.slice so sn sc) vg z w1 h)
 obtain⟨D,hD⟩:∃ D,z3f es sts prev []=D:=⟨_,rfl⟩
 have HD:=ZZ hD
 have Bt:=ZZ (show z2y es sts prev=D.map (P15.resolve es) by unfold z2y;rw[hD])
 clear hat hR0 hW0 hb0 hpt hD hst
 go_enter Tryz.func69,Tryz.ntmps69
 go_wp2_with fail
 rw[HW0.o]
 go_loopw [6,7] (fun v i wr=>∃ (j:Nat) (oo:Zoa) (m co:Nat) (acc:List St),i=.int .i64 (j:Int)∧v=.slice oo m co∧j≤p∧acc.length≤j∧(∀ s∈acc,s∈sts)∧z3f es sts (prev.drop j) acc=D∧OutS W0.heap.size w wr (.slice oo m co) acc∧Bw W0 wr) (fun _ i _=>p - (intOf i).toNat)
 case atStart=>exact⟨0,_,_,_,[],rfl,rfl,Nat.zero_le _,Nat.le_refl _,fun s hs=>by simp at hs,HD.o,Ak.o,Bh.o⟩
 case round =>
  obtain⟨j,oo,m,co,acc,rfl,rfl,hj,hal,hmem,hrest,hS,hbel⟩:=hrel
  have HS:=ZZ hS
  have hm:m=acc.length:=by
   obtain⟨_,_,e⟩:=hS.form
   injection e
  subst hm
  have hsz:=hbel.size
  have hRr:=(hbel.block w.heap.size (ze Ad.o)).trans Ad.o
  have r0:=zb hRr 0 rfl
  have r1:=zb hRr 1 rfl
  have r2:=zb hRr 2 rfl
  have hlr:=ze hRr
  have hbW:=hS.bel
  have A8:=ZZ (HAT.o.below hbW)
  have Eb:=ZZ hmem
  clear hRr hS Ak HD hmem
  by_cases hlt:j<p
  ·have j0:(j:Int)<(p:Int):=by omega
   obtain⟨z,b,q,hz,hidx,hb,c0w,hwz⟩:=Dz.o.get Tryz.underlying60 z0f j hlt
   have c0:=(hbW.cell hb).trans c0w
   have hbr:=zLt hb hbW.size
   have Bf:=ZZ (HH.o z)
   rw[zm8 hz] at hrest
   have A7:=ZZ hrest
   have hge:=zno es z
   have Cu:=ZZ (show z1q es sts z=if hasI es z<0 then none else sts[(hasI es z).toNat]? from rfl)
   clear hrest hz c0w
   generalize hasI es z=hk at Bf Cu hge
   by_cases hneg:hk<0
   ·have HE:=ZZ (show D=none by rw[← A7.o,Cu.o,if_pos hneg])
    clear A7
    go_wp2_with fail
    refine zn (F:=Bw wr) (by kernel_rfl) (by kernel_rfl) zBr.drew ?_
    have hne:Nonempty (InW (Bw wr)):=⟨⟨_,zBr⟩⟩
    have k0:=ciW r0
    have k1:=ciW r1
    have k2:=ciW r2
    have k3:=ciW c0
    repeat (go_big_quiet_step (first
     | (go_at_call 71;(with_reducible refine (Bf.o _ (A8.o.below (InW.h (F:=Bw wr) _))).mono ?_);rintro e' w2 ⟨rfl,hb2⟩;exact⟨rfl,iwW hb2,rfl⟩)))
    refine wpQuiet_nil ?_
    intro _ hw'
    obtain⟨nq,hw''⟩:=hw'
    subst hw''
    have hnq:=nq.h
    generalize nq.w=w3 at hnq ⊢
    have Ap:=ZZ (HS.o.below hnq)
    have r03:=(hnq.cell hlr).trans r0
    have r13:=(hnq.cell hlr).trans r1
    have hlr3:=zLt hlr hnq.size
    clear hne k0 k1 k2 k3
    have CK:=ZZ (show (w3.alloc (.cells #[] 79)).ownsRow w3.heap.size 79 2 (.slice (some ⟨w3.heap.size,0,none⟩) 0 0) 0 [] from World.ownsRow_made (w:=w3) #[] 0 zLe (by decide) rfl)
    have HB3:=ZZ (zTr hbW hnq)
    go_wp2_with fail
    refine bodyPost_ret (v:=.tuple #[.slice (some ⟨w3.heap.size,0,none⟩) 0 0,.bool false]) (by simp[results,Tryz.results69,go_sem]) rfl ?_
    exact⟨_,by rw[Bt.o,HE.o];rfl,by rw[Bt.o,HE.o];exact zu CK.o HB3.o.size,HB3.o.trans (((Below.refl w3.heap.size w3).alloc zLe _).mono HB3.o.size)⟩
   ·obtain⟨kn,rfl⟩:∃ kn:Nat,hk=(kn:Int):=⟨hk.toNat,by omega⟩
    have hk0:¬ ((kn:Int)<0):=hneg
    rw[if_neg hneg] at Cu
    by_cases hks:kn<sn
    ·have hki:¬ ((sn:Int)≤(kn:Int)):=by omega
     obtain⟨s,b2,q2,xa,xc,hs,hidx2,c2w,hiaw⟩:=HST.o.get Tryz.underlying30 z5l kn hks
     have HE:=ZZ (show z3f es sts (prev.drop (j+1)) (acc++[s])=D by rw[← A7.o,Cu.o];show _=(match sts[kn]? with|none=>none|some s=>z3f es sts (prev.drop (j+1)) (acc++[s]));rw[hs])
     have hsm:=zMg hs
     have hb2:=zw c2w
     clear A7 hs Cu
     go_wp2_with fail
     refine zn (F:=Bw wr) (by kernel_rfl) (by kernel_rfl) zBr.drew ?_
     have hne:Nonempty (InW (Bw wr)):=⟨⟨_,zBr⟩⟩
     have k0:=ciW r0
     have k1:=ciW r1
     have k2:=ciW r2
     have k3:=ciW c0
     repeat (go_big_quiet_step (first
      | (go_at_call 71;(with_reducible refine (Bf.o _ (A8.o.below (InW.h (F:=Bw wr) _))).mono ?_);rintro e' w2 ⟨rfl,hb2⟩;exact⟨rfl,iwW hb2,rfl⟩)))
     refine wpQuiet_nil ?_
     intro _ hw'
     obtain⟨nq,hw''⟩:=hw'
     subst hw''
     have hnq:=nq.h
     generalize nq.w=w3 at hnq ⊢
     have Ap:=ZZ (HS.o.below hnq)
     have r03:=(hnq.cell hlr).trans r0
     have r13:=(hnq.cell hlr).trans r1
     have hlr3:=zLt hlr hnq.size
     clear hne k0 k1 k2 k3
     have c23:=((zTr hbW hnq).cell hb2).trans c2w
     have hb23:=zLt hb2 (zTr hbW hnq).size
     have hS3:=Ap.o
     have hB3:=hbel.trans (hnq.mono hsz)
     have hal1:acc.length+1≤10000000:=by omega
     go_wp2_with (at_builtin;refine z9v rfl _ _ rfl hS3 hiaw rfl rfl hal1 ?_;intro va w5 hS5 hB5;obtain⟨o5,c5,rfl⟩:=hS5.form)
     have CL:=ZZ (show OutS W0.heap.size w w5 (.slice o5 (acc.length+1) c5) (acc++[s]) by have h:=hS5;rw[z0p] at h;exact h)
     have BQ:=ZZ (hB3.trans hB5)
     clear hS5 hB5
     go_roundw
     case rel=>exact⟨j+1,_,_,_,acc++[s],by go_num,rfl,by omega,by rw[z0p];omega,fun y hy=>by
      rcases List.mem_append.1 hy with hy|hy
      ·exact Eb.o y hy
      ·simp at hy;subst hy;exact hsm,HE.o,CL.o,BQ.o⟩
     case measure=>simp[intOf];omega
    ·have hki:(sn:Int)≤(kn:Int):=by omega
     have HE:=ZZ (show D=none by
      rw[← A7.o,Cu.o]
      show (match sts[kn]? with|none=>none|some s=>z3f es sts (prev.drop (j+1)) (acc++[s]))=none
      rw[List.getElem?_eq_none (by rw[Dn.o];omega)])
     clear A7 Cu
     go_wp2_with fail
     refine zn (F:=Bw wr) (by kernel_rfl) (by kernel_rfl) zBr.drew ?_
     have hne:Nonempty (InW (Bw wr)):=⟨⟨_,zBr⟩⟩
     have k0:=ciW r0
     have k1:=ciW r1
     have k2:=ciW r2
     have k3:=ciW c0
     repeat (go_big_quiet_step (first
      | (go_at_call 71;(with_reducible refine (Bf.o _ (A8.o.below (InW.h (F:=Bw wr) _))).mono ?_);rintro e' w2 ⟨rfl,hb2⟩;exact⟨rfl,iwW hb2,rfl⟩)))
     refine wpQuiet_nil ?_
     intro _ hw'
     obtain⟨nq,hw''⟩:=hw'
     subst hw''
     have hnq:=nq.h
     generalize nq.w=w3 at hnq ⊢
     have Ap:=ZZ (HS.o.below hnq)
     have r03:=(hnq.cell hlr).trans r0
     have r13:=(hnq.cell hlr).trans r1
     have hlr3:=zLt hlr hnq.size
     clear hne k0 k1 k2 k3
     have CK:=ZZ (show (w3.alloc (.cells #[] 79)).ownsRow w3.heap.size 79 2 (.slice (some ⟨w3.heap.size,0,none⟩) 0 0) 0 [] from World.ownsRow_made (w:=w3) #[] 0 zLe (by decide) rfl)
     have HB3:=ZZ (zTr hbW hnq)
     go_wp2_with fail
     refine bodyPost_ret (v:=.tuple #[.slice (some ⟨w3.heap.size,0,none⟩) 0 0,.bool false]) (by simp[results,Tryz.results69,go_sem]) rfl ?_
     exact⟨_,by rw[Bt.o,HE.o];rfl,by rw[Bt.o,HE.o];exact zu CK.o HB3.o.size,HB3.o.trans (((Below.refl w3.heap.size w3).alloc zLe _).mono HB3.o.size)⟩
  ·have hjn:prev.drop j=[]:=List.drop_eq_nil_of_le (by rw[Cn.o];omega)
   rw[hjn] at hrest
   have hDA:D=some acc:=hrest.symm
   subst hDA
   obtain⟨_,_,he,hv⟩:=HS.o.view
   cases he
   have Ae:=ZZ (zbn oa n cap es oo acc.length co acc hn20 (by omega) hfine (fun s hs=>hsn s (Eb.o s hs)) (fun s hs=>hwf s (Eb.o s hs)) wr A8.o hv)
   clear hrest hjn hv
   go_wp2_with (go_at_call 121;(with_reducible refine Ae.o.mono ?_);rintro r w5 ⟨v5,rfl,ho5,hb5⟩;obtain⟨o5,c5,rfl⟩:=zi ho5)
   have Ez:=ZZ (zu ho5 hbW.size)
   have BQ:=ZZ (zTr hbW hb5)
   clear ho5 hb5
   refine bodyPost_ret (v:=.tuple #[.slice o5 (P15.resolve es acc).length c5,.bool true]) (by simp[results,Tryz.results69,go_sem]) rfl ?_
   exact⟨_,by rw[Bt.o];rfl,by rw[Bt.o];exact Ez.o,BQ.o⟩

end Go.Proofs.YtfeebdcmlnapiaaGreat
