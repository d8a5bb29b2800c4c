/-
  Walks.
-/
import Derived.Test.YtfeebdcmlnapiaaGreatTTwo1
import Derived.Test.YtfeebdcmlnapiaaGreatTSame0
set_option maxRecDepth 100000
set_option maxHeartbeats 8000000
set_option linter.unusedVariables false
set_option linter.unusedSimpArgs false
namespace Go.Proofs.YtfeebdcmlnapiaaGreat
open Go.RowKit Go.Maps P1 P5 P9 P11 P12 P14 P15 P16 P17 K
theorem TieOk.off {w w2:World} {B bm m:Nat} {T:Int→Option Value} {D:DataW Value} {es:List EvV} {sts:List St} (h:TieOk w B bm T m D es sts) {g:Nat} {cs:Array Value} (hg:w.grownBy w2 (some g)) (hb:w.heap[g]? = some (.cells cs 68 (0,0))):TieOk w2 B bm T m D es sts:=by
 obtain⟨es',clock,hbm,_⟩:=h.tab.own
 have hne:bm≠g:=by
  intro e
  rw[e,hb] at hbm
  cases hbm
 refine⟨h.tab.kept hg (fun e=>hne (zSi e)),h.no,fun k e he=>?_⟩
 obtain⟨q,xl,xp,vp,s,xa,xc,g',h1,h2,h3,h4⟩:=h.yes k e he
 refine⟨q,xl,xp,vp,s,xa,xc,g',h1,h2,(hg.block q (ze h3) (fun e=>?_)).trans h3,h4.kept hg (.inr (fun e=>z1p h4 e hb (by decide)))⟩
 have e2:=zSi e
 rw[e2,hb] at h3
 have h5:=zSi h3
 injection h5 with _ h6 _
 exact absurd h6 (by decide)

structure RokI (w:World) (b bv bm:Nat) (rc:Array Value) (oL:Zoa) (cL:Nat) (es:List EvV) (ss:List St) (gs:List Bool) (j:Nat) (T:Int→Option Value) (m:Nat) (D:DataW Value) (wr:World):Prop where
 bel:Bw w wr
 room:wr.heap[b]? = some (.cells rc 32 (0,0))
 web:wr.heap[bv]? = some (.cells #[.slice oL j cL,.map (some bm)] 68 (0,0))
 tie:TieOk wr 0 bm T m D (es.take j) (ss.take j)
 inv:RInv (es.take j) (ss.take j)
 built:Built (es.take j) (ss.take j)
 go:rmGo [] [] [] es=rmGo (es.take j) (ss.take j) (gs.take j) (es.drop j)
 lst:EvsAt wr oL j cL (es.take j)

theorem RokI.on {w:World} {b bv bm:Nat} {rc:Array Value} {oL:Zoa} {cL:Nat} {es:List EvV} {ss:List St} {gs:List Bool} {j:Nat} {T:Int→Option Value} {m:Nat} {D:DataW Value} {wr w2:World} (h:RokI w b bv bm rc oL cL es ss gs j T m D wr) (hb:Bw wr w2):RokI w b bv bm rc oL cL es ss gs j T m D w2 :=
 ⟨zTr h.bel hb,(hb.block b (ze h.room)).trans h.room,(hb.block bv (ze h.web)).trans h.web,h.tie.on hb,h.inv,h.built,h.go,h.lst.below hb⟩

theorem z6c {α:Type} {l:List α} {j:Nat} {x:α} (h:l[j]? = some x):l.take (j+1)=l.take j++[x]:=by
 rw[List.take_add_one,h];rfl

theorem RokI.next {w:World} {b bv bm:Nat} {rc:Array Value} {oL:Zoa} {cL:Nat} {es:List EvV} {ss:List St} {gs:List Bool} {j:Nat} {T:Int→Option Value} {m:Nat} {D:DataW Value} {wr:World} (h:RokI w b bv bm rc oL cL es ss gs j T m D wr) {e:EvV} (he:es[j]? = some e) (hs:ss[j]? = some (z0s (es.take j) (ss.take j) e)) (hg:gs[j]? = some (allowed (es.take j) (befS (es.take j) (ss.take j) e.prev) e)) (hok:z0l (es.take j) (ss.take j) e=true) :
  RInv (es.take (j+1)) (ss.take (j+1))∧Built (es.take (j+1)) (ss.take (j+1))∧rmGo [] [] [] es=rmGo (es.take (j+1)) (ss.take (j+1)) (gs.take (j+1)) (es.drop (j+1)):=by
 rw[z6c he,z6c hs,z6c hg]
 refine⟨h.inv.add hok (z99 (z4b hok).1),h.built.add hok,?_⟩
 rw[h.go,z8u he,if_pos hok]

theorem RokI.bad {w:World} {b bv bm:Nat} {rc:Array Value} {oL:Zoa} {cL:Nat} {es:List EvV} {ss:List St} {gs:List Bool} {j:Nat} {T:Int→Option Value} {m:Nat} {D:DataW Value} {wr:World} (h:RokI w b bv bm rc oL cL es ss gs j T m D wr) {e:EvV} (he:es[j]? = some e) (hok:z0l (es.take j) (ss.take j) e=false):z0x es ss gs=false:=by
 refine z5y ?_
 rw[h.go,z8u he,if_neg (by rw[hok];decide)]

theorem RokI.unlike {w:World} {b bv bm:Nat} {rc:Array Value} {oL:Zoa} {cL:Nat} {es:List EvV} {ss:List St} {gs:List Bool} {j:Nat} {T:Int→Option Value} {m:Nat} {D:DataW Value} {wr:World} (h:RokI w b bv bm rc oL cL es ss gs j T m D wr) {e:EvV} (he:es[j]? = some e) (hok:z0l (es.take j) (ss.take j) e=true):(∀ t,ss[j]? = some t→t≠z0s (es.take j) (ss.take j) e→z0x es ss gs=false)∧(∀ t,gs[j]? = some t→t≠allowed (es.take j) (befS (es.take j) (ss.take j) e.prev) e→z0x es ss gs=false):=by
 have h1:=h.go
 rw[z8u he,if_pos hok] at h1
 refine⟨fun t ht hne=>zfw h1 (zGi.1 ht).1 (by rw[ht];exact fun e=>hne (zSi e)),fun t ht hne=>zh5 h1 (zGi.1 ht).1 (by rw[ht];exact fun e=>hne (zSi e))⟩

theorem zh8 {es:List EvV} {sts:List St} (h:RInv es sts) {e:EvV} (hok:z0l es sts e=true):(z0s es sts e).length≤16:=by
 have h1:=h.add hok (z99 (z4b hok).1)
 exact (h1.st _ (List.mem_append_right _ List.mem_cons_self)).len

theorem zn6 {es:List EvV} {id:Int} (h:hasI es id<0):zf es id=none:=by
 cases hf:zf es id with
 | none=>rfl
 | some y =>
  obtain⟨k,h1,_⟩:=z5g hf
  omega

theorem RokI.store {w:World} {b bv bm:Nat} {rc:Array Value} {oL:Zoa} {cL:Nat} {es:List EvV} {ss:List St} {gs:List Bool} {j:Nat} {T:Int→Option Value} {m:Nat} {D:DataW Value} {w4:World} (h:RokI w b bv bm rc oL cL es ss gs j T m D w4) {e:EvV} {s:St} {g:Bool} (he:es[j]? = some e) (hs:ss[j]? = some s) (hnx:RInv (es.take (j+1)) (ss.take (j+1))∧Built (es.take (j+1)) (ss.take (j+1))∧rmGo [] [] [] es=rmGo (es.take (j+1)) (ss.take (j+1)) (gs.take (j+1)) (es.drop (j+1))) (hidw:(Lit.int .i64 e.id).wf=true) (hfd:zf (es.take j) e.id=none) (hbv:b≠bv) (hwv:w.heap.size≤bv) (hwm:w.heap.size≤bm) {W5 w6:World} (hg5:w4.grownBy W5 (some bv)) {oN:Zoa} {cN:Nat} (hV5:W5.heap[bv]? = some (.cells #[.slice oN (j+1) cN,.map (some bm)] 68 (0,0))) (hlst:EvsAt w oN (j+1) cN (es.take (j+1))) {kb:Nat} {xl xp vp:Value} {za:Zoa} {zc:Nat} (hK:w4.heap[kb]? = some (.cells (z1o e xl xp vp (.slice za s.length zc) true g) 76 (0,0))) {B:Nat} (hO:w4.ownsRow B 79 2 (.slice za s.length zc) s.length (s.flatMap z02)) (ho:w6.ownsMap Tryz.prog 3 z1z bm (m+1) (D.put (.int .i64 e.id) (.held (.pointer (some ⟨kb,0,none⟩))))) (ht:W5.mapTurned w6 bm):∃ T' m' D',m'≤m+1∧RokI w b bv bm rc oN cN es ss gs (j+1) T' m' D' w6:=by
 have h5:TieOk W5 0 bm T m D (es.take j) (ss.take j):=h.tie.off hg5 h.web
 have hK5:=(hg5.block kb (ze hK) (fun e2=>by
  have e3:=zSi e2
  rw[e3,h.web] at hK
  have h5:=zSi hK
  injection h5 with _ h6 _
  exact absurd h6 (by decide))).trans hK
 have hO5:=zu (hO.kept hg5 (.inr (fun e=>z1p hO e h.web (by decide)))) (Nat.zero_le _)
 obtain⟨m',hm,h6⟩:=h5.new h.inv.eqn hidw hfd hK5 hO5 ho ht
 rw[← z6c he,← z6c hs] at h6
 obtain⟨es',clock,hbm,_⟩:=h5.tab.own
 have hgt:=ht.grown
 have hnb:∀ {q:Nat} {cs:Array Value} {t:TypeId},W5.heap[q]? = some (.cells cs t (0,0))→w6.heap[q]? = some (.cells cs t (0,0)):=fun {q cs t} hq=>(hgt.block q (ze hq) (fun e=>by
  have e3:=zSi e
  rw[e3,hbm] at hq
  cases hq)).trans hq
 have hb5:Bw w W5:=h.bel.grown hg5 h.bel.size (fun k hk=>by cases hk;exact hwv)
 have hb6:Bw w w6:=hb5.grown hgt hb5.size (fun k hk=>by cases hk;exact hwm)
 exact⟨_,m',_,hm,⟨hb6,hnb ((hg5.block b (ze h.room) (fun e=>hbv (zSi e))).trans h.room),hnb hV5,h6,hnx.1,hnx.2.1,hnx.2.2,hlst.below hb6⟩⟩

theorem zcm (oa:Zoa) (n cap:Nat) (es:List EvV) (so:Zoa) (sn sc:Nat) (ss:Zis) (go:Zoa) (gn gc:Nat) (gs:List Bool) (hf:FineE es) (hids:∀ e∈es,(Lit.int .i64 e.id).wf=true) (w:World) (hev:EvsAt w oa n cap es) (hst:StsAt w so sn sc ss) (hgs:BoolsAt w go gn gc gs) :
  Calls Tryz.prog 10 #[z6j oa n cap so sn sc go gn gc] w fun r w'=>r=.returned (.bool (z0x es ss gs))∧Below w.heap.size w w':=by
 have hn20:n≤1048576:=by rw[← hev.len];exact hf.len
 have hncap:n≤cap:=hev.room
 have hsm:=zNt hst.room hst.most
 have hgm:=zNt hgs.room hgs.most
 unfold maxLen at hsm hgm
 obtain⟨W0,hW0,hb0,hA0⟩:=bxN w #[.slice oa n cap,.slice so sn sc,.slice go gn gc] 32
 have A8:=ZZ hev
 have HST:=ZZ hst
 have Es:=ZZ hgs
 have CS:=ZZ hev.len
 have Dc:=ZZ hst.len
 have Ep:=ZZ hgs.len
 have BK:=ZZ hf
 have Bj:=ZZ hids
 have HW0:=ZZ hW0
 have HB0:=ZZ hb0
 have Au:=ZZ hA0
 have r0:=zb hA0 0 rfl
 have r1:=zb hA0 1 rfl
 have r2:=zb hA0 2 rfl
 clear hev hst hgs hf hids hW0 hb0 hA0
 by_cases hsn:sn=n
 ·by_cases hgn:gn=n
  ·have q1:((sn:Int) != (n:Int))=false:=by simp[hsn]
   have q2:((gn:Int) != (n:Int))=false:=by simp[hgn]
   have Dn:=ZZ hsn
   have KH:=ZZ hgn
   clear hsn hgn
   have Gb:=ZZ (zjw none 0 0 [] none 0 0 [] (.slice none 0 0) (by omega) (fun e h=>by simp at h) W0 (z9i W0) (z9h W0) ⟨_,_,_,rfl⟩)
   go_enter Tryz.func10,Tryz.ntmps10
   go_upto_region 1 with fail
   rw[HW0.o]
   clear HW0
   go_upto_region 4 with (go_at_call 31;(with_reducible refine Gb.o.mono ?_);rintro r w1 ⟨bm,T,m,D,rfl,hm,hbm,hW1,hb1⟩)
   obtain⟨W2,hW2,hb2,hV2⟩:=bxN w1 #[.slice none 0 0,.map (some bm)] 68
   rw[hW2]
   have hb02:Below W0.heap.size W0 W2:=zTr hb1 hb2
   have hA2:=(hb02.block _ (ze Au.o)).trans Au.o
   have hT2:TieOk W2 0 bm T m D (es.take 0) (ss.take 0):=by
    have h1:=hW1.on hb2
    exact⟨h1.tab,h1.no,fun k e h=>by simp[zf] at h⟩
   have hwv:w.heap.size<w1.heap.size:=zLt (ze Au.o) hb1.size
   generalize w1.heap.size=bv at hV2 hwv ⊢
   obtain⟨b,hbd⟩:∃ b,w.heap.size=b:=⟨_,rfl⟩
   rw[hbd] at hA2 r0 r1 r2 hwv
   simp only[hbd]
   have Aw:=ZZ hbd
   have HI0:=ZZ (show RokI w b bv bm #[.slice oa n cap,.slice so sn sc,.slice go gn gc] none 0 es ss gs 0 T m D W2 from ⟨zTr HB0.o hb02,hA2,hV2,hT2,RInv.nil,Built.nil,rfl,z9i W2⟩)
   have r0:=zb hA2 0 rfl
   have JJ:=ZZ hm
   have LH:=ZZ (show w.heap.size≤bm from zNt HB0.o.size hbm)
   have LJ:=ZZ hwv
   clear hW2 hb2 hV2 hb02 hA2 hT2 hW1 hb1 hbd q1 q2 r1 r2 Gb hm hbm hwv
   go_wp2_with fail
   go_loopw [29] (fun x wr=>∃ (j:Nat) (T:Int→Option Value) (m:Nat) (D:DataW Value) (oL:Zoa) (cL:Nat),x=.int .i64 (j:Int)∧j≤n∧m≤j∧RokI w b bv bm #[.slice oa n cap,.slice so sn sc,.slice go gn gc] oL cL es ss gs j T m D wr) (fun x _=>n - (intOf x).toNat)
   case atStart=>exact⟨0,_,_,_,_,_,rfl,Nat.zero_le _,JJ.o,HI0.o⟩
   case round =>
    obtain⟨j,T,m,D,oL,cL,rfl,hj,hm,hI⟩:=hrel
    have HI:=ZZ hI
    clear hI HI0 r0
    by_cases hlt:j<n
    ·have j0:(j:Int)<(n:Int):=by omega
     obtain⟨x,bx,qx,xa,xc,ya,yc,hx,hidx,hev0⟩:=(A8.o.below HI.o.bel).get Tryz.underlying29 z2t j hlt
     obtain⟨c0,c1,c2,c3,c4,c5,c6,c7,c8⟩:=hev0.cs
     obtain⟨Wa,hWa⟩:∃ Wa,wr.alloc (.cells (zk x.id x.kind x.sender x.user x.member x.depth (.slice xa x.levels.length xc) (.slice ya x.prev.length yc) x.text) 62)=Wa:=⟨_,rfl⟩
     have hba:Below wr.heap.size wr Wa:=by rw[← hWa];exact zBa
     have hEa:EB Wa wr.heap.size x.id x.kind x.sender x.user x.member x.depth (.slice xa x.levels.length xc) (.slice ya x.prev.length yc) x.text:=by rw[← hWa];exact EB.new _ _ _ _ _ _ _ _ _ _
     have DC:=ZZ hWa
     have hx20:=BK.o.one (zMg hx)
     have hwx:=Bj.o x (zMg hx)
     have BO:=ZZ (HI.o.on hba)
     have Et:=ZZ (zn3 oL j cL (es.take j) (ss.take j) bm 0 m T D x xa xc ya yc HI.o.inv HI.o.built hx20.2.1 hx20.1 hx20.2.2 hwx Wa BO.o.lst BO.o.tie (hev0.lev.below hba) (hev0.prv.below hba))
     have HX:=ZZ hx
     have Di:=ZZ hwx
     have Cg:=ZZ hEa
     have hpl:wr.heap.size<Wa.heap.size:=hEa.lt
     have LK:=ZZ (show b<wr.heap.size from by have h1:=HI.o.bel.size;have h2:=ze HI.o.room;exact h2)
     have CR:=ZZ (ze HI.o.web)
     clear hx hev0 hba hEa hWa hx20 hwx HI
     go_upto_region 7 with fail
     rw[DC.o]
     clear DC c0 c1 c2 c3 c4 c5 c6 c7 c8 hidx
     generalize wr.heap.size=be at Cg hpl LK CR ⊢
     have v0:=zb BO.o.web 0 rfl
     have v1:=zb BO.o.web 1 rfl
     obtain⟨a0,a1,a2,a3,a4,a5,a6,a7,a8⟩:=Cg.o.ev
     cases hok:z0l (es.take j) (ss.take j) x with
     | false =>
      have HF:=ZZ (BO.o.bad HX.o hok)
      have HT2:=ZZ (Et.o.mono (R':=fun r w'=>∃ v,r=.returned (.tuple #[.pointer v,.bool false])∧Below Wa.heap.size Wa w') (fun r w' h=>by obtain⟨v,h1,_,h3⟩:=h;rw[hok] at h1;exact⟨v,h1,h3⟩))
      clear hok Et
      go_upto_region 8 with (go_at_call 32;(with_reducible refine HT2.o.mono ?_);rintro r w3 ⟨v,rfl,hb3⟩)
      have HB3:=ZZ (zTr BO.o.bel hb3)
      clear hb3 v0 v1 a0 a1 a2 a3 a4 a5 a6 a7 a8
      go_quiet (fail)
      go_wp2_with fail
      go_ret
      exact⟨by rw[HF.o];rfl,below_drewN HB3.o _⟩
     | true =>
      have Ab:=ZZ hok
      have Ja:=ZZ (BO.o.unlike HX.o hok)
      have AO:=ZZ (fun h1 h2=>BO.o.next HX.o h1 h2 hok)
      have GD:=ZZ (zh8 BO.o.inv hok)
      have HT2:=ZZ (Et.o.mono (R':=fun r w'=>∃ kb xl xp vp za zc,r=.returned (.tuple #[.pointer (some ⟨kb,0,none⟩),.bool true])∧Wa.heap.size≤kb∧w'.heap[kb]? = some (.cells (z1o x xl xp vp (.slice za (z0s (es.take j) (ss.take j) x).length zc) true (allowed (es.take j) (befS (es.take j) (ss.take j) x.prev) x)) 76 (0,0))∧w'.ownsRow Wa.heap.size 79 2 (.slice za (z0s (es.take j) (ss.take j) x).length zc) (z0s (es.take j) (ss.take j) x).length ((z0s (es.take j) (ss.take j) x).flatMap z02)∧Below Wa.heap.size Wa w') (fun r w' h=>by
       obtain⟨v,h1,h2,h3⟩:=h
       rw[hok] at h1
       obtain⟨kb,xl,xp,vp,za,zc,rfl,h4,h5,h6⟩:=h2 hok
       exact⟨kb,xl,xp,vp,za,zc,h1,h4,h5,h6,h3⟩))
      clear hok Et
      generalize z0s (es.take j) (ss.take j) x=N at HT2 Ja AO GD
      generalize allowed (es.take j) (befS (es.take j) (ss.take j) x.prev) x=al at HT2 Ja AO
      go_upto_region 8 with (go_at_call 32;(with_reducible refine HT2.o.mono ?_);rintro r w3 ⟨kb,xl,xp,vp,za,zc,rfl,hkb,hK3,hO3,hb3⟩)
      have HI3:=ZZ (BO.o.on hb3)
      have BX:=ZZ (Cg.o.on hb3 Cg.o.lt)
      have Ao:=ZZ hK3
      have Aq:=ZZ hO3
      have JO:=ZZ hkb
      clear hkb hK3 hO3 hb3 v0 v1 a0 a1 a2 a3 a4 a5 a6 a7 a8 HT2 BO Cg
      have k12:w3.cell? ⟨kb,12,none⟩=some (.bool al):=zb Ao.o 12 rfl
      have k10:w3.cell? ⟨kb,10,none⟩=some (.slice za N.length zc):=zb Ao.o 10 rfl
      have r1:=zb HI3.o.room 1 rfl
      have r2:=zb HI3.o.room 2 rfl
      obtain⟨g,bg,qg,hg,hidg,hcg⟩:=(Es.o.below HI3.o.bel).get Tryz.underlying24 z7g j (by have h1:=KH.o;omega)
      obtain⟨s,bs,qs,sa,sc',hs,hids,hcs,hits⟩:=(HST.o.below HI3.o.bel).get Tryz.underlying30 z5l j (by have h1:=Dn.o;omega)
      have HG:=ZZ hg
      have HS:=ZZ hs
      have HIT:=ZZ hits
      clear hg hs hits
      obtain⟨_,_,heo,hio⟩:=z08 Aq.o
      cases heo
      have Ci:=ZZ (fun W (h:Below w3.heap.size w3 W)=>zb0 za N.length zc N sa s.length sc' s (by have h1:=GD.o;omega) W (hio.below h) (HIT.o.below h))
      clear hio
      have hNs:(eqB N s=true∧N=s)∨(eqB N s=false∧N≠s):=by
       rcases Classical.em (N=s) with h|h
       ·exact .inl ⟨z2e h,h⟩
       ·exact .inr ⟨z1k h,h⟩
      have HNs:=ZZ hNs
      clear hNs
      generalize eqB N s=qb at Ci HNs
      by_cases hga:g=al
      ·have qg2:(al != g)=false:=by rw[hga];simp
       have qg3:(al==g)=true:=by rw[hga];simp
       have Ed:=ZZ hga
       clear hga
       cases qb with
       | true =>
        refine zn (F:=Bw w3) (by kernel_rfl) (by kernel_rfl) zBr.drew ?_
        have hne:Nonempty (InW (Bw w3)):=⟨⟨_,zBr⟩⟩
        have m0:=ciW k12
        have m1:=ciW k10
        have m2:=ciW r1
        have m3:=ciW r2
        have m4:=ciW hcg
        have m5:=ciW hcs
        repeat (go_big_quiet_step (first
         | (go_at_call 33;(with_reducible refine (Ci.o _ (InW.h (F:=Bw w3) _)).mono ?_);rintro e' w2 ⟨rfl,hb2⟩;exact⟨rfl,iwW hb2,rfl⟩)))
        refine wpQuiet_nil ?_
        intro _ hw'
        obtain⟨nq,hw''⟩:=hw'
        subst hw''
        have HI4:=ZZ (HI3.o.on nq.h)
        have Db:=ZZ (BX.o.on nq.h BX.o.lt)
        have Cv:=ZZ ((nq.h.block kb (ze Ao.o)).trans Ao.o)
        have Bg:=ZZ (own_below Aq.o nq.h)
        have JX:=ZZ (zNt HI3.o.bel.size nq.h.size)
        clear hne m0 m1 m2 m3 m4 m5 k12 k10 r1 r2 hcg hcs hidg hids Ci HI3 BX Ao Aq HIT
        generalize nq.w=w4 at HI4 Db Cv Bg JX ⊢
        have KI:=ZZ (HNs.o.elim (fun h=>h.2) (fun h=>absurd h.1 (by decide)))
        obtain⟨a0,a1,a2,a3,a4,a5,a6,a7,a8⟩:=Db.o.ev
        have r0:=zb HI4.o.room 0 rfl
        have v0:=zb HI4.o.web 0 rfl
        have f0:=zh HI4.o.web 0
        have LM:=ZZ (A8.o.at_ j x HX.o)
        obtain⟨eb,eo,ua,uc,va,vc,heo,_⟩:=LM.o
        subst heo
        have hsl:=fun W=>zlf (⟨eb,eo,none⟩:Addr) n cap ((j:Int)+1) (j+1) (by omega) (by omega) rfl W
        go_upto_region 11 with fail
        obtain⟨W5,hW5⟩:∃ W5,w4.setCell ⟨bv,0,none⟩ (.slice (some ⟨eb,eo,none⟩) (j+1) cap)=W5:=⟨_,rfl⟩
        obtain⟨hV5,hg5⟩:=zx [.slice (some ⟨eb,eo,none⟩) (j+1) cap] w4 _ 0 HI4.o.web
        rw[show w4.setCells bv 0 [.slice (some ⟨eb,eo,none⟩) (j+1) cap]=W5 from hW5] at hV5 hg5
        rw[hW5]
        have LP:=ZZ hg5
        have HV5:=ZZ (show W5.heap[bv]? = some (.cells #[.slice (some ⟨eb,eo,none⟩) (j+1) cap,.map (some bm)] 68 (0,0)) from hV5)
        have Dl:=ZZ (HI4.o.tie.off hg5 HI4.o.web)
        have hE5:=(hg5.block be (ze Db.o) (fun e=>by have:=zSi e;have:=CR.o;omega)).trans Db.o
        have LQ:=ZZ (show EB W5 be x.id x.kind x.sender x.user x.member x.depth (.slice xa x.levels.length xc) (.slice ya x.prev.length yc) x.text from hE5)
        clear hW5 hV5 hg5 hE5 a0 a1 a2 a3 a4 a5 a6 a7 a8 r0 v0 f0 hsl Db
        obtain⟨a0,a1,a2,a3,a4,a5,a6,a7,a8⟩:=LQ.o.ev
        have v1:=zb HV5.o 1 rfl
        have hown1:=Dl.o.tab.own
        have hkey:=keyI Di.o
        have AR:=ZZ (A8.o.take (show j+1≤n by omega))
        go_wp2_with (at_mapUpdate;refine wpList_mapUpdate_in _ rfl _ _ _ 66 rfl 3 70 (Maps.int_keyed Tryz.underlying3) Tryz.underlying66 z1z bm m D rfl hown1 (by unfold maxLen;omega) _ _ (.int .i64 x.id) rfl rfl hkey (.held (.pointer (some ⟨kb,0,none⟩))) [] rfl ?_;intro w6 hown6 hturn6)
        have hbv2:=LJ.o
        have hbd2:=Aw.o
        obtain⟨T',m',D',hm',hR6⟩:=HI4.o.store (s:=N) (g:=al) HX.o (by rw[KI.o];exact HS.o) (AO.o (by rw[KI.o];exact HS.o) (by rw[← Ed.o];exact HG.o)) Di.o (zn6 (z4b Ab.o).2.1) (by omega) (by omega) LH.o LP.o HV5.o AR.o Cv.o Bg.o hown6 hturn6
        have CE:=ZZ hR6
        clear hown6 hturn6 hown1 hR6 hbv2 hbd2
        go_wp2_with fail
        go_roundw
        case rel=>exact⟨j+1,T',m',D',_,_,by go_num,by omega,by omega,CE.o⟩
        case measure=>simp[intOf];omega
       | false =>
        refine zn (F:=Bw w3) (by kernel_rfl) (by kernel_rfl) zBr.drew ?_
        have hne:Nonempty (InW (Bw w3)):=⟨⟨_,zBr⟩⟩
        have m0:=ciW k12
        have m1:=ciW k10
        have m2:=ciW r1
        have m3:=ciW r2
        have m4:=ciW hcg
        have m5:=ciW hcs
        repeat (go_big_quiet_step (first
         | (go_at_call 33;(with_reducible refine (Ci.o _ (InW.h (F:=Bw w3) _)).mono ?_);rintro e' w2 ⟨rfl,hb2⟩;exact⟨rfl,iwW hb2,rfl⟩)))
        refine wpQuiet_nil ?_
        intro _ hw'
        obtain⟨nq,hw''⟩:=hw'
        subst hw''
        have HI4:=ZZ (HI3.o.on nq.h)
        have Db:=ZZ (BX.o.on nq.h BX.o.lt)
        have Cv:=ZZ ((nq.h.block kb (ze Ao.o)).trans Ao.o)
        have Bg:=ZZ (own_below Aq.o nq.h)
        have JX:=ZZ (zNt HI3.o.bel.size nq.h.size)
        clear hne m0 m1 m2 m3 m4 m5 k12 k10 r1 r2 hcg hcs hidg hids Ci HI3 BX Ao Aq HIT
        generalize nq.w=w4 at HI4 Db Cv Bg JX ⊢
        have HF:=ZZ (Ja.o.1 s HS.o (fun e=>HNs.o.elim (fun h=>absurd h.1 (by decide)) (fun h=>h.2 e.symm)))
        go_wp2_with fail
        go_ret
        exact⟨by rw[HF.o];rfl,HI4.o.bel⟩
      ·have qg2:(al != g)=true:=by rw[bne_iff_ne];exact fun e=>hga e.symm
       have qg3:(al==g)=false:=by rw[beq_eq_false_iff_ne];exact fun e=>hga e.symm
       have HF:=ZZ (Ja.o.2 g HG.o hga)
       clear hga
       refine zn (F:=Bw w3) (by kernel_rfl) (by kernel_rfl) zBr.drew ?_
       have hne:Nonempty (InW (Bw w3)):=⟨⟨_,zBr⟩⟩
       have m0:=ciW k12
       have m1:=ciW k10
       have m2:=ciW r1
       have m3:=ciW r2
       have m4:=ciW hcg
       have m5:=ciW hcs
       repeat (go_big_quiet_step (first
        | (go_at_call 33;(with_reducible refine (Ci.o _ (InW.h (F:=Bw w3) _)).mono ?_);rintro e' w2 ⟨rfl,hb2⟩;exact⟨rfl,iwW hb2,rfl⟩)))
       refine wpQuiet_nil ?_
       intro _ hw'
       obtain⟨nq,hw''⟩:=hw'
       subst hw''
       have HI4:=ZZ (HI3.o.on nq.h)
       clear hne m0 m1 m2 m3 m4 m5
       generalize nq.w=w4 at HI4 ⊢
       go_wp2_with fail
       go_ret
       exact⟨by rw[HF.o];rfl,HI4.o.bel⟩
    ·have HAll:=ZZ (show z0x es ss gs=true from by
      have e1:=HI.o.go
      have e2:es.take j=es:=zTl (by rw[CS.o];omega)
      have e3:ss.take j=ss:=zTl (by rw[Dc.o];have h1:=Dn.o;omega)
      have e4:gs.take j=gs:=zTl (by rw[Ep.o];have h1:=KH.o;omega)
      have e5:es.drop j=[]:=List.drop_eq_nil_of_le (by rw[CS.o];omega)
      have h40:=HI.o.inv.len
      rw[e2,e3,e4,e5] at e1
      rw[e2] at h40
      exact zjl e1 h40)
     have j0:¬ ((j:Int)<(n:Int)):=by omega
     go_wp2_with fail
     go_ret
     exact⟨by rw[HAll.o];rfl,HI.o.bel⟩
  ·have q1:((sn:Int) != (n:Int))=false:=by simp[hsn]
   have q2:((gn:Int) != (n:Int))=true:=by rw[bne_iff_ne];omega
   have HF:=ZZ (zar (es:=es) (ss:=ss) (gs:=gs) (.inr (by rw[Ep.o,CS.o];exact hgn)))
   clear hsn hgn
   go_enter Tryz.func10,Tryz.ntmps10
   go_upto_region 1 with fail
   rw[HW0.o]
   clear HW0
   go_wp2_with fail
   go_ret
   exact⟨by rw[HF.o];rfl,HB0.o⟩
 ·have q1:((sn:Int) != (n:Int))=true:=by rw[bne_iff_ne];omega
  have HF:=ZZ (zar (es:=es) (ss:=ss) (gs:=gs) (.inl (by rw[Dc.o,CS.o];exact hsn)))
  clear hsn
  go_enter Tryz.func10,Tryz.ntmps10
  go_upto_region 1 with fail
  rw[HW0.o]
  clear HW0
  go_wp2_with fail
  go_ret
  exact⟨by rw[HF.o];rfl,HB0.o⟩

end Go.Proofs.YtfeebdcmlnapiaaGreat
