/-
  Walks.
-/
import Derived.Test.YtfeebdcmlnapiaaGreatTTwo1
import Derived.Test.YtfeebdcmlnapiaaGreatTSame0
set_option linter.unusedVariables false
set_option linter.unusedSimpArgs false
namespace Go.Proofs.YtfeebdcmlnapiaaGreat
open Go.RowKit Go.Maps P1 P5 P9 P11 P12 P14 P15 P16 P17 K

theorem TieOk.off {w w2:World} {B bm m:Nat} {T:Int→Option Value} {D:DataW Value} {es:List EvV} {sts:List St} (h:TieOk w B bm T m D es sts) {g:Nat} {cs:Array Value} (hg:w.grownBy w2 (some g)) (hb:w.heap[g]? = some (.cells cs 68 (0,0))):TieOk w2 B bm T m D es sts:=by
 obtain⟨es',clock,hbm,_⟩:=h.tab.own
 have hne:bm≠g:=by
  intro e
  rw[e,hb] at hbm
  cases hbm
 refine⟨h.tab.kept hg (fun e=>hne (Option.some.inj e)),h.no,fun k e he=>?_⟩
 obtain⟨q,xl,xp,vp,s,xa,xc,g',h1,h2,h3,h4⟩:=h.yes k e he
 refine⟨q,xl,xp,vp,s,xa,xc,g',h1,h2,(hg.block q (ze h3) (fun e=>?_)).trans h3,h4.kept hg (.inr (fun e=>z1p h4 e hb (by decide)))⟩
 have e2:=Option.some.inj e
 rw[e2,hb] at h3
 have h5:=Option.some.inj h3
 injection h5 with _ h6 _
 exact absurd h6 (by decide)

structure RokI (w:World) (b bv bm:Nat) (rc:Array Value) (oL:Option Addr) (cL:Nat) (es:List EvV) (ss:List St) (gs:List Bool) (j:Nat) (T:Int→Option Value) (m:Nat) (D:DataW Value) (wr:World):Prop where
 bel:Below w.heap.size w wr
 room:wr.heap[b]? = some (.cells rc 32 (0,0))
 web:wr.heap[bv]? = some (.cells #[.slice oL j cL,.map (some bm)] 68 (0,0))
 tie:TieOk wr 0 bm T m D (es.take j) (ss.take j)
 inv:RInv (es.take j) (ss.take j)
 built:Built (es.take j) (ss.take j)
 go:rmGo [] [] [] es=rmGo (es.take j) (ss.take j) (gs.take j) (es.drop j)
 lst:EvsAt wr oL j cL (es.take j)

theorem RokI.on {w:World} {b bv bm:Nat} {rc:Array Value} {oL:Option Addr} {cL:Nat} {es:List EvV} {ss:List St} {gs:List Bool} {j:Nat} {T:Int→Option Value} {m:Nat} {D:DataW Value} {wr w2:World} (h:RokI w b bv bm rc oL cL es ss gs j T m D wr) (hb:Below wr.heap.size wr w2):RokI w b bv bm rc oL cL es ss gs j T m D w2 :=
 ⟨h.bel.trans (hb.mono h.bel.size),(hb.block b (ze h.room)).trans h.room,(hb.block bv (ze h.web)).trans h.web,h.tie.on hb,h.inv,h.built,h.go,h.lst.below hb⟩

theorem z6c {α:Type} {l:List α} {j:Nat} {x:α} (h:l[j]? = some x):l.take (j+1)=l.take j++[x]:=by
 rw[List.take_add_one,h];rfl

theorem RokI.next {w:World} {b bv bm:Nat} {rc:Array Value} {oL:Option Addr} {cL:Nat} {es:List EvV} {ss:List St} {gs:List Bool} {j:Nat} {T:Int→Option Value} {m:Nat} {D:DataW Value} {wr:World} (h:RokI w b bv bm rc oL cL es ss gs j T m D wr) {e:EvV} (he:es[j]? = some e) (hs:ss[j]? = some (z0s (es.take j) (ss.take j) e)) (hg:gs[j]? = some (allowed (es.take j) (befS (es.take j) (ss.take j) e.prev) e)) (hok:z0l (es.take j) (ss.take j) e=true) :
  RInv (es.take (j+1)) (ss.take (j+1))∧Built (es.take (j+1)) (ss.take (j+1))∧rmGo [] [] [] es=rmGo (es.take (j+1)) (ss.take (j+1)) (gs.take (j+1)) (es.drop (j+1)):=by
 rw[z6c he,z6c hs,z6c hg]
 refine⟨h.inv.add hok (z99 (z4b hok).1),h.built.add hok,?_⟩
 rw[h.go,z8u he,if_pos hok]

theorem RokI.bad {w:World} {b bv bm:Nat} {rc:Array Value} {oL:Option Addr} {cL:Nat} {es:List EvV} {ss:List St} {gs:List Bool} {j:Nat} {T:Int→Option Value} {m:Nat} {D:DataW Value} {wr:World} (h:RokI w b bv bm rc oL cL es ss gs j T m D wr) {e:EvV} (he:es[j]? = some e) (hok:z0l (es.take j) (ss.take j) e=false):z0x es ss gs=false:=by
 refine z5y ?_
 rw[h.go,z8u he,if_neg (by rw[hok];decide)]

theorem RokI.unlike {w:World} {b bv bm:Nat} {rc:Array Value} {oL:Option Addr} {cL:Nat} {es:List EvV} {ss:List St} {gs:List Bool} {j:Nat} {T:Int→Option Value} {m:Nat} {D:DataW Value} {wr:World} (h:RokI w b bv bm rc oL cL es ss gs j T m D wr) {e:EvV} (he:es[j]? = some e) (hok:z0l (es.take j) (ss.take j) e=true):(∀ t,ss[j]? = some t→t≠z0s (es.take j) (ss.take j) e→z0x es ss gs=false)∧(∀ t,gs[j]? = some t→t≠allowed (es.take j) (befS (es.take j) (ss.take j) e.prev) e→z0x es ss gs=false):=by
 have h1:=h.go
 rw[z8u he,if_pos hok] at h1
 refine⟨fun t ht hne=>zfw h1 (List.getElem?_eq_some_iff.1 ht).1 (by rw[ht];exact fun e=>hne (Option.some.inj e)),fun t ht hne=>zh5 h1 (List.getElem?_eq_some_iff.1 ht).1 (by rw[ht];exact fun e=>hne (Option.some.inj e))⟩

theorem zh8 {es:List EvV} {sts:List St} (h:RInv es sts) {e:EvV} (hok:z0l es sts e=true):(z0s es sts e).length≤16:=by
 have h1:=h.add hok (z99 (z4b hok).1)
 exact (h1.st _ (List.mem_append_right _ List.mem_cons_self)).len

theorem zn6 {es:List EvV} {id:Int} (h:hasI es id<0):zf es id=none:=by
 cases hf:zf es id with
 | none=>rfl
 | some y =>
  obtain⟨k,h1,_⟩:=z5g hf
  omega

theorem RokI.store {w:World} {b bv bm:Nat} {rc:Array Value} {oL:Option Addr} {cL:Nat} {es:List EvV} {ss:List St} {gs:List Bool} {j:Nat} {T:Int→Option Value} {m:Nat} {D:DataW Value} {w4:World} (h:RokI w b bv bm rc oL cL es ss gs j T m D w4) {e:EvV} {s:St} {g:Bool} (he:es[j]? = some e) (hs:ss[j]? = some s) (hnx:RInv (es.take (j+1)) (ss.take (j+1))∧Built (es.take (j+1)) (ss.take (j+1))∧rmGo [] [] [] es=rmGo (es.take (j+1)) (ss.take (j+1)) (gs.take (j+1)) (es.drop (j+1))) (hidw:(Lit.int .i64 e.id).wf=true) (hfd:zf (es.take j) e.id=none) (hbv:b≠bv) (hwv:w.heap.size≤bv) (hwm:w.heap.size≤bm) {W5 w6:World} (hg5:w4.grownBy W5 (some bv)) {oN:Option Addr} {cN:Nat} (hV5:W5.heap[bv]? = some (.cells #[.slice oN (j+1) cN,.map (some bm)] 68 (0,0))) (hlst:EvsAt w oN (j+1) cN (es.take (j+1))) {kb:Nat} {xl xp vp:Value} {za:Option Addr} {zc:Nat} (hK:w4.heap[kb]? = some (.cells (z1o e xl xp vp (.slice za s.length zc) true g) 76 (0,0))) {B:Nat} (hO:w4.ownsRow B 79 2 (.slice za s.length zc) s.length (s.flatMap z02)) (ho:w6.ownsMap Tryz.prog 3 z1z bm (m+1) (D.put (.int .i64 e.id) (.held (.pointer (some ⟨kb,0,none⟩))))) (ht:W5.mapTurned w6 bm):∃ T' m' D',m'≤m+1∧RokI w b bv bm rc oN cN es ss gs (j+1) T' m' D' w6:=by
 have h5:TieOk W5 0 bm T m D (es.take j) (ss.take j):=h.tie.off hg5 h.web
 have hK5:=(hg5.block kb (ze hK) (fun e2=>by
  have e3:=Option.some.inj e2
  rw[e3,h.web] at hK
  have h5:=Option.some.inj hK
  injection h5 with _ h6 _
  exact absurd h6 (by decide))).trans hK
 have hO5:=zu (hO.kept hg5 (.inr (fun e=>z1p hO e h.web (by decide)))) (Nat.zero_le _)
 obtain⟨m',hm,h6⟩:=h5.new h.inv.eqn hidw hfd hK5 hO5 ho ht
 rw[← z6c he,← z6c hs] at h6
 obtain⟨es',clock,hbm,_⟩:=h5.tab.own
 have hgt:=ht.grown
 have hnb:∀ {q:Nat} {cs:Array Value} {t:TypeId},W5.heap[q]? = some (.cells cs t (0,0))→w6.heap[q]? = some (.cells cs t (0,0)):=fun {q cs t} hq=>(hgt.block q (ze hq) (fun e=>by
  have e3:=Option.some.inj e
  rw[e3,hbm] at hq
  cases hq)).trans hq
 have hb5:Below w.heap.size w W5:=h.bel.grown hg5 h.bel.size (fun k hk=>by cases hk;exact hwv)
 have hb6:Below w.heap.size w w6:=hb5.grown hgt hb5.size (fun k hk=>by cases hk;exact hwm)
 exact⟨_,m',_,hm,⟨hb6,hnb ((hg5.block b (ze h.room) (fun e=>hbv (Option.some.inj e))).trans h.room),hnb hV5,h6,hnx.1,hnx.2.1,hnx.2.2,hlst.below hb6⟩⟩

end Go.Proofs.YtfeebdcmlnapiaaGreat

namespace Go.Proofs.YtfeebdcmlnapiaaGreat
open Go.RowKit Go.Maps P1 P5 P9 P11 P12 P14 P15 P16 P17 K

set_option maxRecDepth 100000 in
set_option maxHeartbeats 8000000 in
theorem zcm (oa:Option Addr) (n cap:Nat) (es:List EvV) (so:Option Addr) (sn sc:Nat) (ss:List (List (Int × Int))) (go:Option Addr) (gn gc:Nat) (gs:List Bool) (hf:FineE es) (hids:∀ e∈es,(Lit.int .i64 e.id).wf=true) (w:World) (hev:EvsAt w oa n cap es) (hst:StsAt w so sn sc ss) (hgs:BoolsAt w go gn gc gs) :
  Calls Tryz.prog 10 #[z6j oa n cap so sn sc go gn gc] w fun r w'=>r=.returned (.bool (z0x es ss gs))∧Below w.heap.size w w':=by
 have hn20:n≤1048576:=by rw[← hev.len];exact hf.len
 have hncap:n≤cap:=hev.room
 have hsm:=Nat.le_trans hst.room hst.most
 have hgm:=Nat.le_trans hgs.room hgs.most
 unfold maxLen at hsm hgm
 obtain⟨W0,hW0,hb0,hA0⟩:=bxN w #[.slice oa n cap,.slice so sn sc,.slice go gn gc] 32
 have A8:=hide hev
 have HST:=hide hst
 have Es:=hide hgs
 have CS:=hide hev.len
 have Dc:=hide hst.len
 have Ep:=hide hgs.len
 have BK:=hide hf
 have Bj:=hide hids
 have HW0:=hide hW0
 have HB0:=hide hb0
 have Au:=hide hA0
 have r0:=zb hA0 0 rfl
 have r1:=zb hA0 1 rfl
 have r2:=zb hA0 2 rfl
 clear hev hst hgs hf hids hW0 hb0 hA0
 by_cases hsn:sn=n
 ·by_cases hgn:gn=n
  ·have q1:((sn:Int) != (n:Int))=false:=by simp[hsn]
   have q2:((gn:Int) != (n:Int))=false:=by simp[hgn]
   have Dn:=hide hsn
   have KH:=hide hgn
   clear hsn hgn
   have Gb:=hide (zjw none 0 0 [] none 0 0 [] (.slice none 0 0) (by omega) (fun e h=>by simp at h) W0 (z9i W0) (z9h W0) ⟨_,_,_,rfl⟩)
   go_enter Tryz.func10,Tryz.ntmps10
   go_upto_region 1 with fail
   rw[HW0.out]
   clear HW0
   go_upto_region 4 with (go_at_call 31;(with_reducible refine Gb.out.mono ?_);rintro r w1 ⟨bm,T,m,D,rfl,hm,hbm,hW1,hb1⟩)
   obtain⟨W2,hW2,hb2,hV2⟩:=bxN w1 #[.slice none 0 0,.map (some bm)] 68
   rw[hW2]
   have hb02:Below W0.heap.size W0 W2:=hb1.trans (hb2.mono hb1.size)
   have hA2:=(hb02.block _ (ze Au.out)).trans Au.out
   have hT2:TieOk W2 0 bm T m D (es.take 0) (ss.take 0):=by
    have h1:=hW1.on hb2
    exact⟨h1.tab,h1.no,fun k e h=>by simp[zf] at h⟩
   have hwv:w.heap.size<w1.heap.size:=Nat.lt_of_lt_of_le (ze Au.out) hb1.size
   generalize w1.heap.size=bv at hV2 hwv ⊢
   obtain⟨b,hbd⟩:∃ b,w.heap.size=b:=⟨_,rfl⟩
   rw[hbd] at hA2 r0 r1 r2 hwv
   simp only[hbd]
   have Aw:=hide hbd
   have HI0:=hide (show RokI w b bv bm #[.slice oa n cap,.slice so sn sc,.slice go gn gc] none 0 es ss gs 0 T m D W2 from ⟨HB0.out.trans (hb02.mono HB0.out.size),hA2,hV2,hT2,RInv.nil,Built.nil,rfl,z9i W2⟩)
   have r0:=zb hA2 0 rfl
   have JJ:=hide hm
   have LH:=hide (show w.heap.size≤bm from Nat.le_trans HB0.out.size hbm)
   have LJ:=hide hwv
   clear hW2 hb2 hV2 hb02 hA2 hT2 hW1 hb1 hbd q1 q2 r1 r2 Gb hm hbm hwv
   go_wp2_with fail
   go_loopw [29] (fun x wr=>∃ (j:Nat) (T:Int→Option Value) (m:Nat) (D:DataW Value) (oL:Option Addr) (cL:Nat),x=.int .i64 (j:Int)∧j≤n∧m≤j∧RokI w b bv bm #[.slice oa n cap,.slice so sn sc,.slice go gn gc] oL cL es ss gs j T m D wr) (fun x _=>n - (intOf x).toNat)
   case atStart=>exact⟨0,_,_,_,_,_,rfl,Nat.zero_le _,JJ.out,HI0.out⟩
   case round =>
    obtain⟨j,T,m,D,oL,cL,rfl,hj,hm,hI⟩:=hrel
    have HI:=hide hI
    clear hI HI0 r0
    by_cases hlt:j<n
    ·have j0:(j:Int)<(n:Int):=by omega
     obtain⟨x,bx,qx,xa,xc,ya,yc,hx,hidx,hev0⟩:=(A8.out.below HI.out.bel).get Tryz.underlying29 z2t j hlt
     obtain⟨c0,c1,c2,c3,c4,c5,c6,c7,c8⟩:=hev0.cs
     obtain⟨Wa,hWa⟩:∃ Wa,wr.alloc (.cells (zk x.id x.kind x.sender x.user x.member x.depth (.slice xa x.levels.length xc) (.slice ya x.prev.length yc) x.text) 62)=Wa:=⟨_,rfl⟩
     have hba:Below wr.heap.size wr Wa:=by rw[← hWa];exact (Below.refl _ _).alloc (Nat.le_refl _) _
     have hEa:EB Wa wr.heap.size x.id x.kind x.sender x.user x.member x.depth (.slice xa x.levels.length xc) (.slice ya x.prev.length yc) x.text:=by rw[← hWa];exact EB.new _ _ _ _ _ _ _ _ _ _
     have DC:=hide hWa
     have hx20:=BK.out.one (List.mem_of_getElem? hx)
     have hwx:=Bj.out x (List.mem_of_getElem? hx)
     have BO:=hide (HI.out.on hba)
     have Et:=hide (zn3 oL j cL (es.take j) (ss.take j) bm 0 m T D x xa xc ya yc HI.out.inv HI.out.built hx20.2.1 hx20.1 hx20.2.2 hwx Wa BO.out.lst BO.out.tie (hev0.lev.below hba) (hev0.prv.below hba))
     have HX:=hide hx
     have Di:=hide hwx
     have Cg:=hide hEa
     have hpl:wr.heap.size<Wa.heap.size:=hEa.lt
     have LK:=hide (show b<wr.heap.size from by have h1:=HI.out.bel.size;have h2:=ze HI.out.room;exact h2)
     have CR:=hide (ze HI.out.web)
     clear hx hev0 hba hEa hWa hx20 hwx HI
     go_upto_region 7 with fail
     rw[DC.out]
     clear DC c0 c1 c2 c3 c4 c5 c6 c7 c8 hidx
     generalize wr.heap.size=be at Cg hpl LK CR ⊢
     have v0:=zb BO.out.web 0 rfl
     have v1:=zb BO.out.web 1 rfl
     obtain⟨a0,a1,a2,a3,a4,a5,a6,a7,a8⟩:=Cg.out.ev
     cases hok:z0l (es.take j) (ss.take j) x with
     | false =>
      have HF:=hide (BO.out.bad HX.out hok)
      have HT2:=hide (Et.out.mono (R':=fun r w'=>∃ v,r=.returned (.tuple #[.pointer v,.bool false])∧Below Wa.heap.size Wa w') (fun r w' h=>by obtain⟨v,h1,_,h3⟩:=h;rw[hok] at h1;exact⟨v,h1,h3⟩))
      clear hok Et
      go_upto_region 8 with (go_at_call 32;(with_reducible refine HT2.out.mono ?_);rintro r w3 ⟨v,rfl,hb3⟩)
      have HB3:=hide (BO.out.bel.trans (hb3.mono BO.out.bel.size))
      clear hb3 v0 v1 a0 a1 a2 a3 a4 a5 a6 a7 a8
      go_quiet (fail)
      go_wp2_with fail
      go_ret
      exact⟨by rw[HF.out];rfl,below_drewN HB3.out _⟩
     | true =>
      have Ab:=hide hok
      have Ja:=hide (BO.out.unlike HX.out hok)
      have AO:=hide (fun h1 h2=>BO.out.next HX.out h1 h2 hok)
      have GD:=hide (zh8 BO.out.inv hok)
      have HT2:=hide (Et.out.mono (R':=fun r w'=>∃ kb xl xp vp za zc,r=.returned (.tuple #[.pointer (some ⟨kb,0,none⟩),.bool true])∧Wa.heap.size≤kb∧w'.heap[kb]? = some (.cells (z1o x xl xp vp (.slice za (z0s (es.take j) (ss.take j) x).length zc) true (allowed (es.take j) (befS (es.take j) (ss.take j) x.prev) x)) 76 (0,0))∧w'.ownsRow Wa.heap.size 79 2 (.slice za (z0s (es.take j) (ss.take j) x).length zc) (z0s (es.take j) (ss.take j) x).length ((z0s (es.take j) (ss.take j) x).flatMap z02)∧Below Wa.heap.size Wa w') (fun r w' h=>by
       obtain⟨v,h1,h2,h3⟩:=h
       rw[hok] at h1
       obtain⟨kb,xl,xp,vp,za,zc,rfl,h4,h5,h6⟩:=h2 hok
       exact⟨kb,xl,xp,vp,za,zc,h1,h4,h5,h6,h3⟩))
      clear hok Et
      generalize z0s (es.take j) (ss.take j) x=N at HT2 Ja AO GD
      generalize allowed (es.take j) (befS (es.take j) (ss.take j) x.prev) x=al at HT2 Ja AO
      go_upto_region 8 with (go_at_call 32;(with_reducible refine HT2.out.mono ?_);rintro r w3 ⟨kb,xl,xp,vp,za,zc,rfl,hkb,hK3,hO3,hb3⟩)
      have HI3:=hide (BO.out.on hb3)
      have BX:=hide (Cg.out.on hb3 Cg.out.lt)
      have Ao:=hide hK3
      have Aq:=hide hO3
      have JO:=hide hkb
      clear hkb hK3 hO3 hb3 v0 v1 a0 a1 a2 a3 a4 a5 a6 a7 a8 HT2 BO Cg
      have k12:w3.cell? ⟨kb,12,none⟩=some (.bool al):=zb Ao.out 12 rfl
      have k10:w3.cell? ⟨kb,10,none⟩=some (.slice za N.length zc):=zb Ao.out 10 rfl
      have r1:=zb HI3.out.room 1 rfl
      have r2:=zb HI3.out.room 2 rfl
      obtain⟨g,bg,qg,hg,hidg,hcg⟩:=(Es.out.below HI3.out.bel).get Tryz.underlying24 z7g j (by have h1:=KH.out;omega)
      obtain⟨s,bs,qs,sa,sc',hs,hids,hcs,hits⟩:=(HST.out.below HI3.out.bel).get Tryz.underlying30 z5l j (by have h1:=Dn.out;omega)
      have HG:=hide hg
      have HS:=hide hs
      have HIT:=hide hits
      clear hg hs hits
      obtain⟨_,_,heo,hio⟩:=z08 Aq.out
      cases heo
      have Ci:=hide (fun W (h:Below w3.heap.size w3 W)=>zb0 za N.length zc N sa s.length sc' s (by have h1:=GD.out;omega) W (hio.below h) (HIT.out.below h))
      clear hio
      have hNs:(eqB N s=true∧N=s)∨(eqB N s=false∧N≠s):=by
       rcases Classical.em (N=s) with h|h
       ·exact .inl ⟨z2e h,h⟩
       ·exact .inr ⟨z1k h,h⟩
      have HNs:=hide hNs
      clear hNs
      generalize eqB N s=qb at Ci HNs
      by_cases hga:g=al
      ·have qg2:(al != g)=false:=by rw[hga];simp
       have qg3:(al==g)=true:=by rw[hga];simp
       have Ed:=hide hga
       clear hga
       cases qb with
       | true =>
        refine zn (F:=Bw w3) (by kernel_rfl) (by kernel_rfl) (Below.refl _ _).drew ?_
        have hne:Nonempty (InW (Bw w3)):=⟨⟨_,Below.refl _ _⟩⟩
        have m0:=ciW k12
        have m1:=ciW k10
        have m2:=ciW r1
        have m3:=ciW r2
        have m4:=ciW hcg
        have m5:=ciW hcs
        repeat (go_big_quiet_step (first
         | (go_at_call 33;(with_reducible refine (Ci.out _ (InW.h (F:=Bw w3) _)).mono ?_);rintro e' w2 ⟨rfl,hb2⟩;exact⟨rfl,iwW hb2,rfl⟩)))
        refine wpQuiet_nil ?_
        intro _ hw'
        obtain⟨nq,hw''⟩:=hw'
        subst hw''
        have HI4:=hide (HI3.out.on nq.h)
        have Db:=hide (BX.out.on nq.h BX.out.lt)
        have Cv:=hide ((nq.h.block kb (ze Ao.out)).trans Ao.out)
        have Bg:=hide (own_below Aq.out nq.h)
        have JX:=hide (Nat.le_trans HI3.out.bel.size nq.h.size)
        clear hne m0 m1 m2 m3 m4 m5 k12 k10 r1 r2 hcg hcs hidg hids Ci HI3 BX Ao Aq HIT
        generalize nq.w=w4 at HI4 Db Cv Bg JX ⊢
        have KI:=hide (HNs.out.elim (fun h=>h.2) (fun h=>absurd h.1 (by decide)))
        obtain⟨a0,a1,a2,a3,a4,a5,a6,a7,a8⟩:=Db.out.ev
        have r0:=zb HI4.out.room 0 rfl
        have v0:=zb HI4.out.web 0 rfl
        have f0:=zh HI4.out.web 0
        have LM:=hide (A8.out.at_ j x HX.out)
        obtain⟨eb,eo,ua,uc,va,vc,heo,_⟩:=LM.out
        subst heo
        have hsl:=fun W=>zlf (⟨eb,eo,none⟩:Addr) n cap ((j:Int)+1) (j+1) (by omega) (by omega) rfl W
        go_upto_region 11 with fail
        obtain⟨W5,hW5⟩:∃ W5,w4.setCell ⟨bv,0,none⟩ (.slice (some ⟨eb,eo,none⟩) (j+1) cap)=W5:=⟨_,rfl⟩
        obtain⟨hV5,hg5⟩:=zx [.slice (some ⟨eb,eo,none⟩) (j+1) cap] w4 _ 0 HI4.out.web
        rw[show w4.setCells bv 0 [.slice (some ⟨eb,eo,none⟩) (j+1) cap]=W5 from hW5] at hV5 hg5
        rw[hW5]
        have LP:=hide hg5
        have HV5:=hide (show W5.heap[bv]? = some (.cells #[.slice (some ⟨eb,eo,none⟩) (j+1) cap,.map (some bm)] 68 (0,0)) from hV5)
        have Dl:=hide (HI4.out.tie.off hg5 HI4.out.web)
        have hE5:=(hg5.block be (ze Db.out) (fun e=>by have:=Option.some.inj e;have:=CR.out;omega)).trans Db.out
        have LQ:=hide (show EB W5 be x.id x.kind x.sender x.user x.member x.depth (.slice xa x.levels.length xc) (.slice ya x.prev.length yc) x.text from hE5)
        clear hW5 hV5 hg5 hE5 a0 a1 a2 a3 a4 a5 a6 a7 a8 r0 v0 f0 hsl Db
        obtain⟨a0,a1,a2,a3,a4,a5,a6,a7,a8⟩:=LQ.out.ev
        have v1:=zb HV5.out 1 rfl
        have hown1:=Dl.out.tab.own
        have hkey:=keyI Di.out
        have AR:=hide (A8.out.take (show j+1≤n by omega))
        go_wp2_with (at_mapUpdate;refine wpList_mapUpdate_in _ rfl _ _ _ 66 rfl 3 70 (Maps.int_keyed Tryz.underlying3) Tryz.underlying66 z1z bm m D rfl hown1 (by unfold maxLen;omega) _ _ (.int .i64 x.id) rfl rfl hkey (.held (.pointer (some ⟨kb,0,none⟩))) [] rfl ?_;intro w6 hown6 hturn6)
        have hbv2:=LJ.out
        have hbd2:=Aw.out
        obtain⟨T',m',D',hm',hR6⟩:=HI4.out.store (s:=N) (g:=al) HX.out (by rw[KI.out];exact HS.out) (AO.out (by rw[KI.out];exact HS.out) (by rw[← Ed.out];exact HG.out)) Di.out (zn6 (z4b Ab.out).2.1) (by omega) (by omega) LH.out LP.out HV5.out AR.out Cv.out Bg.out hown6 hturn6
        have CE:=hide hR6
        clear hown6 hturn6 hown1 hR6 hbv2 hbd2
        go_wp2_with fail
        go_roundw
        case rel=>exact⟨j+1,T',m',D',_,_,by go_num,by omega,by omega,CE.out⟩
        case measure=>simp[intOf];omega
       | false =>
        refine zn (F:=Bw w3) (by kernel_rfl) (by kernel_rfl) (Below.refl _ _).drew ?_
        have hne:Nonempty (InW (Bw w3)):=⟨⟨_,Below.refl _ _⟩⟩
        have m0:=ciW k12
        have m1:=ciW k10
        have m2:=ciW r1
        have m3:=ciW r2
        have m4:=ciW hcg
        have m5:=ciW hcs
        repeat (go_big_quiet_step (first
         | (go_at_call 33;(with_reducible refine (Ci.out _ (InW.h (F:=Bw w3) _)).mono ?_);rintro e' w2 ⟨rfl,hb2⟩;exact⟨rfl,iwW hb2,rfl⟩)))
        refine wpQuiet_nil ?_
        intro _ hw'
        obtain⟨nq,hw''⟩:=hw'
        subst hw''
        have HI4:=hide (HI3.out.on nq.h)
        have Db:=hide (BX.out.on nq.h BX.out.lt)
        have Cv:=hide ((nq.h.block kb (ze Ao.out)).trans Ao.out)
        have Bg:=hide (own_below Aq.out nq.h)
        have JX:=hide (Nat.le_trans HI3.out.bel.size nq.h.size)
        clear hne m0 m1 m2 m3 m4 m5 k12 k10 r1 r2 hcg hcs hidg hids Ci HI3 BX Ao Aq HIT
        generalize nq.w=w4 at HI4 Db Cv Bg JX ⊢
        have HF:=hide (Ja.out.1 s HS.out (fun e=>HNs.out.elim (fun h=>absurd h.1 (by decide)) (fun h=>h.2 e.symm)))
        go_wp2_with fail
        go_ret
        exact⟨by rw[HF.out];rfl,HI4.out.bel⟩
      ·have qg2:(al != g)=true:=by rw[bne_iff_ne];exact fun e=>hga e.symm
       have qg3:(al==g)=false:=by rw[beq_eq_false_iff_ne];exact fun e=>hga e.symm
       have HF:=hide (Ja.out.2 g HG.out hga)
       clear hga
       refine zn (F:=Bw w3) (by kernel_rfl) (by kernel_rfl) (Below.refl _ _).drew ?_
       have hne:Nonempty (InW (Bw w3)):=⟨⟨_,Below.refl _ _⟩⟩
       have m0:=ciW k12
       have m1:=ciW k10
       have m2:=ciW r1
       have m3:=ciW r2
       have m4:=ciW hcg
       have m5:=ciW hcs
       repeat (go_big_quiet_step (first
        | (go_at_call 33;(with_reducible refine (Ci.out _ (InW.h (F:=Bw w3) _)).mono ?_);rintro e' w2 ⟨rfl,hb2⟩;exact⟨rfl,iwW hb2,rfl⟩)))
       refine wpQuiet_nil ?_
       intro _ hw'
       obtain⟨nq,hw''⟩:=hw'
       subst hw''
       have HI4:=hide (HI3.out.on nq.h)
       clear hne m0 m1 m2 m3 m4 m5
       generalize nq.w=w4 at HI4 ⊢
       go_wp2_with fail
       go_ret
       exact⟨by rw[HF.out];rfl,HI4.out.bel⟩
    ·have HAll:=hide (show z0x es ss gs=true from by
      have e1:=HI.out.go
      have e2:es.take j=es:=List.take_of_length_le (by rw[CS.out];omega)
      have e3:ss.take j=ss:=List.take_of_length_le (by rw[Dc.out];have h1:=Dn.out;omega)
      have e4:gs.take j=gs:=List.take_of_length_le (by rw[Ep.out];have h1:=KH.out;omega)
      have e5:es.drop j=[]:=List.drop_eq_nil_of_le (by rw[CS.out];omega)
      have h40:=HI.out.inv.len
      rw[e2,e3,e4,e5] at e1
      rw[e2] at h40
      exact zjl e1 h40)
     have j0:¬ ((j:Int)<(n:Int)):=by omega
     go_wp2_with fail
     go_ret
     exact⟨by rw[HAll.out];rfl,HI.out.bel⟩
  ·have q1:((sn:Int) != (n:Int))=false:=by simp[hsn]
   have q2:((gn:Int) != (n:Int))=true:=by rw[bne_iff_ne];omega
   have HF:=hide (zar (es:=es) (ss:=ss) (gs:=gs) (.inr (by rw[Ep.out,CS.out];exact hgn)))
   clear hsn hgn
   go_enter Tryz.func10,Tryz.ntmps10
   go_upto_region 1 with fail
   rw[HW0.out]
   clear HW0
   go_wp2_with fail
   go_ret
   exact⟨by rw[HF.out];rfl,HB0.out⟩
 ·have q1:((sn:Int) != (n:Int))=true:=by rw[bne_iff_ne];omega
  have HF:=hide (zar (es:=es) (ss:=ss) (gs:=gs) (.inl (by rw[Dc.out,CS.out];exact hsn)))
  clear hsn
  go_enter Tryz.func10,Tryz.ntmps10
  go_upto_region 1 with fail
  rw[HW0.out]
  clear HW0
  go_wp2_with fail
  go_ret
  exact⟨by rw[HF.out];rfl,HB0.out⟩

end Go.Proofs.YtfeebdcmlnapiaaGreat
