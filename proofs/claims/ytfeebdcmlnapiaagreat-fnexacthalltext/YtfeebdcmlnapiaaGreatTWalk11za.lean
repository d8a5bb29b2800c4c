/-
  Walks.
-/
import Derived.Test.YtfeebdcmlnapiaaGreatTOrd3
open Go.Value renaming int->J
open Go.IntKind renaming i64->Y
set_option maxRecDepth 100000
set_option maxHeartbeats 4000000
set_option linter.unusedVariables false
set_option linter.unusedSimpArgs false
namespace Go.Proofs.YtfeebdcmlnapiaaGreat
open Go.RowKit P1 P5 P9 P11 P12 P14 P15 P16 P17 K
structure zhw (es:List EvV) (s:St) (left:Zin) (B:Nat) (w:World) (bt:Nat) (near:Int→Zin) (T:Int→Option Value) (m:Nat) (D:DataW Value) (q:Int→Nat) (vb:Int→Value):Prop where
 tab:VTab w bt T m D
 small:m≤1048576
 has:∀ k,(T k).isSome=true↔k∈left
 nr:∀ b∈left,z6v es left b (near b)
 tu:TurnsOk w T left (wtI es s) (z1l near []) q vb
 rows:∀ z∈left,w.ownsRow B 3 1 (vb z) (behL near left z).length ((behL near left z).map z03)
 qlo:∀ z∈left,B≤q z

def zon (es:List EvV) (s:St) (left:Zin) (w:World) (r:Ending) (w':World):Prop:=∃ bk bt near T m D q vb,r=.returned (.agg #[.map (some bk),.map (some bt)])∧zhw es s left w.heap.size w' bt near T m D q vb∧Below w.heap.size w w'

theorem zmu {w w':World} {b g:Nat} {oa:Zoa} {n cap:Nat} {es:List EvV} {s:St} (h:Scn w b oa n cap es s) (hg:w.grownBy w' (some g)) (hne:b≠g) (he:EvsAt w' oa n cap es):Scn w' b oa n cap es s:=by
 obtain⟨⟨D,k,hk,hT⟩,_⟩:=h
 exact⟨⟨D,k,hk,hT.kept hg (fun e=>hne (zSi e))⟩,he⟩

theorem zfi {w0 w w':World} {b g:Nat} {es:List EvV} (h:KnTab w0 w b es) (hg:w.grownBy w' (some g)) (hne:b≠g):KnTab w0 w' b es:=by
 obtain⟨F,m,D,h1,h2,h3⟩:=h
 exact⟨F,m,D,h1,h2.kept hg (fun e=>hne (zSi e)),h3⟩

theorem zo9 {w0 w w1:World} {b B:Nat} {es:List EvV} {T:Int→Option Value} {left:Zin} {wt:Int→Wt} {wn:Int→Nat} {q:Int→Nat} {vb:Int→Value} (h:KnTab w0 w b es) (ht:TurnsOk w T left wt wn q vb) (hB:w.heap.size≤B) (hf:TuFr B left q w w1):KnTab w0 w1 b es:=by
 obtain⟨F,m,D,h1,h2,h3⟩:=h
 exact⟨F,m,D,h1,h2.tu ht hB hf,h3⟩

theorem zoa {w0 w:World} {b:Nat} {es:List EvV} (h:KnTab w0 w b es):b<w.heap.size:=by
 obtain⟨F,m,D,h1,h2,h3⟩:=h
 exact h2.lt

theorem zmv {es:List EvV} {s:St} {id:Int} {e:EvV} (h:zf es id=some e):wtOf es s e=wtI es s id:=by
 unfold wtI evOf
 rw[h]
 rfl

theorem zj5 (oa:Zoa) (n cap:Nat) (es:List EvV) (ob:Zoa) (m cb:Nat) (s:St) (hm20:m≤1048576) (hws:∀ y∈s,z3d y) (w:World) (hev:EvsAt w oa n cap es) (hit:ItemsAt w ob m cb s) :
  Calls Tryz.prog 138 #[.slice oa n cap,.slice ob m cb] w fun r w'=>∃ b,r=.returned (scv b oa n cap)∧Scn w' b oa n cap es s∧Below w.heap.size w w'∧w.heap.size≤b:=by
 obtain⟨W0,hW0,hb0,hR0⟩:=bxN w #[.map none,.slice none 0 0] 182
 have HK:=ZZ (z4j ob m cb s hm20 W0 (hit.below hb0) hws)
 have A8:=ZZ hev
 have HW0:=ZZ hW0
 have Ad:=ZZ hR0
 have HB0:=ZZ hb0
 clear hW0 hR0 hb0 hev hit
 go_enter Tryz.func138,Tryz.ntmps138
 go_upto_region 1 with fail
 rw[HW0.o]
 clear HW0
 go_wp2_with fail
 refine HK.o.mono ?_
 rintro e w1 ⟨rfl,hids,hb1⟩
 have hR1:=(hb1.block w.heap.size (ze Ad.o)).trans Ad.o
 have q0:=zb hR1 0 rfl
 have q1:=zb hR1 1 rfl
 have y0:=zh hR1 0
 have y1:=zh hR1 1
 have HR1:=ZZ hR1
 have Bj:=ZZ hids
 have HB1:=ZZ hb1
 clear hR1 hids hb1
 go_wp2_with fail
 obtain⟨w9,hw9⟩:∃ w9,((w1.setCell ⟨w.heap.size,0,none⟩ (.map (some W0.heap.size))).setCell ⟨w.heap.size,1,none⟩ (.slice oa n cap))=w9:=⟨_,rfl⟩
 obtain⟨hr,hg9⟩:=zx [.map (some W0.heap.size),.slice oa n cap] w1 _ 0 HR1.o
 rw[show w1.setCells w.heap.size 0 [.map (some W0.heap.size),.slice oa n cap]=w9 from hw9] at hr hg9
 rw[hw9]
 clear q0 q1
 have q0:w9.cell? ⟨w.heap.size,0,none⟩=some (.map (some W0.heap.size)):=zb hr 0 rfl
 have q1:w9.cell? ⟨w.heap.size,1,none⟩=some (.slice oa n cap):=zb hr 1 rfl
 refine bodyPost_ret (v:=scv W0.heap.size oa n cap) (by simp[results,Tryz.results138,go_sem,q0,q1]) rfl ?_
 have hne:some W0.heap.size≠some w.heap.size:=fun e=>by have:=zSi e;have:=ze Ad.o;omega
 obtain⟨D,k,hk,hT⟩:=Bj.o
 have hlow:Below w.heap.size w w9:=(zTr HB0.o HB1.o).grown hg9 (zNt HB0.o.size HB1.o.size) (fun q hq=>by cases hq;exact Nat.le_refl _)
 exact⟨W0.heap.size,rfl,⟨⟨D,k,hk,hT.kept hg9 hne⟩,A8.o.below hlow⟩,hlow,HB0.o.size⟩

theorem zfj {B:Nat} {W0 w1 wr:World} {left:Zin} {q:Int→Nat} (h:Below B W0 w1) (hf:TuFr w1.heap.size left q w1 wr) (hB:B≤w1.heap.size) (hq:∀ z∈left,B≤q z):Below B W0 wr :=
 ⟨hf.os.trans h.os,hf.tape.trans h.tape,hf.output.trans h.output,zNt h.size hf.size,fun k hk=>(hf.block k (zLt hk hB) (fun z hz e=>by have:=hq z hz;omega)).trans (h.block k hk)⟩

structure QSt0 (w W0 W5:World) (qb bk bt sb ib:Nat) (oa:Zoa) (n cap:Nat) (es:List EvV) (s:St):Prop where
 res:W5.heap[w.heap.size]? = some (.cells #[.map none,.map none] 234 (0,0))
 qv:W5.heap[qb]? = some (.cells #[.map (some bk),.map (some bt)] 234 (0,0))
 sv:W5.heap[sb]? = some (.cells #[.map (some ib),.slice oa n cap] 182 (0,0))
 kn:KnTab W0 W5 bk es
 tab:VTab W5 bt (fun _=>none) 0 (.map [])
 sc:Scn W5 ib oa n cap es s
 ev:EvsAt W0 oa n cap es
 b0:Below W0.heap.size W0 W5
 low:w.heap.size<W0.heap.size
 qlo:W0.heap.size≤qb
 tlo:W0.heap.size≤bt
 kt:bk≠bt
 it:ib≠bt
 st:sb≠bt

theorem zgu (oa:Zoa) (n cap:Nat) (es:List EvV) (ob:Zoa) (m cb:Nat) (s:St) (oc:Zoa) (p cc:Nat) (ids:Zin) (hn:n≤100) (hids:∀ e∈es,(Lit.int .i64 e.id).wf=true) (hprev:∀ e∈es,e.prev.length≤3) (hm20:m≤1048576) (hws:∀ y∈s,z3d y) (hp:p≤1048576) (w:World) (hev:EvsAt w oa n cap es) (hit:ItemsAt w ob m cb s) (hpt:IntsAt w oc p cc ids) :
  Calls Tryz.prog 204 #[.slice oa n cap,.slice ob m cb,.slice oc p cc] w (zon es s (P15.leftOf es ids []) w):=by
 obtain⟨W0,hW0⟩:∃ W0,w.alloc (.cells #[.map none,.map none] 234)=W0:=⟨_,rfl⟩
 have hb0:Below w.heap.size w W0:=by rw[← hW0];exact zBa
 have hs0:W0.heap.size=w.heap.size+1:=by rw[← hW0];simp
 have hR0:W0.heap[w.heap.size]? = some (.cells #[.map none,.map none] 234 (0,0)):=by rw[← hW0];exact heap_alloc_new _ _
 have hel:es.length≤100:=by rw[hev.len];exact hn
 have CJ:=ZZ (zci oa n cap es (by omega) hids W0 (hev.below hb0))
 have hmm:∀ W,(Instr.makeMap 232 none).run Tryz.prog W=.ok (.map (some W.heap.size)) (W.alloc (.map #[] 0)):=fun W=>by
  simp[Instr.makeMap,Sem.run_bind,run_underlying Tryz.underlying232 W,asInt,Result.andThen,newObj]
  try rfl
 have Cn:=ZZ hpt.len
 have Bv:=ZZ hpt.fits
 have Dz:=ZZ (hpt.below hb0)
 have HIT:=ZZ (hit.below hb0)
 have A8:=ZZ (hev.below hb0)
 have HW0:=ZZ hW0
 have Ad:=ZZ hR0
 have HB0:=ZZ hb0
 have Ak:=ZZ hs0
 have Eg:=ZZ hprev
 have Dx:=ZZ hws
 have CS:=ZZ hel
 clear hW0 hR0 hb0 hs0 hev hit hpt hprev hids hws hel
 go_enter Tryz.func204,Tryz.ntmps204
 go_upto_region 1 with fail
 rw[HW0.o]
 clear HW0
 go_upto_region 2 with (go_at_call 225;(with_reducible refine CJ.o.mono ?_);rintro r w1 ⟨rfl,hk1,hb1⟩)
 obtain⟨W3,hW3⟩:∃ W3,(w1.alloc (.map #[] 0)).alloc (.cells #[.map (some W0.heap.size),.map (some w1.heap.size)] 234)=W3:=⟨_,rfl⟩
 rw[hW3]
 have hb13:Below w1.heap.size w1 W3:=by rw[← hW3];exact (zBa).alloc (by simp) _
 have hq3:W3.heap[w1.heap.size+1]? = some (.cells #[.map (some W0.heap.size),.map (some w1.heap.size)] 234 (0,0)):=by
  rw[← hW3]
  have:=heap_alloc_new (w1.alloc (.map #[] 0)) (.cells #[.map (some W0.heap.size),.map (some w1.heap.size)] 234)
  rw[World.size_alloc] at this
  exact this
 have ht3:VTab W3 w1.heap.size (fun _=>none) 0 (.map []):=by
  rw[← hW3]
  exact (z8x w1).below (zBa)
 have hk3:=hk1.on hb13
 have hb3:Below W0.heap.size W0 W3:=zTr hb1 hb13
 have hs1:=hb1.size
 have hklt:=zoa hk1
 have AY:=ZZ (zj5 oa n cap es ob m cb s hm20 Dx.o W3 (A8.o.below hb3) (HIT.o.below hb3))
 have GY:=ZZ hq3
 have HT3:=ZZ ht3
 have Ao:=ZZ hk3
 have HB3:=ZZ hb3
 obtain⟨bt,hbt⟩:∃ bt,w1.heap.size=bt:=⟨_,rfl⟩
 rw[hbt] at GY HT3 hklt hs1
 have hbt3:=HT3.o.lt
 clear hk1 hb1 hW3 hb13 hq3 ht3 hk3 hb3 CJ
 simp only[hbt]
 clear hbt
 go_upto_region 3 with (go_at_call 138;(with_reducible refine AY.o.mono ?_);rintro r w4 ⟨ib,rfl,hS4,hb4,hib4⟩)
 obtain⟨W5,hW5,hb45,hs5⟩:=bxN w4 #[.map (some ib),.slice oa n cap] 182
 rw[hW5]
 have hb35:Below W3.heap.size W3 W5:=zTr hb4 hb45
 have hitn:ib≠bt:=by omega
 have hS0:=ZZ (show QSt0 w W0 W5 (bt+1) W0.heap.size bt w4.heap.size ib oa n cap es s from
  ⟨(((zTr HB3.o hb35).block w.heap.size (ze Ad.o))).trans Ad.o,(hb35.block _ (ze GY.o)).trans GY.o,hs5,Ao.o.on hb35,HT3.o.below hb35,hS4.on hb45,A8.o,zTr HB3.o hb35,ze Ad.o,by omega,hs1,by omega,hitn,by have:=hb4.size;omega⟩)
 have hW5s:=hb35.size
 generalize w4.heap.size=sb at hS0 ⊢
 generalize W0.heap.size=bk at hS0 hklt ⊢
 clear hS4 hb4 hib4 hW5 hb45 hs5 hb35 hitn AY GY HT3 Ao HB3 hklt hs1 hbt3 hW5s
 go_wp2_with fail
 have GZ:=ZZ (fun x=>left_mem (es:=es) (ids:=ids) (x:=x))
 go_loopw [26] (fun x wr=>∃ (j:Nat) (T:Int→Option Value) (mt:Nat) (D:DataW Value),x=J Y (j:Int)∧j≤p∧mt≤j∧QOne es s W0.heap.size bt wr T mt D (ids.take j)∧W5.grownBy wr (some bt)) (fun x _=>p - (intOf x).toNat)
 case atStart=>exact⟨0,_,_,_,rfl,Nat.zero_le _,Nat.le_refl _,⟨hS0.o.tab,(fun k=>by simp),(fun k v h=>by cases h),fun k k' h hn=>absurd rfl hn⟩,⟨rfl,rfl,rfl,Nat.le_refl _,fun _ _ _=>rfl⟩⟩
 case round =>
  obtain⟨j,T,mt,D,rfl,hj,hmt,hQ,hg⟩:=hrel
  have HQ:=ZZ hQ
  have HG:=ZZ hg
  have hbr:Below W0.heap.size W0 wr:=hS0.o.b0.grown hg hS0.o.b0.size (fun k hk=>by cases hk;exact hS0.o.tlo)
  have Av:=ZZ hbr
  have hszr:=hbr.size
  have hqlt:=ze hS0.o.qv
  have hqr:=(hg.block _ hqlt (fun e=>by have:=zSi e;omega)).trans hS0.o.qv
  have k0:=zb hqr 0 rfl
  have J2:=ZZ hqr
  clear hQ hg hbr hqr
  by_cases hlt:j<p
  ·have j0:(j:Int)<(p:Int):=by omega
   obtain⟨id,b,q,hid,hidx,hbz,e0,hwz⟩:=(Dz.o.below Av.o).get Tryz.underlying60 z0f j hlt
   have Af:=ZZ (z5p hid)
   obtain⟨F,mf,DF,hmf,hVF,hKF⟩:=zfi hS0.o.kn HG.o hS0.o.kt
   have hlk:=hVF.look Tryz.underlying231 (Tryz.zeroValue62 _) hwz
   have hk:=hKF id
   have Ku:=ZZ hwz
   clear hid hVF hKF
   cases hF:zf es id with
   | none =>
    rw[hF] at hk
    rw[hk] at hlk
    simp only[Option.getD_none,Option.isSome_none] at hlk
    have Gm:=ZZ (HQ.o.skip (id:=id) (by simp[P16.known,hF]))
    clear hk hF
    go_wp2_with fail
    have hba:=(Below.refl wr.heap.size wr).alloc zLe (.cells (zk 0 0 0 0 0 0 (.slice none 0 0) (.slice none 0 0) []) 62)
    have hQ':=Gm.o.on hba
    rw[← Af.o] at hQ'
    have hG':=z00 HG.o ((z0y hba).but (some bt))
    go_roundw
    case rel=>exact⟨j+1,T,mt,D,by go_num,by omega,by omega,hQ',hG'⟩
    case measure=>simp[intOf];omega
   | some e =>
    rw[hF] at hk
    obtain⟨xa,xc,ya,yc,hk1,hk2,hk3⟩:=hk
    rw[hk1] at hlk
    simp only[Option.getD_some,Option.isSome_some] at hlk
    have Ej:=ZZ (show known es id from by simp[P16.known,hF])
    have Lg:=ZZ (zmv (s:=s) hF)
    clear hk1 hk2 hk3 hF
    go_upto_region 8 with fail
    obtain⟨Wa,hWa⟩:∃ Wa,wr.alloc (.cells (zk e.id e.kind e.sender e.user e.member e.depth (.slice xa e.levels.length xc) (.slice ya e.prev.length yc) e.text) 62)=Wa:=⟨_,rfl⟩
    try rw[hWa]
    try rw[show wr.alloc (.cells #[J Y e.id,J Y e.kind,J Y e.sender,J Y e.user,J Y e.member,.slice xa e.levels.length xc,.string ⟨e.text.toArray⟩,.slice ya e.prev.length yc,J Y e.depth] 62)=Wa from hWa]
    have hba:Below wr.heap.size wr Wa:=by rw[← hWa];exact zBa
    have hEa:EB Wa wr.heap.size e.id e.kind e.sender e.user e.member e.depth (.slice xa e.levels.length xc) (.slice ya e.prev.length yc) e.text:=by rw[← hWa];exact EB.new _ _ _ _ _ _ _ _ _ _
    have hQa:=HQ.o.on hba
    have hGa:=z00 HG.o ((z0y hba).but (some bt))
    have hBa:Below W0.heap.size W0 Wa:=Av.o.trans (hba.mono hszr)
    have hqa:=(hGa.block _ hqlt (fun e=>by have:=zSi e;omega)).trans hS0.o.qv
    have hsa:=(hGa.block _ (ze hS0.o.sv) (fun e=>by have:=zSi e;exact absurd this hS0.o.st)).trans hS0.o.sv
    have hca:=zmu hS0.o.sc hGa hS0.o.it (hS0.o.ev.below hBa)
    have Kv:=ZZ hQa
    have Ed:=ZZ hGa
    have Bh:=ZZ hBa
    clear hQa hGa hBa hba hWa
    refine zgs (qb:=bt+1) (bk:=bk) (bt:=bt) (sb:=sb) (ib:=ib) (eb:=wr.heap.size) (oa:=oa) (n:=n) (cap:=cap) (es:=es) (s:=s) (id:=id) (e:=e) (T:=T) (m:=mt) (D:=D) (by kernel_rfl) (by kernel_rfl) (by kernel_rfl) (by kernel_rfl) (by kernel_rfl) (by kernel_rfl) (by kernel_rfl) (by kernel_rfl) (by kernel_rfl) (by kernel_rfl) (by simp) rfl rfl rfl rfl Ku.o (by omega) hqa hsa hEa hca Kv.o.tab ?_
    intro V w6 b6 w7 hall hbb hb7 hc7 ho6 ht6
    rw[Lg.o] at hc7
    obtain⟨m6,hm6,hQ6⟩:=Kv.o.take Ku.o Ej.o hb7 Bh.o.size hbb hc7 ho6 ht6
    rw[← Af.o] at hQ6
    have hG6:W5.grownBy w6 (some bt):=z00 (z00 Ed.o ((z0y hb7).but (some bt))) ht6.grown
    have Lh:=ZZ hQ6
    have Gn:=ZZ hG6
    clear hbb hb7 hc7 ho6 ht6 hQ6 hG6 hqa hsa hEa hca
    obtain⟨v0,g0'⟩:=hall 0 (by omega)
    obtain⟨v1,g1'⟩:=hall 1 (by omega)
    obtain⟨v2,g2'⟩:=hall 2 (by omega)
    obtain⟨v3,g3'⟩:=hall 3 (by omega)
    obtain⟨v4,g4'⟩:=hall 4 (by omega)
    obtain⟨v5,g5'⟩:=hall 5 (by omega)
    obtain⟨v6,g6'⟩:=hall 6 (by omega)
    obtain⟨v7,g7'⟩:=hall 7 (by omega)
    obtain⟨v8,g8'⟩:=hall 8 (by omega)
    simp only[actG,List.size_toArray,List.length_cons,List.length_nil,List.getElem?_toArray,List.getElem?_cons_zero,List.getElem?_cons_succ,g0',g1',g2',g3',g4',g5',g6',g7',g8',Act.put,List.setIfInBounds_toArray,List.set_cons_zero,List.set_cons_succ]
    clear g0' g1' g2' g3' g4' g5' g6' g7' g8' hall
    go_wp2_with fail
    go_roundw
    case rel=>exact⟨j+1,_,m6,_,by go_num,by omega,by omega,Lh.o,Gn.o⟩
    case measure=>simp[intOf];omega
  ·have htk:ids.take j=ids:=zTl (by rw[Cn.o];omega)
   rw[htk] at HQ
   have hT:∀ k,(T k).isSome=true↔k∈P15.leftOf es ids []:=fun k=>by rw[HQ.o.has,GZ.o]
   have Cr:=ZZ hT
   have Ef:=ZZ (HQ.o.turns hT)
   have EO:=ZZ HQ.o.tab
   have Ej:=ZZ (zfi hS0.o.kn HG.o hS0.o.kt)
   have hres:=(HG.o.block w.heap.size (ze hS0.o.res) (fun e=>by have:=zSi e;have:=hS0.o.tlo;have:=hS0.o.low;omega)).trans hS0.o.res
   have El:=ZZ hres
   have hqlo:∀ z∈P15.leftOf es ids [],W0.heap.size≤z3t T z:=fun z hz=>by
    obtain⟨v,hv⟩:=Option.isSome_iff_exists.1 ((hT z).2 hz)
    obtain⟨q,rfl,h2,_⟩:=HQ.o.at_ z v hv
    unfold z3t
    rw[hv]
    exact h2
   have Dt:=ZZ hqlo
   have Kw:=ZZ (show ∀ z∈P15.leftOf es ids [],(Lit.int .i64 z).wf=true from fun z hz=>Bv.o z (GZ.o z |>.1 hz).1)
   have Em:=ZZ (zbi es ids)
   have hll:=zf0 es ids
   have DX:=ZZ (zNt hll CS.o)
   have Li:=ZZ (show ∀ x∈P15.leftOf es ids [],known es x from fun x hx=>(GZ.o x |>.1 hx).2)
   have Gj:=ZZ (zcf es ids)
   generalize P15.leftOf es ids []=left at *
   have Bj:=ZZ (za0 bk bt left Gj.o T mt D hT (by omega) wr EO.o)
   clear htk hT hres hqlo hll HQ GZ Bv Cn Dz
   have k1:=zb J2.o 1 rfl
   go_wp2_with (go_at_call 227;(with_reducible refine Bj.o.mono ?_);rintro r w1 ⟨vL,rfl,hoL,hbL⟩;obtain⟨oL,cL,rfl⟩:=zi hoL)
   have hs1:=hbL.size
   have C9:=ZZ (Ef.o.on hbL)
   have Du:=ZZ (EO.o.below hbL)
   have JE:=ZZ (Ej.o.on hbL)
   have D9:=ZZ ((hbL.block _ (ze J2.o)).trans J2.o)
   have CU:=ZZ ((hbL.block _ (ze El.o)).trans El.o)
   have HB1:=ZZ (Av.o.trans (hbL.mono hszr))
   have EK:=ZZ (show ∀ a,oL=some a→∀ z∈left,a.block≠z3t T z from fun a ha z hz e=>by
    subst ha
    have h1:=(hoL.lt _ rfl).1
    have h2:=ze (Ef.o.at_ z hz).2
    rw[← e] at h2
    omega)
   obtain⟨_,_,heo,hia⟩:=z6z hoL Kw.o
   cases heo
   have BO:=ZZ hia
   have hqlt1:=ze D9.o
   have hqn:∀ z∈left,bt+1≠z3t T z:=fun z hz e=>by
    have h1:=(C9.o.at_ z hz).2
    rw[← e,D9.o] at h1
    cases h1
   have JF:=ZZ hqn
   clear hbL hoL hia hqn Ef EO Ej J2 El Av Bj HG k0 k1 hszr hs1
   go_loopw [50] (fun x wx=>∃ (i:Nat) (near:Int→Zin) (vb:Int→Value),x=J Y (i:Int)∧i≤left.length∧(∀ b∈left.take i,z6v es left b (near b))∧QTwo w1 wx T left (wtI es s) (wnF left near i) (z3t T) vb (blF left near i) (.slice none 0 0) []) (fun x _=>left.length - (intOf x).toNat)
   case atStart=>exact⟨0,fun _=>[],_,rfl,Nat.zero_le _,(fun b hb=>by simp at hb),(QTwo.start C9.o).congr (fun z hz=>by simp[wnF]) (fun z hz=>by simp[blF])⟩
   case round =>
    obtain⟨i,near,vb,rfl,hi,hnr,hT2⟩:=hrel
    have HT2:=ZZ hT2
    have JG:=ZZ hnr
    have Bc:=ZZ hT2.fr
    have hszx:=hT2.fr.size
    have hbx:=zfj HB1.o hT2.fr HB1.o.size Dt.o
    have BD:=ZZ hbx
    have hqx:=(hT2.fr.block _ hqlt1 JF.o).trans D9.o
    have J3:=ZZ hqx
    have k0:=zb hqx 0 rfl
    have k1:=zb hqx 1 rfl
    clear hT2 hnr hbx hqx
    by_cases hlt:i<left.length
    ·have i0:(i:Int)<(left.length:Int):=by omega
     have hir:=BO.o.tu zLe Bc.o EK.o
     obtain⟨id,bz,qz,hid,hidx,hbz,e0,hwz⟩:=hir.get Tryz.underlying60 z0f i hlt
     have hidl:=zMg hid
     have Ky:=ZZ (ze2 W0 bk bt es left T mt D id hwz CS.o Eg.o Cr.o wr BD.o (zo9 JE.o C9.o zLe Bc.o) (Du.o.tu C9.o zLe Bc.o))
     have Bj:=ZZ hid
     clear hir hid
     go_wp2_with (go_at_call 228;(with_reducible refine Ky.o.mono ?_);rintro r w5 ⟨vf,found,seen,rfl,hof,hnear,hb5⟩;obtain⟨of_,cf,rfl⟩:=zi hof)
     have hnok:=hnear.done Li.o
     have hfl:found.length≤left.length:=z2v hnok.nd (fun x hx=>(hnok.sub x hx).1)
     have hLL:=DX.o
     have JH:=ZZ hnok
     have hwff:∀ z∈found,(Lit.int .i64 z).wf=true:=fun z hz=>Kw.o z (hnok.sub z hz).1
     have JI:=ZZ hwff
     have JJ:=ZZ ((HT2.o.more (vf':=.slice of_ found.length cf) hb5 hof).congr (wn':=wnG left near i id 0) (bl':=blG left near i id found 0) (fun z hz=>by
      unfold wnG
      by_cases e:z=id
      ·rw[if_pos e,e]
       unfold wnF
       rw[if_neg (z97 Em.o Bj.o)]
      ·rw[if_neg e]) (fun z hz=>by simp[blG]))
     have Ll:=ZZ hwz
     clear hof hnear hb5 hnok hwff Ky e0 hidx hbz k0 k1 J3 BD Bc HT2 hszx
     go_loopw [58] (fun x wx=>∃ (j:Nat) (vb':Int→Value),x=J Y (j:Int)∧j≤found.length∧QTwo w1 wx T left (wtI es s) (wnG left near i id j) (z3t T) vb' (blG left near i id found j) (.slice of_ found.length cf) found) (fun x _=>found.length - (intOf x).toNat)
     case atStart=>exact⟨0,_,rfl,Nat.zero_le _,JJ.o⟩
     case round =>
      obtain⟨j,vb',rfl,hj,hT3⟩:=hrel
      have HT3:=ZZ hT3
      have hszx:=hT3.fr.size
      have hqx:=(hT3.fr.block _ hqlt1 JF.o).trans D9.o
      have k1:=zb hqx 1 rfl
      have J3:=ZZ hqx
      have hVT:=Du.o.tu C9.o zLe hT3.fr
      by_cases hjl:j<found.length
      ·have j0:(j:Int)<(found.length:Int):=by omega
       obtain⟨_,_,heo,hif⟩:=z6z hT3.frow JI.o
       cases heo
       obtain⟨a,ba,qa,ha,hidx,hba,e0,hwa⟩:=hif.get Tryz.underlying60 z0f j hjl
       have hafl:=(JH.o.sub a (zMg ha)).1
       obtain⟨hTi,hqi⟩:=hT3.tu.at_ id hidl
       have hwj:wnG left near i id j id=j:=by unfold wnG;rw[if_pos rfl]
       rw[hwj] at hqi
       have hget:=hVT.get Tryz.underlying232 (Tryz.zeroValue240 _) Ll.o
       rw[hTi] at hget
       simp only[Option.getD_some] at hget
       have t4:wr.cell? ⟨z3t T id,4,none⟩=some (J Y (j:Int)):=zb hqi 4 rfl
       have f4:=zh hqi 4
       have hT4:=hT3.wait hidl
       rw[zmt,hwj,show ((j+1:Nat):Int)=(j:Int)+1 from by omega] at hT4
       obtain⟨W4,hW4⟩:∃ W4,wr.setCell ⟨z3t T id,4,none⟩ (J Y ((j:Int)+1))=W4:=⟨_,rfl⟩
       rw[hW4] at hT4
       have CV:=ZZ hT4
       have Cw:=ZZ hW4
       have HA:=ZZ ha
       clear hT3 hVT hif hqi hTi hwj hT4 hW4 ha hqx
       go_upto_region 17 with fail
       rw[Cw.o]
       clear Cw HT3 J3 t4 f4 k1 hget hidx e0 hba hszx
       have hszx:=CV.o.fr.size
       have hqx:=(CV.o.fr.block _ hqlt1 JF.o).trans D9.o
       have hVT:=Du.o.tu C9.o zLe CV.o.fr
       obtain⟨hTa,hqa⟩:=CV.o.tu.at_ a hafl
       have hrow:=CV.o.rows a hafl
       have hbll:=znu (left:=left) (near:=near) (i:=i) (id:=id) (found:=found) (j:=j) (x:=a)
       obtain⟨ob4,cb4,hvb4⟩:=zi hrow
       have Gr:=ZZ hvb4
       rw[hvb4] at hrow hqa
       have hn1:some (bt+1)≠(Value.slice ob4 (blG left near i id found j a).length cb4).ownBlock:=fun e=>by
        have h1:=(hrow.lt _ e.symm).1
        omega
       have hn2:some bt≠(Value.slice ob4 (blG left near i id found j a).length cb4).ownBlock:=z2i hVT.own hrow
       have hn3:some (z3t T a)≠(Value.slice ob4 (blG left near i id found j a).length cb4).ownBlock:=fun e=>by
        have h1:=(hrow.lt _ e.symm).1
        have h2:=CV.o.ql a hafl
        omega
       refine zgt (qb:=bt+1) (bk:=bk) (bt:=bt) (q:=z3t T a) (B:=w1.heap.size) (nb:=(blG left near i id found j a).length) (cb:=cb4) (m:=mt) (ob:=ob4) (xs:=(blG left near i id found j a).map z03) (id:=id) (ah:=a) (T:=T) (D:=D) (by kernel_rfl) (by kernel_rfl) (by kernel_rfl) (by kernel_rfl) (by kernel_rfl) (by kernel_rfl) (by kernel_rfl) (by kernel_rfl) (by kernel_rfl) (by simp) rfl rfl rfl hwa hszx (by omega) hqx hn1 hVT hn2 hTa hn3 hqa hrow ?_
       intro V v8 w8 hall hg8 ho8 hl8
       rw[← Gr.o] at hg8 hl8
       have hT5:=CV.o.beh hafl hg8 ho8 hl8
       rw[zms JH.o.nd HA.o] at hT5
       have Dl:=ZZ hT5
       generalize w8.setCell ⟨z3t T a,5,none⟩ v8=w9 at Dl ⊢
       clear hg8 ho8 hl8 hT5 hqx hVT hTa hqa hrow hn1 hn2 hn3 Gr CV
       obtain⟨v0,g0'⟩:=hall 0 (by omega)
       obtain⟨v1,g1'⟩:=hall 1 (by omega)
       obtain⟨v2,g2'⟩:=hall 2 (by omega)
       obtain⟨v3,g3'⟩:=hall 3 (by omega)
       obtain⟨v4,g4'⟩:=hall 4 (by omega)
       obtain⟨v5,g5'⟩:=hall 5 (by omega)
       obtain⟨v6,g6'⟩:=hall 6 (by omega)
       obtain⟨v7,g7'⟩:=hall 7 (by omega)
       obtain⟨v8,g8'⟩:=hall 8 (by omega)
       obtain⟨v9,g9'⟩:=hall 9 (by omega)
       obtain⟨v10,g10'⟩:=hall 10 (by omega)
       obtain⟨v11,g11'⟩:=hall 11 (by omega)
       obtain⟨v12,g12'⟩:=hall 12 (by omega)
       obtain⟨v13,g13'⟩:=hall 13 (by omega)
       obtain⟨v14,g14'⟩:=hall 14 (by omega)
       obtain⟨v15,g15'⟩:=hall 15 (by omega)
       obtain⟨v16,g16'⟩:=hall 16 (by omega)
       simp only[actG,List.size_toArray,List.length_cons,List.length_nil,List.getElem?_toArray,List.getElem?_cons_zero,List.getElem?_cons_succ,g0',g1',g2',g3',g4',g5',g6',g7',g8',g9',g10',g11',g12',g13',g14',g15',g16',Act.put,List.setIfInBounds_toArray,List.set_cons_zero,List.set_cons_succ]
       clear g0' g1' g2' g3' g4' g5' g6' g7' g8' g9' g10' g11' g12' g13' g14' g15' g16' hall
       go_wp2_with fail
       go_roundw
       case rel=>exact⟨j+1,_,by go_num,by omega,Dl.o⟩
       case measure=>simp[intOf];omega
      ·have hjn:j=found.length:=by omega
       subst hjn
       have Gs:=ZZ (hT3.drop.congr (wn':=wnF left (updN near id found) (i+1)) (bl':=blF left (updN near id found) (i+1)) (fun z hz=>by rw[zmq Em.o Bj.o];rfl) (fun z hz=>by rw[zmr Em.o Bj.o];unfold blG;rw[List.take_length]))
       have Lm:=ZZ (show ∀ b∈left.take (i+1),z6v es left b (updN near id found b) from fun b hb=>by
        rw[z5p Bj.o] at hb
        unfold updN
        by_cases e:b=id
        ·rw[if_pos e,e];exact JH.o
        ·rw[if_neg e]
         rcases List.mem_append.1 hb with q|q
         ·exact JG.o b q
         ·exact absurd (by simpa using q) e)
       clear hT3 hVT hqx k1 HT3 J3
       go_wp2_with fail
       go_roundw
       case rel=>exact⟨i+1,_,_,by go_num,by omega,Lm.o,Gs.o⟩
       case measure=>simp[intOf];omega
    ·have hin:left.take i=left:=zTl (by omega)
     have hres:=(Bc.o.block w.heap.size (ze CU.o) (fun z hz e=>by have h1:=Dt.o z hz;have h2:=hS0.o.low;omega)).trans CU.o
     have r0:=zb hres 0 rfl
     have f0:=zh hres 0
     have f1:=zh hres 1
     have r1:=zb hres 1 rfl
     have Ae:=ZZ hres
     clear hres
     go_wp2_with fail
     obtain⟨w9,hw9⟩:∃ w9,((wr.setCell ⟨w.heap.size,0,none⟩ (.map (some bk))).setCell ⟨w.heap.size,1,none⟩ (.map (some bt)))=w9:=⟨_,rfl⟩
     obtain⟨hr,hg9⟩:=zx [.map (some bk),.map (some bt)] wr _ 0 Ae.o
     rw[show wr.setCells w.heap.size 0 [.map (some bk),.map (some bt)]=w9 from hw9] at hr hg9
     rw[hw9]
     clear r0 r1 f0 f1
     have z0:w9.cell? ⟨w.heap.size,0,none⟩=some (.map (some bk)):=zb hr 0 rfl
     have z1:w9.cell? ⟨w.heap.size,1,none⟩=some (.map (some bt)):=zb hr 1 rfl
     refine bodyPost_ret (v:=.agg #[.map (some bk),.map (some bt)]) (by simp[results,Tryz.results204,go_sem,z0,z1]) rfl ?_
     have hT2:=HT2.o
     have hlow:=hS0.o.low
     have hlt0:w.heap.size<w1.heap.size:=ze CU.o
     have hVT:=(Du.o.tu C9.o zLe Bc.o).kept hg9 (fun e=>by have:=zSi e;have:=hS0.o.tlo;omega)
     have hwn:∀ z∈left,wnF left near i z=z1l near [] z:=fun z hz=>by
      unfold wnF
      rw[hin,if_pos hz,zl0]
     have hbl:∀ z∈left,blF left near i z=behL near left z:=fun z hz=>by
      unfold blF behL
      rw[hin]
     have hT7:=hT2.congr (wn':=z1l near []) (bl':=behL near left) hwn hbl
     have hbw:Below w.heap.size w wr:=zTr HB0.o BD.o
     refine⟨bk,bt,near,T,mt,D,z3t T,vb,rfl,⟨hVT,by omega,Cr.o,(by rw[hin] at JG;exact JG.o),⟨fun z hz=>⟨(hT7.tu.at_ z hz).1,(hg9.block _ (ze (hT7.tu.at_ z hz).2) (fun e=>by have:=zSi e;have:=Dt.o z hz;omega)).trans (hT7.tu.at_ z hz).2⟩,hT7.tu.inj⟩,fun z hz=>zu ((hT7.rows z hz).kept hg9 (.inr (fun e=>by have:=((hT7.rows z hz).lt _ e).1;omega))) (by omega),fun z hz=>by have:=Dt.o z hz;omega⟩,hbw.grown hg9 hbw.size (fun k hk=>by cases hk;exact Nat.le_refl _)⟩

theorem z7e {w w':World} {B:Nat} {e:TypeId} {k:Nat} {v:Value} {n:Nat} {xs:Zvs} (h:w.ownsRow B e k v n xs) (hb:∀ g,v.ownBlock=some g→w'.heap[g]? = w.heap[g]?):w'.ownsRow B e k v n xs:=by
 refine⟨h.1,?_⟩
 rcases h.2 with hn|⟨g,cap,cur,rfl,h1,h2,r⟩
 ·exact .inl hn
 ·exact .inr ⟨g,cap,cur,rfl,h1,(hb g rfl).trans h2,r⟩

theorem z5k {w:World} {B:Nat} {e:TypeId} {k:Nat} {v:Value} {n:Nat} {xs:Zvs} (h:w.ownsRow B e k v n xs) {g:Nat} (hg:v.ownBlock=some g) {cs:Array Value} {e':TypeId} {fz:Nat × Nat} (hb:w.heap[g]? = some (.cells cs e' fz)):e'=e:=by
 rcases h.2 with ⟨rfl,-⟩|⟨q,cap,cur,rfl,-,hq,-⟩
 ·cases hg
 ·cases hg
  rw[hq] at hb
  cases hb
  rfl

structure OSt (w wr:World) (bk bt bh:Nat) (T:Int→Option Value) (left:Zin) (wt:Int→Wt) (near:Int→Zin) (q:Int→Nat) (vb:Int→Value) (vo vh:Value) (out:Zin) (h:List Wt):Prop where
 hv:HpV wr w.heap.size bh vh h
 orow:wr.ownsRow w.heap.size 3 1 vo out.length (out.map z03)
 fr:TuFr w.heap.size left q w wr
 qv:wr.heap[w.heap.size]? = some (.cells #[.map (some bk),.map (some bt)] 234 (0,0))
 bl:w.heap.size<bh
 ql:∀ z∈left,q z<w.heap.size

section
variable {w wr w2:World} {bk bt bh:Nat} {T:Int→Option Value} {left:Zin} {wt:Int→Wt} {near:Int→Zin} {q:Int→Nat} {vb:Int→Value} {vo vo' vh vh':Value} {out:Zin} {h h':List Wt}

theorem OSt.heap (o:OSt w wr bk bt bh T left wt near q vb vo vh out h) (hF:HpFr wr w2 bh vh.ownBlock vh'.ownBlock) (hV:HpV w2 w.heap.size bh vh' h'):OSt w w2 bk bt bh T left wt near q vb vo vh' out h':=by
 have hs:=o.fr.size
 have hne:∀ k,k<w.heap.size→w2.heap[k]? = wr.heap[k]?:=fun k hk=>hF.block k (zLt hk hs) (by have:=o.bl;omega) (fun e=>by have:=(o.hv.row.lt k e).1;omega)
 refine⟨hV,z7e o.orow (fun g hg=>?_),⟨hF.os.trans o.fr.os,hF.tape.trans o.fr.tape,hF.output.trans o.fr.output,zNt hs hF.size,fun k hk hn=>(hne k hk).trans (o.fr.block k hk hn)⟩,?_,o.bl,o.ql⟩
 ·refine hF.block g (o.orow.lt g hg).2 (fun e=>?_) (fun e=>?_)
  ·subst e
   have:=z5k o.orow hg o.hv.st
   exact absurd this (by decide)
  ·exact z7k o.orow o.hv.row (by decide) g hg e
 ·refine (hF.block w.heap.size (ze o.qv) (by have:=o.bl;omega) (fun e=>?_)).trans o.qv
  have:=z5k o.hv.row e o.qv
  exact absurd this (by decide)

theorem OSt.turns (o:OSt w wr bk bt bh T left wt near q vb vo vh out h) {wn:Int→Nat} (ht:TurnsOk wr T left wt wn q vb) (hF:HpFr wr w2 bh vh.ownBlock vh'.ownBlock):TurnsOk w2 T left wt wn q vb :=
 ⟨fun z hz=>⟨(ht.at_ z hz).1,(hF.block (q z) (ze (ht.at_ z hz).2) (by have:=o.bl;have:=o.ql z hz;omega) (fun e=>by have:=(o.hv.row.lt _ e).1;have:=o.ql z hz;omega)).trans (ht.at_ z hz).2⟩,ht.inj⟩

theorem OSt.push (o:OSt w wr bk bt bh T left wt near q vb vo vh out h) {x:Int} {X:Obj} (ho:w2.ownsRow w.heap.size 3 1 vo' (out.length+1) (out.map z03++[J Y x])) (hg:(wr.alloc X).grownBy w2 vo.ownBlock):OSt w w2 bk bt bh T left wt near q vb vo' vh (out++[x]) h:=by
 have hs:=o.fr.size
 have hb:=(Below.refl wr.heap.size wr).alloc zLe X
 have hne:∀ k,k<wr.heap.size→some k≠vo.ownBlock→w2.heap[k]? = wr.heap[k]?:=fun k hk hn=>(hg.block k (zLt hk hb.size) hn).trans (hb.block k hk)
 refine⟨⟨(hne bh (ze o.hv.st) (fun e=>?_)).trans o.hv.st,z7e o.hv.row (fun g hg'=>hne g (o.hv.row.lt g hg').2 (fun e=>z7k o.orow o.hv.row (by decide) g e.symm hg'))⟩,by rw[z0p,z6s];exact ho,⟨hg.os.trans (hb.os.trans o.fr.os),hg.tape.trans (hb.tape.trans o.fr.tape),hg.output.trans (hb.output.trans o.fr.output),zNt hs (zNt hb.size hg.size),fun k hk hn=>(hne k (zLt hk hs) (fun e=>by have:=(o.orow.lt k e.symm).1;omega)).trans (o.fr.block k hk hn)⟩,(hne _ (ze o.qv) (fun e=>?_)).trans o.qv,o.bl,o.ql⟩
 ·have:=z5k o.orow e.symm o.hv.st
  exact absurd this (by decide)
 ·have:=z5k o.orow e.symm o.qv
  exact absurd this (by decide)

theorem OSt.pushT (o:OSt w wr bk bt bh T left wt near q vb vo vh out h) {wn:Int→Nat} (ht:TurnsOk wr T left wt wn q vb) {X:Obj} (hg:(wr.alloc X).grownBy w2 vo.ownBlock):TurnsOk w2 T left wt wn q vb:=by
 have hb:=(Below.refl wr.heap.size wr).alloc zLe X
 have h1:=ht.on hb
 exact⟨fun z hz=>⟨(h1.at_ z hz).1,(hg.block (q z) (ze (h1.at_ z hz).2) (fun e=>by have:=(o.orow.lt _ e.symm).1;have:=o.ql z hz;omega)).trans (h1.at_ z hz).2⟩,ht.inj⟩

theorem OSt.freed (o:OSt w wr bk bt bh T left wt near q vb vo vh out h) (hf:TuFr wr.heap.size left q wr w2):OSt w w2 bk bt bh T left wt near q vb vo vh out h:=by
 have hs:=o.fr.size
 have hup:∀ k,w.heap.size≤k→k<wr.heap.size→w2.heap[k]? = wr.heap[k]?:=fun k h1 h2=>hf.block k h2 (fun z hz e=>by have:=o.ql z hz;omega)
 exact⟨⟨(hup bh (Nat.le_of_lt o.bl) (ze o.hv.st)).trans o.hv.st,z7e o.hv.row (fun g hg=>hup g (o.hv.row.lt g hg).1 (o.hv.row.lt g hg).2)⟩,z7e o.orow (fun g hg=>hup g (o.orow.lt g hg).1 (o.orow.lt g hg).2),o.fr.trans (hf.mono hs),(hup _ zLe (ze o.qv)).trans o.qv,o.bl,o.ql⟩

theorem OSt.on (o:OSt w wr bk bt bh T left wt near q vb vo vh out h) (hb:Below wr.heap.size wr w2):OSt w w2 bk bt bh T left wt near q vb vo vh out h:=o.freed (TuFr.on hb)
end

theorem zob {l:List Wt} {j:Nat} {x:Wt} (h:l[j]? = some x):(l.flatMap z0c)[j * 4]? = some (.bool x.r)∧(l.flatMap z0c)[j * 4+1]? = some (J Y x.l)∧(l.flatMap z0c)[j * 4+2]? = some (J Y x.d)∧(l.flatMap z0c)[j * 4+3]? = some (J Y x.i):=by
 have e:∀ (l:List Wt) (j:Nat) (x:Wt),l[j]? = some x→∀ k,k<4→(l.flatMap z0c)[j * 4+k]? = (z0c x)[k]?:=by
  intro l
  induction l with
  | nil=>intro j x h;simp at h
  | cons y r ih =>
   intro j x h k hk
   rw[List.flatMap_cons]
   cases j with
   | zero =>
    simp only[List.getElem?_cons_zero,Option.some.injEq] at h
    subst h
    rw[List.getElem?_append_left (by simp[z0c];omega)]
    simp
   | succ j =>
    simp only[List.getElem?_cons_succ] at h
    have:=ih j x h k hk
    rw[List.getElem?_append_right (by simp[z0c];omega)]
    have e2:(j+1) * 4+k - (z0c y).length=j * 4+k:=by simp only[zq];omega
    rw[e2]
    exact this
 exact⟨e l j x h 0 (by omega),e l j x h 1 (by omega),e l j x h 2 (by omega),e l j x h 3 (by omega)⟩

theorem zl1 (es:List EvV) (s:St) (left:Zin) (near:Int→Zin) (bk bt m B:Nat) (T:Int→Option Value) (D:DataW Value) (q:Int→Nat) (vb:Int→Value) (hS:Sane es s) (hup:left.Pairwise (·<·)) (hkn:∀ x∈left,known es x) (hll:left.length≤100) (hwf:∀ z∈left,(Lit.int .i64 z).wf=true) (w:World) (hQ:zhw es s left B w bt near T m D q vb) :
  Calls Tryz.prog 205 #[.agg #[.map (some bk),.map (some bt)]] w fun r w'=>∃ v,r=.returned v∧w'.ownsRow w.heap.size 3 1 v (z0r es s left (left.length+1) []).length ((z0r es s left (left.length+1) []).map z03)∧TuFr w.heap.size left q w w':=by
 have hL:Left es s left near:=⟨hS,hup.imp (fun h=>by omega),hkn,hQ.nr⟩
 obtain⟨W0,hW0⟩:∃ W0,(w.alloc (.cells #[.map (some bk),.map (some bt)] 234)).alloc (.cells #[] 3)=W0:=⟨_,rfl⟩
 have hb0:Below w.heap.size w W0:=by rw[← hW0];exact (zBa).alloc (by simp) _
 have hs0:W0.heap.size=w.heap.size+1+1:=by rw[← hW0];simp
 have hQ0:W0.heap[w.heap.size]? = some (.cells #[.map (some bk),.map (some bt)] 234 (0,0)):=by
  rw[← hW0]
  exact ((zBa:Below (w.alloc (.cells #[.map (some bk),.map (some bt)] 234)).heap.size _ _).block w.heap.size (by simp)).trans (heap_alloc_new w _)
 have hO0:W0.ownsRow w.heap.size 3 1 (.slice (some ⟨w.heap.size+1,0,none⟩) 0 0) 0 []:=by
  rw[← hW0]
  have:=World.ownsRow_made (w:=w.alloc (.cells #[.map (some bk),.map (some bt)] 234)) (base:=w.heap.size) (e:=3) (size:=1) #[] 0 (by simp) (by decide) rfl
  rw[World.size_alloc] at this
  exact this
 have htu0:=hQ.tu.on hb0
 have DN:=ZZ (zmm bk bt left hup T m D hQ.has hQ.small (by omega) hwf (wtI es s) (z1l near []) W0 (hQ.tab.below hb0) (fun z hz=>⟨_,_,htu0.at_ z hz⟩))
 have q0:=zb hQ0 0 rfl
 have q1:=zb hQ0 1 rfl
 have HL:=ZZ hL
 have HQ:=ZZ hQ
 have HW0:=ZZ hW0
 have HB0:=ZZ hb0
 have Eh:=ZZ hQ0
 have AB:=ZZ hO0
 have HT0:=ZZ htu0
 have Bv:=ZZ hwf
 have hql:∀ z∈left,q z<w.heap.size:=fun z hz=>ze (hQ.tu.at_ z hz).2
 have Ei:=ZZ hql
 clear hL hQ hW0 hb0 hQ0 hO0 htu0 hS hup hkn hwf hql
 go_enter Tryz.func205,Tryz.ntmps205
 go_upto_region 2 with fail
 rw[HW0.o]
 clear HW0
 go_upto_region 3 with (go_at_call 229;(with_reducible refine DN.o.mono ?_);rintro r w1 ⟨v1,l1,rfl,ho1,hh1,hp1,hb1⟩;obtain⟨o1,c1,rfl⟩:=zi ho1;have hsf:(store ⟨w1.heap.size,1,none⟩ (.func (.func 249) #[] #[])).run Tryz.prog (w1.alloc (.cells #[.slice o1 l1.length c1,.nilFunc] 250))=.ok () (w1.alloc (.cells #[.slice o1 l1.length c1,.func (.func 249) #[] #[]] 250)):=(by
  have hc:(w1.alloc (.cells #[.slice o1 l1.length c1,.nilFunc] 250)).heap[w1.heap.size]? = some (.cells #[.slice o1 l1.length c1,.nilFunc] 250 (0,0)):=heap_alloc_new _ _
  rw[run_store _ _ _ _ _ rfl,zb hc 1 rfl,zh hc 1,World.setCell_alloc_new]
  rfl))
 obtain⟨W2,hW2,hb12,hH2⟩:=bxN w1 #[.slice o1 l1.length c1,.func (.func 249) #[] #[]] 250
 rw[hW2]
 have hs1:=hb1.size
 have hb02:Below W0.heap.size W0 W2:=hb1.trans (hb12.mono hs1)
 have hbw2:Below w.heap.size w W2:=zTr HB0.o hb02
 have HST:=ZZ (show OSt w W2 bk bt w1.heap.size T left (wtI es s) near q vb (.slice (some ⟨w.heap.size+1,0,none⟩) 0 0) (.slice o1 l1.length c1) [] l1 from
  ⟨⟨hH2,own_below (zu ho1 HB0.o.size) hb12⟩,own_below AB.o hb02,TuFr.on hbw2,(hb02.block _ (ze Eh.o)).trans Eh.o,by omega,Ei.o⟩)
 have HT2:=ZZ (HT0.o.on hb02)
 have Ey:=ZZ (Kahn.start HL.o (h:=l1) (by rw[← zj4 HL.o];exact hp1))
 have Bf:=ZZ hh1
 generalize w1.heap.size=bh at HST ⊢
 obtain⟨R,hR⟩:∃ R,z0r es s left (left.length+1) []=R:=⟨_,rfl⟩
 rw[hR] at Ey
 have HR:=ZZ hR
 clear hW2 hb12 hH2 hs1 hb02 hbw2 ho1 hp1 hb1 hh1 hR DN q0 q1 Eh AB HT0 hsf hs0
 go_loopw [3] (fun vo wr=>∃ (out:Zin) (h:List Wt) (f:Nat) (oo:Zoa) (co:Nat) (vh:Value),vo=.slice oo out.length co∧Kahn es s left R out h f∧HeapOk hvW h∧OSt w wr bk bt bh T left (wtI es s) near q vb vo vh out h∧TurnsOk wr T left (wtI es s) (z1l near out) q vb) (fun vo _=>left.length - lenS vo)
 case atStart=>exact⟨[],l1,_,_,_,_,rfl,Ey.o,Bf.o,HST.o,HT2.o⟩
 case round =>
  obtain⟨out,h,f,oo,co,vh,rfl,hK,hO,hS,hT⟩:=hrel
  have hlen:=hK.len
  have HK:=ZZ hK
  have HO:=ZZ hO
  have HS:=ZZ hS
  have HT:=ZZ hT
  have JK:=ZZ (zgp w.heap.size bh vh h wr hS.hv)
  have hszr:=hS.fr.size
  clear hK hO hS hT HST HT2 Ey Bf
  cases h with
  | nil =>
   go_wp2_with (go_at_call 230;(with_reducible refine JK.o.mono ?_);rintro r w2 ⟨rfl,rfl⟩;simp only[List.isEmpty_nil])
   go_ret
   rw[HR.o,HK.o.done]
   exact⟨_,rfl,HS.o.orow,HS.o.fr⟩
  | cons y0 r0 =>
   obtain⟨g,cap,hvh⟩:∃ g cap,vh=.slice (some ⟨g,0,none⟩) (r0.length+1) cap:=by
    rcases HS.o.hv.row.2 with ⟨_,hn⟩|⟨g,cap,cur,hv,_⟩
    ·simp at hn
    ·exact⟨g,cap,hv⟩
   subst hvh
   have Gt:=ZZ (zkx w.heap.size bh g cap r0.length (y0::r0) (by simp only[List.length_cons] at hlen ⊢;omega) rfl HO.o wr hszr (HS.o.hv.at_ rfl))
   simp only[List.length_cons] at hlen
   go_upto_region 5 with (first
    | (go_at_call 230;(with_reducible refine JK.o.mono ?_);rintro r w2 ⟨rfl,rfl⟩;simp only[List.isEmpty_cons])
    | (go_at_call 231;(with_reducible refine Gt.o.mono ?_);rintro r w2 ⟨t,l',rfl,hA2,hO2,hP2,hM2,hF2⟩;have hf3:∀ wx,(Instr.field 242 (wtv t) 3).run Tryz.prog wx=.ok (J Y t.i) wx:=(fun wx=>by simp[Instr.field,Sem.run_bind,asAgg,part,go_sem])))
   have HS2:=ZZ (HS.o.heap (vh':=.slice (some ⟨g,0,none⟩) l'.length cap) hF2 hA2.v)
   have HT2:=ZZ (HS.o.turns (vh':=.slice (some ⟨g,0,none⟩) l'.length cap) HT.o hF2)
   obtain⟨hti,hto,hnext⟩:=HK.o.pop HL.o hP2 hM2
   have AO:=ZZ hnext
   have Ag:=ZZ hO2
   have Lp:=ZZ (show l'.length=r0.length from by have:=hP2.length_eq;simpa using this)
   have hown:=HS2.o.orow
   have hsz2:=HS2.o.fr.size
   clear hA2 hO2 hP2 hM2 hF2 hnext HK HO HS HT JK Gt hszr hf3
   go_upto_region 6 with (at_builtin;refine z1n (cs:=#[J Y t.i]) rfl _ _ 60 rfl (by decide) Tryz.underlying60 z1u rfl rfl hown rfl rfl (by simp[Value.oneCell']) hsz2 (by unfold maxLen;omega) (by omega) ?_;intro v4 w4 ho4 hg4 hl4;obtain⟨o4,c4,rfl⟩:=zi ho4)
   have CW:=ZZ (HS2.o.push ho4 hg4)
   have CV:=ZZ (HS2.o.pushT HT2.o hg4)
   have hsz4:=CW.o.fr.size
   have k0:=zb CW.o.qv 0 rfl
   have k1:=zb CW.o.qv 1 rfl
   clear hown hsz2 ho4 hg4 hl4 HS2 HT2
   have hrow:=HQ.o.rows t.i hti
   obtain⟨ob,cb,hvb⟩:=zi hrow
   have Gr:=ZZ hvb
   rw[hvb] at hrow
   have hsubB:∀ z∈behL near left t.i,z∈left:=fun z hz=>(behL_mem.1 hz).1
   obtain⟨_,_,heo,hia⟩:=z6z hrow (fun z hz=>Bv.o z (hsubB z hz))
   cases heo
   have hfar:∀ a,ob=some a→∀ z∈left,a.block≠q z:=fun a ha z hz e=>by
    have h1:=(HQ.o.tu.at_ z hz).2
    have h2:=z5k hrow (by rw[ha];rfl:(Value.slice ob _ cb).ownBlock=some a.block) (by rw[e];exact h1)
    exact absurd h2 (by decide)
   have hnb:(behL near left t.i).Nodup:=HL.o.nd.filter _
   have hlb:(behL near left t.i).length≤left.length:=List.length_filter_le _ _
   have hpos:∀ z∈behL near left t.i,1≤z1l near out z∧z1l near out z≤100000:=fun z hz=>by
    have h1:=zaz HL.o hto hz
    have hzl:=hsubB z hz
    have h2:(near z).length≤left.length:=z2v (HL.o.nr z hzl).nd (fun x hx=>((HL.o.nr z hzl).sub x hx).1)
    have h3:z1l near out z≤(near z).length:=List.length_filter_le _ _
    omega
   have J4:=ZZ (zgr bk bt left T m D t.i hti Bv.o (wtI es s) (z1l near out) q vb (behL near left t.i) hnb hsubB hpos (by omega) ob cb Gr.o w4 (HQ.o.tab.tu HQ.o.tu zLe CW.o.fr) CV.o (hia.tu zLe CW.o.fr hfar) hfar)
   rw[zkz HL.o hto] at J4
   obtain⟨F,hF⟩:∃ F,(z5n near left out t.i).map (wtI es s)=F:=⟨_,rfl⟩
   have hFl:F.length≤left.length:=by
    rw[← hF,List.length_map]
    unfold z5n
    exact zNt (List.length_filter_le _ _) (List.length_filter_le _ _)
   rw[hF] at J4
   have JL:=ZZ (fun h2 hp=>AO.o h2 (by rw[hF];exact hp))
   clear hrow hsubB hia hfar hnb hlb hpos hF AO Gr hvb
   go_wp2_with (go_at_call 232;(with_reducible refine J4.o.mono ?_);rintro r w5 ⟨v5,rfl,ho5,hT5,hF5⟩;obtain⟨o5,c5,rfl⟩:=zi ho5)
   have CL:=ZZ (CW.o.freed hF5)
   have Dl:=ZZ (show TurnsOk w5 T left (wtI es s) (z1l near (out++[t.i])) q vb from ⟨fun z hz=>by rw[← zmo HL.o hto hz];exact hT5.at_ z hz,hT5.inj⟩)
   have Bc:=ZZ (show w5.ownsRow w.heap.size 242 4 (.slice o5 F.length c5) F.length (F.flatMap z0c) from zu ho5 hsz4)
   have EK:=ZZ (show Aside2 (.slice o5 F.length c5) (.slice (some ⟨g,0,none⟩) l'.length cap) from (z7p CW.o.hv.row ho5 zLe).symm)
   clear ho5 hT5 hF5 J4 CW CV k0 k1
   go_loopw [23] (fun x wr=>∃ (j:Nat) (h2:List Wt) (vh2:Value),x=J Y (j:Int)∧j≤F.length∧HeapOk hvW h2∧h2.Perm (l'++F.take j)∧OSt w wr bk bt bh T left (wtI es s) near q vb (.slice o4 (out.length+1) c4) vh2 (out++[t.i]) h2∧TurnsOk wr T left (wtI es s) (z1l near (out++[t.i])) q vb∧wr.ownsRow w.heap.size 242 4 (.slice o5 F.length c5) F.length (F.flatMap z0c)∧Aside2 (.slice o5 F.length c5) vh2) (fun x _=>F.length - (intOf x).toNat)
   case atStart=>exact⟨0,l',_,rfl,Nat.zero_le _,Ag.o,by simp,CL.o,Dl.o,Bc.o,EK.o⟩
   case round =>
    obtain⟨j,h2,vh2,rfl,hj,hO6,hP6,hS6,hT6,hfr,hfa⟩:=hrel
    have D7:=ZZ hO6
    have J5:=ZZ hP6
    have Gu:=ZZ hS6
    have Gs:=ZZ hT6
    have DR:=ZZ hfr
    have Dj:=ZZ hfa
    have hsz6:=hS6.fr.size
    clear hO6 hP6 hS6 hT6 hfr hfa CL Dl Bc EK
    by_cases hlt:j<F.length
    ·have j0:(j:Int)<(F.length:Int):=by omega
     obtain⟨x,hx⟩:∃ x,F[j]? = some x:=⟨_,List.getElem?_eq_getElem hlt⟩
     obtain⟨g5,hg5⟩:∃ g5,o5=some ⟨g5,0,none⟩:=by
      rcases DR.o.2 with ⟨_,hn⟩|⟨g5,cap5,cur,hv,_⟩
      ·omega
      ·cases hv;exact⟨_,rfl⟩
     subst hg5
     have hfx:=DR.o.1
     have hidx:∀ wx,(Instr.indexAt 247 (.slice (some ⟨g5,0,none⟩) F.length c5) (J Y (j:Int))).run Tryz.prog wx=.ok (.pointer (some ⟨g5,j * 4,none⟩)) wx:=fun wx=>by
      have:=run_indexAt_slice wx 247 242 4 Tryz.underlying247 z6b g5 0 F.length c5 j hlt
      rwa [Nat.zero_add] at this
     obtain⟨y0,y1,y2,y3⟩:=zob hx
     have d0:wr.cell? ⟨g5,j * 4,none⟩=some (.bool x.r):=by rw[DR.o.cellAt (j * 4) (by omega)];exact y0
     have d1:wr.cell? ⟨g5,j * 4+1,none⟩=some (J Y x.l):=by rw[DR.o.cellAt (j * 4+1) (by omega)];exact y1
     have d2:wr.cell? ⟨g5,j * 4+2,none⟩=some (J Y x.d):=by rw[DR.o.cellAt (j * 4+2) (by omega)];exact y2
     have d3:wr.cell? ⟨g5,j * 4+3,none⟩=some (J Y x.i):=by rw[DR.o.cellAt (j * 4+3) (by omega)];exact y3
     have HX:=ZZ hx
     obtain⟨W7,hW7,hb7,hX7⟩:=bxN wr #[.bool x.r,J Y x.l,J Y x.d,J Y x.i] 242
     have z0:=zb hX7 0 rfl
     have z1:=zb hX7 1 rfl
     have z2:=zb hX7 2 rfl
     have z3:=zb hX7 3 rfl
     have J6:=ZZ (Gu.o.on hb7)
     have Lr:=ZZ (Gs.o.on hb7)
     have J7:=ZZ (own_below DR.o hb7)
     have hl2:h2.length≤1000:=by
      have h1:=J5.o.length_eq
      rw[List.length_append,List.length_take] at h1
      have:=Lp.o
      omega
     have Da:=ZZ (zbx w.heap.size bh vh2 h2 x hl2 D7.o W7 (zNt hsz6 hb7.size) J6.o.hv)
     have Kz:=ZZ hW7
     clear hx hfx y0 y1 y2 y3 hW7 hb7 hX7 Gu Gs DR
     go_upto_region 9 with fail
     rw[Kz.o]
     clear Kz d0 d1 d2 d3 hidx
     go_wp2_with (go_at_call 233;(with_reducible refine Da.o.mono ?_);rintro r w8 ⟨v8,l8,rfl,hV8,hO8,hP8,hF8⟩)
     have Ls:=ZZ (J6.o.heap hF8 hV8)
     have Lt:=ZZ (J6.o.turns Lr.o hF8)
     have Lu:=ZZ (z7e J7.o (fun g hg=>hF8.block g (J7.o.lt g hg).2 (fun e=>by
      subst e
      have:=z5k J7.o hg J6.o.hv.st
      exact absurd this (by decide)) (fun e=>Dj.o g hg e)))
     have Ai:=ZZ (show Aside2 (.slice (some ⟨g5,0,none⟩) F.length c5) v8 from fun k hk hk8=>by
      rcases hF8.new with e|⟨g8,e,hge⟩
      ·rw[e] at hk8;exact Dj.o k hk hk8
      ·rw[e] at hk8
       have:=(J7.o.lt k hk).2
       have:=zSi hk8
       omega)
     have Lv:=ZZ (show l8.Perm (l'++F.take (j+1)) from by
      rw[List.take_add_one,HX.o]
      refine hP8.trans ((List.Perm.cons _ J5.o).trans ?_)
      simp only[Option.toList_some,← List.append_assoc]
      exact List.perm_append_comm (l₁:=[x]) (l₂:=l'++F.take j))
     have En:=ZZ hO8
     clear hV8 hO8 hP8 hF8 z0 z1 z2 z3
     go_roundw
     case rel=>exact⟨j+1,l8,v8,by go_num,by omega,En.o,Lv.o,Ls.o,Lt.o,Lu.o,Ai.o⟩
     case measure=>simp[intOf];omega
    ·have hjn:F.take j=F:=zTl (by omega)
     rw[hjn] at J5
     have Ch:=ZZ (JL.o h2 J5.o)
     go_wp2_with fail
     go_roundw
     case rel=>exact⟨out++[t.i],h2,_,o4,c4,vh2,by rw[z0p],Ch.o,D7.o,Gu.o,Gs.o⟩
     case measure=>simp[lenS];omega

theorem ze3 (oa:Zoa) (n cap:Nat) (es:List EvV) (ob:Zoa) (m cb:Nat) (s:St) (oc:Zoa) (p cc:Nat) (ids:Zin) (hn:n≤100) (hids:∀ e∈es,(Lit.int .i64 e.id).wf=true) (hprev:∀ e∈es,e.prev.length≤3) (hm20:m≤1048576) (hws:∀ y∈s,z3d y) (hp:p≤1048576) (hS:Sane es s) (w:World) (hev:EvsAt w oa n cap es) (hit:ItemsAt w ob m cb s) (hpt:IntsAt w oc p cc ids) :
  Calls Tryz.prog 171 #[.slice oa n cap,.slice ob m cb,.slice oc p cc] w (z5c w (order es s ids)):=by
 have hwl:∀ z∈P15.leftOf es ids [],(Lit.int .i64 z).wf=true:=fun z hz=>hpt.fits z (left_mem.1 hz).1
 have hll:=zNt (zf0 es ids) (by rw[hev.len];exact hn:es.length≤100)
 have HQ:=ZZ (zgu oa n cap es ob m cb s oc p cc ids hn hids hprev hm20 hws hp w hev hit hpt)
 clear hev hit hpt hids hprev hws
 go_enter Tryz.func171,Tryz.ntmps171
 go_wp2_with fail
 refine HQ.o.mono ?_
 rintro r w1 ⟨bk,bt,near,T,mt,D,q,vb,rfl,hQ1,hb1⟩
 have HO:=ZZ (zl1 es s _ near bk bt mt w.heap.size T D q vb hS (zcf es ids) (fun x hx=>(left_mem.1 hx).2) hll hwl w1 hQ1)
 have Ei:=ZZ hQ1.qlo
 have HB1:=ZZ hb1
 clear hQ1 hb1 HQ
 go_wp2_with fail
 refine HO.o.mono ?_
 rintro r w2 ⟨v,rfl,ho,hf⟩
 have hbb:=zfj HB1.o hf HB1.o.size Ei.o
 have ho2:=zu ho HB1.o.size
 obtain⟨o2,c2,rfl⟩:=zi ho2
 have Ag:=ZZ ho2
 have Br:=ZZ hbb
 clear ho hf hbb ho2
 go_wp2_with fail
 go_ret
 exact⟨_,rfl,Ag.o,Br.o⟩

end Go.Proofs.YtfeebdcmlnapiaaGreat
