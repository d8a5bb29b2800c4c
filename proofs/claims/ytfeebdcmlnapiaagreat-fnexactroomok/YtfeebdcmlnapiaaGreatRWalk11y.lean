/-
  Walks.
-/
import Derived.Test.YtfeebdcmlnapiaaGreatRWalk11m
import Derived.Test.YtfeebdcmlnapiaaGreatRWalk11u
import Derived.Test.YtfeebdcmlnapiaaGreatRRoom3
import Derived.Test.YtfeebdcmlnapiaaGreatRRoom1
set_option linter.unusedVariables false
set_option linter.unusedSimpArgs false
namespace Go.Proofs.YtfeebdcmlnapiaaGreat
open Go.RowKit P5 P9 P12 P14 P15 K

abbrev zol (x:Wt):Value:=.agg #[.bool x.r,.int .i64 x.l,.int .i64 x.d,.int .i64 x.i,.int .i64 0,.slice none 0 0]

def ctQ8 (qb bt ib:Nat) (oa:Option Addr) (n cap:Nat) (id:Int) (e:EvV) (xl xp:Value) (x:Wt):Nat→Option Value
 | 0=>some (.pointer (some ⟨qb,1,none⟩))
 | 1=>some (.map (some bt))
 | 2=>some (.int .i64 id)
 | 3=>some (scv ib oa n cap)
 | 4=>some (evv e xl xp)
 | 5=>some (wtv x)
 | 6=>some (zol x)
 | _=>none

structure JQ8 (W:World) (ct:Nat→Option Value) (bt m:Nat) (D:DataW Value) (id:Int) (x:Wt) (V:Gh) (w:World):Prop where
 pt:PT ct V
 bel:V 8=none→Below W.heap.size W w
 box:V 8=none→∀ v,V 7=some v→∃ b,v=.pointer (some ⟨b,0,none⟩)∧W.heap.size≤b∧w.heap[b]? = some (.cells (z2g x 0 (.slice none 0 0)) 245 (0,0))
 fin:V 8≠none→∃ b w8,W.heap.size≤b∧Below W.heap.size W w8∧w8.heap[b]? = some (.cells (z2g x 0 (.slice none 0 0)) 245 (0,0))∧w.ownsMap Tryz.prog 3 z1z bt (m+1) (D.put (.int .i64 id) (.held (.pointer (some ⟨b,0,none⟩))))∧w8.mapTurned w bt

section
variable {W:World} {ct:Nat→Option Value} {bt m:Nat} {D:DataW Value} {id:Int} {x:Wt} {V:Gh} {w w':World}

theorem JQ8.put (h:JQ8 W ct bt m D id x V w) {i:Nat} {v:Value} (hc:ct i=some v) (h7:i≠7) (h8:i≠8):JQ8 W ct bt m D id x (V.set i v) w:=by
 refine⟨h.pt.set (fun c hc'=>by rw[hc] at hc';cases hc';rfl),?_,?_,?_⟩<;>rw[Gh.set_ne V v (Ne.symm h8)]
 ·exact h.bel
 ·rw[Gh.set_ne V v (Ne.symm h7)];exact h.box
 ·exact h.fin

theorem JQ8.on (h:JQ8 W ct bt m D id x V w) (h8:V 8=none) (hb:Below w.heap.size w w'):JQ8 W ct bt m D id x V w':=by
 refine⟨h.pt,fun _=>(h.bel h8).trans (hb.mono (h.bel h8).size),fun _ v hv=>?_,fun h'=>absurd h8 h'⟩
 obtain⟨b,q1,q2,q3⟩:=h.box h8 v hv
 exact⟨b,q1,q2,(hb.block b (ze q3)).trans q3⟩
end

def zom (qb bt q:Nat) (ah id:Int) (vb:Value):Nat→Option Value
 | 0=>some (.pointer (some ⟨qb,1,none⟩))
 | 1=>some (.map (some bt))
 | 2=>some (.int .i64 ah)
 | 3=>some (.pointer (some ⟨q,0,none⟩))
 | 4=>some (.pointer (some ⟨qb,1,none⟩))
 | 5=>some (.map (some bt))
 | 6=>some (.int .i64 ah)
 | 7=>some (.pointer (some ⟨q,0,none⟩))
 | 8=>some (.pointer (some ⟨q,0,none⟩))
 | 9=>some (.pointer (some ⟨q,5,none⟩))
 | 10=>some vb
 | 11=>some (.int .i64 id)
 | 14=>some (.pointer (some ⟨q,0,none⟩))
 | 15=>some (.pointer (some ⟨q,5,none⟩))
 | _=>none

structure JQ17 (W:World) (ct:Nat→Option Value) (B:Nat) (vb:Value) (nb:Nat) (xs:List Value) (id:Int) (q:Nat) (V:Gh) (w:World):Prop where
 pt:PT ct V
 gr:V 16=none→W.grownBy w vb.ownBlock
 r0:V 13=none→w.ownsRow B 3 1 vb nb xs
 r12:V 13=none→∀ v,V 12=some v→∃ b,v=.slice (some ⟨b,0,none⟩) 1 1∧w.heap[b]? = some (.cells #[.int .i64 id] 3 (0,0))
 r13:V 16=none→∀ v,V 13=some v→w.ownsRow B 3 1 v (nb+1) (xs++[.int .i64 id])∧(v.ownBlock=vb.ownBlock∨∃ g,v.ownBlock=some g∧W.heap.size≤g)
 fin:V 16≠none→∃ v w8,W.grownBy w8 vb.ownBlock∧w8.ownsRow B 3 1 v (nb+1) (xs++[.int .i64 id])∧(v.ownBlock=vb.ownBlock∨∃ g,v.ownBlock=some g∧W.heap.size≤g)∧w=w8.setCell ⟨q,5,none⟩ v

section
variable {W:World} {ct:Nat→Option Value} {B:Nat} {vb:Value} {nb:Nat} {xs:List Value} {id:Int} {q:Nat} {V:Gh} {w w':World}

theorem JQ17.put (h:JQ17 W ct B vb nb xs id q V w) {i:Nat} {v:Value} (hc:ct i=some v) (h2:i≠12) (h3:i≠13) (h6:i≠16):JQ17 W ct B vb nb xs id q (V.set i v) w:=by
 refine⟨h.pt.set (fun c hc'=>by rw[hc] at hc';cases hc';rfl),?_,?_,?_,?_,?_⟩<;>simp only[Gh.set_ne V v (Ne.symm h2),Gh.set_ne V v (Ne.symm h3),Gh.set_ne V v (Ne.symm h6)]
 ·exact h.gr
 ·exact h.r0
 ·exact h.r12
 ·exact h.r13
 ·exact h.fin

theorem JQ17.p12 (h:JQ17 W ct B vb nb xs id q V w) (hct:ct 12=none) (h3:V 13=none) (h6:V 16=none):JQ17 W ct B vb nb xs id q (V.set 12 (.slice (some ⟨w.heap.size,0,none⟩) 1 1)) (w.alloc (.cells #[.int .i64 id] 3)):=by
 have hb:Below w.heap.size w (w.alloc (.cells #[.int .i64 id] 3)):=(Below.refl _ _).alloc (Nat.le_refl _) _
 refine⟨h.pt.set (fun c hc=>by rw[hct] at hc;cases hc),fun _=>z00 (h.gr h6) ((z0y hb).but _),fun _=>own_below (h.r0 h3) hb,fun _ v hv=>?_,fun _ v hv=>?_,fun h'=>?_⟩
 ·rw[Gh.set_self] at hv
  cases hv
  exact⟨_,rfl,heap_alloc_new w _⟩
 ·rw[Gh.set_ne V _ (by decide),h3] at hv
  cases hv
 ·rw[Gh.set_ne V _ (by decide)] at h'
  exact absurd h6 h'

theorem JQ17.p13 (h:JQ17 W ct B vb nb xs id q V w) (hct:ct 13=none) (h3:V 13=none) (h6:V 16=none) {v':Value} (ho:w'.ownsRow B 3 1 v' (nb+1) (xs++[.int .i64 id])) (hg:w.grownBy w' vb.ownBlock) (hl:v'.ownBlock=vb.ownBlock∨v'.ownBlock=some w.heap.size):JQ17 W ct B vb nb xs id q (V.set 13 v') w':=by
 refine⟨h.pt.set (fun c hc=>by rw[hct] at hc;cases hc),fun _=>z00 (h.gr h6) hg,fun h'=>?_,fun h'=>?_,fun _ v hv=>?_,fun h'=>?_⟩
 ·rw[Gh.set_self] at h';cases h'
 ·rw[Gh.set_self] at h';cases h'
 ·rw[Gh.set_self] at hv
  cases hv
  refine⟨ho,?_⟩
  rcases hl with hl|hl
  ·exact .inl hl
  ·exact .inr ⟨_,hl,(h.gr h6).size⟩
 ·rw[Gh.set_ne V _ (by decide)] at h'
  exact absurd h6 h'

theorem JQ17.p16 (h:JQ17 W ct B vb nb xs id q V w) (hct:ct 16=none) (h6:V 16=none) {v:Value} (g13:V 13=some v) (u:Value):JQ17 W ct B vb nb xs id q (V.set 16 u) (w.setCell ⟨q,5,none⟩ v):=by
 obtain⟨q1,q2⟩:=h.r13 h6 v g13
 refine⟨h.pt.set (fun c hc=>by rw[hct] at hc;cases hc),fun h'=>?_,fun h'=>?_,fun h'=>?_,fun h'=>?_,fun _=>⟨v,w,h.gr h6,q1,q2,rfl⟩⟩
 ·rw[Gh.set_self] at h';cases h'
 ·rw[Gh.set_ne V _ (by decide),g13] at h';cases h'
 ·rw[Gh.set_ne V _ (by decide),g13] at h';cases h'
 ·rw[Gh.set_self] at h';cases h'
end

def zj2:List (Option Tmp × Op):=[(some 38,.fieldAddr 234 (.tmp 7) 1),(some 39,.load 232 (.tmp 38)),(some 40,.move (.tmp 10)),(some 41,.load 182 (.tmp 8)),(some 42,.load 62 (.tmp 11)),(some 43,.call { callee:=.value (.func 226),args:=#[.tmp 41,.tmp 42],argTypes:=#[182,62] }),(some 44,.build 245 #[(0,.tmp 43)]),(some 45,.box 245 (.tmp 44)),(none,.mapUpdate 232 (.tmp 39) (.tmp 40) (.tmp 45))]

def z7v:List (List Nat):=[[],[0],[],[],[],[3,4],[5],[6],[0,1,2,3,4,5,6,7]]

set_option maxHeartbeats 4000000 in
theorem zgs {id0:Nat} {ops:Array Oper} {Q:Exit→Act→World→Prop} {a0:Act} {W:World} (hm:Tryz.prog.follows .mixedOrders=true) (htab:z3r ops=zj2) (hdp:z7c ops z7v=true) (hfree:zbv ops=true) (hd:z2z ops=true) (hl:z6y ops=true)
  (n7:z2d ops 7=true) (n8:z2d ops 8=true) (n10:z2d ops 10=true) (n11:z2d ops 11=true)
  {qb bk bt sb ib eb n cap m:Nat} {oa:Option Addr} {es:List EvV} {s:St} {id:Int} {e:EvV} {xl xp:Value} {T:Int→Option Value} {D:DataW Value}
  (hsz:46≤a0.tmps.size) (e7:a0.eval (.tmp 7)=.pointer (some ⟨qb,0,none⟩)) (e8:a0.eval (.tmp 8)=.pointer (some ⟨sb,0,none⟩)) (e10:a0.eval (.tmp 10)=.int .i64 id) (e11:a0.eval (.tmp 11)=.pointer (some ⟨eb,0,none⟩))
  (hid:(Lit.int .i64 id).wf=true) (hm20:m≤1048576)
  (hq:W.heap[qb]? = some (.cells #[.map (some bk),.map (some bt)] 234 (0,0))) (hsc:W.heap[sb]? = some (.cells #[.map (some ib),.slice oa n cap] 182 (0,0)))
  (hE:EB W eb e.id e.kind e.sender e.user e.member e.depth xl xp e.text) (hS:Scn W ib oa n cap es s) (hV:VTab W bt T m D)
  (hend:∀ (V:Gh) (w':World) (b:Nat) (w8:World),(∀ k,k<9→∃ v,V k=some v)→W.heap.size≤b→Below W.heap.size W w8→w8.heap[b]? = some (.cells (z2g (wtOf es s e) 0 (.slice none 0 0)) 245 (0,0))→w'.ownsMap Tryz.prog 3 z1z bt (m+1) (D.put (.int .i64 id) (.held (.pointer (some ⟨b,0,none⟩))))→w8.mapTurned w' bt→Q .normal (actG ops V a0 ops.size) w'):(Code.region id0 ops true).wp Tryz.prog Q a0 W:=by
 have hops:ops.size=9:=by
  have:=congrArg List.length htab
  simpa [z3r,zj2] using this
 have hget:∀ k (hk:k<9),ops[k]? = some (ops[k]'(by omega)):=fun k hk=>Array.getElem?_eq_getElem (by omega)
 have hdst:∀ k t,(zj2[k]?).map (·.1)=some (some t)→(hk:k<9)→(ops[k]'(by omega)).dst=some t:=fun k t ht hk=>by
  have:=z2n htab (hget k hk)
  rw[this] at ht
  simpa using ht
 refine z3q hm hd hl (JQ8 W (ctQ8 qb bt ib oa n cap id e xl xp (wtOf es s e)) bt m D id (wtOf es s e)) ?_ ?_ ?_
 ·exact⟨(fun k v c h=>by cases h),fun _=>(Below.refl _ _).drew,(fun _ v h=>by cases h),fun h=>absurd rfl h⟩
 ·intro i o V w7 ho hVi hdep0 hcl hJ
  have hi:i<9:=by have:=(Array.getElem?_eq_some_iff.1 ho).1;omega
  have hop0:=z2n htab ho
  have hg:=z9z hfree ho
  have hdep:∀ {l:List Nat},z7v[i]? = some l→∀ k∈l,∃ v,V k=some v:=fun hl=>z5t hdp ho hdep0 hl
  have hlate:∀ k,i∈(z7v[k]?).getD []→V k=none:=fun k hk=>z7d hdp hcl k i hk hVi
  clear hdep0 hcl
  have hcases:i=0∨i=1∨i=2∨i=3∨i=4∨i=5∨i=6∨i=7∨i=8:=by omega
  rcases hcases with rfl|rfl|rfl|rfl|rfl|rfl|rfl|rfl|rfl
  ·have hop:o.op=.fieldAddr 234 (.tmp 7) 1:=zy hop0 rfl
   have E7:=evP (V:=V) n7 e7
   refine gop ho hg ?_ ⟨_,rfl,hJ.put rfl (by decide) (by decide)⟩
   rw[runH hop]
   generalize actG ops V a0 ops.size=A at E7 ⊢
   clear hJ hget hdst hend hdep hlate hq hsc hE hS hV
   go_simp
  ·have hop:o.op=.load 232 (.tmp 38):=zy hop0 rfl
   obtain⟨v0,g0⟩:=hdep rfl 0 (by decide)
   have E38:=evT hd htab hsz 0 38 rfl g0
   obtain rfl:v0=_:=hJ.pt 0 v0 _ g0 rfl
   have hn8:V 8=none:=hlate 8 (by simp[z7v])
   have k1:=((hJ.bel hn8).cell (ze hq)).trans (zb hq 1 rfl)
   refine gop ho hg ?_ ⟨_,rfl,hJ.put rfl (by decide) (by decide)⟩
   rw[runH hop]
   generalize actG ops V a0 ops.size=A at E38 ⊢
   clear hJ hget hdst hend hdep hlate hq hsc hE hS hV
   go_simp
  ·have hop:o.op=.move (.tmp 10):=zy hop0 rfl
   have E10:=evO (V:=V) n10 e10
   exact gM ho hg hop E10 ⟨_,rfl,hJ.put rfl (by decide) (by decide)⟩
  ·have hop:o.op=.load 182 (.tmp 8):=zy hop0 rfl
   have E8:=evP (V:=V) n8 e8
   have hn8:V 8=none:=hlate 8 (by simp[z7v])
   have k0:=((hJ.bel hn8).cell (ze hsc)).trans (zb hsc 0 rfl)
   have k1:=((hJ.bel hn8).cell (ze hsc)).trans (zb hsc 1 rfl)
   refine gop ho hg ?_ ⟨_,rfl,hJ.put rfl (by decide) (by decide)⟩
   rw[runH hop]
   generalize actG ops V a0 ops.size=A at E8 ⊢
   clear hJ hget hdst hend hdep hlate hq hsc hE hS hV
   go_simp
  ·have hop:o.op=.load 62 (.tmp 11):=zy hop0 rfl
   have E11:=evP (V:=V) n11 e11
   have hn8:V 8=none:=hlate 8 (by simp[z7v])
   obtain⟨t0,t1,t2,t3,t4,t5,t6,t7,t8⟩:=(hE.on (hJ.bel hn8) hE.lt).ev
   refine gop ho hg ?_ ⟨_,rfl,hJ.put rfl (by decide) (by decide)⟩
   rw[runH hop]
   generalize actG ops V a0 ops.size=A at E11 ⊢
   clear hJ hget hdst hend hdep hlate hq hsc hE hS hV
   go_simp
  ·have hop:o.op=.call { callee:=.value (.func 226),args:=#[.tmp 41,.tmp 42],argTypes:=#[182,62] }:=zy hop0 rfl
   obtain⟨v3,g3⟩:=hdep rfl 3 (by decide)
   obtain⟨v4,g4⟩:=hdep rfl 4 (by decide)
   have E41:=evT hd htab hsz 3 41 rfl g3
   have E42:=evT hd htab hsz 4 42 rfl g4
   obtain rfl:v3=_:=hJ.pt 3 v3 _ g3 rfl
   obtain rfl:v4=_:=hJ.pt 4 v4 _ g4 rfl
   have hn8:V 8=none:=hlate 8 (by simp[z7v])
   have HC:=hide (zix ib oa n cap es s e xl xp w7 (hS.on (hJ.bel hn8)))
   refine zmd ho hg (f:=226) (args:=#[scv ib oa n cap,evv e xl xp]) (w':=w7) ?_ (HC.out.mono ?_)
   ·rw[runH hop]
    generalize actG ops V a0 ops.size=A at E41 E42 ⊢
    clear hJ hget hdst hend hdep hlate hq hsc hE hS hV HC
    go_simp
   ·rintro e0 w8 ⟨rfl,hb⟩
    exact⟨_,rfl,_,rfl,(hJ.on hn8 hb).put rfl (by decide) (by decide)⟩
  ·have hop:o.op=.build 245 #[(0,.tmp 43)]:=zy hop0 rfl
   obtain⟨v5,g5⟩:=hdep rfl 5 (by decide)
   have E43:=evT hd htab hsz 5 43 rfl g5
   obtain rfl:v5=_:=hJ.pt 5 v5 _ g5 rfl
   refine gop ho hg ?_ ⟨_,rfl,hJ.put rfl (by decide) (by decide)⟩
   rw[runH hop]
   generalize actG ops V a0 ops.size=A at E43 ⊢
   clear hJ hget hdst hend hdep hlate hq hsc hE hS hV
   go_simp
  ·have hop:o.op=.box 245 (.tmp 44):=zy hop0 rfl
   obtain⟨v6,g6⟩:=hdep rfl 6 (by decide)
   have E44:=evT hd htab hsz 6 44 rfl g6
   obtain rfl:v6=_:=hJ.pt 6 v6 _ g6 rfl
   have hn8:V 8=none:=hlate 8 (by simp[z7v])
   have hb:Below w7.heap.size w7 (w7.alloc (.cells (z2g (wtOf es s e) 0 (.slice none 0 0)) 245)):=(Below.refl _ _).alloc (Nat.le_refl _) _
   have hJ2:=hJ.on hn8 hb
   refine gop ho hg ?_ ⟨.pointer (some ⟨w7.heap.size,0,none⟩),rfl,⟨hJ.pt.set (fun c hc=>by cases hc),fun _=>hJ2.bel hn8,fun _ v hv=>?_,fun h'=>?_⟩⟩
   ·rw[runH hop]
    generalize actG ops V a0 ops.size=A at E44 ⊢
    clear hJ hget hdst hend hdep hlate hq hsc hE hS hV hb hJ2
    go_simp
    rfl
   ·rw[Gh.set_self] at hv
    cases hv
    exact⟨_,rfl,(hJ.bel hn8).size,heap_alloc_new w7 _⟩
   ·rw[Gh.set_ne V _ (by decide)] at h'
    exact absurd hn8 h'
  ·have hop:o.op=.mapUpdate 232 (.tmp 39) (.tmp 40) (.tmp 45):=zy hop0 rfl
   obtain⟨v0,g0⟩:=hdep rfl 0 (by decide)
   obtain⟨v1,g1⟩:=hdep rfl 1 (by decide)
   obtain⟨v2,g2⟩:=hdep rfl 2 (by decide)
   obtain⟨v3,g3⟩:=hdep rfl 3 (by decide)
   obtain⟨v4,g4⟩:=hdep rfl 4 (by decide)
   obtain⟨v5,g5⟩:=hdep rfl 5 (by decide)
   obtain⟨v6,g6⟩:=hdep rfl 6 (by decide)
   obtain⟨v7,g7⟩:=hdep rfl 7 (by decide)
   have E39:=evD hd htab hsz 1 39 rfl g1
   have E40:=evD hd htab hsz 2 40 rfl g2
   have E45:=evD hd htab hsz 7 45 rfl g7
   obtain rfl:v0=_:=hJ.pt 0 v0 _ g0 rfl
   obtain rfl:v1=_:=hJ.pt 1 v1 _ g1 rfl
   obtain rfl:v2=_:=hJ.pt 2 v2 _ g2 rfl
   obtain rfl:v3=_:=hJ.pt 3 v3 _ g3 rfl
   obtain rfl:v4=_:=hJ.pt 4 v4 _ g4 rfl
   obtain rfl:v5=_:=hJ.pt 5 v5 _ g5 rfl
   obtain rfl:v6=_:=hJ.pt 6 v6 _ g6 rfl
   obtain⟨b,rfl,hBb,hb⟩:=hJ.box hVi v7 g7
   have hb7:=hJ.bel hVi
   have hV7:=hV.below hb7
   obtain⟨w',hrun,r1,r2⟩:=hV7.own.store (t:=232) (Maps.int_keyed Tryz.underlying3) Tryz.underlying232 (by unfold maxLen;omega) (keyI hid) (val:=.pointer (some ⟨b,0,none⟩)) rfl
   refine z6x ho hg (w':=w') ?_ ⟨_,rfl,⟨hJ.pt.set (fun c hc=>by cases hc),fun h'=>?_,fun h'=>?_,fun _=>⟨b,w7,hBb,hb7,hb,r1,r2⟩⟩⟩
   ·simp only[execOp,hop,E39,E40,E45,hrun,Sem.run_bind,Sem.run_pure,Result.andThen_ok]
   ·rw[Gh.set_self] at h';cases h'
   ·rw[Gh.set_self] at h';cases h'
 ·intro V w7 hall hJ
  have hall':∀ k,k<9→∃ v,V k=some v:=fun k hk=>Option.isSome_iff_exists.1 (hall k (by omega))
  obtain⟨v8,g8⟩:=hall' 8 (by omega)
  obtain⟨b,w8,h1,h2,h3,h4,h5⟩:=hJ.fin (by rw[g8];simp)
  exact hend V w7 b w8 hall' h1 h2 h3 h4 h5

def zfh:List (Option Tmp × Op):=[(some 72,.fieldAddr 234 (.tmp 7) 1),(some 73,.load 232 (.tmp 72)),(some 74,.move (.tmp 16)),(some 75,.lookup 232 (.tmp 73) (.tmp 74) false),(some 76,.fieldAddr 234 (.tmp 7) 1),(some 77,.load 232 (.tmp 76)),(some 78,.move (.tmp 16)),(some 79,.lookup 232 (.tmp 77) (.tmp 78) false),(some 80,.nilCheck (.tmp 79)),(some 81,.fieldAddr 245 (.tmp 80) 2),(some 82,.load 60 (.tmp 81)),(some 83,.move (.tmp 14)),(some 84,.buildSlice 60 1 #[(0,.tmp 83)]),(some 85,.call { callee:=.builtin .append,args:=#[.tmp 82,.tmp 84],argTypes:=#[60,60] }),(some 86,.nilCheck (.tmp 75)),(some 87,.fieldAddr 245 (.tmp 86) 2),(none,.store 60 (.tmp 87) (.tmp 85))]

def z3w:List (List Nat):=[[],[0],[],[1,2],[],[4],[],[5,6],[7],[8],[9],[],[11],[10,12],[0,1,2,3,4,5,6,7,8,9,10,11,12,13],[0,1,2,3,4,5,6,7,8,9,10,11,12,13,14],[0,1,2,3,4,5,6,7,8,9,10,11,12,13,15]]

set_option maxHeartbeats 4000000 in
theorem zgt {id0:Nat} {ops:Array Oper} {Q:Exit→Act→World→Prop} {a0:Act} {W:World} (hm:Tryz.prog.follows .mixedOrders=true) (htab:z3r ops=zfh) (hdp:z7c ops z3w=true) (hfree:zbv ops=true) (hd:z2z ops=true) (hl:z6y ops=true)
  (n7:z2d ops 7=true) (n14:z2d ops 14=true) (n16:z2d ops 16=true)
  {qb bk bt q B nb cb m:Nat} {ob:Option Addr} {xs:List Value} {id ah:Int} {x:Wt} {wn:Int} {T:Int→Option Value} {D:DataW Value}
  (hsz:88≤a0.tmps.size) (e7:a0.eval (.tmp 7)=.pointer (some ⟨qb,0,none⟩)) (e14:a0.eval (.tmp 14)=.int .i64 id) (e16:a0.eval (.tmp 16)=.int .i64 ah)
  (hah:(Lit.int .i64 ah).wf=true) (hB:B≤W.heap.size) (hnb:nb≤1000)
  (hq:W.heap[qb]? = some (.cells #[.map (some bk),.map (some bt)] 234 (0,0))) (hqn:some qb≠(Value.slice ob nb cb).ownBlock) (hV:VTab W bt T m D) (hbn:some bt≠(Value.slice ob nb cb).ownBlock) (hT:T ah=some (.pointer (some ⟨q,0,none⟩))) (hqq:some q≠(Value.slice ob nb cb).ownBlock)
  (hqt:W.heap[q]? = some (.cells (z2g x wn (.slice ob nb cb)) 245 (0,0))) (hrow:W.ownsRow B 3 1 (.slice ob nb cb) nb xs)
  (hend:∀ (V:Gh) (v:Value) (w8:World),(∀ k,k<17→∃ v,V k=some v)→W.grownBy w8 (Value.slice ob nb cb).ownBlock→w8.ownsRow B 3 1 v (nb+1) (xs++[.int .i64 id])→(v.ownBlock=(Value.slice ob nb cb).ownBlock∨∃ g,v.ownBlock=some g∧W.heap.size≤g)→Q .normal (actG ops V a0 ops.size) (w8.setCell ⟨q,5,none⟩ v)):(Code.region id0 ops true).wp Tryz.prog Q a0 W:=by
 have hops:ops.size=17:=by
  have:=congrArg List.length htab
  simpa [z3r,zfh] using this
 have hget:∀ k (hk:k<17),ops[k]? = some (ops[k]'(by omega)):=fun k hk=>Array.getElem?_eq_getElem (by omega)
 have hdst:∀ k t,(zfh[k]?).map (·.1)=some (some t)→(hk:k<17)→(ops[k]'(by omega)).dst=some t:=fun k t ht hk=>by
  have:=z2n htab (hget k hk)
  rw[this] at ht
  simpa using ht
 refine z3q hm hd hl (JQ17 W (zom qb bt q ah id (.slice ob nb cb)) B (.slice ob nb cb) nb xs id q) ?_ ?_ ?_
 ·exact⟨(fun k v c h=>by cases h),fun _=>⟨rfl,rfl,rfl,Nat.le_refl _,fun _ _ _=>rfl⟩,fun _=>hrow.drew,(fun _ v h=>by cases h),(fun _ v h=>by cases h),fun h=>absurd rfl h⟩
 ·intro i o V w7 ho hVi hdep0 hcl hJ
  have hi:i<17:=by have:=(Array.getElem?_eq_some_iff.1 ho).1;omega
  have hop0:=z2n htab ho
  have hg:=z9z hfree ho
  have hdep:∀ {l:List Nat},z3w[i]? = some l→∀ k∈l,∃ v,V k=some v:=fun hl=>z5t hdp ho hdep0 hl
  have hlate:∀ k,i∈(z3w[k]?).getD []→V k=none:=fun k hk=>z7d hdp hcl k i hk hVi
  clear hdep0 hcl
  have hcases:i=0∨i=1∨i=2∨i=3∨i=4∨i=5∨i=6∨i=7∨i=8∨i=9∨i=10∨i=11∨i=12∨i=13∨i=14∨i=15∨i=16:=by omega
  rcases hcases with rfl|rfl|rfl|rfl|rfl|rfl|rfl|rfl|rfl|rfl|rfl|rfl|rfl|rfl|rfl|rfl|rfl
  ·have hop:o.op=.fieldAddr 234 (.tmp 7) 1:=zy hop0 rfl
   have E7:=evP (V:=V) n7 e7
   refine gop ho hg ?_ ⟨_,rfl,hJ.put rfl (by decide) (by decide) (by decide)⟩
   rw[runH hop]
   generalize actG ops V a0 ops.size=A at E7 ⊢
   clear hJ hget hdst hend hdep hlate hq hqn hV hbn hT hqq hqt hrow
   go_simp
  ·have hop:o.op=.load 232 (.tmp 72):=zy hop0 rfl
   obtain⟨v0,g0⟩:=hdep rfl 0 (by decide)
   have E72:=evT hd htab hsz 0 72 rfl g0
   obtain rfl:v0=_:=hJ.pt 0 v0 _ g0 rfl
   have hn6:V 16=none:=hlate 16 (by simp[z3w])
   have k1:=zb (((hJ.gr hn6).block qb (ze hq) hqn).trans hq) 1 rfl
   refine gop ho hg ?_ ⟨_,rfl,hJ.put rfl (by decide) (by decide) (by decide)⟩
   rw[runH hop]
   generalize actG ops V a0 ops.size=A at E72 ⊢
   clear hJ hget hdst hend hdep hlate hq hqn hV hbn hT hqq hqt hrow
   go_simp
  ·have hop:o.op=.move (.tmp 16):=zy hop0 rfl
   have E16:=evO (V:=V) n16 e16
   exact gM ho hg hop E16 ⟨_,rfl,hJ.put rfl (by decide) (by decide) (by decide)⟩
  ·have hop:o.op=.lookup 232 (.tmp 73) (.tmp 74) false:=zy hop0 rfl
   obtain⟨v1,g1⟩:=hdep rfl 1 (by decide)
   obtain⟨v2,g2⟩:=hdep rfl 2 (by decide)
   have E73:=evT hd htab hsz 1 73 rfl g1
   have E74:=evT hd htab hsz 2 74 rfl g2
   obtain rfl:v1=_:=hJ.pt 1 v1 _ g1 rfl
   obtain rfl:v2=_:=hJ.pt 2 v2 _ g2 rfl
   have hn6:V 16=none:=hlate 16 (by simp[z3w])
   have hk:=(hV.kept (hJ.gr hn6) hbn).get Tryz.underlying232 (Tryz.zeroValue240 _) hah
   rw[hT] at hk
   simp only[Option.getD_some] at hk
   refine gop ho hg ?_ ⟨_,rfl,hJ.put rfl (by decide) (by decide) (by decide)⟩
   rw[runH hop]
   generalize actG ops V a0 ops.size=A at E73 E74 ⊢
   clear hJ hget hdst hend hdep hlate hq hqn hV hbn hT hqq hqt hrow
   go_simp
  ·have hop:o.op=.fieldAddr 234 (.tmp 7) 1:=zy hop0 rfl
   have E7:=evP (V:=V) n7 e7
   refine gop ho hg ?_ ⟨_,rfl,hJ.put rfl (by decide) (by decide) (by decide)⟩
   rw[runH hop]
   generalize actG ops V a0 ops.size=A at E7 ⊢
   clear hJ hget hdst hend hdep hlate hq hqn hV hbn hT hqq hqt hrow
   go_simp
  ·have hop:o.op=.load 232 (.tmp 76):=zy hop0 rfl
   obtain⟨v4,g4⟩:=hdep rfl 4 (by decide)
   have E76:=evT hd htab hsz 4 76 rfl g4
   obtain rfl:v4=_:=hJ.pt 4 v4 _ g4 rfl
   have hn6:V 16=none:=hlate 16 (by simp[z3w])
   have k1:=zb (((hJ.gr hn6).block qb (ze hq) hqn).trans hq) 1 rfl
   refine gop ho hg ?_ ⟨_,rfl,hJ.put rfl (by decide) (by decide) (by decide)⟩
   rw[runH hop]
   generalize actG ops V a0 ops.size=A at E76 ⊢
   clear hJ hget hdst hend hdep hlate hq hqn hV hbn hT hqq hqt hrow
   go_simp
  ·have hop:o.op=.move (.tmp 16):=zy hop0 rfl
   have E16:=evO (V:=V) n16 e16
   exact gM ho hg hop E16 ⟨_,rfl,hJ.put rfl (by decide) (by decide) (by decide)⟩
  ·have hop:o.op=.lookup 232 (.tmp 77) (.tmp 78) false:=zy hop0 rfl
   obtain⟨v5,g5⟩:=hdep rfl 5 (by decide)
   obtain⟨v6,g6⟩:=hdep rfl 6 (by decide)
   have E77:=evT hd htab hsz 5 77 rfl g5
   have E78:=evT hd htab hsz 6 78 rfl g6
   obtain rfl:v5=_:=hJ.pt 5 v5 _ g5 rfl
   obtain rfl:v6=_:=hJ.pt 6 v6 _ g6 rfl
   have hn6:V 16=none:=hlate 16 (by simp[z3w])
   have hk:=(hV.kept (hJ.gr hn6) hbn).get Tryz.underlying232 (Tryz.zeroValue240 _) hah
   rw[hT] at hk
   simp only[Option.getD_some] at hk
   refine gop ho hg ?_ ⟨_,rfl,hJ.put rfl (by decide) (by decide) (by decide)⟩
   rw[runH hop]
   generalize actG ops V a0 ops.size=A at E77 E78 ⊢
   clear hJ hget hdst hend hdep hlate hq hqn hV hbn hT hqq hqt hrow
   go_simp
  ·have hop:o.op=.nilCheck (.tmp 79):=zy hop0 rfl
   obtain⟨v7,g7⟩:=hdep rfl 7 (by decide)
   have E79:=evT hd htab hsz 7 79 rfl g7
   obtain rfl:v7=_:=hJ.pt 7 v7 _ g7 rfl
   refine gop ho hg ?_ ⟨_,rfl,hJ.put rfl (by decide) (by decide) (by decide)⟩
   rw[runH hop]
   generalize actG ops V a0 ops.size=A at E79 ⊢
   clear hJ hget hdst hend hdep hlate hq hqn hV hbn hT hqq hqt hrow
   go_simp
  ·have hop:o.op=.fieldAddr 245 (.tmp 80) 2:=zy hop0 rfl
   obtain⟨v8,g8⟩:=hdep rfl 8 (by decide)
   have E80:=evT hd htab hsz 8 80 rfl g8
   obtain rfl:v8=_:=hJ.pt 8 v8 _ g8 rfl
   refine gop ho hg ?_ ⟨_,rfl,hJ.put rfl (by decide) (by decide) (by decide)⟩
   rw[runH hop]
   generalize actG ops V a0 ops.size=A at E80 ⊢
   clear hJ hget hdst hend hdep hlate hq hqn hV hbn hT hqq hqt hrow
   go_simp
  ·have hop:o.op=.load 60 (.tmp 81):=zy hop0 rfl
   obtain⟨v9,g9⟩:=hdep rfl 9 (by decide)
   have E81:=evT hd htab hsz 9 81 rfl g9
   obtain rfl:v9=_:=hJ.pt 9 v9 _ g9 rfl
   have hn6:V 16=none:=hlate 16 (by simp[z3w])
   have hn3:V 13=none:=hlate 13 (by simp[z3w])
   have k5:w7.cell? ⟨q,5,none⟩=some (.slice ob nb cb):=zb (((hJ.gr hn6).block q (ze hqt) hqq).trans hqt) 5 rfl
   refine gop ho hg ?_ ⟨_,rfl,hJ.put rfl (by decide) (by decide) (by decide)⟩
   rw[runH hop]
   generalize actG ops V a0 ops.size=A at E81 ⊢
   clear hJ hget hdst hend hdep hlate hq hqn hV hbn hT hqq hqt hrow
   go_simp
  ·have hop:o.op=.move (.tmp 14):=zy hop0 rfl
   have E14:=evO (V:=V) n14 e14
   exact gM ho hg hop E14 ⟨_,rfl,hJ.put rfl (by decide) (by decide) (by decide)⟩
  ·have hop:o.op=.buildSlice 60 1 #[(0,.tmp 83)]:=zy hop0 rfl
   obtain⟨v11,g11⟩:=hdep rfl 11 (by decide)
   have E83:=evT hd htab hsz 11 83 rfl g11
   obtain rfl:v11=_:=hJ.pt 11 v11 _ g11 rfl
   have hn6:V 16=none:=hlate 16 (by simp[z3w])
   have hn3:V 13=none:=hlate 13 (by simp[z3w])
   refine gop ho hg ?_ ⟨_,rfl,hJ.p12 rfl hn3 hn6⟩
   rw[runH hop]
   generalize actG ops V a0 ops.size=A at E83 ⊢
   clear hJ hget hdst hend hdep hlate hq hqn hV hbn hT hqq hqt hrow
   go_simp
  ·have hop:o.op=.call { callee:=.builtin .append,args:=#[.tmp 82,.tmp 84],argTypes:=#[60,60] }:=zy hop0 rfl
   obtain⟨v10,g10⟩:=hdep rfl 10 (by decide)
   obtain⟨v12,g12⟩:=hdep rfl 12 (by decide)
   have E82:=evD hd htab hsz 10 82 rfl g10
   have E84:=evD hd htab hsz 12 84 rfl g12
   obtain rfl:v10=_:=hJ.pt 10 v10 _ g10 rfl
   have hn6:V 16=none:=hlate 16 (by simp[z3w])
   obtain⟨b,rfl,hb⟩:=hJ.r12 hVi v12 g12
   obtain⟨v',w',hr,k1,k2,k3⟩:=z1v (P:=Tryz.prog) (ty:=o.type) (t:=60) (by decide) Tryz.underlying60 z1u rfl (hJ.r0 hVi) (za4 hb rfl (by simp[Value.oneCell'])) (Nat.le_trans hB (hJ.gr hn6).size) (by unfold maxLen;omega) (by omega)
   refine gop ho hg ?_ ⟨_,rfl,hJ.p13 rfl hVi hn6 k1 k2 k3⟩
   rw[runH hop]
   simp only[execOp,resolve,invoke,builtin,Sem.run_bind,Sem.run_pure,Result.andThen_ok,List.map_toArray,List.map_cons,List.map_nil,E82,E84,hr]
  ·have hop:o.op=.nilCheck (.tmp 75):=zy hop0 rfl
   obtain⟨v3,g3⟩:=hdep rfl 3 (by decide)
   have E75:=evT hd htab hsz 3 75 rfl g3
   obtain rfl:v3=_:=hJ.pt 3 v3 _ g3 rfl
   refine gop ho hg ?_ ⟨_,rfl,hJ.put rfl (by decide) (by decide) (by decide)⟩
   rw[runH hop]
   generalize actG ops V a0 ops.size=A at E75 ⊢
   clear hJ hget hdst hend hdep hlate hq hqn hV hbn hT hqq hqt hrow
   go_simp
  ·have hop:o.op=.fieldAddr 245 (.tmp 86) 2:=zy hop0 rfl
   obtain⟨v14,g14⟩:=hdep rfl 14 (by decide)
   have E86:=evT hd htab hsz 14 86 rfl g14
   obtain rfl:v14=_:=hJ.pt 14 v14 _ g14 rfl
   refine gop ho hg ?_ ⟨_,rfl,hJ.put rfl (by decide) (by decide) (by decide)⟩
   rw[runH hop]
   generalize actG ops V a0 ops.size=A at E86 ⊢
   clear hJ hget hdst hend hdep hlate hq hqn hV hbn hT hqq hqt hrow
   go_simp
  ·have hop:o.op=.store 60 (.tmp 87) (.tmp 85):=zy hop0 rfl
   obtain⟨v13,g13⟩:=hdep rfl 13 (by decide)
   obtain⟨v15,g15⟩:=hdep rfl 15 (by decide)
   have E85:=evT hd htab hsz 13 85 rfl g13
   have E87:=evT hd htab hsz 15 87 rfl g15
   obtain rfl:v15=_:=hJ.pt 15 v15 _ g15 rfl
   obtain⟨hr13,-⟩:=hJ.r13 hVi v13 g13
   obtain⟨o13,c13,rfl⟩:=zi hr13
   have hqt7:=((hJ.gr hVi).block q (ze hqt) hqq).trans hqt
   have k5:w7.cell? ⟨q,5,none⟩=some (.slice ob nb cb):=zb hqt7 5 rfl
   have f5:=zh hqt7 5
   refine z6x ho hg (w':=w7.setCell ⟨q,5,none⟩ (.slice o13 (nb+1) c13)) ?_ ⟨_,rfl,hJ.p16 rfl hVi g13 _⟩
   clear hr13 hqt7
   rw[runH hop]
   generalize actG ops V a0 ops.size=A at E85 E87 ⊢
   clear hJ hget hdst hend hdep hlate hq hqn hV hbn hT hqq hqt hrow
   go_simp
 ·intro V w7 hall hJ
  have hall':∀ k,k<17→∃ v,V k=some v:=fun k hk=>Option.isSome_iff_exists.1 (hall k (by omega))
  obtain⟨v16,g16⟩:=hall' 16 (by omega)
  obtain⟨v,w8,h1,h2,h3,rfl⟩:=hJ.fin (by rw[g16];simp)
  exact hend V v w8 hall' h1 h2 h3

end Go.Proofs.YtfeebdcmlnapiaaGreat
