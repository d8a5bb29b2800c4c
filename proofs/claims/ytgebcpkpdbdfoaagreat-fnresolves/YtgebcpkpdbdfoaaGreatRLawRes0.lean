/-
  Walks.
-/
import Derived.Test.YtgebcpkpdbdfoaaGreatRWalk11zn
import Derived.Test.YtgebcpkpdbdfoaaGreatRWalk11zl
import Derived.Test.YtgebcpkpdbdfoaaGreatROrd1
import Derived.Test.YtgebcpkpdbdfoaaGreatRWalk11za
import Derived.Test.YtgebcpkpdbdfoaaGreatRWalk12m
import Derived.Test.YtgebcpkpdbdfoaaGreatRWalk10rc
import Derived.Test.YtgebcpkpdbdfoaaGreatRDraw1
import Derived.Test.YtgebcpkpdbdfoaaGreatRWalk10q
import Derived.Test.YtgebcpkpdbdfoaaGreatRRoom3
import Derived.Test.YtgebcpkpdbdfoaaGreatRWalk12b
set_option linter.unusedVariables false
set_option linter.unusedSimpArgs false
namespace Go.Proofs.YtgebcpkpdbdfoaaGreat
open Go.RowKit P5 P9 P12 P14 P15 P16 P17 K

theorem zcc:∀ {es:List EvV} {e:EvV},(es.map (·.id)).Nodup→e∈es→zi es e.id=some e
 | x::r,e,hn,he=>by
  rw[List.map_cons,List.nodup_cons] at hn
  unfold zi
  rcases List.mem_cons.1 he with rfl|he
  ·rw[if_pos rfl]
  ·rw[if_neg (fun h=>hn.1 (by rw[h];exact List.mem_map.2 ⟨e,he,rfl⟩))]
   exact zcc hn.2 he

section
variable {es:List EvV} {sts ss:List St}

theorem Lot.roomE (h:Lot es sts ss):zi7 es:=by
 have hb:=z8f h.dr.built
 have hn:=h.dr.inv.len
 exact⟨by omega,h.dr.inv.fine,fun e he=>by
  have h1:=h.dr.inv.ids e he
  have h2:=h.dr.ids e he
  exact z2i (by omega) (by omega),fun e he=>by
  have h:=hb.1 e he
  unfold evOk z1h at h
  simp only[Bool.and_eq_true,decide_eq_true_eq] at h
  exact h.2.2.2.1,fun e he=>by
  have h1:=h.dr.inv.ids e he
  omega,h.dr.inv.nod⟩

theorem Lot.ok (h:Lot es sts ss):∀ s∈ss,stOk s=true:=fun s hs=>((z8f h.dr.built).2 s (h.sub s hs)).2

theorem Lot.tells (h:Lot es sts ss):∀ s∈ss,Tells es s:=fun s hs=>((z8f h.dr.built).2 s (h.sub s hs)).1

theorem Lot.told (h:Lot es sts ss):z8p es ss:=fun s hs x hx=>by
 obtain⟨e,h1,h2,h3,h4⟩:=h.tells s hs x hx
 refine⟨e,?_,h3⟩
 rw[← h2]
 exact zcc h.dr.inv.nod h1
end

end Go.Proofs.YtgebcpkpdbdfoaaGreat

namespace Go.Proofs.YtgebcpkpdbdfoaaGreat
open Go.RowKit P5 P9 P12 P14 P15 P16 P17 K

theorem StsAt.src {w:World} {oa:Option Addr} {n cap:Nat} {ss:List St} (h:StsAt w oa n cap ss):∃ ys,Src w 1 (.slice oa n cap) n ys∧StsX w ss ys:=by
 cases ss with
 | nil =>
  have hn:n=0:=by have:=h.len;simpa using this.symm
  subst hn
  exact⟨[],⟨by simp,fun u hu=>by simp at hu,oa,cap,rfl,h.room,h.most,fun _=>rfl,fun a _=>⟨.inr rfl,fun q u hu=>by simp at hu⟩⟩,fun i s hs=>by simp at hs⟩
 | cons s0 r =>
  obtain⟨b,o,_,_,rfl,_,_⟩:=h.at_ 0 s0 rfl
  obtain⟨ys,hys⟩:∃ ys,(List.range n).map (fun i=>(w.cell? ⟨b,o+i,none⟩).getD undef)=ys:=⟨_,rfl⟩
  have hat:∀ (i:Nat) (s:St),(s0::r)[i]? = some s→∃ xa xc,ys[i]? = some (.slice xa s.length xc)∧w.cell? ⟨b,o+i,none⟩=some (.slice xa s.length xc)∧ItemsAt w xa s.length xc s:=fun i s hs=>by
   obtain⟨b',o',xa,xc,he,hc,hi⟩:=h.at_ i s hs
   cases he
   have hin:i<n:=by rw[← h.len];exact (List.getElem?_eq_some_iff.1 hs).1
   refine⟨xa,xc,?_,hc,hi⟩
   rw[← hys,List.getElem?_map,List.getElem?_range hin,Option.map_some,hc]
   rfl
  have hyl:ys.length=n:=by rw[← hys];simp
  have hget:∀ q u,ys[q]? = some u→∃ s xa xc,u=.slice xa s.length xc∧w.cell? ⟨b,o+q,none⟩=some u∧ItemsAt w xa s.length xc s:=fun q u hu=>by
   have hq:q<n:=by rw[← hyl];exact (List.getElem?_eq_some_iff.1 hu).1
   obtain⟨s,hs⟩:∃ s,(s0::r)[q]? = some s:=⟨_,List.getElem?_eq_getElem (by rw[h.len];exact hq)⟩
   obtain⟨xa,xc,h1,h2,h3⟩:=hat q s hs
   rw[hu] at h1
   cases h1
   exact⟨s,xa,xc,rfl,h2,h3⟩
  refine⟨ys,⟨by rw[hyl,Nat.mul_one],fun u hu=>?_,_,cap,rfl,h.room,h.most,(fun e=>by cases e),fun a ha=>?_⟩,fun i s hs=>?_⟩
  ·obtain⟨q,hq⟩:=List.mem_iff_getElem?.1 hu
   obtain⟨_,_,_,rfl,_,_⟩:=hget q u hq
   rfl
  ·cases ha
   refine⟨.inl rfl,fun q u hu=>?_⟩
   obtain⟨_,_,_,_,hc,_⟩:=hget q u hu
   rw[Addr.add_mid]
   exact hc
  ·obtain⟨xa,xc,h1,_,h3⟩:=hat i s hs
   exact⟨xa,xc,h1,h3⟩

def ctW (vs:Value) (b0 q0:Nat) (v0:Value):Nat→Option Value
 | 1=>some vs
 | 3=>some vs
 | 4=>some (.pointer (some ⟨b0,q0,none⟩))
 | 5=>some v0
 | _=>none

structure JW (W:World) (ct:Nat→Option Value) (n:Nat) (ys:List Value) (v0:Value) (V:Gh) (w:World):Prop where
 pt:PT ct V
 bel:Below W.heap.size W w
 ch:Chain W.heap.size 28 1 n ys #[v0] 0 2 6 7 V w
 a8:∀ v,V 8=some v→V 7=some v

section
variable {W:World} {ct:Nat→Option Value} {n:Nat} {ys:List Value} {v0:Value} {V:Gh} {w w':World}

theorem JW.pure (h:JW W ct n ys v0 V w) {i:Nat} {v:Value} (hi:V i=none) (hc:∀ c,ct i=some c→v=c) (h0:0≠i) (h2:2≠i) (h6:6≠i) (h7:7≠i) (a8:i=8→V 7=some v):JW W ct n ys v0 (V.set i v) w :=
 ⟨h.pt.set hc,h.bel,h.ch.set v h0 h2 h6 h7,fun u hu=>by
  rw[Gh.set_ne V v h7]
  by_cases e:8=i
  ·subst e;rw[Gh.set_self] at hu;cases hu;exact a8 rfl
  ·rw[Gh.set_ne V v e] at hu;exact h.a8 u hu⟩
end

def tabW:List (Option Tmp × Op):=[(some 56,.buildSlice 25 0 #[]),(some 57,.move (.tmp 4)),(some 58,.call { callee:=.builtin .append,args:=#[.tmp 56,.tmp 57],argTypes:=#[25,25] }),(some 59,.move (.tmp 4)),(some 60,.indexAddr 25 (.tmp 59) (.const (.int .i64 0))),(some 61,.load 28 (.tmp 60)),(some 62,.buildSlice 25 1 #[(0,.tmp 61)]),(some 63,.call { callee:=.builtin .append,args:=#[.tmp 58,.tmp 62],argTypes:=#[25,25] }),(some 8,.assign (.tmp 63))]

def depW:List (List Nat):=[[],[],[0,1],[],[3],[4],[5],[2,6],[0,1,2,3,4,5,6,7]]

set_option maxHeartbeats 4000000 in
theorem y03 {id:Nat} {ops:Array Oper} {Q:Exit→Act→World→Prop} {a0:Act} {W:World} (hm:Tryz.prog.follows .mixedOrders=true) (htab:z1w ops=tabW) (hdp:z4z ops depW=true) (hfree:z6o ops=true) (hd:z2e ops=true) (hl:z5x ops=true) (n4:z16 ops 4=true)
  {ov:Option Addr} {cv:Nat} {n:Nat} {ys:List Value} {b0 q0:Nat} {xa:Option Addr} {xn xc:Nat}
  (hsz:144≤a0.tmps.size) (e4:a0.eval (.tmp 4)=.slice ov n cv) (hn:n≤100000)
  (hidx:∀ wx,(Instr.indexAt 25 (.slice ov n cv) (.int .i64 0)).run Tryz.prog wx=.ok (.pointer (some ⟨b0,q0,none⟩)) wx)
  (hcel:∀ w',Below W.heap.size W w'→w'.cell? ⟨b0,q0,none⟩=some (.slice xa xn xc)) (hsrc:∀ w',Below W.heap.size W w'→Src w' 1 (.slice ov n cv) n ys)
  (hend:∀ (V:Gh) (w':World) (ou:Option Addr) (cu:Nat),(∀ k,k<9→∃ v,V k=some v)→V 8=some (.slice ou (n+1) cu)→w'.ownsRow W.heap.size 28 1 (.slice ou (n+1) cu) (n+1) (ys++[.slice xa xn xc])→Below W.heap.size W w'→Q .normal (actG ops V a0 ops.size) w'):(Code.region id ops true).wp Tryz.prog Q a0 W:=by
 have hops:ops.size=9:=by
  have:=congrArg List.length htab
  simpa [z1w,tabW] using this
 have hget:∀ k (hk:k<9),ops[k]? = some (ops[k]'(by omega)):=fun k hk=>Array.getElem?_eq_getElem (by omega)
 have hdst:∀ k t,(tabW[k]?).map (·.1)=some (some t)→(hk:k<9)→(ops[k]'(by omega)).dst=some t:=fun k t ht hk=>by
  have:=z0v htab (hget k hk)
  rw[this] at ht
  simpa using ht
 refine z1y hm hd hl (JW W (ctW (.slice ov n cv) b0 q0 (.slice xa xn xc)) n ys (.slice xa xn xc)) ?_ ?_ ?_
 ·exact⟨(fun k v c h=>by cases h),(Below.refl _ _).drew,Chain.start,(fun v h=>by cases h)⟩
 ·intro i o V w7 ho hVi hdep0 hcl hJ
  have hi:i<9:=by have:=(Array.getElem?_eq_some_iff.1 ho).1;omega
  have hop0:=z0v htab ho
  have hg:=z4f hfree ho
  have hdep:∀ {l:List Nat},depW[i]? = some l→∀ k∈l,∃ v,V k=some v:=fun hl=>z0w hdp ho hdep0 hl
  have hup:=y0n hdp hcl
  clear hdep0 hcl
  have hcases:i=0∨i=1∨i=2∨i=3∨i=4∨i=5∨i=6∨i=7∨i=8:=by omega
  rcases hcases with rfl|rfl|rfl|rfl|rfl|rfl|rfl|rfl|rfl
  ·have hop:o.op=.buildSlice 25 0 #[]:=zk hop0 rfl
   have hz2:V 2=none:=hup 2 0 (by simp[depW]) hVi
   have hz7:V 7=none:=hup 7 2 (by simp[depW]) hz2
   refine gop ho hg ?_ ⟨.slice (some ⟨w7.heap.size,0,none⟩) 0 0,rfl,⟨hJ.pt.set (fun c hc=>by cases hc),hJ.bel.alloc hJ.bel.size _,hJ.ch.s0 hJ.bel.size hz2 (by decide) (by decide) (by decide),(fun u hu=>by rw[Gh.set_ne V _ (by decide)] at hu;have:=hJ.a8 u hu;rw[hz7] at this;cases this)⟩⟩
   clear hz2 hz7
   rw[runH hop]
   generalize actG ops V a0 ops.size=A
   clear hJ hget hdst hend hdep hup hsrc hcel
   go_simp
  ·have hop:o.op=.move (.tmp 4):=zk hop0 rfl
   have E4:=evO (V:=V) n4 e4
   exact gM ho hg hop E4 ⟨_,rfl,hJ.pure hVi (fun c hc=>by cases hc;rfl) (by decide) (by decide) (by decide) (by decide) (fun h=>by omega)⟩
  ·have hop:o.op=.call { callee:=.builtin .append,args:=#[.tmp 56,.tmp 57],argTypes:=#[25,25] }:=zk hop0 rfl
   obtain⟨v0',g0⟩:=hdep rfl 0 (by decide)
   obtain⟨v1,g1⟩:=hdep rfl 1 (by decide)
   have E56:(actG ops V a0 ops.size).eval (.tmp 56)=v0':=z3j hd (hget 0 (by omega)) (hdst 0 56 (by simp[tabW]) (by omega)) g0 (by omega) _ (by omega)
   have E57:=evD hd htab hsz 1 57 rfl g1
   obtain rfl:v1=_:=hJ.pt 1 v1 _ g1 rfl
   have hz7:V 7=none:=hup 7 2 (by simp[depW]) hVi
   have hr0:=hJ.ch.c0 v0' g0 hVi
   obtain⟨v',w',hr,k1,k2,k3⟩:=z0o (P:=Tryz.prog) (ty:=o.type) (t:=25) (by decide) Tryz.underlying25 z8m rfl hr0 (hsrc _ hJ.bel) hJ.bel.size (by unfold maxLen;omega) (by omega)
   rw[Nat.zero_add,List.nil_append] at k1
   refine gop ho hg ?_ ⟨_,rfl,⟨hJ.pt.set (fun c hc=>by cases hc),hJ.bel.grown k2 hJ.bel.size (fun q hq=>(hr0.lt q hq).1),hJ.ch.s1 g0 hVi hz7 k1 k2 k3 (by decide) (by decide) (by decide),(fun u hu=>by rw[Gh.set_ne V _ (by decide)] at hu;have:=hJ.a8 u hu;rw[hz7] at this;cases this)⟩⟩
   rw[runH hop]
   simp only[execOp,resolve,invoke,builtin,Sem.run_bind,Sem.run_pure,Result.andThen_ok,List.map_toArray,List.map_cons,List.map_nil,E56,E57,hr]
  ·have hop:o.op=.move (.tmp 4):=zk hop0 rfl
   have E4:=evO (V:=V) n4 e4
   exact gM ho hg hop E4 ⟨_,rfl,hJ.pure hVi (fun c hc=>by cases hc;rfl) (by decide) (by decide) (by decide) (by decide) (fun h=>by omega)⟩
  ·have hop:o.op=.indexAddr 25 (.tmp 59) (.const (.int .i64 0)):=zk hop0 rfl
   obtain⟨v3,g3⟩:=hdep rfl 3 (by decide)
   have E59:=evT hd htab hsz 3 59 rfl g3
   obtain rfl:v3=_:=hJ.pt 3 v3 _ g3 rfl
   refine gop ho hg ?_ ⟨_,rfl,hJ.pure hVi (fun c hc=>by cases hc;rfl) (by decide) (by decide) (by decide) (by decide) (fun h=>by omega)⟩
   rw[runH hop]
   generalize actG ops V a0 ops.size=A at E59 ⊢
   clear hJ hget hdst hend hdep hup hsrc hcel
   go_simp
  ·have hop:o.op=.load 28 (.tmp 60):=zk hop0 rfl
   obtain⟨v4,g4⟩:=hdep rfl 4 (by decide)
   have E60:=evT hd htab hsz 4 60 rfl g4
   obtain rfl:v4=_:=hJ.pt 4 v4 _ g4 rfl
   have hcw:=hcel _ hJ.bel
   refine gop ho hg ?_ ⟨_,rfl,hJ.pure hVi (fun c hc=>by cases hc;rfl) (by decide) (by decide) (by decide) (by decide) (fun h=>by omega)⟩
   rw[runH hop]
   generalize actG ops V a0 ops.size=A at E60 ⊢
   clear hJ hget hdst hend hdep hup hsrc hcel
   go_simp
  ·have hop:o.op=.buildSlice 25 1 #[(0,.tmp 61)]:=zk hop0 rfl
   obtain⟨v5,g5⟩:=hdep rfl 5 (by decide)
   have E61:=evT hd htab hsz 5 61 rfl g5
   obtain rfl:v5=_:=hJ.pt 5 v5 _ g5 rfl
   have hz7:V 7=none:=hup 7 6 (by simp[depW]) hVi
   refine gop ho hg ?_ ⟨.slice (some ⟨w7.heap.size,0,none⟩) 1 1,rfl,⟨hJ.pt.set (fun c hc=>by cases hc),hJ.bel.alloc hJ.bel.size _,hJ.ch.s2 (by decide) (by decide) (by decide),(fun u hu=>by rw[Gh.set_ne V _ (by decide)] at hu;have:=hJ.a8 u hu;rw[hz7] at this;cases this)⟩⟩
   clear hz7
   rw[runH hop]
   generalize actG ops V a0 ops.size=A at E61 ⊢
   clear hJ hget hdst hend hdep hup hsrc hcel
   go_simp
  ·have hop:o.op=.call { callee:=.builtin .append,args:=#[.tmp 58,.tmp 62],argTypes:=#[25,25] }:=zk hop0 rfl
   obtain⟨v2,g2⟩:=hdep rfl 2 (by decide)
   obtain⟨v6,g6⟩:=hdep rfl 6 (by decide)
   have E58:=evD hd htab hsz 2 58 rfl g2
   have E62:=evD hd htab hsz 6 62 rfl g6
   have hr2:=hJ.ch.c1 v2 g2 hVi
   obtain⟨bl,rfl,hbl,-,-⟩:=hJ.ch.c2 v6 g6 hVi
   obtain⟨v',w',hr,k1,k2,k3⟩:=z0o (P:=Tryz.prog) (ty:=o.type) (t:=25) (by decide) Tryz.underlying25 z8m rfl hr2 (z7b hbl rfl (by simp[Value.oneCell'])) hJ.bel.size (by unfold maxLen;omega) (by omega)
   refine gop ho hg ?_ ⟨_,rfl,⟨hJ.pt.set (fun c hc=>by cases hc),hJ.bel.grown k2 hJ.bel.size (fun q hq=>(hr2.lt q hq).1),hJ.ch.s3 g2 k1 (by decide),(fun u hu=>by rw[Gh.set_ne V _ (by decide)] at hu;have:=hJ.a8 u hu;rw[hVi] at this;cases this)⟩⟩
   rw[runH hop]
   simp only[execOp,resolve,invoke,builtin,Sem.run_bind,Sem.run_pure,Result.andThen_ok,List.map_toArray,List.map_cons,List.map_nil,E58,E62,hr]
  ·have hop:o.op=.assign (.tmp 63):=zk hop0 rfl
   obtain⟨v7,g7⟩:=hdep rfl 7 (by decide)
   have E63:=evT hd htab hsz 7 63 rfl g7
   refine gop ho hg ?_ ⟨_,rfl,hJ.pure hVi (fun c hc=>by cases hc) (by decide) (by decide) (by decide) (by decide) (fun _=>g7)⟩
   obtain⟨oa8,c8,hv8⟩:=zb (hJ.ch.c3 v7 g7)
   subst hv8
   rw[runH hop]
   generalize actG ops V a0 ops.size=A at E63 ⊢
   clear hJ hget hdst hend hdep hup hsrc hcel
   go_simp
 ·intro V w7 hall hJ
  have hall':∀ k,k<9→∃ v,V k=some v:=fun k hk=>Option.isSome_iff_exists.1 (hall k (by omega))
  obtain⟨v8,g8⟩:=hall' 8 (by omega)
  have hr:=hJ.ch.c3 v8 (hJ.a8 v8 g8)
  obtain⟨ou,cu,rfl⟩:=zb hr
  exact hend V w7 ou cu hall' g8 hr hJ.bel

end Go.Proofs.YtgebcpkpdbdfoaaGreat

namespace Go.Proofs.YtgebcpkpdbdfoaaGreat
open Go.RowKit P5 P9 P12 P14 P15 P16 P17 K

def ctY (vs:Value) (b0 q0:Nat) (v0:Value):Nat→Option Value
 | 0=>some vs
 | 1=>some (.pointer (some ⟨b0,q0,none⟩))
 | 2=>some v0
 | 3=>some vs
 | 4=>some (.pointer (some ⟨b0,q0,none⟩))
 | 5=>some v0
 | 6=>some vs
 | 7=>some (.pointer (some ⟨b0,q0,none⟩))
 | 8=>some v0
 | _=>none

structure JY (W:World) (ct:Nat→Option Value) (v0:Value) (V:Gh) (w:World):Prop where
 pt:PT ct V
 bel:Below W.heap.size W w
 l9:∀ v,V 9=some v→∃ bl,v=.slice (some ⟨bl,0,none⟩) 3 3∧w.heap[bl]? = some (.cells #[v0,v0,v0] 28 (0,0))
 a10:∀ v,V 10=some v→V 9=some v

section
variable {W:World} {ct:Nat→Option Value} {v0:Value} {V:Gh} {w w':World}

theorem JY.pure (h:JY W ct v0 V w) {i:Nat} {v:Value} (hi:V i=none) (hc:∀ c,ct i=some c→v=c) (h9:9≠i) (a10:i=10→V 9=some v):JY W ct v0 (V.set i v) w :=
 ⟨h.pt.set hc,h.bel,by rw[Gh.set_ne V v h9];exact h.l9,fun u hu=>by
  rw[Gh.set_ne V v h9]
  by_cases e:10=i
  ·subst e;rw[Gh.set_self] at hu;cases hu;exact a10 rfl
  ·rw[Gh.set_ne V v e] at hu;exact h.a10 u hu⟩
end

def tabY:List (Option Tmp × Op):=[(some 64,.move (.tmp 4)),(some 65,.indexAddr 25 (.tmp 64) (.const (.int .i64 0))),(some 66,.load 28 (.tmp 65)),(some 67,.move (.tmp 4)),(some 68,.indexAddr 25 (.tmp 67) (.const (.int .i64 0))),(some 69,.load 28 (.tmp 68)),(some 70,.move (.tmp 4)),(some 71,.indexAddr 25 (.tmp 70) (.const (.int .i64 0))),(some 72,.load 28 (.tmp 71)),(some 73,.buildSlice 25 3 #[(0,.tmp 66),(1,.tmp 69),(2,.tmp 72)]),(some 9,.assign (.tmp 73))]

def depY:List (List Nat):=[[],[0],[1],[],[3],[4],[],[6],[7],[2,5,8],[0,1,2,3,4,5,6,7,8,9]]

set_option maxHeartbeats 4000000 in
theorem y05 {id:Nat} {ops:Array Oper} {Q:Exit→Act→World→Prop} {a0:Act} {W:World} (hm:Tryz.prog.follows .mixedOrders=true) (htab:z1w ops=tabY) (hdp:z4z ops depY=true) (hfree:z6o ops=true) (hd:z2e ops=true) (hl:z5x ops=true) (n4:z16 ops 4=true)
  {ov:Option Addr} {cv:Nat} {n:Nat} {b0 q0:Nat} {xa:Option Addr} {xn xc:Nat}
  (hsz:144≤a0.tmps.size) (e4:a0.eval (.tmp 4)=.slice ov n cv)
  (hidx:∀ wx,(Instr.indexAt 25 (.slice ov n cv) (.int .i64 0)).run Tryz.prog wx=.ok (.pointer (some ⟨b0,q0,none⟩)) wx)
  (hcel:∀ w',Below W.heap.size W w'→w'.cell? ⟨b0,q0,none⟩=some (.slice xa xn xc))
  (hend:∀ (V:Gh) (w':World) (bl:Nat),(∀ k,k<11→∃ v,V k=some v)→V 10=some (.slice (some ⟨bl,0,none⟩) 3 3)→w'.heap[bl]? = some (.cells #[.slice xa xn xc,.slice xa xn xc,.slice xa xn xc] 28 (0,0))→Below W.heap.size W w'→Q .normal (actG ops V a0 ops.size) w'):(Code.region id ops true).wp Tryz.prog Q a0 W:=by
 have hops:ops.size=11:=by
  have:=congrArg List.length htab
  simpa [z1w,tabY] using this
 have hget:∀ k (hk:k<11),ops[k]? = some (ops[k]'(by omega)):=fun k hk=>Array.getElem?_eq_getElem (by omega)
 have hdst:∀ k t,(tabY[k]?).map (·.1)=some (some t)→(hk:k<11)→(ops[k]'(by omega)).dst=some t:=fun k t ht hk=>by
  have:=z0v htab (hget k hk)
  rw[this] at ht
  simpa using ht
 refine z1y hm hd hl (JY W (ctY (.slice ov n cv) b0 q0 (.slice xa xn xc)) (.slice xa xn xc)) ?_ ?_ ?_
 ·exact⟨(fun k v c h=>by cases h),(Below.refl _ _).drew,(fun v h=>by cases h),(fun v h=>by cases h)⟩
 ·intro i o V w7 ho hVi hdep0 hcl hJ
  have hi:i<11:=by have:=(Array.getElem?_eq_some_iff.1 ho).1;omega
  have hop0:=z0v htab ho
  have hg:=z4f hfree ho
  have hdep:∀ {l:List Nat},depY[i]? = some l→∀ k∈l,∃ v,V k=some v:=fun hl=>z0w hdp ho hdep0 hl
  have hup:=y0n hdp hcl
  clear hdep0 hcl
  have hcases:i=0∨i=1∨i=2∨i=3∨i=4∨i=5∨i=6∨i=7∨i=8∨i=9∨i=10:=by omega
  rcases hcases with rfl|rfl|rfl|rfl|rfl|rfl|rfl|rfl|rfl|rfl|rfl
  ·have hop:o.op=.move (.tmp 4):=zk hop0 rfl
   have E4:=evO (V:=V) n4 e4
   exact gM ho hg hop E4 ⟨_,rfl,hJ.pure hVi (fun c hc=>by cases hc;rfl) (by decide) (fun h=>by omega)⟩
  ·have hop:o.op=.indexAddr 25 (.tmp 64) (.const (.int .i64 0)):=zk hop0 rfl
   obtain⟨v0,g0⟩:=hdep rfl 0 (by decide)
   have E64:=evT hd htab hsz 0 64 rfl g0
   obtain rfl:v0=_:=hJ.pt 0 v0 _ g0 rfl
   refine gop ho hg ?_ ⟨_,rfl,hJ.pure hVi (fun c hc=>by cases hc;rfl) (by decide) (fun h=>by omega)⟩
   rw[runH hop]
   generalize actG ops V a0 ops.size=A at E64 ⊢
   clear hJ hget hdst hend hdep hup hcel
   go_simp
  ·have hop:o.op=.load 28 (.tmp 65):=zk hop0 rfl
   obtain⟨v1,g1⟩:=hdep rfl 1 (by decide)
   have E65:=evT hd htab hsz 1 65 rfl g1
   obtain rfl:v1=_:=hJ.pt 1 v1 _ g1 rfl
   have hcw:=hcel _ hJ.bel
   refine gop ho hg ?_ ⟨_,rfl,hJ.pure hVi (fun c hc=>by cases hc;rfl) (by decide) (fun h=>by omega)⟩
   rw[runH hop]
   generalize actG ops V a0 ops.size=A at E65 ⊢
   clear hJ hget hdst hend hdep hup hcel
   go_simp
  ·have hop:o.op=.move (.tmp 4):=zk hop0 rfl
   have E4:=evO (V:=V) n4 e4
   exact gM ho hg hop E4 ⟨_,rfl,hJ.pure hVi (fun c hc=>by cases hc;rfl) (by decide) (fun h=>by omega)⟩
  ·have hop:o.op=.indexAddr 25 (.tmp 67) (.const (.int .i64 0)):=zk hop0 rfl
   obtain⟨v3,g3⟩:=hdep rfl 3 (by decide)
   have E67:=evT hd htab hsz 3 67 rfl g3
   obtain rfl:v3=_:=hJ.pt 3 v3 _ g3 rfl
   refine gop ho hg ?_ ⟨_,rfl,hJ.pure hVi (fun c hc=>by cases hc;rfl) (by decide) (fun h=>by omega)⟩
   rw[runH hop]
   generalize actG ops V a0 ops.size=A at E67 ⊢
   clear hJ hget hdst hend hdep hup hcel
   go_simp
  ·have hop:o.op=.load 28 (.tmp 68):=zk hop0 rfl
   obtain⟨v4,g4⟩:=hdep rfl 4 (by decide)
   have E68:=evT hd htab hsz 4 68 rfl g4
   obtain rfl:v4=_:=hJ.pt 4 v4 _ g4 rfl
   have hcw:=hcel _ hJ.bel
   refine gop ho hg ?_ ⟨_,rfl,hJ.pure hVi (fun c hc=>by cases hc;rfl) (by decide) (fun h=>by omega)⟩
   rw[runH hop]
   generalize actG ops V a0 ops.size=A at E68 ⊢
   clear hJ hget hdst hend hdep hup hcel
   go_simp
  ·have hop:o.op=.move (.tmp 4):=zk hop0 rfl
   have E4:=evO (V:=V) n4 e4
   exact gM ho hg hop E4 ⟨_,rfl,hJ.pure hVi (fun c hc=>by cases hc;rfl) (by decide) (fun h=>by omega)⟩
  ·have hop:o.op=.indexAddr 25 (.tmp 70) (.const (.int .i64 0)):=zk hop0 rfl
   obtain⟨v6,g6⟩:=hdep rfl 6 (by decide)
   have E70:=evT hd htab hsz 6 70 rfl g6
   obtain rfl:v6=_:=hJ.pt 6 v6 _ g6 rfl
   refine gop ho hg ?_ ⟨_,rfl,hJ.pure hVi (fun c hc=>by cases hc;rfl) (by decide) (fun h=>by omega)⟩
   rw[runH hop]
   generalize actG ops V a0 ops.size=A at E70 ⊢
   clear hJ hget hdst hend hdep hup hcel
   go_simp
  ·have hop:o.op=.load 28 (.tmp 71):=zk hop0 rfl
   obtain⟨v7,g7⟩:=hdep rfl 7 (by decide)
   have E71:=evT hd htab hsz 7 71 rfl g7
   obtain rfl:v7=_:=hJ.pt 7 v7 _ g7 rfl
   have hcw:=hcel _ hJ.bel
   refine gop ho hg ?_ ⟨_,rfl,hJ.pure hVi (fun c hc=>by cases hc;rfl) (by decide) (fun h=>by omega)⟩
   rw[runH hop]
   generalize actG ops V a0 ops.size=A at E71 ⊢
   clear hJ hget hdst hend hdep hup hcel
   go_simp
  ·have hop:o.op=.buildSlice 25 3 #[(0,.tmp 66),(1,.tmp 69),(2,.tmp 72)]:=zk hop0 rfl
   obtain⟨v2,g2⟩:=hdep rfl 2 (by decide)
   obtain⟨v5,g5⟩:=hdep rfl 5 (by decide)
   obtain⟨v8,g8⟩:=hdep rfl 8 (by decide)
   have E66:=evT hd htab hsz 2 66 rfl g2
   have E69:=evT hd htab hsz 5 69 rfl g5
   have E72:=evT hd htab hsz 8 72 rfl g8
   obtain rfl:v2=_:=hJ.pt 2 v2 _ g2 rfl
   obtain rfl:v5=_:=hJ.pt 5 v5 _ g5 rfl
   obtain rfl:v8=_:=hJ.pt 8 v8 _ g8 rfl
   refine gop ho hg ?_ ⟨.slice (some ⟨w7.heap.size,0,none⟩) 3 3,rfl,⟨hJ.pt.set (fun c hc=>by cases hc),hJ.bel.alloc hJ.bel.size _,(fun u hu=>by rw[Gh.set_self] at hu;cases hu;exact⟨w7.heap.size,rfl,heap_alloc_new w7 _⟩),(fun u hu=>by rw[Gh.set_ne V _ (by decide)] at hu;have:=hJ.a10 u hu;rw[hVi] at this;cases this)⟩⟩
   rw[runH hop]
   generalize actG ops V a0 ops.size=A at E66 E69 E72 ⊢
   clear hJ hget hdst hend hdep hup hcel
   go_simp
  ·have hop:o.op=.assign (.tmp 73):=zk hop0 rfl
   obtain⟨v9,g9⟩:=hdep rfl 9 (by decide)
   have E73:=evT hd htab hsz 9 73 rfl g9
   refine gop ho hg ?_ ⟨_,rfl,hJ.pure hVi (fun c hc=>by cases hc) (by decide) (fun _=>g9)⟩
   obtain⟨bl,hv8,-⟩:=hJ.l9 v9 g9
   subst hv8
   rw[runH hop]
   generalize actG ops V a0 ops.size=A at E73 ⊢
   clear hJ hget hdst hend hdep hup hcel
   go_simp
 ·intro V w7 hall hJ
  have hall':∀ k,k<11→∃ v,V k=some v:=fun k hk=>Option.isSome_iff_exists.1 (hall k (by omega))
  obtain⟨v10,g10⟩:=hall' 10 (by omega)
  obtain⟨bl,rfl,hbl⟩:=hJ.l9 v10 (hJ.a10 v10 g10)
  exact hend V w7 bl hall' g10 hbl hJ.bel

def ctZ (b:Bool) (n:Nat) (vl vs vm vt vS:Value) (b0 q0:Nat) (v0:Value):Nat→Option Value
 | 0=>some vl
 | 1=>some vm
 | 3=>some vs
 | 4=>some (.pointer (some ⟨b0,q0,none⟩))
 | 5=>some v0
 | 6=>some (.bool true)
 | 7=>some (.bool false)
 | 8=>some (.bool false)
 | 9=>some vs
 | 10=>some (.int .i64 (n:Int))
 | 11=>some (.bool b)
 | 12=>some (.bool b)
 | 13=>some (cond b vl undef)
 | 14=>some (cond b vt undef)
 | 16=>some (cond b vS undef)
 | 17=>some (cond b (.bool true) undef)
 | 18=>some (cond b (.bool false) undef)
 | 19=>some (.bool false)
 | 20=>some (.bool false)
 | _=>none

structure JZ (W:World) (ct:Nat→Option Value) (b:Bool) (s S:St) (V:Gh) (w:World):Prop where
 pt:PT ct V
 bel:Below W.heap.size W w
 r2:∀ v,V 2=some v→∃ oa c,v=.slice oa s.length c∧ItemsAt w oa s.length c s
 r15:∀ v,V 15=some v→b=true→∃ oa c,v=.slice oa S.length c∧ItemsAt w oa S.length c S

section
variable {W:World} {ct:Nat→Option Value} {b:Bool} {s S:St} {V:Gh} {w w':World}

theorem JZ.on (h:JZ W ct b s S V w) (hb:Below w.heap.size w w'):JZ W ct b s S V w' :=
 ⟨h.pt,h.bel.trans (hb.mono h.bel.size),fun v hv=>by
  obtain⟨oa,c,h1,h2⟩:=h.r2 v hv
  exact⟨oa,c,h1,h2.below hb⟩,fun v hv hb'=>by
  obtain⟨oa,c,h1,h2⟩:=h.r15 v hv hb'
  exact⟨oa,c,h1,h2.below hb⟩⟩

theorem JZ.put (h:JZ W ct b s S V w) {i:Nat} {v:Value} (hc:∀ c,ct i=some c→v=c) (a2:i=2→∃ oa c,v=.slice oa s.length c∧ItemsAt w oa s.length c s) (a15:i=15→b=true→∃ oa c,v=.slice oa S.length c∧ItemsAt w oa S.length c S):JZ W ct b s S (V.set i v) w :=
 ⟨h.pt.set hc,h.bel,fun u hu=>by
  by_cases e:2=i
  ·subst e;rw[Gh.set_self] at hu;cases hu;exact a2 rfl
  ·rw[Gh.set_ne V v e] at hu;exact h.r2 u hu,fun u hu hb=>by
  by_cases e:15=i
  ·subst e;rw[Gh.set_self] at hu;cases hu;exact a15 rfl hb
  ·rw[Gh.set_ne V v e] at hu;exact h.r15 u hu hb⟩
end

def tabZ:List (Option Tmp × Op):=[(some 74,.move (.tmp 3)),(some 75,.move (.tmp 9)),(some 76,.call { callee:=.value (.func 11),args:=#[.tmp 74,.tmp 75],argTypes:=#[24,25] }),(some 77,.move (.tmp 4)),(some 78,.indexAddr 25 (.tmp 77) (.const (.int .i64 0))),(some 79,.load 28 (.tmp 78)),(some 80,.call { callee:=.value (.func 12),args:=#[.tmp 76,.tmp 79],argTypes:=#[28,28] }),(some 81,.unOp .not 4 (.tmp 80)),(some 82,.move (.tmp 81)),(some 83,.move (.tmp 4)),(some 84,.call { callee:=.builtin .len,args:=#[.tmp 83],argTypes:=#[25] }),(some 85,.binOp .gtr 3 (.tmp 84) (.const (.int .i64 1)) 3),(some 86,.move (.tmp 85)),(some 87,.move (.tmp 3)),(some 88,.move (.tmp 8)),(some 89,.call { callee:=.value (.func 11),args:=#[.tmp 87,.tmp 88],argTypes:=#[24,25] }),(some 90,.move (.tmp 5)),(some 91,.call { callee:=.value (.func 12),args:=#[.tmp 89,.tmp 90],argTypes:=#[28,28] }),(some 92,.unOp .not 4 (.tmp 91)),(some 93,.pick (.tmp 86) (.tmp 92) (.const (.bool false))),(some 94,.pick (.tmp 82) (.const (.bool true)) (.tmp 93))]

def depZ:List (List Nat):=[[],[],[0,1],[],[3],[4],[2,5],[6],[7],[8],[8,9],[8,10],[8,11],[12],[12],[12,13,14],[12],[12,15,16],[12,17],[8,12,18],[8,19]]

def gdZ:List (Option (Nat × Bool)):=[none,none,none,none,none,none,none,none,none,some (8,false),some (8,false),some (8,false),some (8,false),some (12,true),some (12,true),some (12,true),some (12,true),some (12,true),some (12,true),some (8,false),none]

theorem y00 {P:Program} {ops:Array Oper} {Q:Exit→Act→World→Prop} {i:Nat} {o:Oper} {a:Act} {w w':World} {f:FuncId} {args:Array Value} {K:Act→World→Prop} (ho:ops[i]? = some o) (hw:Region.wanted o (yielded ops a.tmps)=true) (hr:(execOp a.eval o).run P w=.ok (.enter f args) w') (hc:Calls P f args w' fun e w''=>∃ v,e=.returned v∧K (a.put o.dst v) w''):wpOp P ops Q i K a w:=by
 unfold wpOp
 simp only[ho]
 rw[if_pos hw]
 refine .inl ?_
 unfold Oper.wp
 rw[hr]
 simp only[Oper.upon]
 refine hc.mono ?_
 rintro e w'' ⟨v,rfl,hK⟩
 exact hK

set_option maxHeartbeats 4000000 in
theorem y07 {id:Nat} {ops:Array Oper} {Q:Exit→Act→World→Prop} {a0:Act} {W:World} (hm:Tryz.prog.follows .mixedOrders=true) (htab:z1w ops=tabZ) (hdp:z4z ops depZ=true) (hgd:ops.toList.map (·.guard)=gdZ) (hd:z2e ops=true) (hl:z5x ops=true) (n3:z16 ops 3=true) (n4:z16 ops 4=true) (n5:z16 ops 5=true) (n8:z16 ops 8=true) (n9:z16 ops 9=true)
  {oL oM oT:Option Addr} {nL cL nM cM nT cT:Nat} {ov:Option Addr} {cv:Nat} {n:Nat} {b0 q0:Nat} {xa:Option Addr} {xc:Nat} {oS:Option Addr} {cS:Nat} {s S:St} {b:Bool}
  (hsz:144≤a0.tmps.size) (e3:a0.eval (.tmp 3)=.slice oL nL cL) (e4:a0.eval (.tmp 4)=.slice ov n cv) (e5:a0.eval (.tmp 5)=.slice oS S.length cS) (e8:a0.eval (.tmp 8)=.slice oT nT cT) (e9:a0.eval (.tmp 9)=.slice oM nM cM) (hb:decide ((1:Int)<(n:Int))=b)
  (hidx:∀ wx,(Instr.indexAt 25 (.slice ov n cv) (.int .i64 0)).run Tryz.prog wx=.ok (.pointer (some ⟨b0,q0,none⟩)) wx)
  (hcel:∀ w',Below W.heap.size W w'→w'.cell? ⟨b0,q0,none⟩=some (.slice xa s.length xc)) (hit:ItemsAt W xa s.length xc s) (hiS:ItemsAt W oS S.length cS S)
  (hR1:∀ w',Below W.heap.size W w'→Calls Tryz.prog 11 #[.slice oL nL cL,.slice oM nM cM] w' (z5l w' s)) (hR2:b=true→∀ w',Below W.heap.size W w'→Calls Tryz.prog 11 #[.slice oL nL cL,.slice oT nT cT] w' (z5l w' S))
  (hend:∀ (V:Gh) (w':World),(∀ k,k<21→∃ v,V k=some v)→V 20=some (.bool false)→Below W.heap.size W w'→Q .normal (actG ops V a0 ops.size) w'):(Code.region id ops true).wp Tryz.prog Q a0 W:=by
 have hops:ops.size=21:=by
  have:=congrArg List.length htab
  simpa [z1w,tabZ] using this
 have hget:∀ k (hk:k<21),ops[k]? = some (ops[k]'(by omega)):=fun k hk=>Array.getElem?_eq_getElem (by omega)
 have hdst:∀ k t,(tabZ[k]?).map (·.1)=some (some t)→(hk:k<21)→(ops[k]'(by omega)).dst=some t:=fun k t ht hk=>by
  have:=z0v htab (hget k hk)
  rw[this] at ht
  simpa using ht
 refine z1y hm hd hl (JZ W (ctZ b n (.slice oL nL cL) (.slice ov n cv) (.slice oM nM cM) (.slice oT nT cT) (.slice oS S.length cS) b0 q0 (.slice xa s.length xc)) b s S) ?_ ?_ ?_
 ·exact⟨(fun k v c h=>by cases h),(Below.refl _ _).drew,(fun v h=>by cases h),(fun v h=>by cases h)⟩
 ·intro i o V w7 ho hVi hdep0 hcl hJ
  have hi:i<21:=by have:=(Array.getElem?_eq_some_iff.1 ho).1;omega
  have hop0:=z0v htab ho
  have hg0:gdZ[i]? = some o.guard:=by rw[← hgd,List.getElem?_map,Array.getElem?_toList,ho];rfl
  have hdep:∀ {l:List Nat},depZ[i]? = some l→∀ k∈l,∃ v,V k=some v:=fun hl=>z0w hdp ho hdep0 hl
  clear hdep0 hcl
  have hcases:i=0∨i=1∨i=2∨i=3∨i=4∨i=5∨i=6∨i=7∨i=8∨i=9∨i=10∨i=11∨i=12∨i=13∨i=14∨i=15∨i=16∨i=17∨i=18∨i=19∨i=20:=by omega
  rcases hcases with rfl|rfl|rfl|rfl|rfl|rfl|rfl|rfl|rfl|rfl|rfl|rfl|rfl|rfl|rfl|rfl|rfl|rfl|rfl|rfl|rfl
  ·have hop:o.op=.move (.tmp 3):=zk hop0 rfl
   have hg:o.guard=_:=(Option.some.inj hg0).symm
   have E3:=evO (V:=V) n3 e3
   exact gM ho hg hop E3 ⟨_,rfl,hJ.put (fun c hc=>by cases hc;rfl) (fun h=>by omega) (fun h _=>by omega)⟩
  ·have hop:o.op=.move (.tmp 9):=zk hop0 rfl
   have hg:o.guard=_:=(Option.some.inj hg0).symm
   have E9:=evO (V:=V) n9 e9
   exact gM ho hg hop E9 ⟨_,rfl,hJ.put (fun c hc=>by cases hc;rfl) (fun h=>by omega) (fun h _=>by omega)⟩
  ·have hop:o.op=.call { callee:=.value (.func 11),args:=#[.tmp 74,.tmp 75],argTypes:=#[24,25] }:=zk hop0 rfl
   have hg:o.guard=_:=(Option.some.inj hg0).symm
   obtain⟨v0,g0⟩:=hdep rfl 0 (by decide)
   obtain⟨v1,g1⟩:=hdep rfl 1 (by decide)
   have E74:=evT hd htab hsz 0 74 rfl g0
   have E75:=evT hd htab hsz 1 75 rfl g1
   obtain rfl:v0=_:=hJ.pt 0 v0 _ g0 rfl
   obtain rfl:v1=_:=hJ.pt 1 v1 _ g1 rfl
   have HC:=hide (hR1 _ hJ.bel)
   refine z7l ho hg (f:=11) (args:=#[.slice oL nL cL,.slice oM nM cM]) (w':=w7) ?_ (HC.out.mono ?_)
   ·clear HC
    rw[runH hop]
    generalize actG ops V a0 ops.size=A at E74 E75 ⊢
    clear hJ hget hdst hend hdep hcel hR1 hR2 hit hiS
    go_simp
   ·rintro r w8 ⟨v,rfl,ho8,hb8⟩
    obtain⟨oa8,c8,rfl,hi8⟩:=z03 ho8
    exact⟨_,rfl,_,rfl,(hJ.on hb8).put (fun c hc=>by cases hc) (fun _=>⟨oa8,c8,rfl,hi8⟩) (fun h _=>by omega)⟩
  ·have hop:o.op=.move (.tmp 4):=zk hop0 rfl
   have hg:o.guard=_:=(Option.some.inj hg0).symm
   have E4:=evO (V:=V) n4 e4
   exact gM ho hg hop E4 ⟨_,rfl,hJ.put (fun c hc=>by cases hc;rfl) (fun h=>by omega) (fun h _=>by omega)⟩
  ·have hop:o.op=.indexAddr 25 (.tmp 77) (.const (.int .i64 0)):=zk hop0 rfl
   have hg:o.guard=_:=(Option.some.inj hg0).symm
   obtain⟨v3,g3⟩:=hdep rfl 3 (by decide)
   have E77:=evT hd htab hsz 3 77 rfl g3
   obtain rfl:v3=_:=hJ.pt 3 v3 _ g3 rfl
   refine gop ho hg ?_ ⟨_,rfl,hJ.put (fun c hc=>by cases hc;rfl) (fun h=>by omega) (fun h _=>by omega)⟩
   rw[runH hop]
   generalize actG ops V a0 ops.size=A at E77 ⊢
   clear hJ hget hdst hend hdep hcel hR1 hR2 hit hiS
   go_simp
  ·have hop:o.op=.load 28 (.tmp 78):=zk hop0 rfl
   have hg:o.guard=_:=(Option.some.inj hg0).symm
   obtain⟨v4,g4⟩:=hdep rfl 4 (by decide)
   have E78:=evT hd htab hsz 4 78 rfl g4
   obtain rfl:v4=_:=hJ.pt 4 v4 _ g4 rfl
   have hcw:=hcel _ hJ.bel
   refine gop ho hg ?_ ⟨_,rfl,hJ.put (fun c hc=>by cases hc;rfl) (fun h=>by omega) (fun h _=>by omega)⟩
   rw[runH hop]
   generalize actG ops V a0 ops.size=A at E78 ⊢
   clear hJ hget hdst hend hdep hcel hR1 hR2 hit hiS
   go_simp
  ·have hop:o.op=.call { callee:=.value (.func 12),args:=#[.tmp 76,.tmp 79],argTypes:=#[28,28] }:=zk hop0 rfl
   have hg:o.guard=_:=(Option.some.inj hg0).symm
   obtain⟨v2,g2⟩:=hdep rfl 2 (by decide)
   obtain⟨v5,g5⟩:=hdep rfl 5 (by decide)
   have E76:=evT hd htab hsz 2 76 rfl g2
   have E79:=evT hd htab hsz 5 79 rfl g5
   obtain rfl:v5=_:=hJ.pt 5 v5 _ g5 rfl
   obtain⟨oa8,c8,rfl,hi8⟩:=hJ.r2 v2 g2
   have HC:=hide (ze8 oa8 s.length c8 s xa s.length xc s w7 hi8 (hit.below hJ.bel))
   rw[decide_eq_true (rfl:s=s)] at HC
   refine z7l ho hg (f:=12) (args:=#[.slice oa8 s.length c8,.slice xa s.length xc]) (w':=w7) ?_ (HC.out.mono ?_)
   ·clear HC hi8
    rw[runH hop]
    generalize actG ops V a0 ops.size=A at E76 E79 ⊢
    clear hJ hget hdst hend hdep hcel hR1 hR2 hit hiS
    go_simp
   ·rintro r w8 ⟨rfl,hd8⟩
    exact⟨_,rfl,_,rfl,(hJ.on hd8.below).put (fun c hc=>by cases hc;rfl) (fun h=>by omega) (fun h _=>by omega)⟩
  ·have hop:o.op=.unOp .not 4 (.tmp 80):=zk hop0 rfl
   have hg:o.guard=_:=(Option.some.inj hg0).symm
   obtain⟨v6,g6⟩:=hdep rfl 6 (by decide)
   have E80:=evT hd htab hsz 6 80 rfl g6
   obtain rfl:v6=_:=hJ.pt 6 v6 _ g6 rfl
   refine gop ho hg ?_ ⟨_,rfl,hJ.put (fun c hc=>by cases hc;rfl) (fun h=>by omega) (fun h _=>by omega)⟩
   rw[runH hop]
   generalize actG ops V a0 ops.size=A at E80 ⊢
   clear hJ hget hdst hend hdep hcel hR1 hR2 hit hiS
   go_simp
  ·have hop:o.op=.move (.tmp 81):=zk hop0 rfl
   have hg:o.guard=_:=(Option.some.inj hg0).symm
   obtain⟨v7,g7⟩:=hdep rfl 7 (by decide)
   have E81:=evD hd htab hsz 7 81 rfl g7
   obtain rfl:v7=_:=hJ.pt 7 v7 _ g7 rfl
   exact gM ho hg hop E81 ⟨_,rfl,hJ.put (fun c hc=>by cases hc;rfl) (fun h=>by omega) (fun h _=>by omega)⟩
  ·have hop:o.op=.move (.tmp 4):=zk hop0 rfl
   have hg:o.guard=_:=(Option.some.inj hg0).symm
   obtain⟨v8,g8⟩:=hdep rfl 8 (by decide)
   have E4:=evP (V:=V) n4 e4
   obtain rfl:v8=_:=hJ.pt 8 v8 _ g8 rfl
   have Eg:(actG ops V a0 ops.size).eval (.tmp 82)=.bool false:=z3j hd (hget 8 (by omega)) (hdst 8 82 (by simp[tabZ]) (by omega)) g8 (by omega) _ (by omega)
   have HW:=hide (z4r hg (hget 8 (by omega)) (hdst 8 82 (by simp[tabZ]) (by omega)) Eg)
   refine z7c ho HW.out ?_ ⟨_,rfl,hJ.put (fun c hc=>by cases hc;rfl) (fun h=>by omega) (fun h _=>by omega)⟩
   clear HW Eg
   rw[runH hop]
   generalize actG ops V a0 ops.size=A at E4 ⊢
   clear hJ hget hdst hend hdep hcel hR1 hR2 hit hiS
   go_simp
  ·have hop:o.op=.call { callee:=.builtin .len,args:=#[.tmp 83],argTypes:=#[25] }:=zk hop0 rfl
   have hg:o.guard=_:=(Option.some.inj hg0).symm
   obtain⟨v8,g8⟩:=hdep rfl 8 (by decide)
   obtain⟨v9,g9⟩:=hdep rfl 9 (by decide)
   have E83:=evT hd htab hsz 9 83 rfl g9
   obtain rfl:v8=_:=hJ.pt 8 v8 _ g8 rfl
   obtain rfl:v9=_:=hJ.pt 9 v9 _ g9 rfl
   have Eg:(actG ops V a0 ops.size).eval (.tmp 82)=.bool false:=z3j hd (hget 8 (by omega)) (hdst 8 82 (by simp[tabZ]) (by omega)) g8 (by omega) _ (by omega)
   have HW:=hide (z4r hg (hget 8 (by omega)) (hdst 8 82 (by simp[tabZ]) (by omega)) Eg)
   refine z7c ho HW.out ?_ ⟨_,rfl,hJ.put (fun c hc=>by cases hc;rfl) (fun h=>by omega) (fun h _=>by omega)⟩
   clear HW Eg
   rw[runH hop]
   generalize actG ops V a0 ops.size=A at E83 ⊢
   clear hJ hget hdst hend hdep hcel hR1 hR2 hit hiS
   go_simp
  ·have hop:o.op=.binOp .gtr 3 (.tmp 84) (.const (.int .i64 1)) 3:=zk hop0 rfl
   have hg:o.guard=_:=(Option.some.inj hg0).symm
   obtain⟨v8,g8⟩:=hdep rfl 8 (by decide)
   obtain⟨v10,g10⟩:=hdep rfl 10 (by decide)
   have E84:=evT hd htab hsz 10 84 rfl g10
   obtain rfl:v8=_:=hJ.pt 8 v8 _ g8 rfl
   obtain rfl:v10=_:=hJ.pt 10 v10 _ g10 rfl
   have Eg:(actG ops V a0 ops.size).eval (.tmp 82)=.bool false:=z3j hd (hget 8 (by omega)) (hdst 8 82 (by simp[tabZ]) (by omega)) g8 (by omega) _ (by omega)
   have HW:=hide (z4r hg (hget 8 (by omega)) (hdst 8 82 (by simp[tabZ]) (by omega)) Eg)
   refine z7c ho HW.out ?_ ⟨_,rfl,hJ.put (fun c hc=>by cases hc;rfl) (fun h=>by omega) (fun h _=>by omega)⟩
   clear HW Eg
   rw[runH hop]
   generalize actG ops V a0 ops.size=A at E84 ⊢
   clear hJ hget hdst hend hdep hcel hR1 hR2 hit hiS
   go_simp
  ·have hop:o.op=.move (.tmp 85):=zk hop0 rfl
   have hg:o.guard=_:=(Option.some.inj hg0).symm
   obtain⟨v8,g8⟩:=hdep rfl 8 (by decide)
   obtain⟨v11,g11⟩:=hdep rfl 11 (by decide)
   have E85:=evT hd htab hsz 11 85 rfl g11
   obtain rfl:v8=_:=hJ.pt 8 v8 _ g8 rfl
   obtain rfl:v11=_:=hJ.pt 11 v11 _ g11 rfl
   have Eg:(actG ops V a0 ops.size).eval (.tmp 82)=.bool false:=z3j hd (hget 8 (by omega)) (hdst 8 82 (by simp[tabZ]) (by omega)) g8 (by omega) _ (by omega)
   have HW:=hide (z4r hg (hget 8 (by omega)) (hdst 8 82 (by simp[tabZ]) (by omega)) Eg)
   refine z7c ho HW.out ?_ ⟨_,rfl,hJ.put (fun c hc=>by cases hc;rfl) (fun h=>by omega) (fun h _=>by omega)⟩
   clear HW Eg
   rw[runH hop]
   generalize actG ops V a0 ops.size=A at E85 ⊢
   clear hJ hget hdst hend hdep hcel hR1 hR2 hit hiS
   go_simp
  ·have hop:o.op=.move (.tmp 3):=zk hop0 rfl
   have hg:o.guard=_:=(Option.some.inj hg0).symm
   obtain⟨v12,g12⟩:=hdep rfl 12 (by decide)
   have E3:=evP (V:=V) n3 e3
   obtain rfl:v12=_:=hJ.pt 12 v12 _ g12 rfl
   have Eg:(actG ops V a0 ops.size).eval (.tmp 86)=.bool b:=z3j hd (hget 12 (by omega)) (hdst 12 86 (by simp[tabZ]) (by omega)) g12 (by omega) _ (by omega)
   cases b
   ·refine z8r ho (z5q hg (hget 12 (by omega)) (hdst 12 86 (by simp[tabZ]) (by omega)) Eg (by decide)) ⟨_,rfl,hJ.put (fun c hc=>by cases hc;rfl) (fun h=>by omega) (fun _ h=>by cases h)⟩
   ·have HW:=hide (z4r hg (hget 12 (by omega)) (hdst 12 86 (by simp[tabZ]) (by omega)) Eg)
    refine z7c ho HW.out ?_ ⟨_,rfl,hJ.put (fun c hc=>by cases hc;rfl) (fun h=>by omega) (fun h _=>by omega)⟩
    clear HW Eg
    rw[runH hop]
    generalize actG ops V a0 ops.size=A at E3 ⊢
    clear hJ hget hdst hend hdep hcel hR1 hR2 hit hiS
    go_simp
  ·have hop:o.op=.move (.tmp 8):=zk hop0 rfl
   have hg:o.guard=_:=(Option.some.inj hg0).symm
   obtain⟨v12,g12⟩:=hdep rfl 12 (by decide)
   have E8:=evP (V:=V) n8 e8
   obtain rfl:v12=_:=hJ.pt 12 v12 _ g12 rfl
   have Eg:(actG ops V a0 ops.size).eval (.tmp 86)=.bool b:=z3j hd (hget 12 (by omega)) (hdst 12 86 (by simp[tabZ]) (by omega)) g12 (by omega) _ (by omega)
   cases b
   ·refine z8r ho (z5q hg (hget 12 (by omega)) (hdst 12 86 (by simp[tabZ]) (by omega)) Eg (by decide)) ⟨_,rfl,hJ.put (fun c hc=>by cases hc;rfl) (fun h=>by omega) (fun _ h=>by cases h)⟩
   ·have HW:=hide (z4r hg (hget 12 (by omega)) (hdst 12 86 (by simp[tabZ]) (by omega)) Eg)
    refine z7c ho HW.out ?_ ⟨_,rfl,hJ.put (fun c hc=>by cases hc;rfl) (fun h=>by omega) (fun h _=>by omega)⟩
    clear HW Eg
    rw[runH hop]
    generalize actG ops V a0 ops.size=A at E8 ⊢
    clear hJ hget hdst hend hdep hcel hR1 hR2 hit hiS
    go_simp
  ·have hop:o.op=.call { callee:=.value (.func 11),args:=#[.tmp 87,.tmp 88],argTypes:=#[24,25] }:=zk hop0 rfl
   have hg:o.guard=_:=(Option.some.inj hg0).symm
   obtain⟨v12,g12⟩:=hdep rfl 12 (by decide)
   obtain⟨v13,g13⟩:=hdep rfl 13 (by decide)
   obtain⟨v14,g14⟩:=hdep rfl 14 (by decide)
   have E87:=evT hd htab hsz 13 87 rfl g13
   have E88:=evT hd htab hsz 14 88 rfl g14
   obtain rfl:v12=_:=hJ.pt 12 v12 _ g12 rfl
   obtain rfl:v13=_:=hJ.pt 13 v13 _ g13 rfl
   obtain rfl:v14=_:=hJ.pt 14 v14 _ g14 rfl
   have Eg:(actG ops V a0 ops.size).eval (.tmp 86)=.bool b:=z3j hd (hget 12 (by omega)) (hdst 12 86 (by simp[tabZ]) (by omega)) g12 (by omega) _ (by omega)
   cases b
   ·refine z8r ho (z5q hg (hget 12 (by omega)) (hdst 12 86 (by simp[tabZ]) (by omega)) Eg (by decide)) ⟨_,rfl,hJ.put (fun c hc=>by cases hc) (fun h=>by omega) (fun _ h=>by cases h)⟩
   ·have HW:=hide (z4r hg (hget 12 (by omega)) (hdst 12 86 (by simp[tabZ]) (by omega)) Eg)
    have HC:=hide (hR2 rfl _ hJ.bel)
    refine y00 ho HW.out (f:=11) (args:=#[.slice oL nL cL,.slice oT nT cT]) (w':=w7) ?_ (HC.out.mono ?_)
    ·clear HC HW Eg
     rw[runH hop]
     generalize actG ops V a0 ops.size=A at E87 E88 ⊢
     clear hJ hget hdst hend hdep hcel hR1 hR2 hit hiS
     go_simp
    ·rintro r w8 ⟨v,rfl,ho8,hb8⟩
     obtain⟨oa8,c8,rfl,hi8⟩:=z03 ho8
     exact⟨_,rfl,_,rfl,(hJ.on hb8).put (fun c hc=>by cases hc) (fun h=>by omega) (fun _ _=>⟨oa8,c8,rfl,hi8⟩)⟩
  ·have hop:o.op=.move (.tmp 5):=zk hop0 rfl
   have hg:o.guard=_:=(Option.some.inj hg0).symm
   obtain⟨v12,g12⟩:=hdep rfl 12 (by decide)
   have E5:=evP (V:=V) n5 e5
   obtain rfl:v12=_:=hJ.pt 12 v12 _ g12 rfl
   have Eg:(actG ops V a0 ops.size).eval (.tmp 86)=.bool b:=z3j hd (hget 12 (by omega)) (hdst 12 86 (by simp[tabZ]) (by omega)) g12 (by omega) _ (by omega)
   cases b
   ·refine z8r ho (z5q hg (hget 12 (by omega)) (hdst 12 86 (by simp[tabZ]) (by omega)) Eg (by decide)) ⟨_,rfl,hJ.put (fun c hc=>by cases hc;rfl) (fun h=>by omega) (fun _ h=>by cases h)⟩
   ·have HW:=hide (z4r hg (hget 12 (by omega)) (hdst 12 86 (by simp[tabZ]) (by omega)) Eg)
    refine z7c ho HW.out ?_ ⟨_,rfl,hJ.put (fun c hc=>by cases hc;rfl) (fun h=>by omega) (fun h _=>by omega)⟩
    clear HW Eg
    rw[runH hop]
    generalize actG ops V a0 ops.size=A at E5 ⊢
    clear hJ hget hdst hend hdep hcel hR1 hR2 hit hiS
    go_simp
  ·have hop:o.op=.call { callee:=.value (.func 12),args:=#[.tmp 89,.tmp 90],argTypes:=#[28,28] }:=zk hop0 rfl
   have hg:o.guard=_:=(Option.some.inj hg0).symm
   obtain⟨v12,g12⟩:=hdep rfl 12 (by decide)
   obtain⟨v15,g15⟩:=hdep rfl 15 (by decide)
   obtain⟨v16,g16⟩:=hdep rfl 16 (by decide)
   have E89:=evT hd htab hsz 15 89 rfl g15
   have E90:=evT hd htab hsz 16 90 rfl g16
   obtain rfl:v12=_:=hJ.pt 12 v12 _ g12 rfl
   obtain rfl:v16=_:=hJ.pt 16 v16 _ g16 rfl
   have Eg:(actG ops V a0 ops.size).eval (.tmp 86)=.bool b:=z3j hd (hget 12 (by omega)) (hdst 12 86 (by simp[tabZ]) (by omega)) g12 (by omega) _ (by omega)
   cases b
   ·refine z8r ho (z5q hg (hget 12 (by omega)) (hdst 12 86 (by simp[tabZ]) (by omega)) Eg (by decide)) ⟨_,rfl,hJ.put (fun c hc=>by cases hc;rfl) (fun h=>by omega) (fun _ h=>by cases h)⟩
   ·have HW:=hide (z4r hg (hget 12 (by omega)) (hdst 12 86 (by simp[tabZ]) (by omega)) Eg)
    obtain⟨oa8,c8,rfl,hi8⟩:=hJ.r15 v15 g15 rfl
    have HC:=hide (ze8 oa8 S.length c8 S oS S.length cS S w7 hi8 (hiS.below hJ.bel))
    rw[decide_eq_true (rfl:S=S)] at HC
    refine y00 ho HW.out (f:=12) (args:=#[.slice oa8 S.length c8,.slice oS S.length cS]) (w':=w7) ?_ (HC.out.mono ?_)
    ·clear HC hi8 HW Eg
     rw[runH hop]
     generalize actG ops V a0 ops.size=A at E89 E90 ⊢
     clear hJ hget hdst hend hdep hcel hR1 hR2 hit hiS
     go_simp
    ·rintro r w8 ⟨rfl,hd8⟩
     exact⟨_,rfl,_,rfl,(hJ.on hd8.below).put (fun c hc=>by cases hc;rfl) (fun h=>by omega) (fun h _=>by omega)⟩
  ·have hop:o.op=.unOp .not 4 (.tmp 91):=zk hop0 rfl
   have hg:o.guard=_:=(Option.some.inj hg0).symm
   obtain⟨v12,g12⟩:=hdep rfl 12 (by decide)
   obtain⟨v17,g17⟩:=hdep rfl 17 (by decide)
   have E91:=evT hd htab hsz 17 91 rfl g17
   obtain rfl:v12=_:=hJ.pt 12 v12 _ g12 rfl
   obtain rfl:v17=_:=hJ.pt 17 v17 _ g17 rfl
   have Eg:(actG ops V a0 ops.size).eval (.tmp 86)=.bool b:=z3j hd (hget 12 (by omega)) (hdst 12 86 (by simp[tabZ]) (by omega)) g12 (by omega) _ (by omega)
   cases b
   ·refine z8r ho (z5q hg (hget 12 (by omega)) (hdst 12 86 (by simp[tabZ]) (by omega)) Eg (by decide)) ⟨_,rfl,hJ.put (fun c hc=>by cases hc;rfl) (fun h=>by omega) (fun _ h=>by cases h)⟩
   ·have HW:=hide (z4r hg (hget 12 (by omega)) (hdst 12 86 (by simp[tabZ]) (by omega)) Eg)
    refine z7c ho HW.out ?_ ⟨_,rfl,hJ.put (fun c hc=>by cases hc;rfl) (fun h=>by omega) (fun h _=>by omega)⟩
    clear HW Eg
    rw[runH hop]
    generalize actG ops V a0 ops.size=A at E91 ⊢
    clear hJ hget hdst hend hdep hcel hR1 hR2 hit hiS
    go_simp
  ·have hop:o.op=.pick (.tmp 86) (.tmp 92) (.const (.bool false)):=zk hop0 rfl
   have hg:o.guard=_:=(Option.some.inj hg0).symm
   obtain⟨v8,g8⟩:=hdep rfl 8 (by decide)
   obtain⟨v12,g12⟩:=hdep rfl 12 (by decide)
   obtain⟨v18,g18⟩:=hdep rfl 18 (by decide)
   have E86:=evT hd htab hsz 12 86 rfl g12
   have E92:=evT hd htab hsz 18 92 rfl g18
   obtain rfl:v8=_:=hJ.pt 8 v8 _ g8 rfl
   obtain rfl:v12=_:=hJ.pt 12 v12 _ g12 rfl
   obtain rfl:v18=_:=hJ.pt 18 v18 _ g18 rfl
   have Eg:(actG ops V a0 ops.size).eval (.tmp 82)=.bool false:=z3j hd (hget 8 (by omega)) (hdst 8 82 (by simp[tabZ]) (by omega)) g8 (by omega) _ (by omega)
   cases b
   ·have HW:=hide (z4r hg (hget 8 (by omega)) (hdst 8 82 (by simp[tabZ]) (by omega)) Eg)
    refine z7c ho HW.out (v:=.bool false) ?_ ⟨_,rfl,hJ.put (fun c hc=>by cases hc;rfl) (fun h=>by omega) (fun h _=>by omega)⟩
    clear HW Eg
    rw[runH hop]
    generalize actG ops V a0 ops.size=A at E86 E92 ⊢
    clear hJ hget hdst hend hdep hcel hR1 hR2 hit hiS
    go_simp
   ·have HW:=hide (z4r hg (hget 8 (by omega)) (hdst 8 82 (by simp[tabZ]) (by omega)) Eg)
    refine z7c ho HW.out (v:=.bool false) ?_ ⟨_,rfl,hJ.put (fun c hc=>by cases hc;rfl) (fun h=>by omega) (fun h _=>by omega)⟩
    clear HW Eg
    rw[runH hop]
    generalize actG ops V a0 ops.size=A at E86 E92 ⊢
    clear hJ hget hdst hend hdep hcel hR1 hR2 hit hiS
    go_simp
  ·have hop:o.op=.pick (.tmp 82) (.const (.bool true)) (.tmp 93):=zk hop0 rfl
   have hg:o.guard=_:=(Option.some.inj hg0).symm
   obtain⟨v8,g8⟩:=hdep rfl 8 (by decide)
   obtain⟨v19,g19⟩:=hdep rfl 19 (by decide)
   have E82:=evT hd htab hsz 8 82 rfl g8
   have E93:=evT hd htab hsz 19 93 rfl g19
   obtain rfl:v8=_:=hJ.pt 8 v8 _ g8 rfl
   obtain rfl:v19=_:=hJ.pt 19 v19 _ g19 rfl
   refine gop ho hg (v:=.bool false) ?_ ⟨_,rfl,hJ.put (fun c hc=>by cases hc;rfl) (fun h=>by omega) (fun h _=>by omega)⟩
   rw[runH hop]
   generalize actG ops V a0 ops.size=A at E82 E93 ⊢
   clear hJ hget hdst hend hdep hcel hR1 hR2 hit hiS
   go_simp
 ·intro V w7 hall hJ
  have hall':∀ k,k<21→∃ v,V k=some v:=fun k hk=>Option.isSome_iff_exists.1 (hall k (by omega))
  obtain⟨v20,g20⟩:=hall' 20 (by omega)
  obtain rfl:v20=_:=hJ.pt 20 v20 _ g20 rfl
  exact hend V w7 hall' g20 hJ.bel

end Go.Proofs.YtgebcpkpdbdfoaaGreat

namespace Go.Proofs.YtgebcpkpdbdfoaaGreat
open Go.RowKit P5 P9 P12 P14 P15 P16 P17 K

def ctU (b:Bool) (n:Nat) (vs vS vA:Value) (j:Int) (b1 q1:Nat) (key id:Int):Nat→Option Value
 | 0=>some vs
 | 2=>some (.int .i64 (n:Int))
 | 3=>some (.bool b)
 | 4=>some (.bool b)
 | 5=>some (cond b vS undef)
 | 6=>some (cond b vA undef)
 | 7=>some (cond b (.int .i64 j) undef)
 | 8=>some (cond b (.pointer (some ⟨b1,q1,none⟩)) undef)
 | 9=>some (cond b (.pointer (some ⟨b1,q1,none⟩)) undef)
 | 10=>some (cond b (.int .i64 key) undef)
 | 11=>some (cond b (.int .i64 id) undef)
 | 12=>some (cond b vA undef)
 | 13=>some (cond b (.int .i64 j) undef)
 | 14=>some (cond b (.pointer (some ⟨b1,q1,none⟩)) undef)
 | 15=>some (cond b (.pointer (some ⟨b1,q1+1,none⟩)) undef)
 | 16=>some (cond b (.int .i64 id) undef)
 | 17=>some (cond b (.bool false) undef)
 | 18=>some (.bool false)
 | _=>none

structure JU (W:World) (ct:Nat→Option Value) (n:Nat) (V:Gh) (w:World):Prop where
 pt:PT ct V
 bel:Below W.heap.size W w
 r1:∀ v,V 1=some v→∃ oa c,v=.slice oa n c

section
variable {W:World} {ct:Nat→Option Value} {n:Nat} {V:Gh} {w w':World}

theorem JU.on (h:JU W ct n V w) (hb:Below w.heap.size w w'):JU W ct n V w':=⟨h.pt,h.bel.trans (hb.mono h.bel.size),h.r1⟩

theorem JU.put (h:JU W ct n V w) {i:Nat} {v:Value} (hc:∀ c,ct i=some c→v=c) (a1:i=1→∃ oa c,v=.slice oa n c):JU W ct n (V.set i v) w :=
 ⟨h.pt.set hc,h.bel,fun u hu=>by
  by_cases e:1=i
  ·subst e;rw[Gh.set_self] at hu;cases hu;exact a1 rfl
  ·rw[Gh.set_ne V v e] at hu;exact h.r1 u hu⟩
end

def tabU:List (Option Tmp × Op):=[(some 103,.move (.tmp 4)),(some 104,.call { callee:=.value (.func 15),args:=#[.tmp 103],argTypes:=#[25] }),(some 105,.call { callee:=.builtin .len,args:=#[.tmp 104],argTypes:=#[32] }),(some 106,.binOp .eql 3 (.tmp 105) (.const (.int .i64 0)) 3),(some 107,.move (.tmp 106)),(some 108,.move (.tmp 5)),(some 109,.move (.tmp 10)),(some 110,.move (.tmp 11)),(some 111,.indexAddr 28 (.tmp 109) (.tmp 110)),(some 112,.fieldAddr 36 (.tmp 111) 0),(some 113,.load 3 (.tmp 112)),(some 114,.call { callee:=.value (.func 16),args:=#[.tmp 108,.tmp 113],argTypes:=#[28,3] }),(some 115,.move (.tmp 10)),(some 116,.move (.tmp 11)),(some 117,.indexAddr 28 (.tmp 115) (.tmp 116)),(some 118,.fieldAddr 36 (.tmp 117) 1),(some 119,.load 3 (.tmp 118)),(some 120,.binOp .neq 3 (.tmp 114) (.tmp 119) 3),(some 121,.pick (.tmp 107) (.tmp 120) (.const (.bool false)))]

def depU:List (List Nat):=[[],[0],[1],[2],[3],[4],[4],[4],[4,6,7],[4,8],[4,9],[4,5,10],[4],[4],[4,12,13],[4,14],[4,15],[4,11,16],[4,17]]

def gdU:List (Option (Nat × Bool)):=[none,none,none,none,none,some (4,true),some (4,true),some (4,true),some (4,true),some (4,true),some (4,true),some (4,true),some (4,true),some (4,true),some (4,true),some (4,true),some (4,true),some (4,true),none]

set_option maxHeartbeats 4000000 in
theorem y06 {id0:Nat} {ops:Array Oper} {Q:Exit→Act→World→Prop} {a0:Act} {W:World} (hm:Tryz.prog.follows .mixedOrders=true) (htab:z1w ops=tabU) (hdp:z4z ops depU=true) (hgd:ops.toList.map (·.guard)=gdU) (hd:z2e ops=true) (hl:z5x ops=true) (n4:z16 ops 4=true) (n5:z16 ops 5=true) (n10:z16 ops 10=true) (n11:z16 ops 11=true)
  {ov oS oA:Option Addr} {nv cv nS cS nA cA:Nat} {C:List Int} {b:Bool} {j key id:Int} {b1 q1:Nat}
  (hsz:144≤a0.tmps.size) (e4:a0.eval (.tmp 4)=.slice ov nv cv) (e5:a0.eval (.tmp 5)=.slice oS nS cS) (e10:a0.eval (.tmp 10)=.slice oA nA cA) (e11:a0.eval (.tmp 11)=.int .i64 j) (hb:((C.length:Int)==0)=b)
  (hidx:∀ wx,(Instr.indexAt 28 (.slice oA nA cA) (.int .i64 j)).run Tryz.prog wx=.ok (.pointer (some ⟨b1,q1,none⟩)) wx)
  (hcel:∀ w',Below W.heap.size W w'→w'.cell? ⟨b1,q1,none⟩=some (.int .i64 key)∧w'.cell? ⟨b1,q1+1,none⟩=some (.int .i64 id))
  (hC:∀ w',Below W.heap.size W w'→Calls Tryz.prog 15 #[.slice ov nv cv] w' (z4h w' C))
  (hA:b=true→∀ w',Below W.heap.size W w'→Calls Tryz.prog 16 #[.slice oS nS cS,.int .i64 key] w' fun e w''=>e=.returned (.int .i64 id)∧Below w'.heap.size w' w'')
  (hend:∀ (V:Gh) (w':World),(∀ k,k<19→∃ v,V k=some v)→V 18=some (.bool false)→Below W.heap.size W w'→Q .normal (actG ops V a0 ops.size) w'):(Code.region id0 ops true).wp Tryz.prog Q a0 W:=by
 have hops:ops.size=19:=by
  have:=congrArg List.length htab
  simpa [z1w,tabU] using this
 have hget:∀ k (hk:k<19),ops[k]? = some (ops[k]'(by omega)):=fun k hk=>Array.getElem?_eq_getElem (by omega)
 have hdst:∀ k t,(tabU[k]?).map (·.1)=some (some t)→(hk:k<19)→(ops[k]'(by omega)).dst=some t:=fun k t ht hk=>by
  have:=z0v htab (hget k hk)
  rw[this] at ht
  simpa using ht
 refine z1y hm hd hl (JU W (ctU b C.length (.slice ov nv cv) (.slice oS nS cS) (.slice oA nA cA) j b1 q1 key id) C.length) ?_ ?_ ?_
 ·exact⟨(fun k v c h=>by cases h),(Below.refl _ _).drew,(fun v h=>by cases h)⟩
 ·intro i o V w7 ho hVi hdep0 hcl hJ
  have hi:i<19:=by have:=(Array.getElem?_eq_some_iff.1 ho).1;omega
  have hop0:=z0v htab ho
  have hg0:gdU[i]? = some o.guard:=by rw[← hgd,List.getElem?_map,Array.getElem?_toList,ho];rfl
  have hdep:∀ {l:List Nat},depU[i]? = some l→∀ k∈l,∃ v,V k=some v:=fun hl=>z0w hdp ho hdep0 hl
  clear hdep0 hcl
  have hcases:i=0∨i=1∨i=2∨i=3∨i=4∨i=5∨i=6∨i=7∨i=8∨i=9∨i=10∨i=11∨i=12∨i=13∨i=14∨i=15∨i=16∨i=17∨i=18:=by omega
  rcases hcases with rfl|rfl|rfl|rfl|rfl|rfl|rfl|rfl|rfl|rfl|rfl|rfl|rfl|rfl|rfl|rfl|rfl|rfl|rfl
  ·have hop:o.op=.move (.tmp 4):=zk hop0 rfl
   have hg:o.guard=_:=(Option.some.inj hg0).symm
   have E4:=evO (V:=V) n4 e4
   exact gM ho hg hop E4 ⟨_,rfl,hJ.put (fun c hc=>by cases hc;rfl) (fun h=>by omega)⟩
  ·have hop:o.op=.call { callee:=.value (.func 15),args:=#[.tmp 103],argTypes:=#[25] }:=zk hop0 rfl
   have hg:o.guard=_:=(Option.some.inj hg0).symm
   obtain⟨v0,g0⟩:=hdep rfl 0 (by decide)
   have E103:=evT hd htab hsz 0 103 rfl g0
   obtain rfl:v0=_:=hJ.pt 0 v0 _ g0 rfl
   have HC:=hide (hC _ hJ.bel)
   refine z7l ho hg (f:=15) (args:=#[.slice ov nv cv]) (w':=w7) ?_ (HC.out.mono ?_)
   ·clear HC
    rw[runH hop]
    generalize actG ops V a0 ops.size=A at E103 ⊢
    clear hJ hget hdst hend hdep hcel hC hA
    go_simp
   ·rintro r w8 ⟨v,rfl,ho8,hb8⟩
    obtain⟨oa8,c8,rfl⟩:=zb ho8
    exact⟨_,rfl,_,rfl,(hJ.on hb8).put (fun c hc=>by cases hc) (fun _=>⟨oa8,c8,rfl⟩)⟩
  ·have hop:o.op=.call { callee:=.builtin .len,args:=#[.tmp 104],argTypes:=#[32] }:=zk hop0 rfl
   have hg:o.guard=_:=(Option.some.inj hg0).symm
   obtain⟨v1,g1⟩:=hdep rfl 1 (by decide)
   have E104:=evT hd htab hsz 1 104 rfl g1
   obtain⟨oa8,c8,rfl⟩:=hJ.r1 v1 g1
   refine gop ho hg ?_ ⟨_,rfl,hJ.put (fun c hc=>by cases hc;rfl) (fun h=>by omega)⟩
   rw[runH hop]
   generalize actG ops V a0 ops.size=A at E104 ⊢
   clear hJ hget hdst hend hdep hcel hC hA
   go_simp
  ·have hop:o.op=.binOp .eql 3 (.tmp 105) (.const (.int .i64 0)) 3:=zk hop0 rfl
   have hg:o.guard=_:=(Option.some.inj hg0).symm
   obtain⟨v2,g2⟩:=hdep rfl 2 (by decide)
   have E105:=evT hd htab hsz 2 105 rfl g2
   obtain rfl:v2=_:=hJ.pt 2 v2 _ g2 rfl
   refine gop ho hg (v:=.bool b) ?_ ⟨_,rfl,hJ.put (fun c hc=>by cases hc;rfl) (fun h=>by omega)⟩
   rw[runH hop]
   generalize actG ops V a0 ops.size=A at E105 ⊢
   clear hJ hget hdst hend hdep hcel hC hA
   go_simp
  ·have hop:o.op=.move (.tmp 106):=zk hop0 rfl
   have hg:o.guard=_:=(Option.some.inj hg0).symm
   obtain⟨v3,g3⟩:=hdep rfl 3 (by decide)
   have E106:=evD hd htab hsz 3 106 rfl g3
   obtain rfl:v3=_:=hJ.pt 3 v3 _ g3 rfl
   exact gM ho hg hop E106 ⟨_,rfl,hJ.put (fun c hc=>by cases hc;rfl) (fun h=>by omega)⟩
  ·have hop:o.op=.move (.tmp 5):=zk hop0 rfl
   have hg:o.guard=_:=(Option.some.inj hg0).symm
   obtain⟨v4,g4⟩:=hdep rfl 4 (by decide)
   have E5:=evP (V:=V) n5 e5
   obtain rfl:v4=_:=hJ.pt 4 v4 _ g4 rfl
   have Eg:(actG ops V a0 ops.size).eval (.tmp 107)=.bool b:=z3j hd (hget 4 (by omega)) (hdst 4 107 (by simp[tabU]) (by omega)) g4 (by omega) _ (by omega)
   cases b
   ·refine z8r ho (z5q hg (hget 4 (by omega)) (hdst 4 107 (by simp[tabU]) (by omega)) Eg (by decide)) ⟨_,rfl,hJ.put (fun c hc=>by cases hc;rfl) (fun h=>by omega)⟩
   ·have HW:=hide (z4r hg (hget 4 (by omega)) (hdst 4 107 (by simp[tabU]) (by omega)) Eg)
    refine z7c ho HW.out ?_ ⟨_,rfl,hJ.put (fun c hc=>by cases hc;rfl) (fun h=>by omega)⟩
    clear HW Eg
    rw[runH hop]
    generalize actG ops V a0 ops.size=A at E5 ⊢
    clear hJ hget hdst hend hdep hcel hC hA
    go_simp
  ·have hop:o.op=.move (.tmp 10):=zk hop0 rfl
   have hg:o.guard=_:=(Option.some.inj hg0).symm
   obtain⟨v4,g4⟩:=hdep rfl 4 (by decide)
   have E10:=evP (V:=V) n10 e10
   obtain rfl:v4=_:=hJ.pt 4 v4 _ g4 rfl
   have Eg:(actG ops V a0 ops.size).eval (.tmp 107)=.bool b:=z3j hd (hget 4 (by omega)) (hdst 4 107 (by simp[tabU]) (by omega)) g4 (by omega) _ (by omega)
   cases b
   ·refine z8r ho (z5q hg (hget 4 (by omega)) (hdst 4 107 (by simp[tabU]) (by omega)) Eg (by decide)) ⟨_,rfl,hJ.put (fun c hc=>by cases hc;rfl) (fun h=>by omega)⟩
   ·have HW:=hide (z4r hg (hget 4 (by omega)) (hdst 4 107 (by simp[tabU]) (by omega)) Eg)
    refine z7c ho HW.out ?_ ⟨_,rfl,hJ.put (fun c hc=>by cases hc;rfl) (fun h=>by omega)⟩
    clear HW Eg
    rw[runH hop]
    generalize actG ops V a0 ops.size=A at E10 ⊢
    clear hJ hget hdst hend hdep hcel hC hA
    go_simp
  ·have hop:o.op=.move (.tmp 11):=zk hop0 rfl
   have hg:o.guard=_:=(Option.some.inj hg0).symm
   obtain⟨v4,g4⟩:=hdep rfl 4 (by decide)
   have E11:=evP (V:=V) n11 e11
   obtain rfl:v4=_:=hJ.pt 4 v4 _ g4 rfl
   have Eg:(actG ops V a0 ops.size).eval (.tmp 107)=.bool b:=z3j hd (hget 4 (by omega)) (hdst 4 107 (by simp[tabU]) (by omega)) g4 (by omega) _ (by omega)
   cases b
   ·refine z8r ho (z5q hg (hget 4 (by omega)) (hdst 4 107 (by simp[tabU]) (by omega)) Eg (by decide)) ⟨_,rfl,hJ.put (fun c hc=>by cases hc;rfl) (fun h=>by omega)⟩
   ·have HW:=hide (z4r hg (hget 4 (by omega)) (hdst 4 107 (by simp[tabU]) (by omega)) Eg)
    refine z7c ho HW.out ?_ ⟨_,rfl,hJ.put (fun c hc=>by cases hc;rfl) (fun h=>by omega)⟩
    clear HW Eg
    rw[runH hop]
    generalize actG ops V a0 ops.size=A at E11 ⊢
    clear hJ hget hdst hend hdep hcel hC hA
    go_simp
  ·have hop:o.op=.indexAddr 28 (.tmp 109) (.tmp 110):=zk hop0 rfl
   have hg:o.guard=_:=(Option.some.inj hg0).symm
   obtain⟨v4,g4⟩:=hdep rfl 4 (by decide)
   obtain⟨v6,g6⟩:=hdep rfl 6 (by decide)
   obtain⟨v7,g7⟩:=hdep rfl 7 (by decide)
   have E109:=evT hd htab hsz 6 109 rfl g6
   have E110:=evT hd htab hsz 7 110 rfl g7
   obtain rfl:v4=_:=hJ.pt 4 v4 _ g4 rfl
   obtain rfl:v6=_:=hJ.pt 6 v6 _ g6 rfl
   obtain rfl:v7=_:=hJ.pt 7 v7 _ g7 rfl
   have Eg:(actG ops V a0 ops.size).eval (.tmp 107)=.bool b:=z3j hd (hget 4 (by omega)) (hdst 4 107 (by simp[tabU]) (by omega)) g4 (by omega) _ (by omega)
   cases b
   ·refine z8r ho (z5q hg (hget 4 (by omega)) (hdst 4 107 (by simp[tabU]) (by omega)) Eg (by decide)) ⟨_,rfl,hJ.put (fun c hc=>by cases hc;rfl) (fun h=>by omega)⟩
   ·have HW:=hide (z4r hg (hget 4 (by omega)) (hdst 4 107 (by simp[tabU]) (by omega)) Eg)
    refine z7c ho HW.out ?_ ⟨_,rfl,hJ.put (fun c hc=>by cases hc;rfl) (fun h=>by omega)⟩
    clear HW Eg
    rw[runH hop]
    generalize actG ops V a0 ops.size=A at E109 E110 ⊢
    clear hJ hget hdst hend hdep hcel hC hA
    go_simp
  ·have hop:o.op=.fieldAddr 36 (.tmp 111) 0:=zk hop0 rfl
   have hg:o.guard=_:=(Option.some.inj hg0).symm
   obtain⟨v4,g4⟩:=hdep rfl 4 (by decide)
   obtain⟨v8,g8⟩:=hdep rfl 8 (by decide)
   have E111:=evT hd htab hsz 8 111 rfl g8
   obtain rfl:v4=_:=hJ.pt 4 v4 _ g4 rfl
   obtain rfl:v8=_:=hJ.pt 8 v8 _ g8 rfl
   have Eg:(actG ops V a0 ops.size).eval (.tmp 107)=.bool b:=z3j hd (hget 4 (by omega)) (hdst 4 107 (by simp[tabU]) (by omega)) g4 (by omega) _ (by omega)
   cases b
   ·refine z8r ho (z5q hg (hget 4 (by omega)) (hdst 4 107 (by simp[tabU]) (by omega)) Eg (by decide)) ⟨_,rfl,hJ.put (fun c hc=>by cases hc;rfl) (fun h=>by omega)⟩
   ·have HW:=hide (z4r hg (hget 4 (by omega)) (hdst 4 107 (by simp[tabU]) (by omega)) Eg)
    refine z7c ho HW.out ?_ ⟨_,rfl,hJ.put (fun c hc=>by cases hc;rfl) (fun h=>by omega)⟩
    clear HW Eg
    rw[runH hop]
    generalize actG ops V a0 ops.size=A at E111 ⊢
    clear hJ hget hdst hend hdep hcel hC hA
    go_simp
  ·have hop:o.op=.load 3 (.tmp 112):=zk hop0 rfl
   have hg:o.guard=_:=(Option.some.inj hg0).symm
   obtain⟨v4,g4⟩:=hdep rfl 4 (by decide)
   obtain⟨v9,g9⟩:=hdep rfl 9 (by decide)
   have E112:=evT hd htab hsz 9 112 rfl g9
   obtain rfl:v4=_:=hJ.pt 4 v4 _ g4 rfl
   obtain rfl:v9=_:=hJ.pt 9 v9 _ g9 rfl
   have Eg:(actG ops V a0 ops.size).eval (.tmp 107)=.bool b:=z3j hd (hget 4 (by omega)) (hdst 4 107 (by simp[tabU]) (by omega)) g4 (by omega) _ (by omega)
   cases b
   ·refine z8r ho (z5q hg (hget 4 (by omega)) (hdst 4 107 (by simp[tabU]) (by omega)) Eg (by decide)) ⟨_,rfl,hJ.put (fun c hc=>by cases hc;rfl) (fun h=>by omega)⟩
   ·have HW:=hide (z4r hg (hget 4 (by omega)) (hdst 4 107 (by simp[tabU]) (by omega)) Eg)
    obtain⟨hc0,hc1⟩:=hcel _ hJ.bel
    refine z7c ho HW.out ?_ ⟨_,rfl,hJ.put (fun c hc=>by cases hc;rfl) (fun h=>by omega)⟩
    clear HW Eg
    rw[runH hop]
    generalize actG ops V a0 ops.size=A at E112 ⊢
    clear hJ hget hdst hend hdep hcel hC hA
    go_simp
  ·have hop:o.op=.call { callee:=.value (.func 16),args:=#[.tmp 108,.tmp 113],argTypes:=#[28,3] }:=zk hop0 rfl
   have hg:o.guard=_:=(Option.some.inj hg0).symm
   obtain⟨v4,g4⟩:=hdep rfl 4 (by decide)
   obtain⟨v5,g5⟩:=hdep rfl 5 (by decide)
   obtain⟨v10,g10⟩:=hdep rfl 10 (by decide)
   have E108:=evT hd htab hsz 5 108 rfl g5
   have E113:=evT hd htab hsz 10 113 rfl g10
   obtain rfl:v4=_:=hJ.pt 4 v4 _ g4 rfl
   obtain rfl:v5=_:=hJ.pt 5 v5 _ g5 rfl
   obtain rfl:v10=_:=hJ.pt 10 v10 _ g10 rfl
   have Eg:(actG ops V a0 ops.size).eval (.tmp 107)=.bool b:=z3j hd (hget 4 (by omega)) (hdst 4 107 (by simp[tabU]) (by omega)) g4 (by omega) _ (by omega)
   cases b
   ·refine z8r ho (z5q hg (hget 4 (by omega)) (hdst 4 107 (by simp[tabU]) (by omega)) Eg (by decide)) ⟨_,rfl,hJ.put (fun c hc=>by cases hc;rfl) (fun h=>by omega)⟩
   ·have HW:=hide (z4r hg (hget 4 (by omega)) (hdst 4 107 (by simp[tabU]) (by omega)) Eg)
    have HC:=hide (hA rfl _ hJ.bel)
    refine y00 ho HW.out (f:=16) (args:=#[.slice oS nS cS,.int .i64 key]) (w':=w7) ?_ (HC.out.mono ?_)
    ·clear HC HW Eg
     rw[runH hop]
     generalize actG ops V a0 ops.size=A at E108 E113 ⊢
     clear hJ hget hdst hend hdep hcel hC hA
     go_simp
    ·rintro r w8 ⟨rfl,hb8⟩
     exact⟨_,rfl,_,rfl,(hJ.on hb8).put (fun c hc=>by cases hc;rfl) (fun h=>by omega)⟩
  ·have hop:o.op=.move (.tmp 10):=zk hop0 rfl
   have hg:o.guard=_:=(Option.some.inj hg0).symm
   obtain⟨v4,g4⟩:=hdep rfl 4 (by decide)
   have E10:=evP (V:=V) n10 e10
   obtain rfl:v4=_:=hJ.pt 4 v4 _ g4 rfl
   have Eg:(actG ops V a0 ops.size).eval (.tmp 107)=.bool b:=z3j hd (hget 4 (by omega)) (hdst 4 107 (by simp[tabU]) (by omega)) g4 (by omega) _ (by omega)
   cases b
   ·refine z8r ho (z5q hg (hget 4 (by omega)) (hdst 4 107 (by simp[tabU]) (by omega)) Eg (by decide)) ⟨_,rfl,hJ.put (fun c hc=>by cases hc;rfl) (fun h=>by omega)⟩
   ·have HW:=hide (z4r hg (hget 4 (by omega)) (hdst 4 107 (by simp[tabU]) (by omega)) Eg)
    refine z7c ho HW.out ?_ ⟨_,rfl,hJ.put (fun c hc=>by cases hc;rfl) (fun h=>by omega)⟩
    clear HW Eg
    rw[runH hop]
    generalize actG ops V a0 ops.size=A at E10 ⊢
    clear hJ hget hdst hend hdep hcel hC hA
    go_simp
  ·have hop:o.op=.move (.tmp 11):=zk hop0 rfl
   have hg:o.guard=_:=(Option.some.inj hg0).symm
   obtain⟨v4,g4⟩:=hdep rfl 4 (by decide)
   have E11:=evP (V:=V) n11 e11
   obtain rfl:v4=_:=hJ.pt 4 v4 _ g4 rfl
   have Eg:(actG ops V a0 ops.size).eval (.tmp 107)=.bool b:=z3j hd (hget 4 (by omega)) (hdst 4 107 (by simp[tabU]) (by omega)) g4 (by omega) _ (by omega)
   cases b
   ·refine z8r ho (z5q hg (hget 4 (by omega)) (hdst 4 107 (by simp[tabU]) (by omega)) Eg (by decide)) ⟨_,rfl,hJ.put (fun c hc=>by cases hc;rfl) (fun h=>by omega)⟩
   ·have HW:=hide (z4r hg (hget 4 (by omega)) (hdst 4 107 (by simp[tabU]) (by omega)) Eg)
    refine z7c ho HW.out ?_ ⟨_,rfl,hJ.put (fun c hc=>by cases hc;rfl) (fun h=>by omega)⟩
    clear HW Eg
    rw[runH hop]
    generalize actG ops V a0 ops.size=A at E11 ⊢
    clear hJ hget hdst hend hdep hcel hC hA
    go_simp
  ·have hop:o.op=.indexAddr 28 (.tmp 115) (.tmp 116):=zk hop0 rfl
   have hg:o.guard=_:=(Option.some.inj hg0).symm
   obtain⟨v4,g4⟩:=hdep rfl 4 (by decide)
   obtain⟨v12,g12⟩:=hdep rfl 12 (by decide)
   obtain⟨v13,g13⟩:=hdep rfl 13 (by decide)
   have E115:=evT hd htab hsz 12 115 rfl g12
   have E116:=evT hd htab hsz 13 116 rfl g13
   obtain rfl:v4=_:=hJ.pt 4 v4 _ g4 rfl
   obtain rfl:v12=_:=hJ.pt 12 v12 _ g12 rfl
   obtain rfl:v13=_:=hJ.pt 13 v13 _ g13 rfl
   have Eg:(actG ops V a0 ops.size).eval (.tmp 107)=.bool b:=z3j hd (hget 4 (by omega)) (hdst 4 107 (by simp[tabU]) (by omega)) g4 (by omega) _ (by omega)
   cases b
   ·refine z8r ho (z5q hg (hget 4 (by omega)) (hdst 4 107 (by simp[tabU]) (by omega)) Eg (by decide)) ⟨_,rfl,hJ.put (fun c hc=>by cases hc;rfl) (fun h=>by omega)⟩
   ·have HW:=hide (z4r hg (hget 4 (by omega)) (hdst 4 107 (by simp[tabU]) (by omega)) Eg)
    refine z7c ho HW.out ?_ ⟨_,rfl,hJ.put (fun c hc=>by cases hc;rfl) (fun h=>by omega)⟩
    clear HW Eg
    rw[runH hop]
    generalize actG ops V a0 ops.size=A at E115 E116 ⊢
    clear hJ hget hdst hend hdep hcel hC hA
    go_simp
  ·have hop:o.op=.fieldAddr 36 (.tmp 117) 1:=zk hop0 rfl
   have hg:o.guard=_:=(Option.some.inj hg0).symm
   obtain⟨v4,g4⟩:=hdep rfl 4 (by decide)
   obtain⟨v14,g14⟩:=hdep rfl 14 (by decide)
   have E117:=evT hd htab hsz 14 117 rfl g14
   obtain rfl:v4=_:=hJ.pt 4 v4 _ g4 rfl
   obtain rfl:v14=_:=hJ.pt 14 v14 _ g14 rfl
   have Eg:(actG ops V a0 ops.size).eval (.tmp 107)=.bool b:=z3j hd (hget 4 (by omega)) (hdst 4 107 (by simp[tabU]) (by omega)) g4 (by omega) _ (by omega)
   cases b
   ·refine z8r ho (z5q hg (hget 4 (by omega)) (hdst 4 107 (by simp[tabU]) (by omega)) Eg (by decide)) ⟨_,rfl,hJ.put (fun c hc=>by cases hc;rfl) (fun h=>by omega)⟩
   ·have HW:=hide (z4r hg (hget 4 (by omega)) (hdst 4 107 (by simp[tabU]) (by omega)) Eg)
    refine z7c ho HW.out ?_ ⟨_,rfl,hJ.put (fun c hc=>by cases hc;rfl) (fun h=>by omega)⟩
    clear HW Eg
    rw[runH hop]
    generalize actG ops V a0 ops.size=A at E117 ⊢
    clear hJ hget hdst hend hdep hcel hC hA
    go_simp
  ·have hop:o.op=.load 3 (.tmp 118):=zk hop0 rfl
   have hg:o.guard=_:=(Option.some.inj hg0).symm
   obtain⟨v4,g4⟩:=hdep rfl 4 (by decide)
   obtain⟨v15,g15⟩:=hdep rfl 15 (by decide)
   have E118:=evT hd htab hsz 15 118 rfl g15
   obtain rfl:v4=_:=hJ.pt 4 v4 _ g4 rfl
   obtain rfl:v15=_:=hJ.pt 15 v15 _ g15 rfl
   have Eg:(actG ops V a0 ops.size).eval (.tmp 107)=.bool b:=z3j hd (hget 4 (by omega)) (hdst 4 107 (by simp[tabU]) (by omega)) g4 (by omega) _ (by omega)
   cases b
   ·refine z8r ho (z5q hg (hget 4 (by omega)) (hdst 4 107 (by simp[tabU]) (by omega)) Eg (by decide)) ⟨_,rfl,hJ.put (fun c hc=>by cases hc;rfl) (fun h=>by omega)⟩
   ·have HW:=hide (z4r hg (hget 4 (by omega)) (hdst 4 107 (by simp[tabU]) (by omega)) Eg)
    obtain⟨hc0,hc1⟩:=hcel _ hJ.bel
    refine z7c ho HW.out ?_ ⟨_,rfl,hJ.put (fun c hc=>by cases hc;rfl) (fun h=>by omega)⟩
    clear HW Eg
    rw[runH hop]
    generalize actG ops V a0 ops.size=A at E118 ⊢
    clear hJ hget hdst hend hdep hcel hC hA
    go_simp
  ·have hop:o.op=.binOp .neq 3 (.tmp 114) (.tmp 119) 3:=zk hop0 rfl
   have hg:o.guard=_:=(Option.some.inj hg0).symm
   obtain⟨v4,g4⟩:=hdep rfl 4 (by decide)
   obtain⟨v11,g11⟩:=hdep rfl 11 (by decide)
   obtain⟨v16,g16⟩:=hdep rfl 16 (by decide)
   have E114:=evT hd htab hsz 11 114 rfl g11
   have E119:=evT hd htab hsz 16 119 rfl g16
   obtain rfl:v4=_:=hJ.pt 4 v4 _ g4 rfl
   obtain rfl:v11=_:=hJ.pt 11 v11 _ g11 rfl
   obtain rfl:v16=_:=hJ.pt 16 v16 _ g16 rfl
   have Eg:(actG ops V a0 ops.size).eval (.tmp 107)=.bool b:=z3j hd (hget 4 (by omega)) (hdst 4 107 (by simp[tabU]) (by omega)) g4 (by omega) _ (by omega)
   cases b
   ·refine z8r ho (z5q hg (hget 4 (by omega)) (hdst 4 107 (by simp[tabU]) (by omega)) Eg (by decide)) ⟨_,rfl,hJ.put (fun c hc=>by cases hc;rfl) (fun h=>by omega)⟩
   ·have HW:=hide (z4r hg (hget 4 (by omega)) (hdst 4 107 (by simp[tabU]) (by omega)) Eg)
    refine z7c ho HW.out ?_ ⟨_,rfl,hJ.put (fun c hc=>by cases hc;rfl) (fun h=>by omega)⟩
    clear HW Eg
    rw[runH hop]
    generalize actG ops V a0 ops.size=A at E114 E119 ⊢
    clear hJ hget hdst hend hdep hcel hC hA
    go_simp
  ·have hop:o.op=.pick (.tmp 107) (.tmp 120) (.const (.bool false)):=zk hop0 rfl
   have hg:o.guard=_:=(Option.some.inj hg0).symm
   obtain⟨v4,g4⟩:=hdep rfl 4 (by decide)
   obtain⟨v17,g17⟩:=hdep rfl 17 (by decide)
   have E107:=evT hd htab hsz 4 107 rfl g4
   have E120:=evT hd htab hsz 17 120 rfl g17
   obtain rfl:v4=_:=hJ.pt 4 v4 _ g4 rfl
   obtain rfl:v17=_:=hJ.pt 17 v17 _ g17 rfl
   refine gop ho hg (v:=.bool false) ?_ ⟨_,rfl,hJ.put (fun c hc=>by cases hc;rfl) (fun h=>by omega)⟩
   cases b
   ·rw[runH hop]
    generalize actG ops V a0 ops.size=A at E107 E120 ⊢
    clear hJ hget hdst hend hdep hcel hC hA
    go_simp
   ·rw[runH hop]
    generalize actG ops V a0 ops.size=A at E107 E120 ⊢
    clear hJ hget hdst hend hdep hcel hC hA
    go_simp
 ·intro V w7 hall hJ
  have hall':∀ k,k<19→∃ v,V k=some v:=fun k hk=>Option.isSome_iff_exists.1 (hall k (by omega))
  obtain⟨v18,g18⟩:=hall' 18 (by omega)
  obtain rfl:v18=_:=hJ.pt 18 v18 _ g18 rfl
  exact hend V w7 hall' g18 hJ.bel

end Go.Proofs.YtgebcpkpdbdfoaaGreat

namespace Go.Proofs.YtgebcpkpdbdfoaaGreat
open Go.RowKit P5 P9 P12 P14 P15 P16 P17 K

theorem y0g {ss:List St} {p j:Nat} {s:St} (hs:ss[p]? = some s) (h:p+j+1=ss.length):ss.reverse.take (j+1)=ss.reverse.take j++[s]:=by
 refine z4g ?_
 rw[List.getElem?_reverse (by omega),show ss.length - 1 - j=p by omega]
 exact hs

theorem y0h {ss:List St}:∀ s,s∈ss.reverse↔s∈ss:=fun s=>List.mem_reverse

theorem y0a (es:List EvV) (ss:List St):P15.resolve es ss.reverse=P15.resolve es ss:=by
 match ss with
 | []=>rfl
 | [a]=>rfl
 | a::b::r=>exact y01 es (by simp) (by simp) y0h

theorem y08 {es:List EvV} {ss:List St} {s:St} (hs:ss[0]? = some s) (h2:1<ss.length):P15.resolve es (ss++[s])=P15.resolve es ss :=
 y01 es (by simp;omega) (by omega) (fun z=>by
  rw[List.mem_append,List.mem_singleton]
  exact⟨fun h=>h.elim id (fun e=>e ▸ List.mem_of_getElem? hs),.inl⟩)

theorem StsX.snocL {w:World} {ss:List St} {ys:List Value} {s:St} {xa:Option Addr} {xc:Nat} (h:StsX w ss ys) (hl:ys.length=ss.length) (hi:ItemsAt w xa s.length xc s):StsX w (ss++[s]) (ys++[.slice xa s.length xc]):=fun i z hz=>by
 rcases Nat.lt_or_ge i ss.length with hlt|hge
 ·rw[List.getElem?_append_left hlt] at hz
  obtain⟨a,c,h1,h2⟩:=h i z hz
  exact⟨a,c,by rw[List.getElem?_append_left (by omega)];exact h1,h2⟩
 ·rw[List.getElem?_append_right hge] at hz
  have hi0:i=ss.length:=by
   have:=(List.getElem?_eq_some_iff.1 hz).1
   simp at this
   omega
  subst hi0
  simp at hz
  subst hz
  exact⟨xa,xc,by rw[← hl,List.getElem?_append_right (Nat.le_refl _)];simp,hi⟩

theorem y0e {w:World} {bl:Nat} {s:St} {xa:Option Addr} {xc:Nat} (h:w.heap[bl]? = some (.cells #[.slice xa s.length xc,.slice xa s.length xc,.slice xa s.length xc] 28 (0,0))) (hi:ItemsAt w xa s.length xc s):StsAt w (some ⟨bl,0,none⟩) 3 3 [s,s,s] :=
 ⟨rfl,Nat.le_refl _,by unfold maxLen;omega,fun i z hz=>by
  have hz':z=s:=by
   have:=List.mem_of_getElem? hz
   simpa using this
  subst hz'
  have hi3:i<3:=by have:=(List.getElem?_eq_some_iff.1 hz).1;simpa using this
  refine⟨bl,0,xa,xc,rfl,?_,hi⟩
  rw[Nat.zero_add]
  rcases (show i=0∨i=1∨i=2 by omega) with rfl|rfl|rfl
  ·exact za h 0 rfl
  ·exact za h 1 rfl
  ·exact za h 2 rfl⟩

set_option maxRecDepth 100000 in
set_option maxHeartbeats 16000000 in
theorem FnResolves_walk (a0:Option Addr) (len0 cap0:Nat) (z0:List Int) (w:World) (w0:zhf .u8 w a0 len0 cap0 z0) :
  Calls Tryz.prog 3 #[.slice a0 len0 cap0] w fun e w'=>e=.returned (.bool true)∧Below w.heap.size w w':=by
 have HC:=hide (zdx w0)
 clear w0
 by_cases hbig:1048576<len0
 ·go_enter Tryz.func3,Tryz.ntmps3
  go_wp2_with (go_at_call 9;refine (zlu a0 len0 cap0 hbig _).mono ?_;rintro e w1 ⟨rfl,rfl⟩)
  go_ret
  exact⟨rfl,Below.refl _ _⟩
 ·have hlen:len0≤1048576:=by omega
  go_enter Tryz.func3,Tryz.ntmps3
  go_upto_region 4 with (first
   | (go_at_call 9;refine (zmk a0 len0 cap0 hlen _).mono ?_;rintro e w1 ⟨rfl,rfl⟩)
   | (go_at_call 10;refine (zbn w.heap.size a0 len0 cap0 _ hlen (Nat.le_refl _) HC.out).mono ?_;rintro e w1 ⟨oa,ca,es,sts,ov,cv,ss,rfl,hL,hev,hst,hb1⟩))
  have hf:=hL.few
  have Ap:=hide hL.ok
  have KO:=hide hL.tells
  have Kr:=hide hL.roomE
  have hn40:es.length≤100:=hL.roomE.few
  have Ja:=hide hL.roomE.fine
  have Af:=hide hev
  have HST:=hide hst
  have HB1:=hide hb1
  have Kv:=hide (show ∀ s∈ss,s.length≤1048576 from fun s hs=>by have:=z1z (hL.ok s hs);omega)
  have EC:=hide (show ∀ s∈ss,∀ x∈s,(Lit.int .i64 x.2).wf=true from fun s hs x hx=>(z2u (hL.ok s hs) x hx).2)
  have Aq:=hide (zcb oa es.length ca es ov ss.length cv ss hL.roomE (by omega) hL.ok hL.tells w1 hev hst)
  have hS8:=z1z (z9a (es:=es) hL.ok)
  have Ll:=hide (z9a (es:=es) hL.ok)
  clear hL hev hst hb1 HC
  go_upto_region 5 with (go_at_call 11;(with_reducible refine Aq.out.mono ?_);rintro e w2 ⟨v2,rfl,ho2,hb2⟩;obtain⟨o2,c2,rfl,hi2⟩:=z03 ho2)
  have HB2:=hide (HB1.out.trans (hb2.mono HB1.out.size))
  have Gq:=hide (HST.out.below hb2)
  have DU:=hide (Af.out.below hb2)
  have HI2:=hide hi2
  have HSR:=hide (zbe oa es.length ca es ov ss.length cv ss (by omega) (by omega) Ja.out Kv.out EC.out w2 DU.out Gq.out)
  clear ho2 hb2 hi2 Aq HST Af HB1
  go_upto_region 7 with (first
   | (go_at_call 13;(with_reducible refine HSR.out.mono ?_);rintro e w3 ⟨v3,rfl,ho3,hb3⟩;obtain⟨o3,c3,rfl,hi3⟩:=z03 ho3;have BG:=hide (ze8 o2 (P15.resolve es ss).length c2 (P15.resolve es ss) o3 (P15.resolve es ss).length c3 (P15.resolve es ss) w3 (HI2.out.below hb3) hi3);rw[decide_eq_true (rfl:P15.resolve es ss=P15.resolve es ss)] at BG)
   | (go_at_call 12;(with_reducible refine BG.out.mono ?_);rintro e w4 ⟨rfl,hd4⟩))
  have hb24:=hb3.trans (hd4.below.mono hb3.size)
  have Dq:=hide (HB2.out.trans (hb24.mono HB2.out.size))
  have KG:=hide (Gq.out.below hb24)
  have Jv:=hide (DU.out.below hb24)
  have HI4:=hide (HI2.out.below hb24)
  clear ho3 hb3 hi3 BG hd4 hb24 HSR HB2 Gq DU HI2
  obtain⟨S,hS⟩:∃ S,P15.resolve es ss=S:=⟨_,rfl⟩
  simp only[hS] at HI4 hS8 Ll ⊢
  have Ga:=hide hS
  clear hS
  go_wp2_with fail
  go_loopw [6,7] (fun v i wr=>∃ (x:Int) (j:Nat),i=.int .i64 x∧x+(j:Int)+1=(ss.length:Int)∧-1≤x∧OutS w4.heap.size w4 wr v (ss.reverse.take j)) (fun _ i _=>(intOf i+1).toNat)
  case atStart=>exact⟨(ss.length:Int) - 1,0,by go_num,by omega,by omega,OutS.new (Below.refl _ _)⟩
  case round =>
   obtain⟨x,j,rfl,hxj,hx1,hS⟩:=hrel
   generalize hL:ss.reverse.take j=L at hS
   have HL:=hide hL
   have hll:L.length≤65536:=by
    rw[← hL,List.length_take,List.length_reverse]
    omega
   obtain⟨o6,c6,rfl⟩:=hS.form
   have HS:=hide hS
   have HXJ:=hide hxj
   clear hL hS
   by_cases hx0:0≤x
   ·obtain⟨p,rfl⟩:∃ p:Nat,x=(p:Int):=⟨x.toNat,by omega⟩
    have hps:p<ss.length:=by omega
    have hpj:p+j+1=ss.length:=by omega
    obtain⟨s,b2,q2,xa,xc,hs,hidx,hc2,hit⟩:=(KG.out.below (show Below w4.heap.size w4 w4 from Below.refl _ _)).get Tryz.underlying25 z3y p hps
    have c2r:=(HS.out.bel.cell (z0d hc2)).trans hc2
    have HIT:=hide hit
    have AZ:=hide (y0g hs hpj)
    rw[HL.out] at AZ
    clear hs hit hc2 hxj hpj
    go_wp2_with (at_builtin;refine zeo rfl _ _ rfl HS.out HIT.out rfl rfl (by omega) ?_;intro v5 w5 hS5 hb5)
    have EQ:=hide hS5
    rw[← AZ.out] at EQ
    clear hS5 hb5 c2r
    go_roundw
    case rel=>exact⟨(p:Int) - 1,j+1,by go_num,by have:=HXJ.out;omega,by omega,EQ.out⟩
    case measure=>(simp[intOf]<;>omega)
   ·have hx2:x = -1:=by omega
    subst hx2
    have hjm:j=ss.length:=by omega
    have hLr:L=ss.reverse:=by
     rw[← HL.out,hjm]
     exact List.take_of_length_le (by simp)
    clear HL HXJ hxj hx1 hx0 hll
    subst hLr
    obtain⟨o7,c7,e7,hst7⟩:=HS.out.view
    cases e7
    have hbr:=HS.out.bel
    have CP:=hide (Dq.out.trans (hbr.mono Dq.out.size))
    have HST5:=hide (KG.out.below hbr)
    have HEV5:=hide (Jv.out.below hbr)
    have Mg:=hide (HI4.out.below hbr)
    have HRV:=hide (zcb oa es.length ca es o6 ss.reverse.length c6 ss.reverse Kr.out (by rw[List.length_reverse];omega) (fun s hs=>Ap.out s (List.mem_reverse.1 hs)) (fun s hs=>KO.out s (List.mem_reverse.1 hs)) wr HEV5.out hst7)
    rw[y0a,Ga.out,List.length_reverse] at HRV
    simp only[List.length_reverse]
    clear hst7 hbr HS Dq KG Jv HI4
    go_upto_region 14 with (first
     | (go_at_call 11;(with_reducible refine HRV.out.mono ?_);rintro e w6 ⟨v6,rfl,ho6,hb6⟩;obtain⟨oq,cq,rfl,hi6⟩:=z03 ho6;have BG:=hide (ze8 oq S.length cq S o2 S.length c2 S w6 hi6 (Mg.out.below hb6));rw[decide_eq_true (rfl:S=S)] at BG)
     | (go_at_call 12;(with_reducible refine BG.out.mono ?_);rintro e w7 ⟨rfl,hd7⟩))
    have hb57:=hb6.trans (hd7.below.mono hb6.size)
    have CS:=hide (CP.out.trans (hb57.mono CP.out.size))
    have JB:=hide (HST5.out.below hb57)
    have JE:=hide (HEV5.out.below hb57)
    have Gw:=hide (Mg.out.below hb57)
    clear ho6 hb6 hi6 BG hd7 hb57 HRV CP HST5 HEV5 Mg
    by_cases hm0:ss.length=0
    ·have hmz:((ss.length:Int)==0)=true:=by rw[hm0];rfl
     have hs0:S.length=0:=by
      rw[← Ga.out,List.eq_nil_of_length_eq_zero hm0]
      rfl
     have hsz:((S.length:Int)==0)=true:=by rw[hs0];rfl
     clear hm0 hs0
     go_wp2_with fail
     go_ret
     exact⟨rfl,CS.out⟩
    ·have hmp:0<ss.length:=by omega
     have hmz:((ss.length:Int)==0)=false:=by rw[beq_eq_false_iff_ne];omega
     obtain⟨s,b0,q0,xa,xc,hs,hidx,hc0,hit⟩:=JB.out.get Tryz.underlying25 z3y 0 hmp
     have hid0:∀ wx,(Instr.indexAt 25 (.slice ov ss.length cv) (.int .i64 0)).run Tryz.prog wx=.ok (.pointer (some ⟨b0,q0,none⟩)) wx:=fun wx=>by simpa using hidx wx
     obtain⟨ys,hsrc,hsx⟩:=JB.out.src
     have hyl:ys.length=ss.length:=by have:=hsrc.len;omega
     have hsm:=List.mem_of_getElem? hs
     have y0i:=hide (Ap.out s hsm)
     have HTL1:=hide (KO.out s hsm)
     have HHD:=hide hs
     have J7:=hide hid0
     have HCEL:=hide (show ∀ w',Below w7.heap.size w7 w'→w'.cell? ⟨b0,q0,none⟩=some (.slice xa s.length xc) from fun w' h=>(h.cell (z0d hc0)).trans hc0)
     have HIT:=hide hit
     have HSX:=hide hsx
     have HYL:=hide hyl
     have HSRC:=hide (show ∀ w',Below w7.heap.size w7 w'→Src w' 1 (.slice ov ss.length cv) ss.length ys from fun w' h=>hsrc.below h)
     clear hs hidx hc0 hit hid0 hsrc hsx hyl hsm
     go_upto_region 16 with fail
     refine y03 (ov:=ov) (cv:=cv) (n:=ss.length) (ys:=ys) (b0:=b0) (q0:=q0) (xa:=xa) (xn:=s.length) (xc:=xc) (by kernel_rfl) (by kernel_rfl) (by kernel_rfl) (by kernel_rfl) (by kernel_rfl) (by kernel_rfl) (by kernel_rfl) (by simp) rfl (by omega) J7.out HCEL.out HSRC.out ?_
     intro V w8 ou cu hall g8 hr8 hb8
     have Jz:=hide hb8
     have Nb:=hide (show StsAt w8 ou (ss.length+1) cu (ss++[s]) from by
      have h:=z7k (w:=w8) (vs:=.slice ou (ss.length+1) cu) (sts:=ss++[s]) (ys:=ys++[.slice xa s.length xc]) (by rw[z05];exact z2t hr8 (fun u hu=>by
       rcases List.mem_append.1 hu with hu|hu
       ·exact (HSRC.out _ (Below.refl _ _)).one u hu
       ·simp at hu;subst hu;rfl)) (StsX.snocL (HSX.out.below hb8) HYL.out (HIT.out.below hb8))
      obtain⟨_,_,e,h⟩:=h
      rw[z05] at e h
      cases e
      exact h)
     obtain⟨v0,g0'⟩:=hall 0 (by omega)
     obtain⟨v1,g1'⟩:=hall 1 (by omega)
     obtain⟨v2,g2'⟩:=hall 2 (by omega)
     obtain⟨v3,g3'⟩:=hall 3 (by omega)
     obtain⟨v4,g4'⟩:=hall 4 (by omega)
     obtain⟨v5,g5'⟩:=hall 5 (by omega)
     obtain⟨v6,g6'⟩:=hall 6 (by omega)
     obtain⟨v7,g7'⟩:=hall 7 (by omega)
     simp only[actG,List.size_toArray,List.length_cons,List.length_nil,List.getElem?_toArray,List.getElem?_cons_zero,List.getElem?_cons_succ,g0',g1',g2',g3',g4',g5',g6',g7',g8,Act.put,List.setIfInBounds_toArray,List.set_cons_zero,List.set_cons_succ]
     clear g0' g1' g2' g3' g4' g5' g6' g7' g8
     clear hall hr8 hb8
     go_upto_region 17 with fail
     refine y05 (ov:=ov) (cv:=cv) (n:=ss.length) (b0:=b0) (q0:=q0) (xa:=xa) (xn:=s.length) (xc:=xc) (by kernel_rfl) (by kernel_rfl) (by kernel_rfl) (by kernel_rfl) (by kernel_rfl) (by kernel_rfl) (by kernel_rfl) (by simp) rfl J7.out (fun w' h=>HCEL.out w' (Jz.out.trans (h.mono Jz.out.size))) ?_
     intro V9 w9 bl hall9 g10 hbl9 hb9
     have JU:=hide hb9
     have HB79:=hide (Jz.out.trans (hb9.mono Jz.out.size))
     have HM9:=hide (y0e hbl9 (HIT.out.below (Jz.out.trans (hb9.mono Jz.out.size))))
     have Mr:=hide (Nb.out.below hb9)
     obtain⟨v0,g0'⟩:=hall9 0 (by omega)
     obtain⟨v1,g1'⟩:=hall9 1 (by omega)
     obtain⟨v2,g2'⟩:=hall9 2 (by omega)
     obtain⟨v3,g3'⟩:=hall9 3 (by omega)
     obtain⟨v4,g4'⟩:=hall9 4 (by omega)
     obtain⟨v5,g5'⟩:=hall9 5 (by omega)
     obtain⟨v6,g6'⟩:=hall9 6 (by omega)
     obtain⟨v7,g7'⟩:=hall9 7 (by omega)
     obtain⟨v8,g8'⟩:=hall9 8 (by omega)
     obtain⟨v9,g9'⟩:=hall9 9 (by omega)
     simp only[actG,List.size_toArray,List.length_cons,List.length_nil,List.getElem?_toArray,List.getElem?_cons_zero,List.getElem?_cons_succ,g0',g1',g2',g3',g4',g5',g6',g7',g8',g9',g10,Act.put,List.setIfInBounds_toArray,List.set_cons_zero,List.set_cons_succ]
     clear g0' g1' g2' g3' g4' g5' g6' g7' g8' g9' g10
     clear hall9 hbl9 hb9 Nb
     have Nq:=hide (Gw.out.below HB79.out)
     have HEV9:=hide (JE.out.below HB79.out)
     have Lm:=hide (JB.out.below HB79.out)
     have HBW9:=hide (CS.out.trans (HB79.out.mono CS.out.size))
     go_upto_region 18 with fail
     refine y07 (oL:=oa) (nL:=es.length) (cL:=ca) (oM:=some ⟨bl,0,none⟩) (nM:=3) (cM:=3) (oT:=ou) (nT:=ss.length+1) (cT:=cu) (ov:=ov) (cv:=cv) (n:=ss.length) (b0:=b0) (q0:=q0) (xa:=xa) (xc:=xc) (oS:=o2) (cS:=c2) (s:=s) (S:=S) (b:=decide ((1:Int)<(ss.length:Int))) (by kernel_rfl) (by kernel_rfl) (by kernel_rfl) (by kernel_rfl) (by kernel_rfl) (by kernel_rfl) (by kernel_rfl) (by kernel_rfl) (by kernel_rfl) (by kernel_rfl) (by kernel_rfl) (by simp) rfl rfl rfl rfl rfl rfl J7.out (fun w' h=>HCEL.out w' (HB79.out.trans (h.mono HB79.out.size))) (HIT.out.below HB79.out) Nq.out (fun w' h=>?_) (fun hb w' h=>?_) ?_
     ·have hr:=zcb oa es.length ca es (some ⟨bl,0,none⟩) 3 3 [s,s,s] Kr.out (by omega) (by intro z hz;simp at hz;subst hz;exact y0i.out) (by intro z hz;simp at hz;subst hz;exact HTL1.out) w' (HEV9.out.below h) (HM9.out.below h)
      rw[zf0 (s:=s) y0i.out (by simp) (by simp)] at hr
      exact hr
     ·have h1:1<ss.length:=by
       have:=of_decide_eq_true hb
       omega
      have hr:=zcb oa es.length ca es ou (ss.length+1) cu (ss++[s]) Kr.out (by omega) (by
       intro z hz
       rcases List.mem_append.1 hz with hz|hz
       ·exact Ap.out z hz
       ·simp at hz;subst hz;exact y0i.out) (by
       intro z hz
       rcases List.mem_append.1 hz with hz|hz
       ·exact KO.out z hz
       ·simp at hz;subst hz;exact HTL1.out) w' (HEV9.out.below h) (Mr.out.below h)
      rw[y08 HHD.out h1,Ga.out] at hr
      exact hr
     intro V10 w10 hall10 g20 hb10
     have HB10:=hide (HBW9.out.trans (hb10.mono HBW9.out.size))
     have y0j:=hide (Lm.out.below hb10)
     have HI10:=hide (Nq.out.below hb10)
     obtain⟨v0,g0'⟩:=hall10 0 (by omega)
     obtain⟨v1,g1'⟩:=hall10 1 (by omega)
     obtain⟨v2,g2'⟩:=hall10 2 (by omega)
     obtain⟨v3,g3'⟩:=hall10 3 (by omega)
     obtain⟨v4,g4'⟩:=hall10 4 (by omega)
     obtain⟨v5,g5'⟩:=hall10 5 (by omega)
     obtain⟨v6,g6'⟩:=hall10 6 (by omega)
     obtain⟨v7,g7'⟩:=hall10 7 (by omega)
     obtain⟨v8,g8'⟩:=hall10 8 (by omega)
     obtain⟨v9,g9'⟩:=hall10 9 (by omega)
     obtain⟨v10,g10'⟩:=hall10 10 (by omega)
     obtain⟨v11,g11'⟩:=hall10 11 (by omega)
     obtain⟨v12,g12'⟩:=hall10 12 (by omega)
     obtain⟨v13,g13'⟩:=hall10 13 (by omega)
     obtain⟨v14,g14'⟩:=hall10 14 (by omega)
     obtain⟨v15,g15'⟩:=hall10 15 (by omega)
     obtain⟨v16,g16'⟩:=hall10 16 (by omega)
     obtain⟨v17,g17'⟩:=hall10 17 (by omega)
     obtain⟨v18,g18'⟩:=hall10 18 (by omega)
     obtain⟨v19,g19'⟩:=hall10 19 (by omega)
     simp only[actG,List.size_toArray,List.length_cons,List.length_nil,List.getElem?_toArray,List.getElem?_cons_zero,List.getElem?_cons_succ,g0',g1',g2',g3',g4',g5',g6',g7',g8',g9',g10',g11',g12',g13',g14',g15',g16',g17',g18',g19',g20,Act.put,List.setIfInBounds_toArray,List.set_cons_zero,List.set_cons_succ]
     clear g0' g1' g2' g3' g4' g5' g6' g7' g8' g9' g10' g11' g12' g13' g14' g15' g16' g17' g18' g19' g20
     clear hall10 hb10
     clear J7 HCEL HIT HSX HYL HSRC y0i HTL1 HHD Jz JU HB79 HM9 Mr Nq HEV9 Lm HBW9 CS JB JE Gw
     have Dt:=hide (z6d ov ss.length cv ss (by omega) Ap.out w10 y0j.out)
     have ha8:=z1z (z3k Ap.out)
     have Gp:=hide (z3k Ap.out)
     have hne:ss≠[]:=fun h=>by rw[h] at hmp;simp at hmp
     have HAT:=hide (show ∀ x∈agreed ss,∀ s∈ss,stAt s x.1=x.2 from fun x hx=>((z8a hne Ap.out (k:=x.1) (i:=x.2)).1 hx).2)
     have y0k:=hide (show clash ss=[]→∀ x∈agreed ss,stAt S x.1=x.2 from fun hc x hx=>by
      rw[← Ga.out,y0f hne Ap.out hc]
      have h:=z3k Ap.out
      rw[z1a] at h
      exact z7e h x hx)
     clear hne
     go_upto_region 21 with (go_at_call 14;(with_reducible refine Dt.out.mono ?_);rintro e w11 ⟨v11,rfl,ho11,hb11⟩;obtain⟨oA,cA,rfl,hi11⟩:=z03 ho11)
     have HA11:=hide hi11
     have HB11:=hide (HB10.out.trans (hb11.mono HB10.out.size))
     have y0l:=hide (y0j.out.below hb11)
     have HI11:=hide (HI10.out.below hb11)
     clear ho11 hb11 hi11 Dt HB10 y0j HI10
     generalize agreed ss=A at *
     go_wp2_with fail
     go_loopw [11] (fun i wr=>∃ (j:Nat),i=.int .i64 (j:Int)∧j≤A.length∧Below w11.heap.size w11 wr) (fun i _=>A.length - (intOf i).toNat)
     case atStart=>exact⟨0,rfl,Nat.zero_le _,Below.refl _ _⟩
     case round =>
      obtain⟨j,rfl,hj,hbr⟩:=hrel
      by_cases hlt:j<A.length
      ·have j0:(j:Int)<(A.length:Int):=by omega
       obtain⟨x,b1,q1,hx,hidx,hb1,x0,x1⟩:=(HA11.out.below hbr).get Tryz.underlying28 z2d j hlt
       have hxm:=List.mem_of_getElem? hx
       have Mc:=hide (z2u Gp.out x hxm).1
       have HX:=hide (HAT.out x hxm)
       have Nt:=hide (fun hc=>y0k.out hc x hxm)
       have HSTr:=hide (y0l.out.below hbr)
       have HIr:=hide (HI11.out.below hbr)
       have AQ:=hide hbr
       clear hx hxm hbr
       go_upto_region 24 with fail
       refine y06 (ov:=ov) (oS:=o2) (oA:=oA) (nv:=ss.length) (cv:=cv) (nS:=S.length) (cS:=c2) (nA:=A.length) (cA:=cA) (C:=clash ss) (b:=(((clash ss).length:Int)==0)) (j:=(j:Int)) (key:=x.1) (id:=x.2) (b1:=b1) (q1:=q1) (by kernel_rfl) (by kernel_rfl) (by kernel_rfl) (by kernel_rfl) (by kernel_rfl) (by kernel_rfl) (by kernel_rfl) (by kernel_rfl) (by kernel_rfl) (by kernel_rfl) (by simp) rfl rfl rfl rfl rfl hidx (fun w' h=>⟨(h.cell hb1).trans x0,(h.cell hb1).trans x1⟩) (fun w' h=>z9j ov ss.length cv ss (by omega) Ap.out w' (HSTr.out.below h)) (fun hb w' h=>?_) ?_
       ·have hc:clash ss=[]:=by
         have:=eq_of_beq hb
         exact List.eq_nil_of_length_eq_zero (by omega)
        have hr:=zb5 o2 S.length c2 S x.1 (by omega) Mc.out w' (HIr.out.below h) (z2u Ll.out)
        rw[Nt.out hc] at hr
        exact hr
       intro V12 w12 hall12 g18 hb12
       have HB12:=hide (AQ.out.trans (hb12.mono AQ.out.size))
       have y0m:=hide (HSTr.out.below hb12)
       have hbl12:=Nat.lt_of_lt_of_le hb1 hb12.size
       have y0:=(hb12.cell hb1).trans x0
       have y1:=(hb12.cell hb1).trans x1
       obtain⟨v0,g0'⟩:=hall12 0 (by omega)
       obtain⟨v1,g1'⟩:=hall12 1 (by omega)
       obtain⟨v2,g2'⟩:=hall12 2 (by omega)
       obtain⟨v3,g3'⟩:=hall12 3 (by omega)
       obtain⟨v4,g4'⟩:=hall12 4 (by omega)
       obtain⟨v5,g5'⟩:=hall12 5 (by omega)
       obtain⟨v6,g6'⟩:=hall12 6 (by omega)
       obtain⟨v7,g7'⟩:=hall12 7 (by omega)
       obtain⟨v8,g8'⟩:=hall12 8 (by omega)
       obtain⟨v9,g9'⟩:=hall12 9 (by omega)
       obtain⟨v10,g10'⟩:=hall12 10 (by omega)
       obtain⟨v11,g11'⟩:=hall12 11 (by omega)
       obtain⟨v12,g12'⟩:=hall12 12 (by omega)
       obtain⟨v13,g13'⟩:=hall12 13 (by omega)
       obtain⟨v14,g14'⟩:=hall12 14 (by omega)
       obtain⟨v15,g15'⟩:=hall12 15 (by omega)
       obtain⟨v16,g16'⟩:=hall12 16 (by omega)
       obtain⟨v17,g17'⟩:=hall12 17 (by omega)
       simp only[actG,List.size_toArray,List.length_cons,List.length_nil,List.getElem?_toArray,List.getElem?_cons_zero,List.getElem?_cons_succ,g0',g1',g2',g3',g4',g5',g6',g7',g8',g9',g10',g11',g12',g13',g14',g15',g16',g17',g18,Act.put,List.setIfInBounds_toArray,List.set_cons_zero,List.set_cons_succ]
       clear g0' g1' g2' g3' g4' g5' g6' g7' g8' g9' g10' g11' g12' g13' g14' g15' g16' g17' g18
       clear hall12 hb12 x0 x1 hb1 HSTr HIr Nt AQ
       go_wp2_with fail
       go_loopw [12] (fun k wr=>∃ (i:Nat),k=.int .i64 (i:Int)∧i≤ss.length∧Below w12.heap.size w12 wr) (fun k _=>ss.length - (intOf k).toNat)
       case atStart=>exact⟨0,rfl,Nat.zero_le _,Below.refl _ _⟩
       case round =>
        obtain⟨i,rfl,hi,hbD⟩:=hrel
        by_cases hlti:i<ss.length
        ·have i0:(i:Int)<(ss.length:Int):=by omega
         obtain⟨s',b2,q2,xa',xc',hs',hidx2,hc2,hit2⟩:=(y0m.out.below hbD).get Tryz.underlying25 z3y i hlti
         have hsm:=List.mem_of_getElem? hs'
         have hsok:=Ap.out s' hsm
         have hs8':=z1z hsok
         have HATI:=hide (fun wx (hbx:Below wr.heap.size wr wx)=>zb5 xa' s'.length xc' s' x.1 (by omega) Mc.out wx (hit2.below hbx) (z2u hsok))
         rw[HX.out s' hsm] at HATI
         have hlc:=z0d hc2
         have x0r:=(hbD.cell hbl12).trans y0
         have x1r:=(hbD.cell hbl12).trans y1
         have hbr':=Nat.lt_of_lt_of_le hbl12 hbD.size
         have Bo:=hide hbD
         clear hs' hit2 hsok hsm hbD
         go_wp2_with fail
         refine zy (F:=Bw wr) (by kernel_rfl) (by kernel_rfl) (Below.refl _ _).drew ?_
         have hne:Nonempty (InW (Bw wr)):=⟨⟨_,Below.refl _ _⟩⟩
         have k0:∀ m:InW (Bw wr),m.w.cell? ⟨b2,q2,none⟩=some (.slice xa' s'.length xc'):=fun m=>(m.h.cell hlc).trans hc2
         have k1:∀ m:InW (Bw wr),m.w.cell? ⟨b1,q1,none⟩=some (.int .i64 x.1):=fun m=>(m.h.cell hbr').trans x0r
         have k2:∀ m:InW (Bw wr),m.w.cell? ⟨b1,q1+1,none⟩=some (.int .i64 x.2):=fun m=>(m.h.cell hbr').trans x1r
         repeat (go_big_quiet_step (first
          | (go_at_call 16;(with_reducible refine (HATI.out _ (InW.h (F:=Bw wr) _)).mono ?_);rintro e' w2 ⟨rfl,hb2⟩;exact⟨rfl,⟨w2,Below.trans (InW.h _) (hb2.mono (Below.size (InW.h (F:=Bw wr) ‹_›)))⟩,rfl⟩)))
         refine wpQuiet_nil ?_
         intro _ hw'
         obtain⟨nq,hw''⟩:=hw'
         subst hw''
         have hnq:=nq.h
         generalize nq.w=w13 at hnq ⊢
         have Am:=hide (Bo.out.trans (hnq.mono Bo.out.size))
         clear hne k0 k1 k2 hnq x0r x1r hc2
         go_wp2_with fail
         go_roundw
         case rel=>exact⟨i+1,by go_num,by omega,Am.out⟩
         case measure=>simp[intOf];omega
        ·have i0:¬ ((i:Int)<(ss.length:Int)):=by omega
         have Ai:=hide (HB12.out.trans (hbD.mono HB12.out.size))
         clear hbD
         go_wp2_with fail
         go_roundw
         case rel=>exact⟨j+1,by go_num,by omega,Ai.out⟩
         case measure=>simp[intOf];omega
      ·have j0:¬ ((j:Int)<(A.length:Int)):=by omega
       go_wp2_with fail
       go_ret
       exact⟨rfl,HB11.out.trans (hbr.mono HB11.out.size)⟩

end Go.Proofs.YtgebcpkpdbdfoaaGreat
