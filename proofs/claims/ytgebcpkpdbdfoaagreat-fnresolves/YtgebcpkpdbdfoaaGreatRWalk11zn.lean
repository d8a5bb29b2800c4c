/-
  Walks.
-/
import Derived.Test.YtgebcpkpdbdfoaaGreatRWalk12m
import Derived.Test.YtgebcpkpdbdfoaaGreatRDraw1
set_option linter.unusedVariables false
set_option linter.unusedSimpArgs false
namespace Go.Proofs.YtgebcpkpdbdfoaaGreat
open Go.RowKit P5 P9 P12 P14 P15 K

theorem zd8 {ops:Array Oper} {V:Gh} {a:Act} {t:Nat}:∀ n,(∀ (k:Nat) o,ops[k]? = some o→o.dst=some t→V k=none)→(actG ops V a n).eval (.tmp t)=a.eval (.tmp t)
 | 0,_=>rfl
 | n+1,h=>by
  have ih:=zd8 (V:=V) (a:=a) n h
  simp only[actG]
  cases hn:ops[n]? with
  | none=>exact ih
  | some on =>
   cases hvn:V n with
   | none=>exact ih
   | some vn =>
    simp only
    rw[Act.eval_put (fun d hd e=>by cases e;rw[h n on hn hd] at hvn;cases hvn)]
    exact ih

def zgv (ops:Array Oper) (t j:Nat):Bool:=(List.range ops.size).all fun k=>k==j||match ops[k]? with
 | some o=>o.dst != some t
 | none=>true

theorem zly {ops:Array Oper} {t j:Nat} {V:Gh} (h:zgv ops t j=true) (hj:V j=none):∀ (k:Nat) o,ops[k]? = some o→o.dst=some t→V k=none:=by
 intro k o hk hd
 have h1:=(List.all_eq_true.1 h) k (List.mem_range.2 (Array.getElem?_eq_some_iff.1 hk).1)
 simp only[hk,hd,Bool.or_eq_true,beq_iff_eq] at h1
 rcases h1 with h1|h1
 ·subst h1;exact hj
 ·simp at h1

def ctL (p R:Nat) (vout vs:Value) (n:Nat):Nat→Option Value
 | 0=>some vout
 | 2=>some (.pointer (some ⟨R,1,none⟩))
 | 3=>some vs
 | 4=>some (.pointer (some ⟨p,0,none⟩))
 | 5=>some (.pointer (some ⟨R,1,none⟩))
 | 6=>some vs
 | 7=>some (.int .i64 (n:Int))
 | _=>none

structure JL (B p:Nat) (a:Option Addr) (len cap:Nat) (W1 W:World) (ct:Nat→Option Value) (acc sts:List St) (V:Gh) (w:World):Prop where
 pt:PT ct V
 cur:CurAt B w p a len cap
 gr:V 13=none→W.grownBy w (some p)
 a1:∀ v,V 1=some v→V 11=none→w.ownsRow W.heap.size 36 2 v 0 []
 c8:∀ v,V 8=some v→∃ k:Nat,k<sts.length∧v=.int .i64 (k:Int)
 x9:∀ v,V 9=some v→∃ s∈sts,∃ bb qq xa xc,v=.pointer (some ⟨bb,qq,none⟩)∧(mask p W).cell? ⟨bb,qq,none⟩=some (.slice xa s.length xc)∧ItemsAt (mask p W) xa s.length xc s
 x10:∀ v,V 10=some v→∃ s∈sts,∃ xa xc,v=.slice xa s.length xc∧ItemsAt (mask p W) xa s.length xc s
 a11:V 13=none→∀ v,V 11=some v→∃ s∈sts,w.ownsRow W.heap.size 36 2 v s.length (s.flatMap z06)
 l12:V 13=none→∀ v,V 12=some v→∃ bl v11,V 11=some v11∧v=.slice (some ⟨bl,0,none⟩) 1 1∧W.heap.size≤bl∧w.heap[bl]? = some (.cells #[v11] 28 (0,0))
 af:∀ u,V 13=some u→(∃ s∈sts,StsR w W1.heap.size u (acc++[s]))∧W1.grownBy w (some p)
 a14:∀ v,V 14=some v→V 13=some v

section
variable {B p:Nat} {a:Option Addr} {len cap:Nat} {W1 W:World} {ct:Nat→Option Value} {vout:Value} {acc sts:List St} {V:Gh} {w w':World}

theorem JL.put (h:JL B p a len cap W1 W ct acc sts V w) {i:Nat} {v:Value} (hi:V i=none) (hc:∀ c,ct i=some c→v=c) (hn:i≠1∧i≠11∧i≠12∧i≠13) (a8:i=8→∃ k:Nat,k<sts.length∧v=.int .i64 (k:Int))
  (a9:i=9→∃ s∈sts,∃ bb qq xa xc,v=.pointer (some ⟨bb,qq,none⟩)∧(mask p W).cell? ⟨bb,qq,none⟩=some (.slice xa s.length xc)∧ItemsAt (mask p W) xa s.length xc s)
  (a10:i=10→∃ s∈sts,∃ xa xc,v=.slice xa s.length xc∧ItemsAt (mask p W) xa s.length xc s) (a14:i=14→V 13=some v):JL B p a len cap W1 W ct acc sts (V.set i v) w:=by
 obtain⟨n1,n11,n12,n13⟩:=hn
 have h1:1≠i:=Ne.symm n1
 have h11:11≠i:=Ne.symm n11
 have h12:12≠i:=Ne.symm n12
 have h13:13≠i:=Ne.symm n13
 refine⟨h.pt.set hc,h.cur,?_,?_,fun u hu=>?_,fun u hu=>?_,fun u hu=>?_,?_,?_,?_,fun u hu=>?_⟩
 ·rw[Gh.set_ne V v h13];exact h.gr
 ·rw[Gh.set_ne V v h1,Gh.set_ne V v h11];exact h.a1
 ·by_cases e:8=i
  ·subst e;rw[Gh.set_self] at hu;cases hu;exact a8 rfl
  ·rw[Gh.set_ne V v e] at hu;exact h.c8 u hu
 ·by_cases e:9=i
  ·subst e;rw[Gh.set_self] at hu;cases hu;exact a9 rfl
  ·rw[Gh.set_ne V v e] at hu;exact h.x9 u hu
 ·by_cases e:10=i
  ·subst e;rw[Gh.set_self] at hu;cases hu;exact a10 rfl
  ·rw[Gh.set_ne V v e] at hu;exact h.x10 u hu
 ·rw[Gh.set_ne V v h13,Gh.set_ne V v h11];exact h.a11
 ·rw[Gh.set_ne V v h13,Gh.set_ne V v h12,Gh.set_ne V v h11];exact h.l12
 ·rw[Gh.set_ne V v h13];exact h.af
 ·rw[Gh.set_ne V v h13]
  by_cases e:14=i
  ·subst e;rw[Gh.set_self] at hu;cases hu;exact a14 rfl
  ·rw[Gh.set_ne V v e] at hu;exact h.a14 u hu

theorem JL.on (h:JL B p a len cap W1 W ct acc sts V w) (hp:p<W.heap.size) (h13:V 13=none) (hc:CurAt B w' p a len cap) (hg:w.grownBy w' (some p)):JL B p a len cap W1 W ct acc sts V w':=by
 refine⟨h.pt,hc,fun hn=>zm (h.gr hn) hg,fun v hv h11=>?_,h.c8,h.x9,h.x10,fun hn v hv=>?_,fun hn v hv=>?_,(fun u hu=>by rw[h13] at hu;cases hu),h.a14⟩
 ·have q:=h.a1 v hv h11
  exact q.kept hg (z13 q hp)
 ·obtain⟨s,hs,q⟩:=h.a11 hn v hv
  exact⟨s,hs,q.kept hg (z13 q hp)⟩
 ·obtain⟨bl,v11,q1,q2,q3,q4⟩:=h.l12 hn v hv
  exact⟨bl,v11,q1,q2,q3,(hg.block bl (zf q4) (fun e=>by have:=Option.some.inj e;omega)).trans q4⟩

theorem JL.s1 (h:JL B p a len cap W1 W ct acc sts V w) (hi:V 1=none) (h11:V 11=none) (h12:V 12=none) (h13:V 13=none) (hct:ct 1=none) (hp:p<W.heap.size) (hB:B≤W.heap.size):JL B p a len cap W1 W ct acc sts (V.set 1 (.slice (some ⟨w.heap.size,0,none⟩) 0 0)) (w.alloc (.cells #[] 36)):=by
 have hgw:=h.gr h13
 have hb:Below w.heap.size w (w.alloc (.cells #[] 36)):=(Below.refl _ _).alloc (Nat.le_refl _) _
 have hp':p<w.heap.size:=Nat.lt_of_lt_of_le hp hgw.size
 refine⟨h.pt.set (fun c hc=>by rw[hct] at hc;cases hc),h.cur.kept (hb.mono (Nat.le_trans hB hgw.size)) (hb.block p hp'),fun _=>z02 hgw (hb.mono hgw.size),fun v hv _=>?_,fun v hv=>?_,fun v hv=>?_,fun v hv=>?_,fun _ v hv=>?_,fun _ v hv=>?_,fun u hu=>?_,fun u hu=>?_⟩
 ·rw[Gh.set_self] at hv
  cases hv
  exact World.ownsRow_made (w:=w) #[] 0 hgw.size (by decide) rfl
 ·rw[Gh.set_ne V _ (by decide)] at hv;exact h.c8 v hv
 ·rw[Gh.set_ne V _ (by decide)] at hv;exact h.x9 v hv
 ·rw[Gh.set_ne V _ (by decide)] at hv;exact h.x10 v hv
 ·rw[Gh.set_ne V _ (by decide),h11] at hv;cases hv
 ·rw[Gh.set_ne V _ (by decide),h12] at hv;cases hv
 ·rw[Gh.set_ne V _ (by decide),h13] at hu;cases hu
 ·rw[Gh.set_ne V _ (by decide)] at hu;have:=h.a14 u hu;rw[h13] at this;cases this

theorem JL.s11 (h:JL B p a len cap W1 W ct acc sts V w) {v1 v':Value} {s:St} (hi:V 11=none) (h1:V 1=some v1) (h12:V 12=none) (h13:V 13=none) (hct:ct 11=none) (hp:p<W.heap.size) (hB:B≤W.heap.size) (hs:s∈sts) (ho:w'.ownsRow W.heap.size 36 2 v' s.length (s.flatMap z06)) (hg:w.grownBy w' v1.ownBlock):JL B p a len cap W1 W ct acc sts (V.set 11 v') w':=by
 have hgw:=h.gr h13
 have hr:=h.a1 v1 h1 hi
 have hlow:Below W.heap.size w w':=(Below.refl _ _).grown hg hgw.size (fun q hq=>(hr.lt q hq).1)
 refine⟨h.pt.set (fun c hc=>by rw[hct] at hc;cases hc),h.cur.kept (hlow.mono hB) (hlow.block p hp),fun _=>z02 hgw hlow,fun v hv h11=>?_,fun v hv=>?_,fun v hv=>?_,fun v hv=>?_,fun _ v hv=>?_,fun _ v hv=>?_,fun u hu=>?_,fun u hu=>?_⟩
 ·rw[Gh.set_self] at h11;cases h11
 ·rw[Gh.set_ne V _ (by decide)] at hv;exact h.c8 v hv
 ·rw[Gh.set_ne V _ (by decide)] at hv;exact h.x9 v hv
 ·rw[Gh.set_ne V _ (by decide)] at hv;exact h.x10 v hv
 ·rw[Gh.set_self] at hv;cases hv;exact⟨s,hs,ho⟩
 ·rw[Gh.set_ne V _ (by decide),h12] at hv;cases hv
 ·rw[Gh.set_ne V _ (by decide),h13] at hu;cases hu
 ·rw[Gh.set_ne V _ (by decide)] at hu;have:=h.a14 u hu;rw[h13] at this;cases this

theorem JL.s12 (h:JL B p a len cap W1 W ct acc sts V w) {v11:Value} (hi:V 12=none) (h11:V 11=some v11) (h13:V 13=none) (hct:ct 12=none) (hp:p<W.heap.size) (hB:B≤W.heap.size):JL B p a len cap W1 W ct acc sts (V.set 12 (.slice (some ⟨w.heap.size,0,none⟩) 1 1)) (w.alloc (.cells #[v11] 28)):=by
 have hgw:=h.gr h13
 have hb:Below w.heap.size w (w.alloc (.cells #[v11] 28)):=(Below.refl _ _).alloc (Nat.le_refl _) _
 have hp':p<w.heap.size:=Nat.lt_of_lt_of_le hp hgw.size
 refine⟨h.pt.set (fun c hc=>by rw[hct] at hc;cases hc),h.cur.kept (hb.mono (Nat.le_trans hB hgw.size)) (hb.block p hp'),fun _=>z02 hgw (hb.mono hgw.size),fun v hv h11'=>?_,fun v hv=>?_,fun v hv=>?_,fun v hv=>?_,fun _ v hv=>?_,fun _ v hv=>?_,fun u hu=>?_,fun u hu=>?_⟩
 ·rw[Gh.set_ne V _ (by decide),h11] at h11';cases h11'
 ·rw[Gh.set_ne V _ (by decide)] at hv;exact h.c8 v hv
 ·rw[Gh.set_ne V _ (by decide)] at hv;exact h.x9 v hv
 ·rw[Gh.set_ne V _ (by decide)] at hv;exact h.x10 v hv
 ·rw[Gh.set_ne V _ (by decide)] at hv
  obtain⟨s,hs,q⟩:=h.a11 h13 v hv
  exact⟨s,hs,own_below q hb⟩
 ·rw[Gh.set_self] at hv
  cases hv
  exact⟨w.heap.size,v11,by rw[Gh.set_ne V _ (by decide)];exact h11,rfl,hgw.size,heap_alloc_new w _⟩
 ·rw[Gh.set_ne V _ (by decide),h13] at hu;cases hu
 ·rw[Gh.set_ne V _ (by decide)] at hu;have:=h.a14 u hu;rw[h13] at this;cases this

theorem JL.s13 (h:JL B p a len cap W1 W ct acc sts V w) {u v11:Value} {s:St} (hi:V 13=none) (h11:V 11=some v11) (hct:ct 13=none) (hs:s∈sts) (hS:StsR w' W1.heap.size u (acc++[s])) (hc:CurAt B w' p a len cap) (hg:W1.grownBy w' (some p)):JL B p a len cap W1 W ct acc sts (V.set 13 u) w':=by
 refine⟨h.pt.set (fun c hc=>by rw[hct] at hc;cases hc),hc,fun hn=>?_,fun v hv h11'=>?_,fun v hv=>?_,fun v hv=>?_,fun v hv=>?_,fun hn=>?_,fun hn=>?_,fun u' hu=>?_,fun u' hu=>?_⟩
 ·rw[Gh.set_self] at hn;cases hn
 ·rw[Gh.set_ne V _ (by decide),h11] at h11';cases h11'
 ·rw[Gh.set_ne V _ (by decide)] at hv;exact h.c8 v hv
 ·rw[Gh.set_ne V _ (by decide)] at hv;exact h.x9 v hv
 ·rw[Gh.set_ne V _ (by decide)] at hv;exact h.x10 v hv
 ·rw[Gh.set_self] at hn;cases hn
 ·rw[Gh.set_self] at hn;cases hn
 ·rw[Gh.set_self] at hu;cases hu;exact⟨⟨s,hs,hS⟩,hg⟩
 ·rw[Gh.set_ne V _ (by decide)] at hu;have:=h.a14 u' hu;rw[hi] at this;cases this
end

def tabL:List (Option Tmp × Op):=[(some 28,.move (.tmp 7)),(some 29,.buildSlice 28 0 #[]),(some 30,.fieldAddr 41 (.tmp 6) 1),(some 31,.load 25 (.tmp 30)),(some 32,.move (.tmp 0)),(some 33,.fieldAddr 41 (.tmp 6) 1),(some 34,.load 25 (.tmp 33)),(some 35,.call { callee:=.builtin .len,args:=#[.tmp 34],argTypes:=#[25] }),(some 36,.call { callee:=.value (.func 66),args:=#[.tmp 32,.tmp 35],argTypes:=#[72,3] }),(some 37,.indexAddr 25 (.tmp 31) (.tmp 36)),(some 38,.load 28 (.tmp 37)),(some 39,.call { callee:=.builtin .append,args:=#[.tmp 29,.tmp 38],argTypes:=#[28,28] }),(some 40,.buildSlice 25 1 #[(0,.tmp 39)]),(some 41,.call { callee:=.builtin .append,args:=#[.tmp 28,.tmp 40],argTypes:=#[25,25] }),(some 7,.assign (.tmp 41))]

def depL:List (List Nat):=[[],[],[],[2],[],[],[5],[6],[4,7],[3,8],[9],[1,8,10],[11],[0,11,12],[0,1,2,3,4,5,6,7,8,9,10,11,12,13]]

set_option maxHeartbeats 4000000 in
theorem zbm {id:Nat} {ops:Array Oper} {Q:Exit→Act→World→Prop} {a0:Act} {W:World} (hm:Tryz.prog.follows .mixedOrders=true) (htab:z1w ops=tabL) (hdp:z4z ops depL=true) (hfree:z6o ops=true) (hd:z2e ops=true) (hl:z5x ops=true) (n0:z16 ops 0=true) (n6:z16 ops 6=true) (n7:zgv ops 7 14=true)
  {B p R:Nat} {a:Option Addr} {len cap:Nat} {W1:World} {ve vg:Value} {so:Option Addr} {sc:Nat} {ov:Option Addr} {cv:Nat} {acc sts:List St}
  (hsz:89≤a0.tmps.size) (e0:a0.eval (.tmp 0)=.pointer (some ⟨p,0,none⟩)) (e6:a0.eval (.tmp 6)=.pointer (some ⟨R,0,none⟩)) (e7:a0.eval (.tmp 7)=.slice ov acc.length cv)
  (hp1:p<W1.heap.size) (hB1:B≤W1.heap.size) (hW1:W1.grownBy W (some p)) (hRp:R≠p) (hn0:0<sts.length) (hn40:sts.length≤1000) (hac:acc.length≤100000) (hs16:∀ s∈sts,s.length≤1048576)
  (hcur:CurAt B W p a len cap) (hR:W.heap[R]? = some (.cells #[ve,.slice so sts.length sc,vg] 41 (0,0))) (hst:StsAt (mask p W) so sts.length sc sts) (hsts:StsR W W1.heap.size (.slice ov acc.length cv) acc)
  (hend:∀ (V:Gh) (w':World) (ou:Option Addr) (cu:Nat) (s:St),(∀ k,k<15→∃ v,V k=some v)→V 14=some (.slice ou (acc.length+1) cu)→s∈sts→StsR w' W1.heap.size (.slice ou (acc.length+1) cu) (acc++[s])→CurAt B w' p a len cap→W1.grownBy w' (some p)→Q .normal (actG ops V a0 ops.size) w'):(Code.region id ops true).wp Tryz.prog Q a0 W:=by
 have hops:ops.size=15:=by
  have:=congrArg List.length htab
  simpa [z1w,tabL] using this
 have hp:p<W.heap.size:=Nat.lt_of_lt_of_le hp1 hW1.size
 have hB:B≤W.heap.size:=Nat.le_trans hB1 hW1.size
 have hroomc:∀ w',W.grownBy w' (some p)→w'.cell? ⟨R,1,none⟩=some (.slice so sts.length sc):=fun w' h=>za ((h.block R (zf hR) (fun e=>by have:=Option.some.inj e;omega)).trans hR) 1 rfl
 have hget:∀ k (hk:k<15),ops[k]? = some (ops[k]'(by omega)):=fun k hk=>Array.getElem?_eq_getElem (by omega)
 have hdst:∀ k t,(tabL[k]?).map (·.1)=some (some t)→(hk:k<15)→(ops[k]'(by omega)).dst=some t:=fun k t ht hk=>by
  have:=z0v htab (hget k hk)
  rw[this] at ht
  simpa using ht
 refine z1y hm hd hl (JL B p a len cap W1 W (ctL p R (.slice ov acc.length cv) (.slice so sts.length sc) sts.length) acc sts) ?_ ?_ ?_
 ·refine⟨(fun k v c h=>by cases h),hcur.kept ((Below.refl B W).drew) rfl,fun _=>⟨rfl,rfl,rfl,Nat.le_refl _,fun _ _ _=>rfl⟩,(fun v h=>by cases h),(fun v h=>by cases h),(fun v h=>by cases h),(fun v h=>by cases h),(fun _ v h=>by cases h),(fun _ v h=>by cases h),(fun v h=>by cases h),(fun v h=>by cases h)⟩
 ·intro i o V w7 ho hVi hdep0 hcl hJ
  have hi:i<15:=by have:=(Array.getElem?_eq_some_iff.1 ho).1;omega
  have hop0:=z0v htab ho
  have hg:=z4f hfree ho
  have hdep:∀ {l:List Nat},depL[i]? = some l→∀ k∈l,∃ v,V k=some v:=fun hl=>z0w hdp ho hdep0 hl
  have hup:=y0n hdp hcl
  clear hdep0 hcl
  have hcases:i=0∨i=1∨i=2∨i=3∨i=4∨i=5∨i=6∨i=7∨i=8∨i=9∨i=10∨i=11∨i=12∨i=13∨i=14:=by omega
  rcases hcases with rfl|rfl|rfl|rfl|rfl|rfl|rfl|rfl|rfl|rfl|rfl|rfl|rfl|rfl|rfl
  ·have hop:o.op=.move (.tmp 7):=zk hop0 rfl
   have E7:=(zd8 (V:=V) (a:=a0) ops.size (zly n7 (hup 14 0 (by simp[depL]) hVi))).trans e7
   exact gM ho hg hop E7 ⟨_,rfl,hJ.put hVi (fun c hc=>by cases hc;rfl) (by decide) (fun h=>by omega) (fun h=>by omega) (fun h=>by omega) (fun h=>by omega)⟩
  ·have hop:o.op=.buildSlice 28 0 #[]:=zk hop0 rfl
   have hz11:V 11=none:=hup 11 1 (by simp[depL]) hVi
   have hz12:V 12=none:=hup 12 11 (by simp[depL]) hz11
   have hz13:V 13=none:=hup 13 11 (by simp[depL]) hz11
   refine gop ho hg ?_ ⟨_,rfl,hJ.s1 hVi hz11 hz12 hz13 rfl hp hB⟩
   clear hz11 hz12 hz13
   rw[runH hop]
   generalize actG ops V a0 ops.size=A
   clear hJ hget hdst hend hdep hup hst hsts hroomc hW1
   go_simp
  ·have hop:o.op=.fieldAddr 41 (.tmp 6) 1:=zk hop0 rfl
   have E6:=evP (V:=V) n6 e6
   refine gop ho hg ?_ ⟨_,rfl,hJ.put hVi (fun c hc=>by cases hc;rfl) (by decide) (fun h=>by omega) (fun h=>by omega) (fun h=>by omega) (fun h=>by omega)⟩
   rw[runH hop]
   generalize actG ops V a0 ops.size=A at E6 ⊢
   clear hJ hget hdst hend hdep hup hst hsts hroomc hW1
   go_simp
  ·have hop:o.op=.load 25 (.tmp 30):=zk hop0 rfl
   obtain⟨v2,g2⟩:=hdep rfl 2 (by decide)
   have E30:=evT hd htab hsz 2 30 rfl g2
   obtain rfl:v2=_:=hJ.pt 2 v2 _ g2 rfl
   have hz9:V 9=none:=hup 9 3 (by simp[depL]) hVi
   have hz10:V 10=none:=hup 10 9 (by simp[depL]) hz9
   have hz11:V 11=none:=hup 11 10 (by simp[depL]) hz10
   have hz13:V 13=none:=hup 13 11 (by simp[depL]) hz11
   have r1:=hroomc _ (hJ.gr hz13)
   refine gop ho hg ?_ ⟨_,rfl,hJ.put hVi (fun c hc=>by cases hc;rfl) (by decide) (fun h=>by omega) (fun h=>by omega) (fun h=>by omega) (fun h=>by omega)⟩
   clear hz9 hz10 hz11 hz13
   rw[runH hop]
   generalize actG ops V a0 ops.size=A at E30 ⊢
   clear hJ hget hdst hend hdep hup hst hsts hroomc hW1
   go_simp
  ·have hop:o.op=.move (.tmp 0):=zk hop0 rfl
   have E0:=evO (V:=V) n0 e0
   exact gM ho hg hop E0 ⟨_,rfl,hJ.put hVi (fun c hc=>by cases hc;rfl) (by decide) (fun h=>by omega) (fun h=>by omega) (fun h=>by omega) (fun h=>by omega)⟩
  ·have hop:o.op=.fieldAddr 41 (.tmp 6) 1:=zk hop0 rfl
   have E6:=evP (V:=V) n6 e6
   refine gop ho hg ?_ ⟨_,rfl,hJ.put hVi (fun c hc=>by cases hc;rfl) (by decide) (fun h=>by omega) (fun h=>by omega) (fun h=>by omega) (fun h=>by omega)⟩
   rw[runH hop]
   generalize actG ops V a0 ops.size=A at E6 ⊢
   clear hJ hget hdst hend hdep hup hst hsts hroomc hW1
   go_simp
  ·have hop:o.op=.load 25 (.tmp 33):=zk hop0 rfl
   obtain⟨v5,g5⟩:=hdep rfl 5 (by decide)
   have E33:=evT hd htab hsz 5 33 rfl g5
   obtain rfl:v5=_:=hJ.pt 5 v5 _ g5 rfl
   have hz7:V 7=none:=hup 7 6 (by simp[depL]) hVi
   have hz8:V 8=none:=hup 8 7 (by simp[depL]) hz7
   have hz11:V 11=none:=hup 11 8 (by simp[depL]) hz8
   have hz13:V 13=none:=hup 13 11 (by simp[depL]) hz11
   have r1:=hroomc _ (hJ.gr hz13)
   refine gop ho hg ?_ ⟨_,rfl,hJ.put hVi (fun c hc=>by cases hc;rfl) (by decide) (fun h=>by omega) (fun h=>by omega) (fun h=>by omega) (fun h=>by omega)⟩
   clear hz7 hz8 hz11 hz13
   rw[runH hop]
   generalize actG ops V a0 ops.size=A at E33 ⊢
   clear hJ hget hdst hend hdep hup hst hsts hroomc hW1
   go_simp
  ·have hop:o.op=.call { callee:=.builtin .len,args:=#[.tmp 34],argTypes:=#[25] }:=zk hop0 rfl
   obtain⟨v6,g6⟩:=hdep rfl 6 (by decide)
   have E34:=evT hd htab hsz 6 34 rfl g6
   obtain rfl:v6=_:=hJ.pt 6 v6 _ g6 rfl
   refine gop ho hg ?_ ⟨_,rfl,hJ.put hVi (fun c hc=>by cases hc;rfl) (by decide) (fun h=>by omega) (fun h=>by omega) (fun h=>by omega) (fun h=>by omega)⟩
   rw[runH hop]
   generalize actG ops V a0 ops.size=A at E34 ⊢
   clear hJ hget hdst hend hdep hup hst hsts hroomc hW1
   go_simp
  ·have hop:o.op=.call { callee:=.value (.func 66),args:=#[.tmp 32,.tmp 35],argTypes:=#[72,3] }:=zk hop0 rfl
   obtain⟨v4,g4⟩:=hdep rfl 4 (by decide)
   obtain⟨v7,g7⟩:=hdep rfl 7 (by decide)
   have E32:=evT hd htab hsz 4 32 rfl g4
   have E35:=evT hd htab hsz 7 35 rfl g7
   obtain rfl:v4=_:=hJ.pt 4 v4 _ g4 rfl
   obtain rfl:v7=_:=hJ.pt 7 v7 _ g7 rfl
   have hz11:V 11=none:=hup 11 8 (by simp[depL]) hVi
   have hz13:V 13=none:=hup 13 11 (by simp[depL]) hz11
   have HC:=hide (z1u B p a len cap sts.length hn0 (by omega) w7 hJ.cur)
   refine z7l ho hg (f:=66) (args:=#[.pointer (some ⟨p,0,none⟩),.int .i64 (sts.length:Int)]) (w':=w7) ?_ (HC.out.mono ?_)
   ·rw[runH hop]
    generalize actG ops V a0 ops.size=A at E32 E35 ⊢
    clear hJ hget hdst hend hdep hup hst hsts hroomc hW1
    clear HC hz11 hz13
    go_simp
   ·rintro r w8 ⟨x,hx,rfl,hc8,hg8⟩
    exact⟨_,rfl,_,rfl,(hJ.on hp hz13 hc8 hg8).put hVi (fun c hc=>by cases hc) (by decide) (fun _=>⟨x,hx,rfl⟩) (fun h=>by omega) (fun h=>by omega) (fun h=>by omega)⟩
  ·have hop:o.op=.indexAddr 25 (.tmp 31) (.tmp 36):=zk hop0 rfl
   obtain⟨v3,g3⟩:=hdep rfl 3 (by decide)
   obtain⟨v8,g8⟩:=hdep rfl 8 (by decide)
   have E31:=evT hd htab hsz 3 31 rfl g3
   have E36:=evT hd htab hsz 8 36 rfl g8
   obtain rfl:v3=_:=hJ.pt 3 v3 _ g3 rfl
   obtain⟨k,hk,rfl⟩:=hJ.c8 v8 g8
   obtain⟨s,bb,qq,xa,xc,hs,hidx,hc0,hit⟩:=hst.get Tryz.underlying25 z3y k hk
   refine gop ho hg (v:=.pointer (some ⟨bb,qq,none⟩)) ?_ ⟨_,rfl,hJ.put hVi (fun c hc=>by cases hc) (by decide) (fun h=>by omega) (fun _=>⟨s,List.mem_of_getElem? hs,bb,qq,xa,xc,rfl,hc0,hit⟩) (fun h=>by omega) (fun h=>by omega)⟩
   clear hs hc0 hit
   rw[runH hop]
   generalize actG ops V a0 ops.size=A at E31 E36 ⊢
   clear hJ hget hdst hend hdep hup hst hsts hroomc hW1
   go_simp
  ·have hop:o.op=.load 28 (.tmp 37):=zk hop0 rfl
   obtain⟨v9,g9⟩:=hdep rfl 9 (by decide)
   have E37:=evT hd htab hsz 9 37 rfl g9
   have hz11:V 11=none:=hup 11 10 (by simp[depL]) hVi
   have hz13:V 13=none:=hup 13 11 (by simp[depL]) hz11
   obtain⟨s,hs,bb,qq,xa,xc,rfl,hc0,hit⟩:=hJ.x9 v9 g9
   have hbm:=z1t (hJ.gr hz13) hp
   have hcw:=(z18 ((hbm.cell (z0d hc0)).trans hc0)).1
   refine gop ho hg (v:=.slice xa s.length xc) ?_ ⟨_,rfl,hJ.put hVi (fun c hc=>by cases hc) (by decide) (fun h=>by omega) (fun h=>by omega) (fun _=>⟨s,hs,xa,xc,rfl,hit⟩) (fun h=>by omega)⟩
   clear hs hc0 hit hbm hz11 hz13
   rw[runH hop]
   generalize actG ops V a0 ops.size=A at E37 ⊢
   clear hJ hget hdst hend hdep hup hst hsts hroomc hW1
   go_simp
  ·have hop:o.op=.call { callee:=.builtin .append,args:=#[.tmp 29,.tmp 38],argTypes:=#[28,28] }:=zk hop0 rfl
   obtain⟨v1,g1⟩:=hdep rfl 1 (by decide)
   obtain⟨v10,g10⟩:=hdep rfl 10 (by decide)
   have E29:=evD hd htab hsz 1 29 rfl g1
   have E38:=evD hd htab hsz 10 38 rfl g10
   have hz12:V 12=none:=hup 12 11 (by simp[depL]) hVi
   have hz13:V 13=none:=hup 13 11 (by simp[depL]) hVi
   obtain⟨s,hs,xa,xc,rfl,hit⟩:=hJ.x10 v10 g10
   have hgw:=hJ.gr hz13
   have hs20:=hs16 s hs
   obtain⟨v',w',hr,k1,k2,k3⟩:=z0o (P:=Tryz.prog) (ty:=o.type) (t:=28) (by decide) Tryz.underlying28 z4j rfl (hJ.a1 v1 g1 hVi) (zd7 (hit.below (z1t hgw hp)).un) hgw.size (by unfold maxLen;omega) (by omega)
   refine gop ho hg ?_ ⟨_,rfl,hJ.s11 hVi g1 hz12 hz13 rfl hp hB hs (by simpa using k1) k2⟩
   rw[runH hop]
   simp only[execOp,resolve,invoke,builtin,Sem.run_bind,Sem.run_pure,Result.andThen_ok,List.map_toArray,List.map_cons,List.map_nil,E29,E38,hr]
  ·have hop:o.op=.buildSlice 25 1 #[(0,.tmp 39)]:=zk hop0 rfl
   obtain⟨v11,g11⟩:=hdep rfl 11 (by decide)
   have E39:=evT hd htab hsz 11 39 rfl g11
   have hz13:V 13=none:=hup 13 12 (by simp[depL]) hVi
   obtain⟨s,hs,q11⟩:=hJ.a11 hz13 v11 g11
   obtain⟨oa8,c8,hv8⟩:=zb q11
   refine gop ho hg ?_ ⟨_,rfl,hJ.s12 hVi g11 hz13 rfl hp hB⟩
   subst hv8
   clear hz13 hs q11
   rw[runH hop]
   generalize actG ops V a0 ops.size=A at E39 ⊢
   clear hJ hget hdst hend hdep hup hst hsts hroomc hW1
   go_simp
  ·have hop:o.op=.call { callee:=.builtin .append,args:=#[.tmp 28,.tmp 40],argTypes:=#[25,25] }:=zk hop0 rfl
   obtain⟨v0,g0⟩:=hdep rfl 0 (by decide)
   obtain⟨v11,g11⟩:=hdep rfl 11 (by decide)
   obtain⟨v12,g12⟩:=hdep rfl 12 (by decide)
   have E28:=evD hd htab hsz 0 28 rfl g0
   have E40:=evD hd htab hsz 12 40 rfl g12
   obtain rfl:v0=_:=hJ.pt 0 v0 _ g0 rfl
   obtain⟨bl,v11',g11',rfl,hbW,hbl⟩:=hJ.l12 hVi v12 g12
   obtain rfl:v11'=v11:=by rw[g11] at g11';cases g11';rfl
   have hgw:=hJ.gr hVi
   obtain⟨s,hs,hi11⟩:=hJ.a11 hVi v11' g11
   obtain⟨ys,hy1,hy2⟩:=hsts.far hgw hp1
   have hone:v11'.oneCell'=true:=by obtain⟨_,_,rfl⟩:=zb hi11;rfl
   have hsz7:W1.heap.size≤w7.heap.size:=Nat.le_trans hW1.size hgw.size
   obtain⟨v',w',hr,k1,k2,k3⟩:=z0o (P:=Tryz.prog) (ty:=o.type) (t:=25) (by decide) Tryz.underlying25 z8m rfl hy1 (z7b hbl rfl (by simpa using hone)) hsz7 (by unfold maxLen;omega) (by omega)
   have hlow:Below W1.heap.size w7 w':=(Below.refl _ _).grown k2 hsz7 (fun q hq=>(hy1.lt q hq).1)
   refine gop ho hg ?_ ⟨_,rfl,hJ.s13 hVi g11 rfl hs (StsR.snoc hy1 hy2 (zq hi11 hW1.size) k1 k2) (hJ.cur.kept (hlow.mono hB1) (hlow.block p hp1)) (z02 (zm hW1 hgw) hlow)⟩
   rw[runH hop]
   simp only[execOp,resolve,invoke,builtin,Sem.run_bind,Sem.run_pure,Result.andThen_ok,List.map_toArray,List.map_cons,List.map_nil,E28,E40,hr]
  ·have hop:o.op=.assign (.tmp 41):=zk hop0 rfl
   obtain⟨v13,g13⟩:=hdep rfl 13 (by decide)
   have E41:=evT hd htab hsz 13 41 rfl g13
   refine gop ho hg ?_ ⟨_,rfl,hJ.put hVi (fun c hc=>by cases hc) (by decide) (fun h=>by omega) (fun h=>by omega) (fun h=>by omega) (fun _=>g13)⟩
   obtain⟨⟨s,hs,hS⟩,-⟩:=hJ.af v13 g13
   obtain⟨oa8,c8,hv8⟩:=hS.form
   subst hv8
   clear hs hS
   rw[runH hop]
   generalize actG ops V a0 ops.size=A at E41 ⊢
   clear hJ hget hdst hend hdep hup hst hsts hroomc hW1
   go_simp
 ·intro V w7 hall hJ
  have hall':∀ k,k<15→∃ v,V k=some v:=fun k hk=>Option.isSome_iff_exists.1 (hall k (by omega))
  obtain⟨v14,g14⟩:=hall' 14 (by omega)
  have g13:=hJ.a14 v14 g14
  obtain⟨⟨s,hs,hS⟩,hg⟩:=hJ.af v14 g13
  obtain⟨ou,cu,rfl⟩:=hS.form
  rw[z05] at hS g14
  exact hend V w7 ou cu s hall' g14 hs hS hJ.cur hg

end Go.Proofs.YtgebcpkpdbdfoaaGreat

namespace Go.Proofs.YtgebcpkpdbdfoaaGreat
open Go.RowKit P5 P9 P12 P14 P15 K

theorem RoomR.evs {w:World} {B:Nat} {oa:Option Addr} {ca:Nat} {vs vg:Value} {es:List EvV} {sts:List St} (h:RoomR w B (.slice oa es.length ca) vs vg es sts):EvsAt w oa es.length ca es:=by
 obtain⟨xs,h1,h2,h3⟩:=h.e
 obtain⟨_,_,e,he⟩:=z7j (z2t h1 h2) (fun i e he=>by
  obtain⟨vl,vp,q1,q2,q3,q4,q5,q6⟩:=h3 i e he
  obtain⟨xa,xc,rfl,hl⟩:=z0e q2 q4
  obtain⟨ya,yc,rfl,hq⟩:=z0e q3 q5
  exact⟨xa,xc,ya,yc,q1,hl,hq,q6⟩)
 cases e
 exact he

theorem RoomR.stsM {w:World} {B p:Nat} {so:Option Addr} {sc:Nat} {ve vg:Value} {es:List EvV} {sts:List St} (h:RoomR w B ve (.slice so sts.length sc) vg es sts) (hp:p<B):StsAt (mask p w) so sts.length sc sts:=by
 obtain⟨xs,ys,zs,hX⟩:=h.room hp
 obtain⟨_,_,e,hst⟩:=z7k hX.ss_ hX.sx
 cases e
 exact hst

theorem StsR.at_ {w:World} {B:Nat} {so:Option Addr} {sc:Nat} {sts:List St} (h:StsR w B (.slice so sts.length sc) sts):StsAt w so sts.length sc sts:=by
 obtain⟨ys,g1,g2⟩:=h
 have hl:ys.length=sts.length:=by have:=g1.1;omega
 obtain⟨so',sc',e,hs⟩:=z7k (sts:=sts) (z2t g1 (fun u hu=>by
  obtain⟨i,hi⟩:=List.mem_iff_getElem?.1 hu
  have hi':=(List.getElem?_eq_some_iff.1 hi).1
  obtain⟨vi,q1,q2⟩:=g2 i sts[i] (List.getElem?_eq_getElem (by omega))
  rw[hi] at q1
  cases q1
  obtain⟨_,_,rfl⟩:=zb q2
  rfl)) (fun i s hs=>by
  obtain⟨vi,q1,q2⟩:=g2 i s hs
  obtain⟨xa,xc,rfl,hi⟩:=z03 q2
  exact⟨xa,xc,q1,hi⟩)
 cases e
 exact hs

theorem StsR.made {w:World} {B:Nat} (hB:B≤w.heap.size):StsR (w.alloc (.cells #[] 28)) B (.slice (some ⟨w.heap.size,0,none⟩) 0 0) [] :=
 ⟨[],World.ownsRow_made (w:=w) #[] 0 hB (by decide) rfl,fun i s hs=>by simp at hs⟩

structure Lot (es:List EvV) (sts ss:List St):Prop where
 dr:zle es sts
 sub:∀ s∈ss,s∈sts
 few:ss.length≤2000

def zlz (B p:Nat) (a:Option Addr) (len cap:Nat) (w:World) (r:Ending) (w':World):Prop :=
 ∃ oa ca es sts ov cv ss,r=.returned (.tuple #[.slice oa es.length ca,.slice ov ss.length cv])∧Lot es sts ss∧EvsAt w' oa es.length ca es∧StsAt w' ov ss.length cv ss∧CurAt B w' p a len cap∧w.grownBy w' (some p)

set_option maxRecDepth 100000 in
set_option maxHeartbeats 8000000 in
theorem ze0 (B p:Nat) (a:Option Addr) (len cap:Nat) (hlen:len≤1048576) (w:World) (hB:B≤w.heap.size) (hc:CurAt B w p a len cap) :
  Calls Tryz.prog 42 #[.pointer (some ⟨p,0,none⟩),.slice a len cap] w (zlz B p a len cap w):=by
 have hpw:=hc.lt
 have HC:=hide hc
 clear hc
 go_enter Tryz.func42,Tryz.ntmps42
 go_wp2_with fail
 refine (zg1 B p a len cap hlen _ hB HC.out).mono ?_
 rintro r w1 ⟨xe,xs,xg,es,sts,rfl,hrr,hD,hc1,hg1⟩
 obtain⟨oa,ca,so,sc,og,cg,rfl,rfl,rfl⟩:=hrr.form
 obtain⟨W2,hW2⟩:∃ W2,w1.alloc (.cells #[.slice oa es.length ca,.slice so sts.length sc,.slice og es.length cg] 41)=W2:=⟨_,rfl⟩
 have hs1:=hg1.size
 have hb2:Below w1.heap.size w1 W2:=by rw[← hW2];exact (Below.refl _ _).alloc (Nat.le_refl _) _
 have hR2:W2.heap[w1.heap.size]? = some (.cells #[.slice oa es.length ca,.slice so sts.length sc,.slice og es.length cg] 41 (0,0)):=by rw[← hW2];exact heap_alloc_new _ _
 have hz2:w1.heap.size+1=W2.heap.size:=by rw[← hW2];simp
 have HZ2:=hide hz2
 have HRR:=hide (hrr.below hb2)
 have HR:=hide hR2
 have Gx:=hide (hc1.kept (hb2.mono (Nat.le_trans hB hs1)) (hb2.block p (Nat.lt_of_lt_of_le hpw hs1)))
 have HG2:=hide (z02 hg1 (hb2.mono hs1))
 have HD:=hide hD
 have hn40:=hD.inv.len
 have hneq:=hD.inv.eqn
 have hn0:0<sts.length:=by
  rw[hneq]
  exact List.length_pos_iff.2 hD.some_
 have hst40:sts.length≤40:=by omega
 have Ab:=hide hneq
 have EP:=hide (show ∀ e∈es,(Lit.int .i64 e.id).wf=true from fun e he=>by have:=hD.inv.ids e he;have:=hD.ids e he;exact z2i (by omega) (by omega))
 have Dn:=hide (show ∀ s∈sts,s.length≤1048576 from fun s hs=>by have:=(hD.inv.st s hs).len;omega)
 have HW2:=hide hW2
 have hpR:w1.heap.size≠p:=by omega
 have hp2:p<W2.heap.size:=by omega
 have hB2:B≤W2.heap.size:=by omega
 clear hrr hD hc1 hg1 hb2 hR2 hW2 hneq HC
 go_wp2_with fail
 try rw[HW2.out]
 generalize w1.heap.size=R at *
 go_loopw [7,8] (fun o i wr=>∃ (j:Nat) (ov:Option Addr) (cv:Nat) (acc:List St),o=.slice ov acc.length cv∧i=.int .i64 (j:Int)∧j≤4∧acc.length≤j∧(∀ s∈acc,s∈sts)∧StsR wr W2.heap.size (.slice ov acc.length cv) acc∧CurAt B wr p a len cap∧W2.grownBy wr (some p)) (fun _ i _=>4 - (intOf i).toNat)
 case atStart =>
  have hbA:Below W2.heap.size W2 (W2.alloc (.cells #[] 28)):=(Below.refl _ _).alloc (Nat.le_refl _) _
  exact⟨0,_,_,[],rfl,rfl,by omega,by simp,(fun s hs=>by simp at hs),StsR.made (Nat.le_refl _),Gx.out.kept (hbA.mono hB2) (hbA.block p hp2),World.grownBy_alloc W2 _ _⟩
 case round =>
  obtain⟨j,ov,cv,acc,rfl,rfl,hj,hal,hsub,hS,hcu,hgr⟩:=hrel
  have BH:=hide hsub
  have HS:=hide hS
  clear hsub hS
  go_wp2_with fail
  refine (z1u B p a len cap 4 (by decide) (by decide) _ hcu).mono ?_
  rintro r w2 ⟨x,hx,rfl,hc2,hg2⟩
  have HS2:=hide (HS.out.far hg2 hp2)
  have DJ:=hide hc2
  have CL:=hide (zm hgr hg2)
  have hszr:=CL.out.size
  have HRW:=hide ((CL.out.block R (by omega) (fun q=>by have:=Option.some.inj q;omega)).trans HR.out)
  have Ey:=hide (HRR.out.far CL.out hpw)
  have q1:=za HRW.out 1 rfl
  clear hcu hgr hc2 hg2 HS
  by_cases hlt:j<x
  ·have j0:(j:Int)<(x:Int):=by omega
   have j1:(0:Int)<(sts.length:Int):=by omega
   go_upto_region 6 with fail
   refine zbm (B:=B) (p:=p) (R:=R) (a:=a) (len:=len) (cap:=cap) (W1:=W2) (ve:=.slice oa es.length ca) (vg:=.slice og es.length cg) (so:=so) (sc:=sc) (ov:=ov) (cv:=cv) (acc:=acc) (sts:=sts) (by kernel_rfl) (by kernel_rfl) (by kernel_rfl) (by kernel_rfl) (by kernel_rfl) (by kernel_rfl) (by kernel_rfl) (by kernel_rfl) (by kernel_rfl) (by simp) rfl rfl rfl hp2 hB2 CL.out hpR hn0 (by omega) (by omega) Dn.out DJ.out HRW.out (Ey.out.stsM hpw) HS2.out ?_
   intro V w3 ou cu s hall g14 hs hS3 hc3 hg3
   have AR:=hide hS3
   have Gy:=hide hc3
   have Ch:=hide hg3
   have BG:=hide hs
   obtain⟨v0,g0'⟩:=hall 0 (by omega)
   obtain⟨v1,g1'⟩:=hall 1 (by omega)
   obtain⟨v2,g2'⟩:=hall 2 (by omega)
   obtain⟨v3,g3'⟩:=hall 3 (by omega)
   obtain⟨v4,g4'⟩:=hall 4 (by omega)
   obtain⟨v5,g5'⟩:=hall 5 (by omega)
   obtain⟨v6,g6'⟩:=hall 6 (by omega)
   obtain⟨v7,g7'⟩:=hall 7 (by omega)
   obtain⟨v8,g8'⟩:=hall 8 (by omega)
   obtain⟨v9,g9'⟩:=hall 9 (by omega)
   obtain⟨v10,g10'⟩:=hall 10 (by omega)
   obtain⟨v11,g11'⟩:=hall 11 (by omega)
   obtain⟨v12,g12'⟩:=hall 12 (by omega)
   obtain⟨v13,g13'⟩:=hall 13 (by omega)
   simp only[actG,List.size_toArray,List.length_cons,List.length_nil,List.getElem?_toArray,List.getElem?_cons_zero,List.getElem?_cons_succ,g0',g1',g2',g3',g4',g5',g6',g7',g8',g9',g10',g11',g12',g13',g14,Act.put,List.setIfInBounds_toArray,List.set_cons_zero,List.set_cons_succ]
   clear g0' g1' g2' g3' g4' g5' g6' g7' g8' g9' g10' g11' g12' g13' g14
   clear hall hS3 hc3 hg3 hs q1 j0 j1
   go_wp2_with fail
   go_roundw
   case rel=>exact⟨j+1,ou,cu,acc++[s],by rw[z05],by go_num,by omega,by rw[z05];omega,(fun z hz=>by
    rcases List.mem_append.1 hz with hz|hz
    ·exact BH.out z hz
    ·simp at hz;rw[hz];exact BG.out),by rw[z05];exact AR.out,Gy.out,Ch.out⟩
   case measure=>simp[intOf];omega
  ·have j0:¬ ((j:Int)<(x:Int)):=by omega
   have q0:=za HRW.out 0 rfl
   have q2:=za HRW.out 2 rfl
   have Er:=hide (z8j oa es.length ca es (.slice so sts.length sc) (.slice og es.length cg) (by omega) EP.out w2 Ey.out.evs)
   go_wp2_with fail
   refine Er.out.mono ?_
   rintro r w3 ⟨⟨v3,rfl,ho3,hb3⟩,hwf⟩
   have hel:=zhj es
   have KD:=hide hwf
   generalize z7h es=ends at *
   obtain⟨oe,ce,rfl⟩:=zb ho3
   have Ba:=hide ho3
   have Gy:=hide (DJ.out.kept (hb3.mono (by omega)) (hb3.block p (by omega)))
   have Ch:=hide (z02 CL.out (hb3.mono (by omega)))
   have AR:=hide (HS2.out.below hb3)
   have HR3:=hide ((hb3.block R (by omega)).trans HRW.out)
   have Jk:=hide (Ey.out.below hb3)
   have hsz3:=hb3.size
   clear ho3 hb3 hwf Er q0 q1 q2 HS2 DJ CL HRW Ey
   go_wp2_with fail
   refine (z3s B p a len cap 2 (by decide) (by decide) _ Gy.out).mono ?_
   rintro r w4 ⟨bb,rfl,hc4,hg4⟩
   have Jc:=hide hc4
   have AP:=hide (zm Ch.out hg4)
   have hsz4:=hg4.size
   have KF:=hide (show IntsAt w4 oe ends.length ce ends from by
    obtain⟨_,_,e,hi⟩:=z0e (Ba.out.kept hg4 (z13 Ba.out (by omega))) KD.out
    cases e
    exact hi)
   have DL:=hide (AR.out.far hg4 hp2)
   have HR4:=hide ((hg4.block R (by omega) (fun q=>by have:=Option.some.inj q;omega)).trans HR3.out)
   have Ec:=hide (Jk.out.far hg4 hpw)
   have KG:=hide Ec.out.s.at_
   clear hc4 hg4 Ba AR HR3 Jk Gy Ch
   cases bb
   ·have q0:=za HR4.out 0 rfl
    go_wp2_with fail
    refine bodyPost_ret (v:=.tuple #[.slice oa es.length ca,.slice ov acc.length cv]) (by simp[results,Tryz.results42,go_sem,q0]) rfl ?_
    exact⟨oa,ca,es,sts,ov,cv,acc,rfl,⟨HD.out,BH.out,by omega⟩,Ec.out.evs,DL.out.at_,Jc.out,zm HG2.out AP.out⟩
   ·by_cases he1:1<ends.length
    ·have j1:(1:Int)<(ends.length:Int):=by omega
     go_wp2_with fail
     clear DL BH
     go_loopw [7,10] (fun o i wr=>∃ (j:Nat) (ov:Option Addr) (cv:Nat) (acc:List St),o=.slice ov acc.length cv∧i=.int .i64 (j:Int)∧j≤ends.length∧acc.length≤40 * j∧(∀ s∈acc,s∈sts)∧StsR wr w4.heap.size (.slice ov acc.length cv) acc∧Below w4.heap.size w4 wr) (fun _ i _=>ends.length - (intOf i).toNat)
     case atStart=>exact⟨0,_,_,[],rfl,rfl,Nat.zero_le _,by simp,(fun s hs=>by simp at hs),StsR.made (Nat.le_refl _),(Below.refl _ _).alloc (Nat.le_refl _) _⟩
     case round =>
      obtain⟨j,ov,cv,acc,rfl,rfl,hj,hal,hsub,hS,hbl⟩:=hrel
      obtain⟨wD,rfl⟩:∃ wD,wD=wr:=⟨_,rfl⟩
      have BH:=hide hsub
      have HS:=hide hS
      have Es:=hide hbl
      clear hsub hS
      by_cases hlt:j<ends.length
      ·have j2:(j:Int)<(ends.length:Int):=by omega
       clear hbl
       go_wp2_with fail
       go_loopw [7,11] (fun o k wr=>∃ (i:Nat) (ov:Option Addr) (cv:Nat) (acc:List St),o=.slice ov acc.length cv∧k=.int .i64 (i:Int)∧i≤es.length∧acc.length≤40 * j+i∧(∀ s∈acc,s∈sts)∧StsR wr w4.heap.size (.slice ov acc.length cv) acc∧Below w4.heap.size w4 wr) (fun _ k _=>es.length - (intOf k).toNat)
       case atStart=>exact⟨0,ov,cv,acc,rfl,rfl,Nat.zero_le _,by omega,BH.out,HS.out,Es.out⟩
       case round =>
        clear BH HS Es hal
        obtain⟨i,ov,cv,acc,rfl,rfl,hi,hal,hsub,hS,hbD⟩:=hrel
        have BH:=hide hsub
        have HS:=hide hS
        have Bo:=hide hbD
        have hRr:=(hbD.block R (zf HR4.out)).trans HR4.out
        have r0:=za hRr 0 rfl
        have r1:=za hRr 1 rfl
        have hszD:=hbD.size
        obtain⟨z,be,qe,hz,hidxe,hbe,ce0,hwfz⟩:=(KF.out.below hbD).get Tryz.underlying32 z0m j hlt
        clear hsub hS hRr hz hwfz
        by_cases hlti:i<es.length
        ·have i0:(i:Int)<(es.length:Int):=by omega
         have his:i<sts.length:=by rw[Ab.out];exact hlti
         obtain⟨ev,b2,q2,xa2,xc2,ya2,yc2,he2,hidx2,hev2⟩:=(Ec.out.evs.below hbD).get Tryz.underlying24 z1p i hlti
         obtain⟨d0,d1,d2,d3,d4,d5,d6,d7,d8⟩:=hev2.cs
         obtain⟨s,bb,qq,xa,xc,hs,hidx3,hc0,hit⟩:=(KG.out.below hbD).get Tryz.underlying25 z3y i his
         have hsm:=List.mem_of_getElem? hs
         have hs20:=Dn.out s hsm
         have HIT:=hide hit
         have MB:=hide hsm
         have Cr:=hide hc0
         clear he2 hev2 d1 d2 d3 d4 d5 d6 d7 d8 hs hit hsm hbD
         by_cases heq:ev.id=z
         ·subst heq
          go_wp2_with fail
          go_quiet (fail)
          have hbQ:Below wr.heap.size wr (wr.drewN nq):=below_drewN (Below.refl _ _) nq
          have Du:=hide (Bo.out.trans (hbQ.mono hszD))
          have KH:=hide (HS.out.below hbQ)
          have KI:=hide (HIT.out.below hbQ)
          have r1Q:=(hbQ.cell (z0d r1)).trans r1
          have c0Q:=(hbQ.cell (z0d hc0)).trans hc0
          clear r0 r1 hc0 Cr d0 ce0 HS Bo HIT hbQ
          generalize wr.drewN nq=wQ at *
          have LB:=hide (World.ownsRow_made (w:=wQ) (e:=36) (size:=2) #[] 0 (Nat.le_refl _) (by decide) rfl)
          have BN:=hide ((Below.refl wQ.heap.size wQ).alloc (Nat.le_refl _) (.cells #[] 36))
          have KJ:=hide (KI.out.below BN.out)
          have hszQ:w4.heap.size≤wQ.heap.size:=Du.out.size
          have hltR:R<wQ.heap.size:=z0d r1Q
          have hltS:bb<wQ.heap.size:=z0d c0Q
          have r1A:=(BN.out.cell (z0d r1Q)).trans r1Q
          have c0A:=(BN.out.cell (z0d c0Q)).trans c0Q
          go_wp2_with (first
           | (at_builtin;refine z1x rfl _ _ rfl rfl LB.out rfl KJ.out (by simp) (by unfold maxLen;omega) (by omega) ?_;intro v6 w6 ho6 hg6;rw[Nat.zero_add,List.nil_append] at ho6;obtain⟨o6,c6,rfl⟩:=zb ho6;have hb6:Below wQ.heap.size wQ w6:=BN.out.grown hg6 (by simp) (fun q hq=>(LB.out.lt q hq).1);obtain⟨ys,hy1,hy2⟩:=KH.out.below hb6;have KL:=hide hy1;have MC:=hide hy2;have Dk:=hide ho6;have CF:=hide hb6;have hsz6:w4.heap.size≤w6.heap.size:=Nat.le_trans hszQ hb6.size;clear hy1 hy2 ho6 hb6 hg6)
           | (at_builtin;refine z1s (cs:=#[.slice o6 s.length c6]) rfl _ _ 25 rfl (by decide) Tryz.underlying25 z8m rfl rfl KL.out rfl rfl (by simp[Value.oneCell']) hsz6 (by unfold maxLen;omega) (by omega) ?_;intro v7 w7 ho7 hg7 hl7;obtain⟨o7,c7,rfl⟩:=zb ho7))
          have hbA6:Below w6.heap.size w6 (w6.alloc (.cells #[.slice o6 s.length c6] 28)):=(Below.refl _ _).alloc (Nat.le_refl _) _
          have Gz:=hide (StsR.snoc (own_below KL.out hbA6) (fun k s' hs'=>by
           obtain⟨vi,h1,h2⟩:=MC.out k s' hs'
           exact⟨vi,h1,own_below h2 hbA6⟩) (zq (own_below Dk.out hbA6) hszQ) ho7 hg7)
          have CS:=hide (show Below w4.heap.size w4 w7 from ((Du.out.trans (CF.out.mono hszQ)).trans (hbA6.mono hsz6)).grown hg7 (by simp;omega) (fun q hq=>(KL.out.lt q hq).1))
          clear ho7 hg7 hl7 hbA6
          go_roundw
          case rel=>exact⟨i+1,o7,c7,acc++[s],by rw[z05],by go_num,by omega,by rw[z05];omega,(fun z hz=>by
           rcases List.mem_append.1 hz with hz|hz
           ·exact BH.out z hz
           ·simp at hz;rw[hz];exact MB.out),by rw[z05];exact Gz.out,CS.out⟩
          case measure=>simp[intOf];omega
         ·go_wp2_with fail
          go_quiet (fail)
          have hbQ:Below wr.heap.size wr (wr.drewN nq):=below_drewN (Below.refl _ _) nq
          have Du:=hide (Bo.out.trans (hbQ.mono hszD))
          have KH:=hide (HS.out.below hbQ)
          go_wp2_with fail
          go_roundw
          case rel=>exact⟨i+1,ov,cv,acc,rfl,by go_num,by omega,by omega,BH.out,KH.out,Du.out⟩
          case measure=>simp[intOf];omega
        ·have i0:¬ ((i:Int)<(es.length:Int)):=by omega
         go_wp2_with fail
         go_roundw
         case rel=>exact⟨j+1,ov,cv,acc,rfl,by go_num,by omega,by omega,BH.out,HS.out,Bo.out⟩
         case measure=>simp[intOf];omega
      ·have j2:¬ ((j:Int)<(ends.length:Int)):=by omega
       have q0:=za ((hbl.block R (zf HR4.out)).trans HR4.out) 0 rfl
       have hszL:=hbl.size
       go_wp2_with fail
       refine bodyPost_ret (v:=.tuple #[.slice oa es.length ca,.slice ov acc.length cv]) (by simp[results,Tryz.results42,go_sem,q0]) rfl ?_
       exact⟨oa,ca,es,sts,ov,cv,acc,rfl,⟨HD.out,BH.out,by omega⟩,Ec.out.evs.below Es.out,HS.out.at_,Jc.out.kept (Es.out.mono (by omega)) (Es.out.block p (by omega)),z02 (zm HG2.out AP.out) (Es.out.mono (by have:=HG2.out.size;have:=AP.out.size;omega))⟩
    ·have j1:¬ ((1:Int)<(ends.length:Int)):=by omega
     have q0:=za HR4.out 0 rfl
     go_wp2_with fail
     refine bodyPost_ret (v:=.tuple #[.slice oa es.length ca,.slice ov acc.length cv]) (by simp[results,Tryz.results42,go_sem,q0]) rfl ?_
     exact⟨oa,ca,es,sts,ov,cv,acc,rfl,⟨HD.out,BH.out,by omega⟩,Ec.out.evs,DL.out.at_,Jc.out,zm HG2.out AP.out⟩

def zm0 (w:World) (r:Ending) (w':World):Prop :=
 ∃ oa ca es sts ov cv ss,r=.returned (.tuple #[.slice oa es.length ca,.slice ov ss.length cv])∧Lot es sts ss∧EvsAt w' oa es.length ca es∧StsAt w' ov ss.length cv ss∧Below w.heap.size w w'

set_option maxHeartbeats 2000000 in
theorem zbn (B:Nat) (a:Option Addr) (len cap:Nat) (w:World) (hlen:len≤1048576) (hB:B≤w.heap.size) (hcode:CodeAt B w a len) :
  Calls Tryz.prog 10 #[.slice a len cap] w (zm0 w):=by
 have ME:=hide hcode
 clear hcode
 go_enter Tryz.func10,Tryz.ntmps10
 go_wp2_with fail
 refine (zhg B a len cap _ hlen hB ME.out).mono ?_
 rintro e w1 ⟨rfl,hc1,hb1⟩
 have hs1:=hb1.size
 have HB1:=hide hb1
 have DI:=hide hc1
 clear hb1 hc1
 go_wp2_with fail
 refine (ze0 B w.heap.size a len cap hlen _ (by omega) DI.out).mono ?_
 rintro r w2 ⟨oa,ca,es,sts,ov,cv,ss,rfl,hL,he,hs,hc2,hg2⟩
 have HB2:=hide (show Below w.heap.size w w2 from HB1.out.grown hg2 hs1 (fun k hk=>by cases hk;exact Nat.le_refl _))
 have HL:=hide hL
 have HE:=hide he
 have HS:=hide hs
 clear hL he hs hc2 hg2
 go_wp2_with fail
 refine bodyPost_ret (v:=.tuple #[.slice oa es.length ca,.slice ov ss.length cv]) (by simp[results,Tryz.results10,go_sem]) rfl ?_
 exact⟨oa,ca,es,sts,ov,cv,ss,rfl,HL.out,HE.out,HS.out,HB2.out⟩

end Go.Proofs.YtgebcpkpdbdfoaaGreat
