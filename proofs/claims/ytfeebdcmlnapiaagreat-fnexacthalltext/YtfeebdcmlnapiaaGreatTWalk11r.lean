/-
  Walks.
-/
import Derived.Test.YtfeebdcmlnapiaaGreatTWalk11n
import Derived.Test.YtfeebdcmlnapiaaGreatTOrd1
open Go.Value renaming int->J
open Go.IntKind renaming i64->Y
set_option maxRecDepth 100000
set_option maxHeartbeats 4000000
set_option linter.unusedVariables false
set_option linter.unusedSimpArgs false
namespace Go.Proofs.YtfeebdcmlnapiaaGreat
open Go.RowKit P1 P5 P9 P11 P12 P14 K
theorem zao (es:List EvV) (x:EvV) (k:Int):zf (es++[x]) k=match zf es k with|some e=>some e|none=>if x.id=k then some x else none:=by
 induction es with
 | nil=>simp[zf]
 | cons y r ih =>
  rw[List.cons_append]
  unfold zf
  split
  ·rfl
  ·exact ih

theorem zj3 {es:List EvV} {j:Nat} {x:EvV} (h:es[j]? = some x):es.take (j+1)=es.take j++[x]:=by
 rw[List.take_add_one,h];rfl

abbrev zev:Value:=evv noEv (.slice none 0 0) (.slice none 0 0)

def KnF (w:World) (es:List EvV) (F:Int→Option Value):Prop:=∀ k,match zf es k with
 | none=>F k=none
 | some e=>∃ xa xc ya yc,F k=some (evv e (.slice xa e.levels.length xc) (.slice ya e.prev.length yc))∧IntsAt w xa e.levels.length xc e.levels∧IntsAt w ya e.prev.length yc e.prev

def KnTab (w0 w:World) (b:Nat) (es:List EvV):Prop:=∃ F m D,m≤es.length∧VTab w b F m D∧KnF w0 es F

theorem KnF.on {w w':World} {es:List EvV} {F:Int→Option Value} (h:KnF w es F) (hb:Bw w w'):KnF w' es F:=fun k=>by
 have:=h k
 cases hf:zf es k with
 | none=>rw[hf] at this;exact this
 | some e =>
  rw[hf] at this
  obtain⟨xa,xc,ya,yc,h1,h2,h3⟩:=this
  exact⟨xa,xc,ya,yc,h1,h2.below hb,h3.below hb⟩

theorem KnTab.on {w0 w w':World} {b:Nat} {es:List EvV} (h:KnTab w0 w b es) (hb:Bw w w'):KnTab w0 w' b es:=by
 obtain⟨F,m,D,h1,h2,h3⟩:=h
 exact⟨F,m,D,h1,h2.below hb,h3⟩

theorem KnF.old {w:World} {es:List EvV} {F:Int→Option Value} {x y:EvV} (h:KnF w es F) (hx:zf es x.id=some y):KnF w (es++[x]) F:=fun k=>by
 have:=h k
 rw[zao]
 cases hf:zf es k with
 | some e=>rw[hf] at this;exact this
 | none =>
  rw[hf] at this
  have hne:¬ x.id=k:=fun e=>by rw[e,hf] at hx;cases hx
  simp only[hne,↓reduceIte]
  exact this

theorem KnF.new {w:World} {es:List EvV} {F:Int→Option Value} {x:EvV} (h:KnF w es F) (hx:zf es x.id=none) {xa:Zoa} {xc:Nat} {ya:Zoa} {yc:Nat} (hl:IntsAt w xa x.levels.length xc x.levels) (hp:IntsAt w ya x.prev.length yc x.prev):KnF w (es++[x]) (updV F x.id (some (evv x (.slice xa x.levels.length xc) (.slice ya x.prev.length yc)))):=fun k=>by
 have:=h k
 rw[zao]
 by_cases e:x.id=k
 ·rw[e] at hx
  rw[hx]
  simp only[e,↓reduceIte]
  refine⟨xa,xc,ya,yc,?_,hl,hp⟩
  rw[z14]
 ·rw[z0j _ _ (fun q=>e q.symm)]
  cases hf:zf es k with
  | some e'=>rw[hf] at this;exact this
  | none =>
   rw[hf] at this
   simp only[e,↓reduceIte]
   exact this

theorem zci (oa:Zoa) (n cap:Nat) (es:List EvV) (hn20:n≤1048576) (hids:∀ e∈es,(Lit.int .i64 e.id).wf=true) (w:World) (hat:EvsAt w oa n cap es) :
  Calls Tryz.prog 225 #[.slice oa n cap] w fun r w'=>r=.returned (.map (some w.heap.size))∧KnTab w w' w.heap.size es∧Bw w w':=by
 have hn:=hat.len
 have HN:=ZZ hn
 have HAT:=ZZ hat
 have Bj:=ZZ hids
 have hmm:(Instr.makeMap 231 none).run Tryz.prog w=.ok (.map (some w.heap.size)) (w.alloc (.map #[] 0)):=by
  simp[Instr.makeMap,Sem.run_bind,run_underlying Tryz.underlying231 w,asInt,Result.andThen,newObj]
  try rfl
 clear hn hat hids
 go_enter Tryz.func225,Tryz.ntmps225
 go_wp2_with fail
 have HT0:=ZZ (z8x w)
 have HB0:=ZZ ((Below.refl w.heap.size w).alloc zLe (.map #[] 0))
 go_loopw [11] (fun i wr=>∃ j:Nat,i=J Y (j:Int)∧j≤n∧KnTab w wr w.heap.size (es.take j)∧Bw w wr) (fun i _=>n - (intOf i).toNat)
 case atStart=>exact⟨0,rfl,Nat.zero_le _,⟨_,_,_,Nat.zero_le _,HT0.o,fun k=>rfl⟩,HB0.o⟩
 case round =>
  obtain⟨j,rfl,hj,hT,hbel⟩:=hrel
  have Bu:=ZZ hT
  have Av:=ZZ hbel
  have hsz:=hbel.size
  clear hT hbel HT0 HB0
  by_cases hlt:j<n
  ·have j0:(j:Int)<(n:Int):=by omega
   obtain⟨x,b,q,xa,xc,ya,yc,hx,hidx,hev0⟩:=HAT.o.get Tryz.underlying29 z2t j hlt
   have hev:=hev0.below Av.o
   have hwx:=Bj.o x (zMg hx)
   have Af:=ZZ (zj3 hx)
   obtain⟨c0,c1,c2,c3,c4,c5,c6,c7,c8⟩:=hev.cs
   obtain⟨F,m,D,hm,hV,hK⟩:=Bu.o
   have hll:(es.take j).length=j:=by rw[List.length_take,HN.o];omega
   rw[hll] at hm
   have hW:=Bj
   obtain⟨Wa,hWa⟩:∃ Wa,wr.alloc (.cells (zk x.id x.kind x.sender x.user x.member x.depth (.slice xa x.levels.length xc) (.slice ya x.prev.length yc) x.text) 62)=Wa:=⟨_,rfl⟩
   have hba:Bw wr Wa:=by rw[← hWa];exact zBa
   have hEa:EB Wa wr.heap.size x.id x.kind x.sender x.user x.member x.depth (.slice xa x.levels.length xc) (.slice ya x.prev.length yc) x.text:=by rw[← hWa];exact EB.new _ _ _ _ _ _ _ _ _ _
   have hVa:=hV.below hba
   have hlk:=hVa.look Tryz.underlying231 (Tryz.zeroValue62 _) hwx
   have EX:=ZZ hVa
   have Dk:=ZZ hK
   have Bh:=ZZ hba
   have Cg:=ZZ hEa
   have DC:=ZZ hWa
   have A8:=ZZ hev0
   have hblt:=hV.lt
   clear hVa hba hV hK Bu hx hll hev hev0 hEa hWa hW
   have hk:=Dk.o x.id
   go_upto_region 5 with fail
   rw[DC.o]
   clear DC c0 c1 c2 c3 c4 c5 c6 c7 c8 hidx
   obtain⟨a0,a1,a2,a3,a4,a5,a6,a7,a8⟩:=Cg.o.ev
   have hla:=Cg.o.lt
   have hsa:=Bh.o.size
   cases hF:zf (es.take j) x.id with
   | none =>
    rw[hF] at hk
    rw[hk] at hlk
    simp only[Option.getD_none,Option.isSome_none] at hlk
    have Gq:=ZZ ((Below.refl Wa.heap.size Wa).alloc zLe (.cells (zk 0 0 0 0 0 0 (.slice none 0 0) (.slice none 0 0) []) 62))
    have hkey:=keyI hwx
    have Kq:=ZZ (EX.o.below Gq.o)
    have hown1:=Kq.o.own
    have HW:=ZZ hwx
    have Lc:=ZZ hk
    have GM:=ZZ hF
    clear hk hF
    go_wp2_with (at_mapUpdate;refine wpList_mapUpdate_in _ rfl _ _ _ 231 rfl 3 62 (Maps.int_keyed Tryz.underlying3) Tryz.underlying231 z1z w.heap.size m D rfl hown1 (by unfold maxLen;omega) _ _ (.int .i64 x.id) rfl rfl hkey (.held (evv x (.slice xa x.levels.length xc) (.slice ya x.prev.length yc))) [] rfl ?_;intro w2 hown2 hturn2)
    have h3:=Kq.o.store HW.o hown2
    rw[Lc.o] at h3
    simp only[Option.isSome_none,Bool.false_eq_true,↓reduceIte] at h3
    have hbz2:Bw w w2:=(Av.o.trans ((Bh.o.trans (Gq.o.mono hsa)).mono hsz)).trans (z9k hturn2 zLe (by simp;omega))
    have hT':KnTab w w2 w.heap.size (es.take (j+1)):=by
     rw[Af.o]
     refine⟨_,_,_,?_,h3,?_⟩
     ·rw[List.length_append,List.length_take,HN.o];simp;omega
     ·exact Dk.o.new GM.o A8.o.lev A8.o.prv
    clear h3 hown2 hturn2 hown1
    go_wp2_with fail
    go_roundw
    case rel=>exact⟨j+1,by go_num,by omega,hT',hbz2⟩
    case measure=>simp[intOf];omega
   | some y =>
    rw[hF] at hk
    obtain⟨ua,uc,va,vc,hk1,hk2,hk3⟩:=hk
    rw[hk1] at hlk
    simp only[Option.getD_some,Option.isSome_some] at hlk
    have Ld:=ZZ (Dk.o.old hF)
    clear hk1 hk2 hk3 hF
    go_wp2_with fail
    have Gq:=ZZ ((Below.refl Wa.heap.size Wa).alloc zLe (.cells (zk y.id y.kind y.sender y.user y.member y.depth (.slice ua y.levels.length uc) (.slice va y.prev.length vc) y.text) 62))
    have hT':KnTab w (Wa.alloc (.cells (zk y.id y.kind y.sender y.user y.member y.depth (.slice ua y.levels.length uc) (.slice va y.prev.length vc) y.text) 62)) w.heap.size (es.take (j+1)):=by
     rw[Af.o]
     exact⟨_,_,_,by rw[List.length_append,List.length_take,HN.o];omega,EX.o.below Gq.o,Ld.o⟩
    have hB':Bw w (Wa.alloc (.cells (zk y.id y.kind y.sender y.user y.member y.depth (.slice ua y.levels.length uc) (.slice va y.prev.length vc) y.text) 62)):=Av.o.trans ((Bh.o.trans (Gq.o.mono hsa)).mono hsz)
    go_roundw
    case rel=>exact⟨j+1,by go_num,by omega,hT',hB'⟩
    case measure=>simp[intOf];omega
  ·have hjn:j=n:=by omega
   have hall:es.take j=es:=zTl (by rw[HN.o];omega)
   rw[hall] at Bu
   go_wp2_with fail
   go_ret
   exact⟨rfl,Bu.o,Av.o⟩

open P15 P16 P17
theorem z8p {w:World} {ops:Array Oper} {rest:List Oper} {o:Oper} {a:Act} {Q:Exit→Act→World→Prop} (hgd:o.guard=none) (sx x:Operand)
  (ho:o.op=.call { callee:=.builtin .append,args:=#[sx,x],argTypes:=#[60,60] })
  {base:Nat} {v:Value} {n:Nat} {xs:Zvs} (hs:a.eval sx=v) (hown:w.ownsRow base 3 1 v n xs)
  {oa:Zoa} {m cap:Nat} {zs:Zin} (hx:a.eval x=.slice oa m cap) (hat:IntsAt w oa m cap zs)
  (hbase:base≤w.heap.size) (h63:n+m≤maxLen) (hbytes:(n+m) * 8≤140737488355328)
  (h:∀ v' w',w'.ownsRow base 3 1 v' (n+m) (xs++zs.map z03)→w.grownBy w' v.ownBlock→(v'.ownBlock=v.ownBlock∨v'.ownBlock=some w.heap.size)→wpList Tryz.prog ops Q rest (a.put o.dst v') w'):wpList Tryz.prog ops Q (o::rest) a w:=by
 obtain⟨i,hi,hz,h1,h2⟩:=info_parts z1u
 cases oa with
 | none =>
  obtain⟨rfl,rfl⟩:=zcv hat
  refine wpList_plain hgd fun K hK=>?_
  obtain⟨ov,cv,hv,hnc⟩:∃ (oa:Zoa) (cap:Nat),v=.slice oa n cap∧n≤cap:=by
   rcases hown.2 with ⟨h1,h2⟩|⟨g',cap,cur,h1,-,-,h5,-⟩
   ·exact⟨_,_,by rw[h1,h2],by omega⟩
   ·exact⟨_,_,h1,h5⟩
  subst hv
  have hr:=zb6 (w:=w) 60 o.type 3 i Tryz.underlying60 hi ov n cv cap hnc
  unfold Oper.wp execOp
  simp only[ho,resolve,invoke,builtin,Sem.run_bind,Sem.run_pure,Result.andThen_ok,List.map_toArray,List.map_cons,List.map_nil,hs,hx,hr]
  exact hK _ _ (h _ _ (by simpa using hown) (World.grownBy.refl _ _) (.inl rfl))
 | some ad =>
  refine wpList_append_own_at _ hgd sx x 60 ho base 3 i _ 1 8 Tryz.underlying60 hi hz h1 h2 rfl (by decide) v n xs hs hown ad m cap (zs.map z03) hx (by simp[hat.len]) ?_ (zjq zs) h63 hbytes hbase (fun v' w' h2 h3 _ h5=>h v' w' h2 h3 h5)
  intro j u hu
  rw[List.getElem?_map] at hu
  cases hz':zs[j]? with
  | none=>rw[hz'] at hu;cases hu
  | some z =>
   rw[hz'] at hu
   obtain⟨b,o',he,hc⟩:=hat.at_ j z hz'
   cases he
   cases hu
   rw[Addr.add_mid]
   exact hc

theorem KnF.val {w:World} {es:List EvV} {F:Int→Option Value} (h:KnF w es F) (k:Int):∃ xl ya yc,(F k).getD zev=evv (evOf es k) xl (.slice ya (evOf es k).prev.length yc)∧IntsAt w ya (evOf es k).prev.length yc (evOf es k).prev:=by
 have:=h k
 unfold evOf
 cases hf:zf es k with
 | none =>
  rw[hf] at this
  rw[this]
  exact⟨_,none,0,rfl,z3p _⟩
 | some e =>
  rw[hf] at this
  obtain⟨xa,xc,ya,yc,h1,h2,h3⟩:=this
  rw[h1]
  exact⟨_,ya,yc,rfl,h3⟩

def unseen (es:List EvV) (seen:Zin):Nat:=((es.map (·.id)).filter (fun z=>!seen.contains z)).length

theorem zcj (seen:Zin) (x:Int):∀ (l:Zin),(l.filter (fun z=>!(x::seen).contains z)).length≤(l.filter (fun z=>!seen.contains z)).length
 | []=>by simp
 | y::r=>by
  have ih:=zcj seen x r
  rw[List.filter_cons,List.filter_cons]
  have hc:(x::seen).contains y=((y==x)||seen.contains y):=List.contains_cons
  rw[hc]
  cases seen.contains y<;>cases (y==x)<;>simp only[Bool.or_true,Bool.or_false,Bool.true_or,Bool.false_or,Bool.not_true,Bool.not_false,Bool.false_eq_true,↓reduceIte,List.length_cons]<;>omega

theorem zdj (es:List EvV) (seen:Zin) (x:Int):unseen es (x::seen)≤unseen es seen:=zcj seen x _

theorem zhv {seen:Zin} {x:Int} (hx:x ∉ seen):∀ (l:Zin),x∈l→(l.filter (fun z=>!(x::seen).contains z)).length<(l.filter (fun z=>!seen.contains z)).length
 | y::r,hm=>by
  have hr:=zcj seen x r
  rw[List.filter_cons,List.filter_cons]
  have hc:(x::seen).contains y=((y==x)||seen.contains y):=List.contains_cons
  rw[hc]
  by_cases h2:y=x
  ·subst h2
   have h1:seen.contains y=false:=by rw[Bool.eq_false_iff];exact fun q=>hx (List.contains_iff_mem.1 q)
   rw[h1]
   simp only[BEq.rfl,Bool.true_or,Bool.not_true,Bool.not_false,Bool.false_eq_true,↓reduceIte,List.length_cons]
   omega
  ·have hb:(y==x)=false:=by simpa using h2
   rw[hb]
   rcases List.mem_cons.1 hm with q|q
   ·exact absurd q.symm h2
   ·have ih:=zhv hx r q
    cases seen.contains y<;>simp only[Bool.or_true,Bool.or_false,Bool.false_or,Bool.not_true,Bool.not_false,Bool.false_eq_true,↓reduceIte,List.length_cons]<;>omega

theorem zdk {es:List EvV} {seen:Zin} {x:Int} (hk:known es x) (hx:x ∉ seen):unseen es (x::seen)<unseen es seen:=zhv hx _ (evFind_isSome.1 hk)

def SeenF (S:Int→Option Value) (seen:Zin) (P:Nat):Prop:=∀ x,match S x with
 | none=>x ∉ seen
 | some v=>∃ c:Int,v=J Y c∧1≤c∧c≤(P:Int)∧x∈seen

theorem SeenF.more {S:Int→Option Value} {seen:Zin} {P:Nat} (h:SeenF S seen P):SeenF S seen (P+1):=fun x=>by
 have:=h x
 cases hS:S x with
 | none=>rw[hS] at this;exact this
 | some v=>rw[hS] at this;obtain⟨c,h1,h2,h3,h4⟩:=this;exact⟨c,h1,h2,by omega,h4⟩

theorem SeenF.again {S:Int→Option Value} {seen:Zin} {P:Nat} {x c:Int} (h:SeenF S seen P) (hx:x∈seen) (h1:1≤c) (hc:c≤(P:Int)):SeenF (updV S x (some (J Y (c+1)))) seen (P+1):=fun y=>by
 by_cases e:y=x
 ·subst e;rw[z14];exact⟨c+1,rfl,by omega,by omega,hx⟩
 ·rw[z0j _ _ e];exact h.more y

theorem SeenF.new {S:Int→Option Value} {seen:Zin} {P:Nat} {x:Int} (h:SeenF S seen P):SeenF (updV S x (some (J Y 1))) (x::seen) (P+1):=fun y=>by
 by_cases e:y=x
 ·subst e;rw[z14];exact⟨1,rfl,by omega,by omega,List.mem_cons_self⟩
 ·rw[z0j _ _ e]
  have:=h.more y
  cases hS:S y with
  | none=>rw[hS] at this;simp only[List.mem_cons,not_or];exact⟨e,this⟩
  | some v=>rw[hS] at this;obtain⟨c,h1,h2,h3,h4⟩:=this;exact⟨c,h1,h2,h3,List.mem_cons_of_mem _ h4⟩

theorem zdl (e:EvV) (xl xp:Value) (w:World):(Instr.field 62 (evv e xl xp) 7).run Tryz.prog w=.ok xp w:=by
 simp[Instr.field,Sem.run_bind,asAgg,part,go_sem]

def mapN (w:World) (b:Nat):Nat:=match w.heap[b]? with
 | some (.map es _)=>es.size
 | _=>0

theorem VTab.count {w:World} {b m:Nat} {F:Int→Option Value} {D:DataW Value} (h:VTab w b F m D):mapN w b=m:=by
 obtain⟨es,clock,hb,F,hs,hD⟩:=h.own
 have h2:=h.size
 rw[hD] at h2
 unfold mapN
 rw[hb]
 simp only
 rw[← h2]
 simp[Maps.size,length_sorted]

structure NhSt (w wr:World) (B bs:Nat) (va vo:Value) (found op:Zin) (S:Int→Option Value) (P:Nat):Prop where
 fr:wr.ownsRow B 3 1 va found.length (found.map z03)
 orow:wr.ownsRow B 3 1 vo op.length (op.map z03)
 ap:Aside2 va vo
 tab:∃ m D,m≤P∧VTab wr bs S m D
 bl:Below B w wr
 up:B≤wr.heap.size
 lo:B≤bs

theorem NhSt.cut {w wr:World} {B bs:Nat} {va:Value} {found op:Zin} {S:Int→Option Value} {P g n cap:Nat} {x:Int} (h:NhSt w wr B bs va (.slice (some ⟨g,0,none⟩) (n+1) cap) found (op++[x]) S P) (hn:op.length=n):NhSt w wr B bs va (.slice (some ⟨g,0,none⟩) n cap) found op S P:=by
 subst hn
 refine⟨h.fr,?_,fun q h1 h2=>h.ap q h1 h2,h.tab,h.bl,h.up,h.lo⟩
 have h1:=h.orow
 rw[List.length_append] at h1
 have h2:=zhu (n:=op.length) h1 (by simp)
 rw[List.map_append,Nat.mul_one,List.take_left' (by simp)] at h2
 exact h2

theorem NhSt.saw {w wr w2:World} {B bs:Nat} {va vo:Value} {found op:Zin} {S:Int→Option Value} {P m n:Nat} {D:DataW Value} {x c:Int} (h:NhSt w wr B bs va vo found op S P) (hx:(Lit.int .i64 x).wf=true) (hm:m≤P) (hV:VTab wr bs S m D) (ho:w2.ownsMap Tryz.prog 3 z1z bs n (D.put (.int .i64 x) (.held (.int .i64 c)))) (ht:wr.mapTurned w2 bs):NhSt w w2 B bs va vo found op (updV S x (some (.int .i64 c))) (P+1):=by
 have hg:=ht.grown
 refine⟨h.fr.kept hg ?_,h.orow.kept hg ?_,h.ap,⟨_,_,?_,hV.store hx ho⟩,h.bl.grown hg h.up (fun q hq=>by cases hq;exact h.lo),zNt h.up hg.size,h.lo⟩
 ·exact .inr (fun e=>z2i hV.own h.fr e.symm)
 ·exact .inr (fun e=>z2i hV.own h.orow e.symm)
 ·split<;>omega

theorem NhSt.found {w w3 w4:World} {B bs:Nat} {va va' vo:Value} {found op:Zin} {S:Int→Option Value} {P:Nat} {z:Int} {X:Obj} (h:NhSt w w3 B bs va vo found op S P) (ho:w4.ownsRow B 3 1 va' (found.length+1) (found.map z03++[J Y z])) (hg:(w3.alloc X).grownBy w4 va.ownBlock) (hloc:va'.ownBlock=va.ownBlock∨va'.ownBlock=some (w3.heap.size+1)):NhSt w w4 B bs va' vo (found++[z]) op S P:=by
 obtain⟨h1,h2⟩:=beside h.orow h.ap.symm hg hloc
 obtain⟨m,D,hm,hV⟩:=h.tab
 have hb:=(Below.refl w3.heap.size w3).alloc zLe X
 refine⟨by rw[z0p,z6s];exact ho,h1,h2.symm,⟨m,D,hm,(hV.below hb).kept hg (z2i (hV.below hb).own (own_below h.fr hb))⟩,z5q h.bl h.up h.fr zLe hg,zNt h.up (zNt hb.size hg.size),h.lo⟩

theorem NhSt.foundV {w w3 w4:World} {B bs:Nat} {va vo:Value} {found op:Zin} {S S':Int→Option Value} {P m':Nat} {D':DataW Value} {X:Obj} (h:NhSt w w3 B bs va vo found op S P) (hg:(w3.alloc X).grownBy w4 va.ownBlock) (hV:VTab w3 bs S' m' D'):VTab w4 bs S' m' D':=by
 have hb:=(Below.refl w3.heap.size w3).alloc zLe X
 exact (hV.below hb).kept hg (z2i (hV.below hb).own (own_below h.fr hb))

theorem NhSt.openedV {w w3 w4:World} {B bs:Nat} {va vo:Value} {found op:Zin} {S S':Int→Option Value} {P m':Nat} {D':DataW Value} (h:NhSt w w3 B bs va vo found op S P) (hg:w3.grownBy w4 vo.ownBlock) (hV:VTab w3 bs S' m' D'):VTab w4 bs S' m' D':=hV.kept hg (z2i hV.own h.orow)

theorem NhSt.opened {w w3 w4:World} {B bs:Nat} {va vo vo':Value} {found op zs:Zin} {S:Int→Option Value} {P:Nat} (h:NhSt w w3 B bs va vo found op S P) (ho:w4.ownsRow B 3 1 vo' (op.length+zs.length) (op.map z03++zs.map z03)) (hg:w3.grownBy w4 vo.ownBlock) (hloc:vo'.ownBlock=vo.ownBlock∨vo'.ownBlock=some w3.heap.size):NhSt w w4 B bs va vo' found (op++zs) S P:=by
 obtain⟨m,D,hm,hV⟩:=h.tab
 refine⟨h.fr.kept hg ?_,by rw[List.length_append,List.map_append];exact ho,fun q h1 h2=>?_,⟨m,D,hm,hV.kept hg (z2i hV.own h.orow)⟩,h.bl.grown hg h.up (fun q hq=>(h.orow.lt q hq).1),zNt h.up hg.size,h.lo⟩
 ·cases hv:va.ownBlock with
  | none=>exact .inl rfl
  | some q=>exact .inr (fun e=>h.ap q hv e.symm)
 ·rcases hloc with hl|hl
  ·rw[hl] at h2;exact h.ap q h1 h2
  ·rw[hl] at h2
   have:=(h.fr.lt q h1).2
   have:=zSi h2
   omega

theorem ze2 (w0:World) (bk bt:Nat) (es:List EvV) (left:Zin) (T:Int→Option Value) (mt:Nat) (DT:DataW Value) (id:Int) (hid:(Lit.int .i64 id).wf=true) (hlen:es.length≤100) (hprev:∀ e∈es,e.prev.length≤3) (hT:∀ k,(T k).isSome=true↔k∈left) (w:World) (h0:Below w0.heap.size w0 w) (hk:KnTab w0 w bk es) (ht:VTab w bt T mt DT) :
  Calls Tryz.prog 228 #[.agg #[.map (some bk),.map (some bt)],J Y id] w fun r w'=>∃ v found seen,r=.returned v∧w'.ownsRow w.heap.size 3 1 v found.length (found.map z03)∧Near es left id seen found []∧Below w.heap.size w w':=by
 obtain⟨W0,hW0,hb0,hQ0⟩:=bxN w #[.map (some bk),.map (some bt)] 234
 obtain⟨F,m,D,hm,hV,hK⟩:=hk
 have hp3:∀ k,(evOf es k).prev.length≤3:=fun k=>by
  unfold evOf
  cases hf:zf es k with
  | none=>simp
  | some e=>exact hprev e (z2h hf).1
 have hmm:(Instr.makeMap 179 none).run Tryz.prog W0=.ok (.map (some W0.heap.size)) (W0.alloc (.map #[] 0)):=by
  simp[Instr.makeMap,Sem.run_bind,run_underlying Tryz.underlying179 W0,asInt,Result.andThen,newObj]
  try rfl
 have hbm:=(Below.refl W0.heap.size W0).alloc zLe (.map #[] 0)
 obtain⟨W1,hW1⟩:∃ W1,W0.alloc (.map #[] 0)=W1:=⟨_,rfl⟩
 have AX:=ZZ (z8x W0)
 rw[hW1] at hbm hmm AX
 have hlq:=ze hQ0
 have HV:=ZZ (fun W (h:Below W0.heap.size W0 W)=>(hV.below hb0).below h)
 have HT:=ZZ (fun W (h:Below W0.heap.size W0 W)=>(ht.below hb0).below h)
 obtain⟨xl,ya,yc,hval,hya⟩:=hK.val id
 have hg1:(Instr.lookup 231 (.map (some bk)) (J Y id) false).run Tryz.prog W1=.ok (evv (evOf es id) xl (.slice ya (evOf es id).prev.length yc)) W1:=by
  rw[← hval]
  exact (HV.o W1 hbm).get Tryz.underlying231 (Tryz.zeroValue62 _) hid
 have q0:=zb ((hbm.block _ hlq).trans hQ0) 0 rfl
 have q1:=zb ((hbm.block _ hlq).trans hQ0) 1 rfl
 have hyw:∀ W,Below W0.heap.size W0 W→Below w0.heap.size w0 W:=fun W h=>(zTr h0 hb0).trans (h.mono (zNt h0.size hb0.size))
 have Kr:=ZZ hyw
 have Bz:=ZZ (zdq ya (evOf es id).prev.length yc (evOf es id).prev (by have:=hp3 id;omega) W1 (hya.below (hyw W1 hbm)))
 have Eh:=ZZ hQ0
 have HB0:=ZZ hb0
 have GX:=ZZ hbm
 have HW0:=ZZ hW0
 have GK:=ZZ hp3
 have Le:=ZZ hK
 have DD:=ZZ hya.fits
 have Cr:=ZZ hT
 clear hb0 hQ0 hW0 hW1 hbm hV ht hprev hm h0 hK hya hyw hp3 hT hval
 have hf7:=fun wx=>zdl (evOf es id) xl (.slice ya (evOf es id).prev.length yc) wx
 go_enter Tryz.func228,Tryz.ntmps228
 go_upto_region 1 with fail
 rw[HW0.o]
 clear HW0
 go_upto_region 4 with (go_at_call 222;(with_reducible refine Bz.o.mono ?_);rintro r w2 ⟨v2,rfl,ho2,hb2⟩;obtain⟨o2,c2,rfl⟩:=zi ho2)
 have hs1:=GX.o.size
 obtain⟨B,hBd⟩:∃ B,W0.heap.size=B:=⟨_,rfl⟩
 rw[hBd] at GX HV HT Kr AX hmm hlq hs1 ⊢
 have HST:=ZZ (show NhSt W0 w2 B B (.slice none 0 0) (.slice o2 (evOf es id).prev.length c2) [] (evOf es id).prev (fun _=>none) 0 from ⟨World.ownsRow_nil _ _ _ _,zu ho2 hs1,(fun q h1=>by cases h1),⟨0,_,Nat.le_refl _,AX.o.below hb2⟩,GX.o.trans (hb2.mono hs1),zNt hs1 hb2.size,Nat.le_refl _⟩)
 have Kt:=ZZ hBd
 clear hBd ho2 hb2 q0 q1 hg1 Bz GX AX hmm hs1
 go_loopw [5,7] (fun va vo wr=>∃ (found op seen:Zin) (S:Int→Option Value) (P:Nat),(∃ o1 c1,va=.slice o1 found.length c1)∧(∃ o3 c3,vo=.slice o3 op.length c3)∧Near es left id seen found op∧SeenF S seen P∧P+4 * unseen es seen+op.length≤1000∧(∀ z∈op,(Lit.int .i64 z).wf=true)∧found.length≤P∧NhSt W0 wr B B va vo found op S P) (fun _ vo wr=>4 * (1001 - mapN wr B)+lenS vo)
 case atStart=>exact⟨[],(evOf es id).prev,[],fun _=>none,0,⟨none,0,rfl⟩,⟨o2,c2,rfl⟩,Near.start es left id,fun x=>by simp,(by have h1:=GK.o id;have h2:unseen es []≤es.length:=(by unfold unseen;exact zNt (List.length_filter_le _ _) (by simp));omega),DD.o,Nat.le_refl _,HST.o⟩
 case round =>
  obtain⟨found,op,seen,S,P,⟨o1,c1,rfl⟩,⟨o3,c3,rfl⟩,hN,hS,hP,hwf,hfl,hst⟩:=hrel
  have HN:=ZZ hN
  have EM:=ZZ hS
  have HST:=ZZ hst
  have Bv:=ZZ hwf
  clear hN hS hst hwf
  rcases List.eq_nil_or_concat op with hop|⟨op',x,hop⟩
  ·subst hop
   go_wp2_with fail
   go_ret
   exact⟨_,found,seen,rfl,zu HST.o.fr (by rw[← Kt.o];exact HB0.o.size),HN.o,HB0.o.trans (HST.o.bl.mono (by have:=HB0.o.size;have:=Kt.o;omega))⟩
  ·rw[List.concat_eq_append] at hop
   subst hop
   obtain⟨n,hn⟩:∃ n,op'.length=n:=⟨_,rfl⟩
   have hln:(op'++[x]).length=n+1:=by simp[hn]
   rw[hln] at HST hP ⊢
   have hro:=HST.o.orow
   rw[hln] at hro
   obtain⟨g,rfl⟩:∃ g,o3=some ⟨g,0,none⟩:=by
    rcases hro.2 with ⟨q,_⟩|⟨g,cap,cur,q,_⟩
    ·cases q
    ·cases q;exact⟨g,rfl⟩
   have hcap:n+1≤c3:=by
    rcases hro.2 with ⟨q,_⟩|⟨_,_,_,q,_,_,h3,_⟩
    ·cases q
    ·cases q;exact h3
   have hc1:(n:Int)≤(c3:Int):=by omega
   have AY:=ZZ (HST.o.cut hn)
   have hwx:=Bv.o x (List.mem_append.2 (.inr (by simp)))
   obtain⟨_,_,heo,hi3⟩:=z6z hro Bv.o
   cases heo
   obtain⟨z,bz,q,hz,hidx,hbz,e0,hwz⟩:=hi3.get Tryz.underlying60 z0f n (by omega)
   have hzx:z=x:=by
    rw[List.getElem?_append_right (by omega),hn,Nat.sub_self] at hz
    simpa using hz.symm
   subst hzx
   have hw1:IntKind.i64.wrap ((n:Int)+1 - 1)=(n:Int):=by rw[IntKind.wrap_i64];omega
   obtain⟨m,D,hm,hV⟩:=HST.o.tab
   have hgs:=hV.get Tryz.underlying179 (Tryz.zeroValue3 _) hwx
   have hown1:=hV.own
   have hkey:=keyI hwx
   have EN:=ZZ hV
   have hcnt:=hV.count
   have hss:=EM.o z
   clear hV hi3 hro hz
   have k0:=zb Eh.o 0 rfl
   have k1:=zb Eh.o 1 rfl
   obtain⟨xl4,ya4,yc4,hval4,hya4⟩:=Le.o.val z
   have hf74:=fun wx=>zdl (evOf es z) xl4 (.slice ya4 (evOf es z).prev.length yc4) wx
   have hp4:=GK.o z
   have hwf':∀ y∈op',(Lit.int .i64 y).wf=true:=fun y hy=>Bv.o y (List.mem_append.2 (.inl hy))
   have JC:=ZZ hwf'
   clear hwf' Bv
   cases hSx:S z with
   | some v =>
    rw[hSx] at hss
    obtain⟨c,rfl,hc1',hc2,hcs⟩:=hss
    rw[hSx] at hgs
    simp only[Option.getD_some] at hgs
    have hw2:IntKind.i64.wrap (c+1)=c+1:=by rw[IntKind.wrap_i64];omega
    have g2:(1:Int)<c+1:=by omega
    go_wp2_with (at_mapUpdate;refine wpList_mapUpdate_in _ rfl _ _ _ 179 rfl 3 3 (Maps.int_keyed Tryz.underlying3) Tryz.underlying179 z1z B m D rfl hown1 (by unfold maxLen;omega) _ _ (.int .i64 z) rfl rfl hkey (.held (.int .i64 (c+1))) [] rfl ?_;intro w3 hown3 hturn3;have Ap:=ZZ (AY.o.saw hwx hm EN.o hown3 hturn3);obtain⟨m3,D3,hm3,hV3⟩:=Ap.o.tab;have hget3:=hV3.get Tryz.underlying179 (Tryz.zeroValue3 _) hwx;rw[z14] at hget3;simp only[Option.getD_some] at hget3;have hV3':=EN.o.store hwx hown3;have hcnt3:=hV3'.count;have u0:=(Ap.o.bl.cell hlq).trans k0;have u1:=(Ap.o.bl.cell hlq).trans k1;have hTk:=(HT.o w3 Ap.o.bl).look Tryz.underlying232 (Tryz.zeroValue240 _) hwx;have hFk:(Instr.lookup 231 (.map (some bk)) (.int .i64 z) false).run Tryz.prog w3=.ok (evv (evOf es z) xl4 (.slice ya4 (evOf es z).prev.length yc4)) w3:=(by rw[← hval4];exact (HV.o w3 Ap.o.bl).get Tryz.underlying231 (Tryz.zeroValue62 _) hwx))
    go_roundw
    case rel=>exact⟨found,op',seen,_,P+1,⟨o1,c1,rfl⟩,⟨some ⟨g,0,none⟩,c3,by rw[hn]⟩,HN.o.skip hcs,EM.o.again hcs hc1' hc2,by omega,JC.o,by omega,Ap.o⟩
    case measure=>rw[hcnt3,hcnt,hSx];simp[lenS]
   | none =>
    rw[hSx] at hss hgs
    simp only[Option.getD_none] at hgs
    have g2:¬ (1:Int)<1:=by omega
    have Lf:=ZZ (zdj es seen z)
    cases hTz:T z with
    | some pv =>
     have hzl:z∈left:=(Cr.o z).1 (by rw[hTz];rfl)
     have Ej:=ZZ (show known es z→unseen es (z::seen)<unseen es seen from fun hk=>zdk hk hss)
     go_wp2_with (first
      | (at_mapUpdate;refine wpList_mapUpdate_in _ rfl _ _ _ 179 rfl 3 3 (Maps.int_keyed Tryz.underlying3) Tryz.underlying179 z1z B m D rfl hown1 (by unfold maxLen;omega) _ _ (.int .i64 z) rfl rfl hkey (.held (.int .i64 1)) [] rfl ?_;intro w3 hown3 hturn3;have Ap:=ZZ (AY.o.saw hwx hm EN.o hown3 hturn3);obtain⟨m3,D3,hm3,hV3⟩:=Ap.o.tab;have hget3:=hV3.get Tryz.underlying179 (Tryz.zeroValue3 _) hwx;rw[z14] at hget3;simp only[Option.getD_some] at hget3;have hV3':=EN.o.store hwx hown3;have hcnt3:=hV3'.count;have u0:=(Ap.o.bl.cell hlq).trans k0;have u1:=(Ap.o.bl.cell hlq).trans k1;have hTk:=(HT.o w3 Ap.o.bl).look Tryz.underlying232 (Tryz.zeroValue240 _) hwx;have hFk:(Instr.lookup 231 (.map (some bk)) (.int .i64 z) false).run Tryz.prog w3=.ok (evv (evOf es z) xl4 (.slice ya4 (evOf es z).prev.length yc4)) w3:=(by rw[← hval4];exact (HV.o w3 Ap.o.bl).get Tryz.underlying231 (Tryz.zeroValue62 _) hwx);rw[hTz] at hTk;simp only[Option.getD_some,Option.isSome_some] at hTk;have hfr3:=Ap.o.fr)
      | (at_builtin;refine z1n (cs:=#[J Y z]) rfl _ _ 60 rfl (by decide) Tryz.underlying60 z1u rfl rfl hfr3 rfl rfl (by simp[Value.oneCell']) Ap.o.up (by unfold maxLen;omega) (by omega) ?_;intro v5 w5 ho5 hg5 hl5;obtain⟨o5,c5,rfl⟩:=zi ho5;have CL:=ZZ (Ap.o.found ho5 hg5 hl5);have hcnt5:=(Ap.o.foundV hg5 hV3').count))
     go_roundw
     case rel=>exact⟨found++[z],op',z::seen,_,P+1,⟨o5,c5,by rw[z0p]⟩,⟨some ⟨g,0,none⟩,c3,by rw[hn]⟩,HN.o.wait hss hzl,EM.o.new,by have:=Lf.o;omega,JC.o,by rw[z0p];omega,CL.o⟩
     case measure=>rw[hcnt5,hcnt,hSx];simp[lenS];omega
    | none =>
     have hzl:z ∉ left:=fun q=>by have:=(Cr.o z).2 q;rw[hTz] at this;cases this
     have Ej:=ZZ (show 4 * unseen es (z::seen)+(evOf es z).prev.length≤4 * unseen es seen from by
      by_cases hk:known es z
      ·have:=zdk hk hss;omega
      ·have he:(evOf es z).prev=[]:=by
        unfold evOf
        cases hf:zf es z with
        | none=>rfl
        | some e=>exact absurd (by simp[P16.known,hf]) hk
       have:=zdj es seen z
       rw[he]
       simp
       omega)
     have JD:=ZZ hya4.fits
     go_wp2_with (first
      | (at_mapUpdate;refine wpList_mapUpdate_in _ rfl _ _ _ 179 rfl 3 3 (Maps.int_keyed Tryz.underlying3) Tryz.underlying179 z1z B m D rfl hown1 (by unfold maxLen;omega) _ _ (.int .i64 z) rfl rfl hkey (.held (.int .i64 1)) [] rfl ?_;intro w3 hown3 hturn3;have Ap:=ZZ (AY.o.saw hwx hm EN.o hown3 hturn3);obtain⟨m3,D3,hm3,hV3⟩:=Ap.o.tab;have hget3:=hV3.get Tryz.underlying179 (Tryz.zeroValue3 _) hwx;rw[z14] at hget3;simp only[Option.getD_some] at hget3;have hV3':=EN.o.store hwx hown3;have hcnt3:=hV3'.count;have u0:=(Ap.o.bl.cell hlq).trans k0;have u1:=(Ap.o.bl.cell hlq).trans k1;have hTk:=(HT.o w3 Ap.o.bl).look Tryz.underlying232 (Tryz.zeroValue240 _) hwx;have hFk:(Instr.lookup 231 (.map (some bk)) (.int .i64 z) false).run Tryz.prog w3=.ok (evv (evOf es z) xl4 (.slice ya4 (evOf es z).prev.length yc4)) w3:=(by rw[← hval4];exact (HV.o w3 Ap.o.bl).get Tryz.underlying231 (Tryz.zeroValue62 _) hwx);rw[hTz] at hTk;simp only[Option.getD_none,Option.isSome_none] at hTk;have hor3:=Ap.o.orow;rw[hn] at hor3;have hya3:=hya4.below (Kr.o w3 Ap.o.bl))
      | (at_builtin;refine z8p rfl _ _ rfl rfl hor3 rfl hya3 Ap.o.up (by unfold maxLen;omega) (by omega) ?_;intro v5 w5 ho5 hg5 hl5;obtain⟨o5,c5,rfl⟩:=zi ho5;have CL:=ZZ (Ap.o.opened (zs:=(evOf es z).prev) (by rw[hn];exact ho5) hg5 hl5);have hcnt5:=(Ap.o.openedV hg5 hV3').count))
     go_roundw
     case rel=>exact⟨found,op'++(evOf es z).prev,z::seen,_,P+1,⟨o1,c1,rfl⟩,⟨o5,c5,by rw[List.length_append,hn]⟩,HN.o.on hss hzl,EM.o.new,by rw[List.length_append];have:=Ej.o;omega,(fun y hy=>by
      rcases List.mem_append.1 hy with q|q
      ·exact JC.o y q
      ·exact JD.o y q),by omega,CL.o⟩
     case measure=>rw[hcnt5,hcnt,hSx];simp[lenS];omega

end Go.Proofs.YtfeebdcmlnapiaaGreat
