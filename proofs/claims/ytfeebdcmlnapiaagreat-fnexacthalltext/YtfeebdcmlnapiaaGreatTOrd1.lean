/-
  Walks.
-/
import Derived.Test.YtfeebdcmlnapiaaGreatTWalk10d
set_option linter.unusedVariables false
namespace Go.Proofs.YtfeebdcmlnapiaaGreat.P15
open P1 P9 P11 P12 P14

theorem z9p (x:Int):∀ (l:List Int),(z0b x l true).Sublist l
 | []=>by simp[z0b]
 | y::r=>by
  have ih:=z9p x r
  by_cases h:y=x
  ·simp only[z0b,h,Bool.not_true,Bool.and_false,Bool.false_eq_true,↓reduceIte,List.nil_append,Bool.true_or]
   exact ih.cons _
  ·simp only[z0b,h,Bool.not_true,Bool.and_false,Bool.false_eq_true,↓reduceIte,List.nil_append,Bool.true_or,List.cons_append]
   exact ih.cons_cons _

theorem zez (x:Int):∀ (l:List Int),l.Pairwise (·<·)→(z0b x l false).Pairwise (·<·)
 | [],_=>by simp[z0b]
 | y::r,h=>by
  rw[List.pairwise_cons] at h
  have h1:=h.2.sublist (z9p x r)
  have h2:=zez x r h.2
  have h3:∀ z∈z0b x r true,y<z:=fun z hz=>h.1 z ((z9p x r).mem hz)
  by_cases hxy:x≤y
  ·by_cases e:y=x
   ·subst e
    have e1:z0b y (y::r) false=y::z0b y r true:=by simp[z0b]
    rw[e1,List.pairwise_cons]
    exact⟨h3,h1⟩
   ·have e1:z0b x (y::r) false=x::y::z0b x r true:=by simp[z0b,hxy,e]
    rw[e1,List.pairwise_cons,List.pairwise_cons]
    refine⟨fun z hz=>?_,h3,h1⟩
    rcases List.mem_cons.1 hz with q|q
    ·omega
    ·have:=h3 z q
     omega
  ·have e:¬ y=x:=by omega
   have e1:z0b x (y::r) false=y::z0b x r false:=by simp[z0b,hxy,e]
   rw[e1,List.pairwise_cons]
   refine⟨fun z hz=>?_,h2⟩
   rcases (z7o x z r false).1 hz with q|q
   ·exact h.1 z q.1
   ·omega

theorem znj {l:List Int} (h:l.Pairwise (·<·)) (x:Int):(addI l x).Pairwise (·<·):=zez x l h

theorem zk3:∀ {l m:List Int},l.Pairwise (·<·)→m.Pairwise (·<·)→(∀ z,z∈l↔z∈m)→l=m
 | [],[],_,_,_=>rfl
 | [],b::m,_,_,h=>absurd ((h b).2 List.mem_cons_self) (by simp)
 | a::l,[],_,_,h=>absurd ((h a).1 List.mem_cons_self) (by simp)
 | a::l,b::m,hl,hm,h=>by
  rw[List.pairwise_cons] at hl hm
  have e:a=b:=by
   rcases List.mem_cons.1 ((h a).1 List.mem_cons_self) with q|q
   ·exact q
   ·rcases List.mem_cons.1 ((h b).2 List.mem_cons_self) with p|p
    ·exact p.symm
    ·have:=hm.1 a q
     have:=hl.1 b p
     omega
  subst e
  congr 1
  refine zk3 hl.2 hm.2 (fun z=>⟨fun q=>?_,fun q=>?_⟩)
  ·rcases List.mem_cons.1 ((h z).1 (List.mem_cons_of_mem _ q)) with p|p
   ·have:=hl.1 z q
    omega
   ·exact p
  ·rcases List.mem_cons.1 ((h z).2 (List.mem_cons_of_mem _ q)) with p|p
   ·have:=hm.1 z q
    omega
   ·exact p

theorem zd4 {es:List EvV}:∀ (ids:List Int) {l:List Int},l.Pairwise (·<·)→(leftOf es ids l).Pairwise (·<·)
 | [],_,h=>h
 | z::r,l,h=>by
  unfold leftOf
  refine zd4 r ?_
  split
  ·exact znj h z
  ·exact h

theorem zbh {es:List EvV} {x:Int}:∀ (ids:List Int) {l:List Int},x∈leftOf es ids l↔x∈l∨(x∈ids∧(zf es x).isSome=true)
 | [],l=>by simp[leftOf]
 | z::r,l=>by
  unfold leftOf
  rw[zbh r]
  by_cases h:(zf es z).isSome=true
  ·rw[if_pos h,addI_mem,List.mem_cons]
   constructor
   ·rintro ((q|q)|q)
    ·exact .inl q
    ·exact .inr ⟨.inl q,by rw[q];exact h⟩
    ·exact .inr ⟨.inr q.1,q.2⟩
   ·rintro (q|⟨q|q,q2⟩)
    ·exact .inl (.inl q)
    ·exact .inl (.inr q)
    ·exact .inr ⟨q,q2⟩
  ·rw[if_neg h,List.mem_cons]
   constructor
   ·rintro (q|q)
    ·exact .inl q
    ·exact .inr ⟨.inr q.1,q.2⟩
   ·rintro (q|⟨q|q,q2⟩)
    ·exact .inl q
    ·rw[q] at q2;exact absurd q2 h
    ·exact .inr ⟨q,q2⟩

theorem left_mem {es:List EvV} {ids:List Int} {x:Int}:x∈leftOf es ids []↔x∈ids∧(zf es x).isSome=true:=by
 rw[zbh];simp

theorem zcf (es:List EvV) (ids:List Int):(leftOf es ids []).Pairwise (·<·):=zd4 ids List.Pairwise.nil

theorem zbi (es:List EvV) (ids:List Int):(leftOf es ids []).Nodup:=(zcf es ids).imp (fun h=>by omega)

theorem zf0 (es:List EvV) (ids:List Int):(leftOf es ids []).length≤es.length:=by
 have:=z2v (zbi es ids) (m:=es.map (·.id)) (fun z hz=>evFind_isSome.1 (left_mem.1 hz).2)
 simpa using this

theorem z90 {ss:List St} {k:Int}:z4r ss k=true↔∃ s∈ss,∃ x∈s,x.1=k:=by
 unfold z4r
 simp only[List.any_eq_true,decide_eq_true_eq]

theorem z5h {ss:List St} (hne:ss≠[]) {k:Int}:alike ss k=true↔∀ s∈ss,∀ t∈ss,stAt s k=stAt t k:=by
 obtain⟨a,r,rfl⟩:=List.exists_cons_of_ne_nil hne
 unfold alike
 simp only[List.all_eq_true,List.headD_cons]
 constructor
 ·intro h s hs t ht
  rw[of_decide_eq_true (h s hs),of_decide_eq_true (h t ht)]
 ·intro h s hs
  exact decide_eq_true (h s hs a List.mem_cons_self)

theorem z92 {ss:List St} {k:Int}:k∈keysOf ss↔0≤k∧k≤15∧z4r ss k=true:=by
 constructor
 ·exact z5f
 ·rintro ⟨h1,h2,h3⟩
  unfold keysOf z1c
  rw[List.mem_filter,List.mem_map]
  exact⟨⟨k.toNat,List.mem_range.2 (by omega),by omega⟩,h3⟩

theorem zd5 (ss:List St):(keysOf ss).Pairwise (·<·):=by
 unfold keysOf z1c
 refine List.Pairwise.filter _ ?_
 rw[List.pairwise_map]
 exact List.Pairwise.imp (fun h=>by omega) (List.pairwise_lt_range (n:=16))

section
variable {ss ts:List St}

theorem idsOf_mem {ks:List Int} {z:Int}:z∈z0g ss ks↔∃ s∈ss,∃ k∈ks,stAt s k=z∧z≠0:=by
 unfold z0g
 simp only[List.mem_flatMap,List.mem_filter,List.mem_map,Bool.not_eq_true',decide_eq_false_iff_not]
 constructor
 ·rintro ⟨s,hs,⟨k,hk,e⟩,hz⟩
  exact⟨s,hs,k,hk,e,hz⟩
 ·rintro ⟨s,hs,k,hk,e,hz⟩
  exact⟨s,hs,⟨k,hk,e⟩,hz⟩

def zhk (es:List EvV) (ss:List St):St:=(order es (agreed ss) (z0g ss (clash ss))).foldl (tell es) (agreed ss)

theorem resolve_many (es:List EvV) (h:2≤ss.length):resolve es ss=zhk es ss:=by
 match ss,h with
 | s::t::r,_=>rfl

end

theorem zd6:∀ {s:St} {p:Option Int},zt p s=true→(s.map (·.1)).Pairwise (·<·)
 | [],_,_=>List.Pairwise.nil
 | x::r,p,h=>by
  unfold zt at h
  simp only[Bool.and_eq_true] at h
  rw[List.map_cons,List.pairwise_cons]
  refine⟨fun z hz=>?_,zd6 h.2⟩
  obtain⟨y,hy,rfl⟩:=List.mem_map.1 hz
  have:=z3h h.2 y hy
  simpa [after] using this

theorem znk {s:St} {p:Option Int} (h:zt p s=true):s=(s.map (·.1)).map (fun k=>(k,stAt s k)):=by
 rw[List.map_map]
 conv=>lhs;rw[← List.map_id s]
 refine List.map_congr_left (fun x hx=>?_)
 simp only[id_eq,Function.comp]
 rw[zat h x hx]

theorem zik {s:St} {ss:List St} (hok:stOk s=true) (hne:ss≠[]) (h:∀ t∈ss,t=s):agreed ss=s:=by
 rw[z1g] at hok
 have hmem:s∈ss:=by
  obtain⟨a,r,rfl⟩:=List.exists_cons_of_ne_nil hne
  rw[h a List.mem_cons_self]
  exact List.mem_cons_self
 have hal:∀ k,alike ss k=true:=fun k=>(z5h hne).2 (fun a ha b hb=>by rw[h a ha,h b hb])
 have hk:keysOf ss=s.map (·.1):=by
  refine zk3 (zd5 ss) (zd6 hok) (fun z=>?_)
  rw[z92,z90,List.mem_map]
  constructor
  ·rintro ⟨_,_,t,ht,x,hx,e⟩
   rw[h t ht] at hx
   exact⟨x,hx,e⟩
  ·rintro ⟨x,hx,e⟩
   have:=z1x (stFrom_mem hok x hx).1
   exact⟨by omega,by omega,s,hmem,x,hx,e⟩
 have hd:ss.headD []=s:=by
  obtain⟨a,r,rfl⟩:=List.exists_cons_of_ne_nil hne
  exact h a List.mem_cons_self
 unfold agreed
 rw[hk,hd,List.filter_eq_self.2 (fun k _=>hal k)]
 exact (znk hok).symm

theorem zk4 {s:St} {ss:List St} (hne:ss≠[]) (h:∀ t∈ss,t=s):clash ss=[]:=by
 unfold clash
 rw[List.filter_eq_nil_iff]
 intro k _
 rw[(z5h hne).2 (fun a ha b hb=>by rw[h a ha,h b hb])]
 simp

theorem zk5 (es:List EvV) (s:St):order es s []=[]:=by
 unfold order leftOf
 simp[z0r]

theorem zk6 (ss:List St):z0g ss []=[]:=by
 unfold z0g
 simp

theorem zf1 {es:List EvV} {s:St} {ss:List St} (hok:stOk s=true) (hne:ss≠[]) (h:∀ t∈ss,t=s):resolve es ss=s:=by
 match ss,hne with
 | [a],_=>exact h a List.mem_cons_self
 | a::b::r,_ =>
  rw[resolve_many es (by simp)]
  unfold zhk
  rw[zk4 (by simp) h,zk6,zk5,zik hok (by simp) h]
  rfl

theorem zau {s:St} {k:Int} (hok:stOk s=true):stAt s k≠0↔∃ x∈s,x.1=k:=by
 rw[z1g] at hok
 constructor
 ·intro h
  by_cases hx:∃ x∈s,x.1=k
  ·exact hx
  ·exfalso
   apply h
   clear h hok
   induction s with
   | nil=>rfl
   | cons y r ih =>
    unfold stAt
    rw[if_neg (fun e=>hx ⟨y,List.mem_cons_self,e⟩)]
    exact ih (fun ⟨x,h1,h2⟩=>hx ⟨x,List.mem_cons_of_mem _ h1,h2⟩)
 ·rintro ⟨x,hx,rfl⟩
  rw[zat hok x hx]
  have:=(stFrom_mem hok x hx).2
  simp[inR] at this
  omega

theorem z9q {ss:List St} (hne:ss≠[]) (hok:∀ s∈ss,stOk s=true) {k i:Int}:(k,i)∈agreed ss↔i≠0∧∀ s∈ss,stAt s k=i:=by
 obtain⟨a,r,rfl⟩:=List.exists_cons_of_ne_nil hne
 unfold agreed
 rw[List.mem_map]
 simp only[List.mem_filter,z92,z90,List.headD_cons,Prod.mk.injEq]
 constructor
 ·rintro ⟨k',⟨⟨_,_,s,hs,x,hx,e⟩,hal⟩,rfl,rfl⟩
  have hal':=(z5h (by simp)).1 hal
  refine⟨?_,fun t ht=>hal' t ht a List.mem_cons_self⟩
  rw[← hal' s hs a List.mem_cons_self]
  exact (zau (hok s hs)).2 ⟨x,hx,e⟩
 ·rintro ⟨hi,hall⟩
  have ha:=hall a List.mem_cons_self
  obtain⟨x,hx,e⟩:=(zau (hok a List.mem_cons_self)).1 (by rw[ha];exact hi)
  have hkk:=z1x (stFrom_mem (by have:=hok a List.mem_cons_self;rwa [z1g] at this) x hx).1
  refine⟨k,⟨⟨by omega,by omega,a,List.mem_cons_self,x,hx,e⟩,?_⟩,rfl,ha⟩
  exact (z5h (by simp)).2 (fun s hs t ht=>by rw[hall s hs,hall t ht])

theorem zk7 {ss:List St} (hne:ss≠[]) (hok:∀ s∈ss,stOk s=true) {k:Int}:k∈clash ss↔(∃ s∈ss,∃ x∈s,x.1=k)∧¬ ∃ i,(k,i)∈agreed ss:=by
 unfold clash
 rw[List.mem_filter,z92,z90]
 constructor
 ·rintro ⟨⟨_,_,h⟩,hal⟩
  refine⟨h,fun ⟨i,hi⟩=>?_⟩
  have h1:=(z9q hne hok).1 hi
  have:alike ss k=true:=(z5h hne).2 (fun s hs t ht=>by rw[h1.2 s hs,h1.2 t ht])
  rw[this] at hal
  cases hal
 ·rintro ⟨⟨s,hs,x,hx,e⟩,hn⟩
  have hkk:=z1x (stFrom_mem (by have:=hok s hs;rwa [z1g] at this) x hx).1
  refine⟨⟨by omega,by omega,s,hs,x,hx,e⟩,?_⟩
  cases hal:alike ss k with
  | false=>rfl
  | true =>
   exfalso
   have h1:=(z5h hne).1 hal
   exact hn ⟨stAt s k,(z9q hne hok).2 ⟨(zau (hok s hs)).2 ⟨x,hx,e⟩,fun t ht=>h1 t ht s hs⟩⟩

theorem zm1 (ss:List St):(clash ss).Pairwise (·<·):=List.Pairwise.filter _ (zd5 ss)

end Go.Proofs.YtfeebdcmlnapiaaGreat.P15

namespace Go.Proofs.YtfeebdcmlnapiaaGreat.P16
open P1 P9 P11 P12 P14 P15

abbrev known (es:List EvV) (z:Int):Prop:=(zf es z).isSome=true

inductive Ahead (es:List EvV):Int→Int→Prop
 | one {z id:Int} (h:z∈(evOf es id).prev) (hz:known es z):Ahead es z id
 | more {z p id:Int} (h:p∈(evOf es id).prev) (hp:known es p) (hz:Ahead es z p):Ahead es z id

theorem Ahead.trans {es:List EvV} {z p id:Int} (h1:Ahead es z p) (h2:Ahead es p id):Ahead es z id:=by
 induction h2 with
 | one h hz=>exact .more h hz h1
 | more h hp hz ih=>exact .more h hp ih

theorem zil {es:List EvV} {p:List Int × List Int} {x z:Int}:z∈(z1j es p x).1↔z∈p.1∨(z=x∧known es x):=by
 unfold z1j
 cases hk:(zf es x).isSome with
 | false=>simp[P16.known,hk]
 | true =>
  cases hc:p.1.contains x with
  | true =>
   have hx:x∈p.1:=List.contains_iff_mem.1 hc
   simp only[Bool.not_true,Bool.and_false,Bool.false_eq_true,↓reduceIte]
   exact⟨.inl,fun h=>h.elim id (fun h=>by rw[h.1];exact hx)⟩
  | false =>
   simp[P16.known,hk]

theorem zgd {es:List EvV} {p:List Int × List Int} {x z:Int} (h:z∈(z1j es p x).1):z∈p.1∨z∈(z1j es p x).2:=by
 unfold z1j at h ⊢
 split
 ·rename_i hc
  rw[if_pos hc] at h
  rcases List.mem_append.1 h with h|h
  ·exact .inl h
  ·exact .inr (List.mem_append.2 (.inr h))
 ·rename_i hc
  rw[if_neg hc] at h
  exact .inl h

theorem zf2 {es:List EvV} {p:List Int × List Int} {x z:Int} (h:z∈p.2):z∈(z1j es p x).2:=by
 unfold z1j
 split
 ·exact List.mem_append.2 (.inl h)
 ·exact h

theorem z6h {es:List EvV}:∀ (zs:List Int) {p:List Int × List Int} {z:Int},z∈(z0o es p zs).1↔z∈p.1∨(z∈zs∧known es z)
 | [],p,z=>by simp[z0o]
 | x::r,p,z=>by
  have e:z0o es p (x::r)=z0o es (z1j es p x) r:=rfl
  rw[e,z6h r,zil]
  constructor
  ·rintro ((h|⟨h1,h2⟩)|⟨h1,h2⟩)
   ·exact .inl h
   ·exact .inr ⟨by rw[h1];exact List.mem_cons_self,by rw[h1];exact h2⟩
   ·exact .inr ⟨List.mem_cons_of_mem _ h1,h2⟩
  ·rintro (h|⟨h1,h2⟩)
   ·exact .inl (.inl h)
   ·rcases List.mem_cons.1 h1 with h1|h1
    ·exact .inl (.inr ⟨h1,by rw[← h1];exact h2⟩)
    ·exact .inr ⟨h1,h2⟩

theorem z6u {es:List EvV}:∀ (zs:List Int) {p:List Int × List Int} {z:Int},z∈p.2→z∈(z0o es p zs).2
 | [],p,z,h=>h
 | x::r,p,z,h=>z6u r (p:=z1j es p x) (zf2 h)

theorem zaj {es:List EvV}:∀ (zs:List Int) {p:List Int × List Int} {z:Int},z∈(z0o es p zs).1→z∈p.1∨z∈(z0o es p zs).2
 | [],p,z,h=>.inl h
 | x::r,p,z,h=>by
  rcases zaj r (p:=z1j es p x) h with h|h
  ·rcases zgd h with h|h
   ·exact .inl h
   ·exact .inr (z6u r h)
  ·exact .inr h

theorem zak {es:List EvV}:∀ (zs:List Int) {p:List Int × List Int} {z:Int},z∈(z0o es p zs).2→z∈p.2∨(z∈zs∧known es z)
 | [],p,z,h=>.inl h
 | x::r,p,z,h=>by
  rcases zak r (p:=z1j es p x) h with h|⟨h1,h2⟩
  ·unfold z1j at h
   split at h
   ·rename_i hc
    simp only[Bool.and_eq_true] at hc
    rcases List.mem_append.1 h with h|h
    ·exact .inl h
    ·simp only[List.mem_singleton] at h
     exact .inr ⟨by rw[h];exact List.mem_cons_self,by rw[h];exact hc.1⟩
   ·exact .inl h
  ·exact .inr ⟨List.mem_cons_of_mem _ h1,h2⟩

theorem zal {es:List EvV} {id:Int}:∀ (f:Nat) {out todo:List Int},(∀ z∈out,Ahead es z id)→(∀ y∈todo,y=id∨Ahead es y id)→∀ z∈z6g es f out todo,Ahead es z id
 | 0,out,todo,h1,h2,z,hz=>h1 z hz
 | f+1,out,[],h1,h2,z,hz=>h1 z hz
 | f+1,out,h::t,h1,h2,z,hz=>by
  have step:∀ p∈(evOf es h).prev,known es p→Ahead es p id:=fun p hp hk=>by
   rcases h2 h List.mem_cons_self with q|q
   ·subst q;exact .one hp hk
   ·exact Ahead.trans (.one hp hk) q
  refine zal f (fun z hz=>?_) (fun y hy=>?_) z hz
  ·rcases (z6h _).1 hz with h3|⟨h3,h4⟩
   ·exact h1 z h3
   ·exact step z h3 h4
  ·rcases zak _ hy with h3|⟨h3,h4⟩
   ·exact h2 y (List.mem_cons_of_mem _ h3)
   ·exact .inr (step y h3 h4)

theorem z9r {es:List EvV} {id:Int}:∀ (f:Nat) {out todo:List Int},BehOk es out→todo.length+es.length≤f+out.length→(∀ y,(y=id∨y∈out)→y∈todo∨∀ p∈(evOf es y).prev,known es p→p∈out)→∀ y,(y=id∨y∈z6g es f out todo)→∀ p∈(evOf es y).prev,known es p→p∈z6g es f out todo
 | 0,out,todo,hok,hf,hc,y,hy,p,hp,hk=>by
  have:=hok.len
  have ht:todo=[]:=List.eq_nil_of_length_eq_zero (by omega)
  subst ht
  rcases hc y hy with h|h
  ·cases h
  ·exact h p hp hk
 | f+1,out,[],hok,hf,hc,y,hy,p,hp,hk=>by
  rcases hc y hy with h|h
  ·cases h
  ·exact h p hp hk
 | f+1,out,h::t,hok,hf,hc,y,hy,p,hp,hk=>by
  obtain⟨h1,h2⟩:=zd0 (p:=(out,t)) (evOf es h).prev hok
  simp only[List.length_cons] at hf
  simp only at h2
  refine z9r f h1 (by omega) (fun y hy=>?_) y hy p hp hk
  by_cases hyh:y=h
  ·subst hyh
   exact .inr (fun p hp hk=>(z6h _).2 (.inr ⟨hp,hk⟩))
  ·have old:(y=id∨y∈out)→y∈(z0o es (out,t) (evOf es h).prev).2∨∀ p∈(evOf es y).prev,known es p→p∈(z0o es (out,t) (evOf es h).prev).1:=fun q=>by
    rcases hc y q with q|q
    ·rcases List.mem_cons.1 q with q|q
     ·exact absurd q hyh
     ·exact .inl (z6u _ q)
    ·exact .inr (fun p hp hk=>(z6h _).2 (.inl (q p hp hk)))
   rcases hy with hy|hy
   ·exact old (.inl hy)
   ·rcases zaj _ hy with h3|h3
    ·exact old (.inr h3)
    ·exact .inl h3

theorem behind_iff {es:List EvV} {z id:Int}:z∈behind es id↔Ahead es z id:=by
 constructor
 ·intro h
  exact zal _ (fun z hz=>by cases hz) (fun y hy=>.inl (by simpa using hy)) z h
 ·intro h
  have hcl:=z9r (es:=es) (id:=id) (es.length+2) (out:=[]) (todo:=[id]) ⟨List.nodup_nil,fun z hz=>by cases hz⟩ (by simp;omega) (fun y hy=>.inl (by
   rcases hy with hy|hy
   ·simp[hy]
   ·cases hy))
  have:∀ y,Ahead es z y→(y=id∨y∈behind es id)→z∈behind es id:=by
   intro y hy
   induction hy with
   | one h hz=>exact fun q=>hcl _ q _ h hz
   | more h hp hz ih=>exact fun q=>ih (.inr (hcl _ q _ h hp))
  exact this id h (.inl rfl)

structure Near (es:List EvV) (left:List Int) (id:Int) (seen found open_:List Int):Prop where
 nd:found.Nodup
 mem:∀ x,x∈found↔x∈seen∧x∈left
 snd:∀ x,x∈seen∨x∈open_→known es x→Ahead es x id
 top:∀ p∈(evOf es id).prev,p∈seen∨p∈open_
 cls:∀ y∈seen,y ∉ left→∀ p∈(evOf es y).prev,p∈seen∨p∈open_

theorem Near.start (es:List EvV) (left:List Int) (id:Int):Near es left id [] [] (evOf es id).prev :=
 ⟨List.nodup_nil,fun x=>by simp,fun x hx hk=>by
  rcases hx with h|h
  ·cases h
  ·exact .one h hk,fun p hp=>.inr hp,fun y hy=>by cases hy⟩

section
variable {es:List EvV} {left:List Int} {id x:Int} {seen found op:List Int}

theorem Near.skip (h:Near es left id seen found (op++[x])) (hx:x∈seen):Near es left id seen found op:=by
 refine⟨h.nd,h.mem,fun y hy hk=>h.snd y (hy.imp (fun q=>q) (fun q=>List.mem_append.2 (.inl q))) hk,fun p hp=>?_,fun y hy hn p hp=>?_⟩
 ·rcases h.top p hp with q|q
  ·exact .inl q
  ·rcases List.mem_append.1 q with q|q
   ·exact .inr q
   ·simp only[List.mem_singleton] at q;rw[q];exact .inl hx
 ·rcases h.cls y hy hn p hp with q|q
  ·exact .inl q
  ·rcases List.mem_append.1 q with q|q
   ·exact .inr q
   ·simp only[List.mem_singleton] at q;rw[q];exact .inl hx

theorem Near.wait (h:Near es left id seen found (op++[x])) (hx:x ∉ seen) (hl:x∈left):Near es left id (x::seen) (found++[x]) op:=by
 have hf:x ∉ found:=fun q=>hx ((h.mem x).1 q).1
 have mv:∀ p,p∈seen∨p∈op++[x]→p∈x::seen∨p∈op:=fun p q=>by
  rcases q with q|q
  ·exact .inl (List.mem_cons_of_mem _ q)
  ·rcases List.mem_append.1 q with q|q
   ·exact .inr q
   ·simp only[List.mem_singleton] at q;rw[q];exact .inl List.mem_cons_self
 refine⟨?_,fun y=>?_,fun y hy hk=>?_,fun p hp=>mv p (h.top p hp),fun y hy hn p hp=>?_⟩
 ·rw[List.nodup_append]
  exact⟨h.nd,by simp,fun a ha b hb=>by simp at hb;subst hb;exact fun e=>hf (e ▸ ha)⟩
 ·simp only[List.mem_append,h.mem,List.mem_cons,List.not_mem_nil,or_false]
  constructor
  ·rintro (q|q)
   ·exact⟨.inr q.1,q.2⟩
   ·exact⟨.inl q,by rw[q];exact hl⟩
  ·rintro ⟨q|q,q2⟩
   ·exact .inr q
   ·exact .inl ⟨q,q2⟩
 ·refine h.snd y ?_ hk
  rcases hy with q|q
  ·rcases List.mem_cons.1 q with q|q
   ·rw[q];exact .inr (List.mem_append.2 (.inr (by simp)))
   ·exact .inl q
  ·exact .inr (List.mem_append.2 (.inl q))
 ·rcases List.mem_cons.1 hy with q|q
  ·rw[q] at hn;exact absurd hl hn
  ·exact mv p (h.cls y q hn p hp)

theorem Near.on (h:Near es left id seen found (op++[x])) (hx:x ∉ seen) (hl:x ∉ left):Near es left id (x::seen) found (op++(evOf es x).prev):=by
 have mv:∀ p,p∈seen∨p∈op++[x]→p∈x::seen∨p∈op++(evOf es x).prev:=fun p q=>by
  rcases q with q|q
  ·exact .inl (List.mem_cons_of_mem _ q)
  ·rcases List.mem_append.1 q with q|q
   ·exact .inr (List.mem_append.2 (.inl q))
   ·simp only[List.mem_singleton] at q;rw[q];exact .inl List.mem_cons_self
 refine⟨h.nd,fun y=>?_,fun y hy hk=>?_,fun p hp=>mv p (h.top p hp),fun y hy hn p hp=>?_⟩
 ·rw[h.mem,List.mem_cons]
  constructor
  ·exact fun q=>⟨.inr q.1,q.2⟩
  ·rintro ⟨q|q,q2⟩
   ·rw[q] at q2;exact absurd q2 hl
   ·exact⟨q,q2⟩
 ·have hxx:known es x→Ahead es x id:=fun hk=>h.snd x (.inr (List.mem_append.2 (.inr (by simp)))) hk
  rcases hy with q|q
  ·rcases List.mem_cons.1 q with q|q
   ·rw[q] at hk ⊢;exact hxx hk
   ·exact h.snd y (.inl q) hk
  ·rcases List.mem_append.1 q with q|q
   ·exact h.snd y (.inr (List.mem_append.2 (.inl q))) hk
   ·have hkx:known es x:=by
     unfold evOf at q
     cases hf:zf es x with
     | none=>rw[hf] at q;cases q
     | some e=>simp[P16.known,hf]
    exact Ahead.trans (.one q hk) (hxx hkx)
 ·rcases List.mem_cons.1 hy with q|q
  ·rw[q] at hp;exact .inr (List.mem_append.2 (.inr hp))
  ·exact mv p (h.cls y q hn p hp)
end

structure z6v (es:List EvV) (left:List Int) (id:Int) (near:List Int):Prop where
 nd:near.Nodup
 sub:∀ x∈near,x∈left∧Ahead es x id
 all:∀ z∈left,Ahead es z id→∃ y∈near,z=y∨Ahead es z y

theorem Near.done {es:List EvV} {left:List Int} {id:Int} {seen found:List Int} (h:Near es left id seen found []) (hk:∀ x∈left,known es x):z6v es left id found:=by
 refine⟨h.nd,fun x hx=>?_,fun z hz ha=>?_⟩
 ·have:=(h.mem x).1 hx
  exact⟨this.2,h.snd x (.inl this.1) (hk x this.2)⟩
 ·have go:∀ y,Ahead es z y→(y=id∨(y∈seen∧y ∉ left))→∃ y∈found,z=y∨Ahead es z y:=by
   intro y hy
   have inS:∀ {y p:Int},(y=id∨(y∈seen∧y ∉ left))→p∈(evOf es y).prev→p∈seen:=fun {y p} q hp=>by
    rcases q with q|q
    ·rw[q] at hp
     exact (h.top p hp).resolve_right (by simp)
    ·exact (h.cls y q.1 q.2 p hp).resolve_right (by simp)
   induction hy with
   | one hp hk1=>exact fun q=>⟨_,(h.mem _).2 ⟨inS q hp,hz⟩,.inl rfl⟩
   | @more p id' hp hk1 hz1 ih =>
    intro q
    have hs:=inS q hp
    by_cases hl:p∈left
    ·exact⟨p,(h.mem p).2 ⟨hs,hl⟩,.inr hz1⟩
    ·exact ih (.inr ⟨hs,hl⟩)
  exact go id ha (.inl rfl)

end Go.Proofs.YtfeebdcmlnapiaaGreat.P16

namespace Go.Proofs.YtfeebdcmlnapiaaGreat.P16
open P1 P9 P11 P12 P14 P15

structure OutOk (es:List EvV) (left out:List Int):Prop where
 nd:out.Nodup
 sub:∀ x∈out,x∈left
 cl:∀ y∈out,∀ z∈left,Ahead es z y→z∈out

theorem OutOk.nil (es:List EvV) (left:List Int):OutOk es left []:=⟨List.nodup_nil,fun x hx=>(by cases hx),fun y hy=>(by cases hy)⟩

theorem ready_iff {es:List EvV} {left out:List Int} {id:Int}:ready (behind es id) left out=true↔∀ z∈left,Ahead es z id→z∈out:=by
 unfold ready
 rw[List.all_eq_true]
 constructor
 ·intro h z hz ha
  have:=h z (behind_iff.2 ha)
  simp only[Bool.or_eq_true,Bool.not_eq_true',List.contains_iff_mem] at this
  rcases this with q|q
  ·rw[← List.contains_iff_mem,q] at hz
   cases hz
  ·exact q
 ·intro h z hz
  simp only[Bool.or_eq_true,Bool.not_eq_true',List.contains_iff_mem]
  by_cases hl:z∈left
  ·exact .inr (h z hl (behind_iff.1 hz))
  ·refine .inl ?_
   rw[Bool.eq_false_iff]
   exact fun q=>hl (List.contains_iff_mem.1 q)

theorem z2w {es:List EvV} {left out near:List Int} {id:Int} (ho:OutOk es left out) (hn:z6v es left id near):ready (behind es id) left out=true↔∀ y∈near,y∈out:=by
 rw[ready_iff]
 constructor
 ·exact fun h y hy=>h y (hn.sub y hy).1 (hn.sub y hy).2
 ·intro h z hz ha
  obtain⟨y,hy,q|q⟩:=hn.all z hz ha
  ·rw[q];exact h y hy
  ·exact ho.cl y (h y hy) z hz q

def z0u (es:List EvV) (left out:List Int):List Int:=left.filter (fun z=>!(out.contains z||!ready (behind es z) left out))

theorem freeL_mem {es:List EvV} {left out:List Int} {z:Int}:z∈z0u es left out↔z∈left∧z ∉ out∧ready (behind es z) left out=true:=by
 unfold z0u
 rw[List.mem_filter]
 simp only[Bool.not_or,Bool.not_not,Bool.and_eq_true,Bool.not_eq_true']
 constructor
 ·rintro ⟨h1,h2,h3⟩
  exact⟨h1,(fun q=>by rw[← List.contains_iff_mem,h2] at q;cases q),h3⟩
 ·rintro ⟨h1,h2,h3⟩
  exact⟨h1,(by rw[Bool.eq_false_iff];exact fun q=>h2 (List.contains_iff_mem.1 q)),h3⟩

def upd (es:List EvV) (s:St) (b:Option EvV) (z:Int):Option EvV:=match b with
 | none=>some (evOf es z)
 | some y=>if z0k es s (evOf es z) y then some (evOf es z) else some y

theorem z4u (es:List EvV) (s:St) (left out:List Int):∀ (l:List Int) (b:Option EvV),z0m es s left out l b=(l.filter (fun z=>!(out.contains z||!ready (behind es z) left out))).foldl (upd es s) b
 | [],b=>rfl
 | z::r,b=>by
  unfold z0m
  rw[List.filter_cons]
  cases h:(out.contains z||!ready (behind es z) left out) with
  | true=>simp only[↓reduceIte,Bool.not_true,Bool.false_eq_true];exact z4u es s left out r b
  | false =>
   simp only[Bool.false_eq_true,↓reduceIte,Bool.not_false,List.foldl_cons]
   exact z4u es s left out r _

theorem z9s {es:List EvV} {s:St} {a b:EvV} (h:z0k es s a b=true):z0k es s b a=false:=by
 unfold z0k at h ⊢
 by_cases h1:heavy a=heavy b
 ·rw[if_pos h1] at h
  rw[if_pos h1.symm]
  by_cases h2:z0e es s a.sender=z0e es s b.sender
  ·rw[if_pos h2] at h
   rw[if_pos h2.symm]
   by_cases h3:a.depth=b.depth
   ·rw[if_pos h3] at h
    rw[if_pos h3.symm]
    simp only[decide_eq_true_eq] at h
    simp only[decide_eq_false_iff_not]
    omega
   ·rw[if_neg h3] at h
    rw[if_neg (fun q=>h3 q.symm)]
    simp only[decide_eq_true_eq] at h
    simp only[decide_eq_false_iff_not]
    omega
  ·rw[if_neg h2] at h
   rw[if_neg (fun q=>h2 q.symm)]
   simp only[decide_eq_true_eq] at h
   simp only[decide_eq_false_iff_not]
   omega
 ·rw[if_neg h1] at h
  rw[if_neg (fun q=>h1 q.symm)]
  cases hb:heavy b with
  | false=>rfl
  | true=>rw[h,hb] at h1;exact absurd rfl h1

theorem zdv {es:List EvV} {s:St} {a b:EvV} (hne:a.id≠b.id) (h:z0k es s a b=false):z0k es s b a=true:=by
 unfold z0k at h ⊢
 by_cases h1:heavy a=heavy b
 ·rw[if_pos h1] at h
  rw[if_pos h1.symm]
  by_cases h2:z0e es s a.sender=z0e es s b.sender
  ·rw[if_pos h2] at h
   rw[if_pos h2.symm]
   by_cases h3:a.depth=b.depth
   ·rw[if_pos h3] at h
    rw[if_pos h3.symm]
    simp only[decide_eq_false_iff_not] at h
    simp only[decide_eq_true_eq]
    omega
   ·rw[if_neg h3] at h
    rw[if_neg (fun q=>h3 q.symm)]
    simp only[decide_eq_false_iff_not] at h
    simp only[decide_eq_true_eq]
    omega
  ·rw[if_neg h2] at h
   rw[if_neg (fun q=>h2 q.symm)]
   simp only[decide_eq_false_iff_not] at h
   simp only[decide_eq_true_eq]
   omega
 ·rw[if_neg h1] at h
  rw[if_neg (fun q=>h1 q.symm)]
  cases hb:heavy b with
  | true=>rfl
  | false=>rw[h,hb] at h1;exact absurd rfl h1

theorem zd7 {es:List EvV} {s:St} {t:Int}:∀ (l:List Int) (b:Option EvV),(∀ y∈l,y=t∨z0k es s (evOf es t) (evOf es y)=true)→(b=none∨∃ y,b=some (evOf es y)∧(y=t∨z0k es s (evOf es t) (evOf es y)=true))→(t∈l∨b=some (evOf es t))→l.foldl (upd es s) b=some (evOf es t)
 | [],b,h1,h2,h3=>h3.resolve_left (by simp)
 | z::r,b,h1,h2,h3=>by
  rw[List.foldl_cons]
  have hz:=h1 z List.mem_cons_self
  have hself:z0k es s (evOf es t) (evOf es t)=false:=by
   cases h:z0k es s (evOf es t) (evOf es t) with
   | false=>rfl
   | true=>exact (by have:=z9s h;rw[h] at this;cases this)
  refine zd7 r _ (fun y hy=>h1 y (List.mem_cons_of_mem _ hy)) ?_ ?_
  ·right
   rcases h2 with rfl|⟨y,rfl,hy⟩
   ·exact⟨z,rfl,hz⟩
   ·simp only[upd]
    split
    ·exact⟨z,rfl,hz⟩
    ·exact⟨y,rfl,hy⟩
  ·rcases hz with rfl|hz
   ·right
    rcases h2 with rfl|⟨y,rfl,hy⟩
    ·rfl
    ·rcases hy with rfl|hy
     ·simp[upd,hself]
     ·simp[upd,hy]
   ·rcases h3 with h3|rfl
    ·rcases List.mem_cons.1 h3 with rfl|h3
     ·rw[hself] at hz;cases hz
     ·exact .inl h3
    ·right
     simp[upd,z9s hz]

theorem z8k {es:List EvV} {z:Int} (h:known es z):(evOf es z).id=z:=by
 unfold evOf
 cases hf:zf es z with
 | none=>simp[P16.known,hf] at h
 | some e=>exact (z2h hf).2

theorem zim {es:List EvV} {s:St} {left out:List Int} (f:Nat) (h:z0u es left out=[]):z0r es s left f out=out:=by
 cases f with
 | zero=>rfl
 | succ f =>
  unfold z0r
  rw[z4u]
  unfold z0u at h
  rw[h]
  simp

theorem ordGo_step {es:List EvV} {s:St} {left out:List Int} {t:Int} (f:Nat) (hk:∀ x∈left,known es x) (ho:OutOk es left out) (ht:t∈z0u es left out) (hbest:∀ y∈z0u es left out,y=t∨z0k es s (evOf es t) (evOf es y)=true):z0r es s left (f+1) out=z0r es s left f (out++[t]):=by
 obtain⟨h1,h2,h3⟩:=freeL_mem.1 ht
 have hlen:out.length<left.length:=by
  have:=z2v (l:=t::out) (m:=left) (List.nodup_cons.2 ⟨h2,ho.nd⟩) (fun z hz=>by
   rcases List.mem_cons.1 hz with q|q
   ·rw[q];exact h1
   ·exact ho.sub z q)
  simp only[List.length_cons] at this
  omega
 have hn:z0m es s left out left none=some (evOf es t):=by
  rw[z4u]
  exact zd7 _ _ hbest (.inl rfl) (.inl ht)
 show (if out.length<left.length then (match z0m es s left out left none with|none=>out|some b=>z0r es s left f (out++[b.id])) else out)=_
 rw[if_pos hlen,hn]
 simp only[z8k (hk t h1)]

theorem OutOk.next {es:List EvV} {left out:List Int} {t:Int} (ho:OutOk es left out) (ht:t∈z0u es left out):OutOk es left (out++[t]):=by
 obtain⟨h1,h2,h3⟩:=freeL_mem.1 ht
 refine⟨?_,fun x hx=>?_,fun y hy z hz ha=>?_⟩
 ·rw[List.nodup_append]
  exact⟨ho.nd,by simp,fun a ha b hb=>by simp at hb;subst hb;exact fun e=>h2 (e ▸ ha)⟩
 ·rcases List.mem_append.1 hx with q|q
  ·exact ho.sub x q
  ·simp at q;rw[q];exact h1
 ·rcases List.mem_append.1 hy with q|q
  ·exact List.mem_append.2 (.inl (ho.cl y q z hz ha))
  ·simp at q
   rw[q] at ha
   exact List.mem_append.2 (.inl (ready_iff.1 h3 z hz ha))

def z5n (near:Int→List Int) (left out:List Int) (t:Int):List Int:=(left.filter (fun b=>(near b).contains t)).filter (fun b=>(near b).all (fun y=>(out++[t]).contains y))

theorem zk8 {es:List EvV} {left out:List Int} {t:Int} {near:Int→List Int} (hnd:left.Nodup) (hn:∀ b∈left,z6v es left b (near b)) (ho:OutOk es left out) (ht:t∈z0u es left out):(z0u es left (out++[t])).Perm ((z0u es left out).erase t++z5n near left out t):=by
 have ho':=ho.next ht
 obtain⟨h1,h2,h3⟩:=freeL_mem.1 ht
 have hfn:(z0u es left out).Nodup:=hnd.filter _
 have hdn:(z5n near left out t).Nodup:=(hnd.filter _).filter _
 have hfr:∀ b,b∈z5n near left out t↔b∈left∧t∈near b∧∀ y∈near b,y∈out++[t]:=fun b=>by
  unfold z5n
  rw[List.mem_filter,List.mem_filter,List.all_eq_true]
  simp only[List.contains_iff_mem]
  constructor
  ·rintro ⟨⟨q1,q2⟩,q3⟩;exact⟨q1,q2,q3⟩
  ·rintro ⟨q1,q2,q3⟩;exact⟨⟨q1,q2⟩,q3⟩
 refine (List.perm_ext_iff_of_nodup (hnd.filter _) ?_).2 (fun b=>?_)
 ·rw[List.nodup_append]
  refine⟨hfn.erase _,hdn,fun a ha b hb e=>?_⟩
  subst e
  have ha':=(hfn.mem_erase_iff).1 ha
  obtain⟨q1,q2,q3⟩:=freeL_mem.1 ha'.2
  exact h2 ((z2w ho (hn a q1)).1 q3 t ((hfr a).1 hb).2.1)
 ·rw[List.mem_append,hfn.mem_erase_iff,hfr]
  constructor
  ·intro hb
   obtain⟨q1,q2,q3⟩:=freeL_mem.1 hb
   have hall:=(z2w ho' (hn b q1)).1 q3
   by_cases htn:t∈near b
   ·exact .inr ⟨q1,htn,hall⟩
   ·refine .inl ⟨fun e=>q2 (by rw[e];exact List.mem_append.2 (.inr (by simp))),freeL_mem.2 ⟨q1,fun q=>q2 (List.mem_append.2 (.inl q)),(z2w ho (hn b q1)).2 (fun y hy=>?_)⟩⟩
    rcases List.mem_append.1 (hall y hy) with q|q
    ·exact q
    ·simp at q;rw[q] at hy;exact absurd hy htn
  ·rintro (⟨q1,q2⟩|⟨q1,q2,q3⟩)
   ·obtain⟨p1,p2,p3⟩:=freeL_mem.1 q2
    refine freeL_mem.2 ⟨p1,fun q=>?_,(z2w ho' (hn b p1)).2 (fun y hy=>List.mem_append.2 (.inl ((z2w ho (hn b p1)).1 p3 y hy)))⟩
    rcases List.mem_append.1 q with q|q
    ·exact p2 q
    ·simp at q;exact q1 q
   ·refine freeL_mem.2 ⟨q1,fun q=>?_,(z2w ho' (hn b q1)).2 q3⟩
    rcases List.mem_append.1 q with q|q
    ·exact h2 (ho.cl b q t h1 ((hn b q1).sub t q2).2)
    ·simp at q
     rw[q] at q2
     exact h2 (((z2w ho (hn t h1)).1 h3) t q2)

def z1l (near:Int→List Int) (out:List Int) (b:Int):Nat:=((near b).filter (fun y=>!out.contains y)).length

theorem zbj {near:Int→List Int} {out:List Int} {b:Int}:z1l near out b=0↔∀ y∈near b,y∈out:=by
 unfold z1l
 rw[List.length_eq_zero_iff,List.filter_eq_nil_iff]
 constructor
 ·intro h y hy
  have:=h y hy
  simpa using this
 ·intro h y hy
  simpa using h y hy

theorem zbk {near:Int→List Int} {out:List Int} {t b:Int} (hnd:(near b).Nodup) (ht:t ∉ out):z1l near (out++[t]) b+(if (near b).contains t then 1 else 0)=z1l near out b:=by
 unfold z1l
 generalize near b=l at hnd
 induction l with
 | nil=>simp
 | cons y r ih =>
  rw[List.nodup_cons] at hnd
  have ih:=ih hnd.2
  by_cases hy:y=t
  ·subst hy
   have hc:r.contains y=false:=by rw[Bool.eq_false_iff];exact fun q=>hnd.1 (List.contains_iff_mem.1 q)
   rw[hc] at ih
   have h1:out.contains y=false:=by rw[Bool.eq_false_iff];exact fun q=>ht (List.contains_iff_mem.1 q)
   have h2:(out++[y]).contains y=true:=List.contains_iff_mem.2 (List.mem_append.2 (.inr (by simp)))
   rw[List.filter_cons,List.filter_cons,h1,h2]
   simp only[Bool.false_eq_true,↓reduceIte,Bool.not_true,Bool.not_false,List.length_cons,List.contains_cons,BEq.rfl,Bool.true_or] at ih ⊢
   omega
  ·have hc:(y::r).contains t=r.contains t:=by
    rw[List.contains_cons]
    simp[show (t==y)=false from by simp;exact fun q=>hy q.symm]
   have h2:(out++[t]).contains y=out.contains y:=by
    rw[Bool.eq_iff_iff,List.contains_iff_mem,List.contains_iff_mem,List.mem_append]
    simp[hy]
   rw[hc,List.filter_cons,List.filter_cons,h2]
   cases out.contains y<;>simp only[Bool.not_true,Bool.not_false,Bool.false_eq_true,↓reduceIte,List.length_cons]<;>omega

end Go.Proofs.YtfeebdcmlnapiaaGreat.P16

namespace Go.Proofs.YtfeebdcmlnapiaaGreat.P16
open P1 P9 P11 P12 P14 P15

theorem zd8 {es:List EvV} {s:St}:∀ (l:List Int) (b:Option EvV),(l.foldl (upd es s) b=b∧(b=none→l=[]))∨∃ t∈l,l.foldl (upd es s) b=some (evOf es t)
 | [],b=>.inl ⟨rfl,fun _=>rfl⟩
 | z::r,b=>by
  rw[List.foldl_cons]
  have h0:upd es s b z=b∧b≠none∨upd es s b z=some (evOf es z):=by
   cases b with
   | none=>exact .inr rfl
   | some y =>
    simp only[upd]
    split
    ·exact .inr rfl
    ·exact .inl ⟨rfl,by simp⟩
  rcases zd8 r (upd es s b z) with ⟨h1,h2⟩|⟨t,h1,h2⟩
  ·rcases h0 with ⟨h3,h4⟩|h3
   ·exact .inl ⟨by rw[h1,h3],fun e=>absurd e h4⟩
   ·exact .inr ⟨z,List.mem_cons_self,by rw[h1,h3]⟩
  ·exact .inr ⟨t,List.mem_cons_of_mem _ h1,h2⟩

theorem zk9 {es:List EvV} {s:St} {left out:List Int}:(z0m es s left out left none=none∧z0u es left out=[])∨∃ t∈z0u es left out,z0m es s left out left none=some (evOf es t):=by
 rw[z4u]
 rcases zd8 (es:=es) (s:=s) (z0u es left out) none with ⟨h1,h2⟩|⟨t,h1,h2⟩
 ·exact .inl ⟨h1,h2 rfl⟩
 ·exact .inr ⟨t,h1,h2⟩

def PosOk (es:List EvV) (left out:List Int):Prop:=∀ i t,out[i]? = some t→∀ z∈left,Ahead es z t→z∈out.take i

theorem PosOk.next {es:List EvV} {left out:List Int} {t:Int} (h:PosOk es left out) (ht:t∈z0u es left out):PosOk es left (out++[t]):=fun i u hu z hz ha=>by
 obtain⟨h1,h2,h3⟩:=freeL_mem.1 ht
 by_cases hi:i<out.length
 ·rw[List.getElem?_append_left hi] at hu
  have:=h i u hu z hz ha
  rw[List.take_append_of_le_length (by omega)]
  exact this
 ·rw[List.getElem?_append_right (by omega)] at hu
  have hi0:i - out.length=0:=by
   cases hq:i - out.length with
   | zero=>rfl
   | succ n=>rw[hq] at hu;simp at hu
  rw[hi0] at hu
  simp only[List.getElem?_cons_zero,Option.some.injEq] at hu
  subst hu
  have e:i=out.length:=by omega
  rw[e,List.take_left' rfl]
  exact ready_iff.1 h3 z hz ha

theorem zd9 {es:List EvV} {s:St} {left:List Int} (hk:∀ x∈left,known es x):∀ (f:Nat) (out:List Int),OutOk es left out→PosOk es left out→left.length≤f+out.length→OutOk es left (z0r es s left f out)∧PosOk es left (z0r es s left f out)∧(z0u es left (z0r es s left f out)=[]∨left.length≤(z0r es s left f out).length)
 | 0,out,h1,h2,h3=>⟨h1,h2,.inr (by simpa [z0r] using h3)⟩
 | f+1,out,h1,h2,h3=>by
  by_cases hlen:out.length<left.length
  ·rcases zk9 (es:=es) (s:=s) (left:=left) (out:=out) with ⟨q1,q2⟩|⟨t,q1,q2⟩
   ·have e:z0r es s left (f+1) out=out:=by
     show (if out.length<left.length then (match z0m es s left out left none with|none=>out|some b=>z0r es s left f (out++[b.id])) else out)=_
     rw[if_pos hlen,q1]
    rw[e]
    exact⟨h1,h2,.inl q2⟩
   ·have e:z0r es s left (f+1) out=z0r es s left f (out++[t]):=by
     show (if out.length<left.length then (match z0m es s left out left none with|none=>out|some b=>z0r es s left f (out++[b.id])) else out)=_
     rw[if_pos hlen,q2]
     simp only[z8k (hk t (freeL_mem.1 q1).1)]
    rw[e]
    exact zd9 hk f (out++[t]) (h1.next q1) (h2.next q1) (by simp;omega)
  ·have e:z0r es s left (f+1) out=out:=by
    show (if out.length<left.length then (match z0m es s left out left none with|none=>out|some b=>z0r es s left f (out++[b.id])) else out)=_
    rw[if_neg hlen]
   rw[e]
   exact⟨h1,h2,.inr (by omega)⟩

theorem zin {es:List EvV} {ids:List Int}:∀ x∈P15.leftOf es ids [],known es x:=fun x hx=>(left_mem.1 hx).2

theorem zka (es:List EvV) (s:St) (ids:List Int):OutOk es (P15.leftOf es ids []) (order es s ids)∧PosOk es (P15.leftOf es ids []) (order es s ids)∧(z0u es (P15.leftOf es ids []) (order es s ids)=[]∨(P15.leftOf es ids []).length≤(order es s ids).length) :=
 zd9 zin _ [] (OutOk.nil _ _) (fun i t h=>by simp at h) (by simp)

theorem zkb {es:List EvV} {s:St} {ids:List Int} {z:Int} (h:z∈order es s ids):z∈ids∧known es z:=left_mem.1 ((zka es s ids).1.sub z h)

end Go.Proofs.YtfeebdcmlnapiaaGreat.P16

