/-
  Walks.
-/
import Derived.Test.YtfeebdcmlnapiaaGreatTItemsArg
import Derived.Deep.DrawnRows
set_option linter.unusedVariables false
set_option linter.unusedSimpArgs false
namespace Go.Proofs.YtfeebdcmlnapiaaGreat
open Go.RowKit K
section
variable {α:Type} {k:Nat} {cf:α→Zvs}

structure RowsAt (k:Nat) (cf:α→Zvs) (w:World) (oa:Zoa) (n cap:Nat) (xs:List α):Prop where
 len:xs.length=n
 room:n≤cap
 most:cap≤maxLen
 at_:∀ (i:Nat) (x:α),xs[i]? = some x→∃ b o,oa=some ⟨b,o,none⟩∧∀ (j:Nat) u,(cf x)[j]? = some u→w.cell? ⟨b,o+i * k+j,none⟩=some u

theorem RowsAt.below {w w':World} {oa:Zoa} {n cap:Nat} {xs:List α} (h:RowsAt k cf w oa n cap xs) (hb:Bw w w'):RowsAt k cf w' oa n cap xs :=
 ⟨h.len,h.room,h.most,fun i f hf=>by
  obtain⟨b,o,ha,hc⟩:=h.at_ i f hf
  refine⟨b,o,ha,fun j u hu=>?_⟩
  have h1:=hc j u hu
  rw[hb.cell (zw h1)]
  exact h1⟩

theorem RowsAt.nil (w:World) (oa:Zoa) (cap:Nat) (hm:cap≤maxLen):RowsAt k cf w oa 0 cap [] :=
 ⟨rfl,Nat.zero_le _,hm,fun i f hf=>by simp at hf⟩

theorem RowsAt.get {w:World} {oa:Zoa} {n cap:Nat} {xs:List α} (h:RowsAt k cf w oa n cap xs) {P:Program} {t e:TypeId} (ht:P.underlying t=some (.slice e)) (hi:(P.info? e).map (·.size)=some k) (hk:∀ x,(cf x).length=k) (hp:0<k) (i:Nat) (hin:i<n) :
  ∃ x b q,xs[i]? = some x∧(∀ wx,(Instr.indexAt t (.slice oa n cap) (.int .i64 (i:Int))).run P wx=.ok (.pointer (some ⟨b,q,none⟩)) wx)∧b<w.heap.size∧∀ (j:Nat) u,(cf x)[j]? = some u→w.cell? ⟨b,q+j,none⟩=some u:=by
 obtain⟨x,hx⟩:∃ x,xs[i]? = some x:=⟨_,List.getElem?_eq_getElem (by rw[h.len];exact hin)⟩
 obtain⟨b,o,rfl,hc⟩:=h.at_ i x hx
 obtain⟨u,hu⟩:∃ u,(cf x)[0]? = some u:=⟨_,List.getElem?_eq_getElem (by rw[hk];exact hp)⟩
 exact⟨x,b,o+i * k,hx,fun wx=>run_indexAt_slice wx t e k ht hi b o n cap i hin,zw (hc 0 u hu),hc⟩

theorem y0m (hk:∀ x,(cf x).length=k) (hp:0<k) {w:World} {base:Nat} {e:TypeId} {v:Value} {n:Nat} {xs:List α} (h:w.ownsRow base e k v n (xs.flatMap cf)) :
  ∃ oa cap,v=.slice oa n cap∧RowsAt k cf w oa n cap xs:=by
 have hlen:xs.length=n:=by
  have:=h.1
  rw[z3b cf k hk] at this
  exact Nat.eq_of_mul_eq_mul_right hp this
 rcases h.2 with ⟨rfl,rfl⟩|⟨g,cap,cur,rfl,hb,hg,hnc,hcm,hcs,htake⟩
 ·have:xs=[]:=List.eq_nil_of_length_eq_zero hlen
  subst this
  exact⟨none,0,rfl,RowsAt.nil _ _ _ (by unfold maxLen;omega)⟩
 ·refine⟨some ⟨g,0,none⟩,cap,rfl,⟨hlen,hnc,hcm,fun i f hf=>⟨g,0,rfl,fun j u hu=>?_⟩⟩⟩
  have hi:i<xs.length:=(zGi.1 hf).1
  have hfe:xs[i]=f:=(zGi.1 hf).2
  have hj:j<k:=by have:=(zGi.1 hu).1;rw[hk] at this;exact this
  have h3:=flat_get cf k hk xs i j hi hj
  rw[hfe,hu] at h3
  rw[Nat.zero_add]
  have hlt:i * k+j<n * k:=by
   have h1:(i+1) * k≤n * k:=Nat.mul_le_mul_right k (by omega)
   have h2:(i+1) * k=i * k+k:=by rw[Nat.add_mul,Nat.one_mul]
   omega
  rw[h.cellAt (i * k+j) hlt,h3]

theorem z07 (hk:∀ x,(cf x).length=k) {w:World} {base:Nat} {e:TypeId} {g n cap:Nat} {xs:List α} (h:w.ownsRow base e k (.slice (some ⟨g,0,none⟩) n cap) n (xs.flatMap cf)) (i:Nat) {x:α} (hx:xs[i]? = some x) (hin:i<n) (j:Nat) {u:Value} (hu:(cf x)[j]? = some u) :
  w.cell? ⟨g,i * k+j,none⟩=some u∧w.frozen? ⟨g,i * k+j,none⟩=false:=by
 have hi:i<xs.length:=(zGi.1 hx).1
 have hfe:xs[i]=x:=(zGi.1 hx).2
 have hj:j<k:=by have:=(zGi.1 hu).1;rw[hk] at this;exact this
 have h3:=flat_get cf k hk xs i j hi hj
 rw[hfe,hu] at h3
 have hlt:i * k+j<n * k:=by
  have h1:(i+1) * k≤n * k:=Nat.mul_le_mul_right k (by omega)
  have h2:(i+1) * k=i * k+k:=by rw[Nat.add_mul,Nat.one_mul]
  omega
 exact⟨by rw[h.cellAt (i * k+j) hlt,h3],h.frozenAt _⟩

def z8h (xs:Zvs):Nat→Zvs→Zvs
 | _,[]=>xs
 | o,c::cs=>z8h (xs.set o c) (o+1) cs

theorem zb4:∀ (cs:Zvs) (xs:Zvs) (o m:Nat),o+cs.length≤xs.length→(z8h xs o cs)[m]? = if o≤m∧m<o+cs.length then cs[m - o]? else xs[m]?
 | [],xs,o,m,_=>by
  rw[z8h,if_neg (by rintro ⟨h1,h2⟩;simp only[List.length_nil] at h2;omega)]
 | c::cs,xs,o,m,h=>by
  simp only[List.length_cons] at h
  rw[z8h,zb4 cs (xs.set o c) (o+1) m (by rw[List.length_set];omega)]
  by_cases h1:o=m
  ·subst h1
   rw[if_neg (by omega),if_pos (by simp),List.getElem?_set_self (by omega)]
   simp
  ·by_cases h2:o+1≤m∧m<o+1+cs.length
   ·rw[if_pos h2,if_pos (by simp;omega)]
    have:m - o=(m - (o+1))+1:=by omega
    rw[this,List.getElem?_cons_succ]
   ·rw[if_neg h2,if_neg (by simp;omega),List.getElem?_set_ne h1]

theorem z5v (hk:∀ x,(cf x).length=k) (xs:List α) (i:Nat) (x:α) (hi:i<xs.length):z8h (xs.flatMap cf) (i * k) (cf x)=(xs.set i x).flatMap cf:=by
 have hL:(xs.flatMap cf).length=xs.length * k:=z3b cf k hk xs
 have hmul:i * k+k≤xs.length * k:=by
  have h1:(i+1) * k≤xs.length * k:=Nat.mul_le_mul_right k (by omega)
  have h2:(i+1) * k=i * k+k:=by rw[Nat.add_mul,Nat.one_mul]
  omega
 apply List.ext_getElem?
 intro m
 rw[zb4 (cf x) _ _ m (by rw[hk,hL];exact hmul),hk]
 by_cases hm:m<xs.length * k
 ·have hk0:0<k:=by
   cases k with
   | zero=>simp at hm
   | succ k=>omega
  have hdm:=Nat.div_add_mod m k
  have hml:=Nat.mod_lt m hk0
  have hq:m / k<xs.length:=by rw[Nat.div_lt_iff_lt_mul hk0];exact hm
  have em:m / k * k+m % k=m:=by rw[Nat.mul_comm];exact hdm
  have hy:=flat_get cf k hk (xs.set i x) (m / k) (m % k) (by rw[List.length_set];exact hq) hml
  rw[em] at hy
  have hz:=flat_get cf k hk xs (m / k) (m % k) hq hml
  rw[em] at hz
  rw[hy]
  by_cases hc:i=m / k
  ·rw[if_pos (by rw[hc];omega)]
   have:m - i * k=m % k:=by rw[hc];omega
   rw[this]
   simp[hc]
  ·rw[if_neg,hz]
   ·simp[List.getElem_set,hc]
   ·rintro ⟨g1,g2⟩
    apply hc
    have h1:i≤m / k:=by rw[Nat.le_div_iff_mul_le hk0];exact g1
    have h2:m / k<i+1:=by rw[Nat.div_lt_iff_lt_mul hk0,Nat.add_mul,Nat.one_mul];exact g2
    omega
 ·rw[if_neg (by omega),List.getElem?_eq_none (by rw[hL];omega),List.getElem?_eq_none (by rw[z3b cf k hk,List.length_set];omega)]

theorem z4h {base:Nat} {e:TypeId} {g n cap:Nat}:∀ (cs:Zvs) (w:World) (o:Nat) (xs:Zvs),w.ownsRow base e k (.slice (some ⟨g,0,none⟩) n cap) n xs →
  (w.setCells g o cs).ownsRow base e k (.slice (some ⟨g,0,none⟩) n cap) n (z8h xs o cs)∧w.grownBy (w.setCells g o cs) (some g)
 | [],w,o,xs,h=>⟨h,World.grownBy.refl _ _⟩
 | c::cs,w,o,xs,h=>by
  have h1:=h.stored o c
  have h2:=z4h cs (w.setCell ⟨g,o,none⟩ c) (o+1) (xs.set o c) h1.1
  exact⟨h2.1,z00 h1.2 h2.2⟩

theorem y18 (z:α) (zc:Array Value) (hz:zc.toList=cf z) (n:Nat) (hk:∀ x,(cf x).length=k) (hp:0<k):(madeCells zc (n * k)).toList=(List.replicate n z).flatMap cf:=by
 have hs:zc.size=k:=by have:=congrArg List.length hz;simpa [hk] using this
 apply List.ext_getElem?
 intro m
 by_cases hm:m<n * k
 ·have hml:=Nat.mod_lt m hp
  have hq:m / k<n:=by rw[Nat.div_lt_iff_lt_mul hp];exact hm
  have em:m / k * k+m % k=m:=by rw[Nat.mul_comm];exact Nat.div_add_mod m k
  have hy:=flat_get cf k hk (List.replicate n z) (m / k) (m % k) (by simpa using hq) hml
  rw[em] at hy
  rw[hy]
  simp only[List.getElem_replicate]
  rw[← hz]
  simp[madeCells,hm,hs,hml]
 ·rw[List.getElem?_eq_none (by simp[madeCells];omega),List.getElem?_eq_none (by rw[z3b cf k hk];simp;omega)]

end

theorem z0t {P:Program} {W0:World} {ops:Array Oper} {rest:List Oper} {o:Oper} {a:Act} {Q:Exit→Act→World→Prop} (hgd:o.guard=none) (s x:Operand) (t:TypeId)
  (ho:o.op=.call { callee:=.builtin .append,args:=#[s,x],argTypes:=#[t,t] })
  {base k:Nat} (hk0:0<k) {e:TypeId} {z:Value} {bytes:Nat} (ht:P.underlying t=some (.slice e)) (hi:(P.info? e).map (fun i=>(i.zero,i.size,i.bytes))=some (some z,k,bytes)) (hzs:z.cells.size=k)
  {v:Value} {n:Nat} {xs:Zvs} (hs:a.eval s=v) (hown:W0.ownsRow base e k v n xs)
  {cs:Array Value} (hx:a.eval x=.slice (some ⟨W0.heap.size,0,none⟩) 1 1) (hm:cs.toList.length=k) (hu:∀ u∈cs.toList,u.oneCell'=true)
  {W:World} (hbel:Below base W W0) (hbase:base≤W0.heap.size) (h63:n+1≤maxLen) (hbytes:(n+1) * bytes≤140737488355328)
  (h:∀ v' w',w'.ownsRow base e k v' (n+1) (xs++cs.toList)→Below base W w'→W0.heap.size≤w'.heap.size→wpList P ops Q rest (a.put o.dst v') w'):wpList P ops Q (o::rest) a (W0.alloc (.cells cs e)):=by
 obtain⟨i,hi,hz,h1,h2⟩:=info_parts hi
 refine wpList_append_own _ hgd s x t ho base e i z k bytes ht hi hz h1 h2 hzs hk0 v n xs hs (hown.alloc _) ⟨W0.heap.size,0,none⟩ 1 1 cs.toList hx (by rw[hm];omega) (World.news_of_block (heap_alloc_new W0 _)) hu h63 hbytes (by simp;omega) ?_
 intro v' w' hown' hgrow _
 refine h v' w' hown' ?_ ?_
 ·refine (hbel.alloc hbase _).grown hgrow (by simp;omega) ?_
  intro q hq
  exact (hown.lt q hq).1
 ·have:=hgrow.size;simp at this;omega

end Go.Proofs.YtfeebdcmlnapiaaGreat
namespace Go.Proofs.YtfeebdcmlnapiaaGreat.K
open Go

theorem y3f {P:Program} {md:Region.Mode} {ops:Array Oper} {Q:Exit→Act→World→Prop} {S S':World→Prop} (h:∀ w,S' w→S w) :
  ∀ (fuel:Nat) (listed:Array Bool) (a:Act) (w:World),wpAnyH P md ops Q S' fuel listed a w→wpAnyH P md ops Q S fuel listed a w
 | 0,_,_,_,k=>k
 | fuel+1,_,_,_,k=>⟨k.1,fun i hi=>wpOp_mono (fun a' w' h'=>⟨h w' h'.1,y3f h fuel _ a' w' h'.2⟩) (k.2 i hi)⟩

theorem tkW {P:Program} {md:Region.Mode} {ops:Array Oper} {Q:Exit→Act→World→Prop} {S:World→Prop} (i:Nat) {oi:Oper} {v:Value} {fuel:Nat} {listed:Array Bool} {a:Act} {w:World} (hi:ops[i]? = some oi) (hy:YieldsIf P ops S oi v a) (h:wpAnyH P md ops Q S fuel (listed.setIfInBounds i true) (a.put oi.dst v) w) (hs:Region.noSelect ops=true:=by kernel_rfl) (hf:Region.free md ops listed i=true:=by kernel_rfl) (hr:(Region.ready md ops listed).contains i=true:=by kernel_rfl) (hQ:∀ c a w,Q (.panic c) (a.put oi.dst v) w→Q (.panic c) a w:=by exact fun _ _ _ h=>h) (hS:S w:=by assumption):wpAnyH P md ops Q S (fuel+1) listed a w :=
 wpAnyH_take hi hs hf hr hQ hy hS h

end Go.Proofs.YtfeebdcmlnapiaaGreat.K

namespace Go.Proofs.YtfeebdcmlnapiaaGreat
open Go.RowKit K
theorem zb {w:World} {b:Nat} {cs:Array Value} {t:TypeId} (h:w.heap[b]? = some (.cells cs t (0,0))) (j:Nat) {u:Value} (hu:cs[j]? = some u):w.cell? ⟨b,j,none⟩=some u:=by
 rw[cell_of_row w b j _ _ _ h];exact hu

theorem zh {w:World} {b:Nat} {cs:Array Value} {t:TypeId} (h:w.heap[b]? = some (.cells cs t (0,0))) (j:Nat):w.frozen? ⟨b,j,none⟩=false:=by
 simp[World.frozen?,h]

theorem ze {w:World} {b:Nat} {x:Obj} (h:w.heap[b]? = some x):b<w.heap.size:=(Array.getElem?_eq_some_iff.1 h).1

theorem z2q {w:World} {p k:Nat} {cs:Array Value} {e:TypeId} (v:Value) (h:w.heap[p]? = some (.cells cs e (0,0))):(w.setCell ⟨p,k,none⟩ v).heap[p]? = some (.cells (cs.setIfInBounds k v) e (0,0)):=by
 simp only[World.setCell,Array.getElem?_modify,if_true,h]
 rfl

theorem z1h (w:World) (p k:Nat) (v:Value):w.grownBy (w.setCell ⟨p,k,none⟩ v) (some p) :=
 ⟨rfl,rfl,rfl,by simp[World.setCell],fun j hj hne=>Below.heap_setCell _ _ _ _ (fun e=>hne (by rw[e]))⟩

def z2s (cs:Array Value):Nat→Zvs→Array Value
 | _,[]=>cs
 | o,v::r=>z2s (cs.setIfInBounds o v) (o+1) r

theorem zx {p:Nat} {e:TypeId}:∀ (vs:Zvs) (w:World) (cs:Array Value) (o:Nat),w.heap[p]? = some (.cells cs e (0,0)) →
  (w.setCells p o vs).heap[p]? = some (.cells (z2s cs o vs) e (0,0))∧w.grownBy (w.setCells p o vs) (some p)
 | [],w,cs,o,h=>⟨h,World.grownBy.refl _ _⟩
 | v::r,w,cs,o,h=>by
  have h1:=zx r (w.setCell ⟨p,o,none⟩ v) (cs.setIfInBounds o v) (o+1) (z2q (k:=o) v h)
  exact⟨h1.1,z00 (z1h w p o v) h1.2⟩

theorem zi {w:World} {base:Nat} {e:TypeId} {size:Nat} {v:Value} {n:Nat} {xs:Zvs} (h:w.ownsRow base e size v n xs):∃ oa cap,v=.slice oa n cap:=by
 rcases h.2 with ⟨rfl,rfl⟩|⟨g,cap,cur,rfl,_⟩
 ·exact⟨_,_,rfl⟩
 ·exact⟨_,_,rfl⟩

structure StsAt (w:World) (oa:Zoa) (n cap:Nat) (ss:Zis):Prop where
 len:ss.length=n
 room:n≤cap
 most:cap≤maxLen
 at_:∀ (i:Nat) (s:Zii),ss[i]? = some s→∃ b o xa xc,oa=some ⟨b,o,none⟩∧w.cell? ⟨b,o+i,none⟩=some (.slice xa s.length xc)∧ItemsAt w xa s.length xc s

theorem StsAt.below {w w':World} {oa:Zoa} {n cap:Nat} {ss:Zis} (h:StsAt w oa n cap ss) (hb:Bw w w'):StsAt w' oa n cap ss :=
 ⟨h.len,h.room,h.most,fun i s hs=>by
  obtain⟨b,o,xa,xc,h1,h2,h3⟩:=h.at_ i s hs
  exact⟨b,o,xa,xc,h1,(hb.cell (zw h2)).trans h2,h3.below hb⟩⟩

theorem z9h (w:World):StsAt w none 0 0 []:=⟨rfl,Nat.le_refl _,by unfold maxLen;omega,fun i e he=>by simp at he⟩

theorem StsAt.get {w:World} {oa:Zoa} {n cap:Nat} {ss:Zis} (h:StsAt w oa n cap ss) {P:Program} {t e:TypeId} (ht:P.underlying t=some (.slice e)) (hi:(P.info? e).map (·.size)=some 1) (i:Nat) (hin:i<n) :
  ∃ s b q xa xc,ss[i]? = some s∧(∀ wx,(Instr.indexAt t (.slice oa n cap) (.int .i64 (i:Int))).run P wx=.ok (.pointer (some ⟨b,q,none⟩)) wx)∧w.cell? ⟨b,q,none⟩=some (.slice xa s.length xc)∧ItemsAt w xa s.length xc s:=by
 obtain⟨s,hs⟩:∃ s,ss[i]? = some s:=⟨_,List.getElem?_eq_getElem (by rw[h.len];exact hin)⟩
 obtain⟨b,o,xa,xc,rfl,h2,h3⟩:=h.at_ i s hs
 refine⟨s,b,o+i,xa,xc,hs,fun wx=>?_,h2,h3⟩
 have:=run_indexAt_slice wx t e 1 ht hi b o n cap i hin
 rwa [Nat.mul_one] at this

theorem z5l:(Tryz.prog.info? 74).map (·.size)=some 1:=by kernel_rfl

def z5c (w:World) (l:Zin) (e:Ending) (w':World):Prop:=∃ v,e=.returned v∧w'.ownsRow w.heap.size 3 1 v l.length (l.map z03)∧Bw w w'

structure OutN (w wr:World) (v:Value) (l:Zin):Prop where
 own:wr.ownsRow w.heap.size 3 1 v l.length (l.map z03)
 bel:Bw w wr

theorem OutN.snoc {w w':World} {v':Value} {l:Zin} {x:Int} (h:w'.ownsRow w.heap.size 3 1 v' (l.length+1) (l.map z03++[.int .i64 x])) (hb:Bw w w'):OutN w w' v' (l++[x]):=by
 refine⟨?_,hb⟩
 rw[List.length_append,List.map_append]
 exact h

theorem OutN.new (w:World):OutN w (w.alloc (.cells #[] 3)) (.slice (some ⟨w.heap.size,0,none⟩) 0 0) [] :=
 ⟨World.ownsRow_made (w:=w) #[] 0 zLe (by decide) rfl,zBa⟩

theorem zei {α:Type} {P:α→Bool} {l:List α} {i:Nat} {x:α} (h:l[i]? = some x):(l.take (i+1)).any P=((l.take i).any P||P x):=by
 rw[List.take_add_one,h]
 simp

theorem zlo {α:Type} {P:α→Bool} {l:List α} {i:Nat} {x:α} (h:l[i]? = some x):(l.take (i+1)).all P=((l.take i).all P&&P x):=by
 rw[List.take_add_one,h]
 simp

theorem zab {α:Type} {P:α→Bool} {l:List α} {i:Nat} {x:α} (h:l[i]? = some x):(l.take (i+1)).filter P=(l.take i).filter P++(if P x then [x] else []):=by
 rw[List.take_add_one,h,List.filter_append]
 simp[List.filter_cons]

end Go.Proofs.YtfeebdcmlnapiaaGreat
