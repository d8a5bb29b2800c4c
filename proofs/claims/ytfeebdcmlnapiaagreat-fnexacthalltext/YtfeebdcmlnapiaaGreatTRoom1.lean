/-
  Walks.
-/
import Derived.Test.YtfeebdcmlnapiaaGreatTWalk11k
set_option linter.unusedVariables false
set_option linter.unusedSimpArgs false
namespace Go.Proofs.YtfeebdcmlnapiaaGreat
open Go.RowKit K P12
def mask (p:Nat) (w:World):World:={ w with heap:=w.heap.setIfInBounds p (.cells #[] 3 (0,0)) }

theorem z1y (p:Nat) (w:World):(mask p w).heap.size=w.heap.size:=by simp[mask]

theorem z3l {p i:Nat} (w:World) (h:i≠p):(mask p w).heap[i]? = w.heap[i]?:=by
 simp only[mask]
 exact Array.getElem?_setIfInBounds_ne (fun e=>h e.symm)

theorem z5s {p:Nat} {w:World} (h:p<w.heap.size):(mask p w).heap[p]? = some (.cells #[] 3 (0,0)):=by
 simp only[mask]
 exact Array.getElem?_setIfInBounds_self_of_lt h

theorem z18 {p:Nat} {w:World} {a:Addr} {u:Value} (h:(mask p w).cell? a=some u):w.cell? a=some u∧a.block≠p:=by
 by_cases e:a.block=p
 ·exfalso
  by_cases hp:p<w.heap.size
  ·unfold World.cell? at h
   rw[e,z5s hp] at h
   simp at h
  ·unfold World.cell? at h
   rw[e,Array.getElem?_eq_none (by rw[z1y];omega)] at h
   cases h
 ·refine⟨?_,e⟩
  rw[← h]
  exact (World.cell?_of_block (z3l w e)).symm

theorem ziq {p:Nat} {w w':World} (h:w.grownBy w' (some p)) (hp:p<w.heap.size):Below (mask p w).heap.size (mask p w) (mask p w') :=
 ⟨h.os,h.tape,h.output,by rw[z1y,z1y];exact h.size,fun k hk=>by
  rw[z1y] at hk
  by_cases e:k=p
  ·subst e
   rw[z5s hp,z5s (zLt hp h.size)]
  ·rw[z3l _ e,z3l _ e]
   exact h.block k hk (fun q=>e (zSi q))⟩

theorem z1r {p:Nat} {w w':World} (h:Bw w w') (hp:p<w.heap.size):Below (mask p w).heap.size (mask p w) (mask p w') :=
 ziq ⟨h.os,h.tape,h.output,h.size,fun k hk _=>h.block k hk⟩ hp

theorem z2f {p base:Nat} {w:World} {e:TypeId} {k:Nat} {v:Value} {n:Nat} {xs:Zvs} (h:w.ownsRow base e k v n xs) (hp:p<base):(mask p w).ownsRow base e k v n xs:=by
 obtain⟨h1,h2|⟨g,cap,cur,h2,h3,h4,h5⟩⟩:=h
 ·exact⟨h1,Or.inl h2⟩
 ·exact⟨h1,Or.inr ⟨g,cap,cur,h2,h3,(z3l w (by omega)).trans h4,h5⟩⟩

theorem IntsAt.un {p:Nat} {w:World} {oa:Zoa} {n cap:Nat} {zs:Zin} (h:IntsAt (mask p w) oa n cap zs):IntsAt w oa n cap zs :=
 ⟨h.len,h.room,h.most,h.fits,fun i z hz=>by
  obtain⟨b,o,h1,h2⟩:=h.at_ i z hz
  exact⟨b,o,h1,(z18 h2).1⟩⟩

theorem ItemsAt.un {p:Nat} {w:World} {oa:Zoa} {n cap:Nat} {s:Zii} (h:ItemsAt (mask p w) oa n cap s):ItemsAt w oa n cap s :=
 ⟨h.len,h.room,h.most,fun i x hx=>by
  obtain⟨b,o,h1,h2⟩:=h.at_ i x hx
  exact⟨b,o,h1,fun j u hu=>(z18 (h2 j u hu)).1⟩⟩

theorem EvAt.un {p:Nat} {w:World} {b o:Nat} {e:EvV} {xa:Zoa} {xc:Nat} {ya:Zoa} {yc:Nat} (h:EvAt (mask p w) b o e xa xc ya yc):EvAt w b o e xa xc ya yc :=
 ⟨fun j u hu=>(z18 (h.cell j u hu)).1,h.lev.un,h.prv.un,h.txt⟩

theorem EvsAt.un {p:Nat} {w:World} {oa:Zoa} {n cap:Nat} {es:List EvV} (h:EvsAt (mask p w) oa n cap es):EvsAt w oa n cap es :=
 ⟨h.len,h.room,h.most,fun i e he=>by
  obtain⟨b,o,xa,xc,ya,yc,h1,h2⟩:=h.at_ i e he
  exact⟨b,o,xa,xc,ya,yc,h1,h2.un⟩⟩

theorem StsAt.un {p:Nat} {w:World} {oa:Zoa} {n cap:Nat} {ss:Zis} (h:StsAt (mask p w) oa n cap ss):StsAt w oa n cap ss :=
 ⟨h.len,h.room,h.most,fun i s hs=>by
  obtain⟨b,o,xa,xc,h1,h2,h3⟩:=h.at_ i s hs
  exact⟨b,o,xa,xc,h1,(z18 h2).1,h3.un⟩⟩

theorem z6z {w:World} {base:Nat} {v:Value} {n:Nat} {zs:Zin} (h:w.ownsRow base 3 1 v n (zs.map z03)) (hf:∀ z∈zs,(Lit.int .i64 z).wf=true):∃ oa cap,v=.slice oa n cap∧IntsAt w oa n cap zs:=by
 have hn:zs.length=n:=by have:=h.1;simpa using this
 rcases h.2 with ⟨rfl,rfl⟩|⟨g,cap,cur,rfl,hb,hg,hnc,hcm,hcs,htake⟩
 ·have:zs=[]:=List.eq_nil_of_length_eq_zero hn
  subst this
  exact⟨none,0,rfl,z3p w⟩
 ·refine⟨some ⟨g,0,none⟩,cap,rfl,⟨hn,hnc,hcm,hf,fun i z hz=>⟨g,0,rfl,?_⟩⟩⟩
  have hi:=(zGi.1 hz).1
  rw[Nat.zero_add,h.cellAt i (by omega)]
  simp[z03,hz]

open P1 P5 P9 P11 P14 P15
def z0l (es:List EvV) (sts:List St) (e:EvV):Bool:=(z2y es sts e.prev).isSome&&(evOk e&&(decide (hasI es e.id<0)&&((e.depth==z4a es e.prev)&&decide (es.length<40))))

def befS (es:List EvV) (sts:List St) (prev:Zin):St:=(z2y es sts prev).getD []

def z0s (es:List EvV) (sts:List St) (e:EvV):St:=if allowed es (befS es sts e.prev) e&&!(keyE e==0) then z0n (befS es sts e.prev) (keyE e) e.id else befS es sts e.prev

structure StF (s:St):Prop where
 len:s.length≤16
 wide:∀ x∈s,z3d x

structure RInv (es:List EvV) (sts:List St):Prop where
 len:es.length≤40
 eqn:sts.length=es.length
 ids:∀ e∈es,1≤e.id∧e.id≤1000000
 nod:(es.map (·.id)).Nodup
 sz:∀ e∈es,evw e≤1000
 st:∀ s∈sts,StF s

theorem RInv.nil:RInv [] []:=⟨by simp,rfl,fun e h=>by simp at h,by simp,fun e h=>by simp at h,fun e h=>by simp at h⟩

theorem zkj {c:Nat}:∀ {es:List EvV},(∀ e∈es,evw e≤c)→evW es≤es.length * c
 | [],_=>by simp[evW]
 | x::r,h=>by
  have h1:=h x List.mem_cons_self
  have h2:=zkj (c:=c) (es:=r) (fun e he=>h e (List.mem_cons_of_mem _ he))
  unfold evW at h2 ⊢
  rw[List.map_cons,List.sum_cons,List.length_cons,Nat.add_mul]
  omega

theorem RInv.fine {es:List EvV} {sts:List St} (h:RInv es sts):FineE es:=by
 have h1:=zkj h.sz
 have h2:=h.len
 exact⟨by omega,by have:es.length * 1000≤40 * 1000:=Nat.mul_le_mul_right _ h2;omega⟩

theorem z3k {x:Int} (h:-1000000000≤x) (h2:x≤1000000000000):(Lit.int .i64 x).wf=true:=by
 simp[Lit.wf,IntKind.min,IntKind.max,IntKind.signed,IntKind.bits]
 omega

theorem zaw {s:St} {k i:Int} {x:Int × Int} (h:x∈z0n s k i):x∈s∨x=(k,i):=by
 unfold z0n at h
 split at h
 ·unfold stIn at h
  rcases List.mem_append.1 h with h|h
  ·exact .inl (List.mem_filter.1 h).1
  ·rcases List.mem_cons.1 h with h|h
   ·exact .inr h
   ·exact .inl (List.mem_filter.1 h).1
 ·exact .inl h

theorem zdc (e:EvV):(Lit.int .i64 (keyE e)).wf=true:=by
 unfold keyE
 split
 ·exact z3k (by omega) (by omega)
 ·split
  ·exact z3k (by omega) (by omega)
  ·split
   ·exact z3k (by omega) (by omega)
   ·split
    ·rename_i h
     have:=h.2
     simp[inR] at this
     exact z3k (by omega) (by omega)
    ·exact z3k (by omega) (by omega)

theorem StF.put {s:St} (h:StF s) {k i:Int} (hk:(Lit.int .i64 k).wf=true) (hi:(Lit.int .i64 i).wf=true):StF (z0n s k i) :=
 ⟨zbm h.len,fun x hx=>by
  rcases zaw hx with hx|rfl
  ·exact h.wide x hx
  ·exact⟨hk,hi⟩⟩

theorem zkk {es:List EvV} (h:∀ e∈es,1≤e.id∧e.id≤1000000) (z:Int):(Lit.int .i64 (evOf es z).id).wf=true:=by
 unfold evOf
 cases hf:zf es z with
 | none=>exact z3k (by decide) (by decide)
 | some e =>
  have:=h e (z2h hf).1
  exact z3k (by simp;omega) (by simp;omega)

theorem zkl {es:List EvV} (hids:∀ e∈es,1≤e.id∧e.id≤1000000) {s:St} (h:StF s) (z:Int):StF (tell es s z):=by
 unfold tell
 split
 ·exact h.put (zdc _) (zkk hids z)
 ·exact h

theorem zbo {es:List EvV} (hids:∀ e∈es,1≤e.id∧e.id≤1000000):∀ (l:Zin) {s:St},StF s→StF (l.foldl (tell es) s)
 | [],_,h=>h
 | z::r,_,h=>zbo hids r (zkl hids h z)

theorem zgj {ss:List St} (h:∀ s∈ss,StF s):StF (agreed ss):=by
 refine⟨z9u ss,fun x hx=>?_⟩
 unfold agreed at hx
 obtain⟨k,hk,rfl⟩:=List.mem_map.1 hx
 have hk':=z5f (List.mem_filter.1 hk).1
 refine⟨z3k (by simp;omega) (by simp;omega),zcg fun y hy=>?_⟩
 cases ss with
 | nil=>simp at hy
 | cons s r=>exact ((h s List.mem_cons_self).wide y (by simpa using hy)).2

theorem zf5 {es:List EvV} (hids:∀ e∈es,1≤e.id∧e.id≤1000000) {ss:List St} (h:∀ s∈ss,StF s):StF (P15.resolve es ss):=by
 match ss,h with
 | [],_=>exact⟨by simp[P15.resolve],fun x hx=>by simp[P15.resolve] at hx⟩
 | [s],h=>exact h s List.mem_cons_self
 | s::t::r,h=>exact zbo hids _ (zgj h)

theorem z9w {es:List EvV} {sts:List St}:∀ (zs:Zin) (acc l:List St),(∀ s∈acc,s∈sts)→z3f es sts zs acc=some l→∀ s∈l,s∈sts
 | [],acc,l,h,e=>by cases e;exact h
 | z::r,acc,l,h,e=>by
  unfold z3f at e
  cases hs:z1q es sts z with
  | none=>rw[hs] at e;cases e
  | some s =>
   rw[hs] at e
   refine z9w r (acc++[s]) l (fun x hx=>?_) e
   rcases List.mem_append.1 hx with hx|hx
   ·exact h x hx
   ·simp at hx
    subst hx
    unfold z1q at hs
    split at hs
    ·cases hs
    ·exact zMg hs

theorem zax {es:List EvV} {sts:List St} (hids:∀ e∈es,1≤e.id∧e.id≤1000000) (hst:∀ s∈sts,StF s) (prev:Zin):StF (befS es sts prev):=by
 unfold befS z2y
 cases hg:z3f es sts prev [] with
 | none=>exact⟨by simp,fun x hx=>by simp at hx⟩
 | some l =>
  simp only[Option.map_some,Option.getD_some]
  exact zf5 hids (fun s hs=>hst s (z9w prev [] l (fun x hx=>by simp at hx) hg s hs))

theorem z4b {es:List EvV} {sts:List St} {e:EvV} (h:z0l es sts e=true):evOk e=true∧hasI es e.id<0∧es.length<40:=by
 unfold z0l at h
 simp only[Bool.and_eq_true,decide_eq_true_eq] at h
 exact⟨h.2.1,h.2.2.1,h.2.2.2.2⟩

theorem znp {e:EvV} (h:evOk e=true):1≤e.id∧e.id≤1000000:=by
 unfold evOk at h
 simp only[Bool.and_eq_true,inR,decide_eq_true_eq] at h
 exact⟨by omega,by omega⟩

theorem zm9 {es:List EvV} {z:Int} (h:hasI es z<0):∀ e∈es,e.id≠z:=by
 intro e he hz
 cases hf:zf es z with
 | some x =>
  obtain⟨k,h1,_⟩:=z5g hf
  omega
 | none =>
  have:(zf es z).isSome=true:=evFind_isSome.2 (List.mem_map.2 ⟨e,he,hz⟩)
  rw[hf] at this
  cases this

theorem RInv.add {es:List EvV} {sts:List St} (h:RInv es sts) {e:EvV} (hok:z0l es sts e=true) (hw:evw e≤1000):RInv (es++[e]) (sts++[z0s es sts e]):=by
 obtain⟨h1,h2,h3⟩:=z4b hok
 have hid:=znp h1
 refine⟨by rw[List.length_append];simp;omega,by rw[List.length_append,List.length_append,h.eqn];rfl,?_,?_,?_,?_⟩
 ·intro x hx
  rcases List.mem_append.1 hx with hx|hx
  ·exact h.ids x hx
  ·simp at hx;subst hx;exact hid
 ·rw[List.map_append]
  refine List.nodup_append.2 ⟨h.nod,by simp,?_⟩
  intro a ha b hb hab
  obtain⟨x,hx,rfl⟩:=List.mem_map.1 ha
  simp at hb
  subst hb
  exact zm9 h2 x hx hab
 ·intro x hx
  rcases List.mem_append.1 hx with hx|hx
  ·exact h.sz x hx
  ·simp at hx;subst hx;exact hw
 ·intro s hs
  rcases List.mem_append.1 hs with hs|hs
  ·exact h.st s hs
  ·simp at hs
   subst hs
   unfold z0s
   split
   ·exact (zax h.ids h.st _).put (zdc e) (z3k (by omega) (by omega))
   ·exact zax h.ids h.st _

inductive Built:List EvV→List St→Prop
 | nil:Built [] []
 | add {es:List EvV} {sts:List St} {e:EvV} (h:Built es sts) (hok:z0l es sts e=true):Built (es++[e]) (sts++[z0s es sts e])

end Go.Proofs.YtfeebdcmlnapiaaGreat
namespace Go.Proofs.YtfeebdcmlnapiaaGreat.K
open Go

abbrev Gh:=Nat→Option Value

def Gh.set (V:Gh) (i:Nat) (v:Value):Gh:=fun k=>if k=i then some v else V k

theorem Gh.set_self (V:Gh) (i:Nat) (v:Value):V.set i v i=some v:=if_pos rfl

theorem Gh.set_ne (V:Gh) {i k:Nat} (v:Value) (h:k≠i):V.set i v k=V k:=if_neg h

def actG (ops:Array Oper) (V:Gh) (a:Act):Nat→Act
 | 0=>a
 | n+1=>match ops[n]?,V n with
  | some o,some v=>(actG ops V a n).put o.dst v
  | _,_=>actG ops V a n

def z2z (ops:Array Oper):Bool:=(List.range ops.size).all fun i=>(List.range ops.size).all fun j=>i==j||match ops[i]?,ops[j]? with
 | some x,some y=>x.dst.isNone||x.dst != y.dst
 | _,_=>true

def ze8 (ops:Array Oper):Bool:=(List.range ops.size).all fun i=>match ops[i]? with
 | some x=>x.after.all fun e=>e.on<i
 | none=>true

theorem zhn {ops:Array Oper} (h:z2z ops=true) {i j:Nat} {x y:Oper} (hi:ops[i]? = some x) (hj:ops[j]? = some y) (hne:i≠j):∀ d,x.dst=some d→y.dst≠some d:=by
 intro d hd hd'
 have h1:=(List.all_eq_true.1 h) i (List.mem_range.2 (Array.getElem?_eq_some_iff.1 hi).1)
 have h2:=(List.all_eq_true.1 h1) j (List.mem_range.2 (Array.getElem?_eq_some_iff.1 hj).1)
 simp[hi,hj,hd,hd',hne] at h2

theorem zkm {ops:Array Oper} (h:ze8 ops=true) {i:Nat} {x:Oper} (hi:ops[i]? = some x):∀ e∈x.after,e.on<i:=by
 intro e he
 have h1:=(List.all_eq_true.1 h) i (List.mem_range.2 (Array.getElem?_eq_some_iff.1 hi).1)
 simp only[hi] at h1
 have h2:=(Array.all_eq_true_iff_forall_mem.1 h1) e he
 simpa using h2

theorem zay {ops:Array Oper} {V:Gh} {a:Act} (hd:z2z ops=true) {i:Nat} {o:Oper} (hi:ops[i]? = some o) (hV:V i=none) (v:Value):∀ n,actG ops (V.set i v) a n=if i<n then (actG ops V a n).put o.dst v else actG ops V a n
 | 0=>by simp[actG]
 | n+1=>by
  have ih:=zay (a:=a) hd hi hV v n
  by_cases h1:i=n
  ·subst h1
   rw[if_pos (Nat.lt_succ_self i)]
   simp only[actG,hi,Gh.set_self,hV]
   rw[ih,if_neg (Nat.lt_irrefl i)]
  ·by_cases h2:i<n
   ·rw[if_pos (Nat.lt_succ_of_lt h2)]
    rw[if_pos h2] at ih
    simp only[actG]
    rw[Gh.set_ne V v (Ne.symm h1)]
    cases hn:ops[n]? with
    | none=>exact ih
    | some on =>
     cases hvn:V n with
     | none=>exact ih
     | some vn =>
      simp only
      rw[ih]
      exact Act.put_comm _ _ _ (zhn hd hi hn h1)
   ·rw[if_neg (by omega)]
    rw[if_neg h2] at ih
    simp only[actG]
    rw[Gh.set_ne V v (Ne.symm h1),ih]

theorem z6a {ops:Array Oper} {V:Gh} {a:Act}:∀ n,(actG ops V a n).tmps.size=a.tmps.size
 | 0=>rfl
 | n+1=>by
  simp only[actG]
  cases hn:ops[n]? with
  | none=>exact z6a n
  | some on =>
   cases hvn:V n with
   | none=>exact z6a n
   | some vn =>
    simp only
    unfold Act.put
    cases on.dst with
    | none=>exact z6a n
    | some d=>simpa using z6a n

theorem zbp {ops:Array Oper} {V:Gh} {a:Act} {t:Nat}:∀ n,(∀ (k:Nat) o,ops[k]? = some o→o.dst≠some t)→(actG ops V a n).eval (.tmp t)=a.eval (.tmp t)
 | 0,_=>rfl
 | n+1,h=>by
  have ih:=zbp (V:=V) (a:=a) n h
  simp only[actG]
  cases hn:ops[n]? with
  | none=>exact ih
  | some on =>
   cases hvn:V n with
   | none=>exact ih
   | some vn =>
    simp only
    rw[Act.eval_put (fun d hd e=>by cases e;exact h n on hn hd)]
    exact ih

theorem z3n {ops:Array Oper} {V:Gh} {a:Act} (hd:z2z ops=true) {k t:Nat} {o:Oper} {v:Value} (hk:ops[k]? = some o) (ht:o.dst=some t) (hV:V k=some v) (hs:t<a.tmps.size):∀ n,k<n→(actG ops V a n).eval (.tmp t)=v
 | 0,h=>absurd h (Nat.not_lt_zero _)
 | n+1,h=>by
  simp only[actG]
  by_cases h1:k=n
  ·subst h1
   simp only[hk,hV]
   unfold Act.put
   rw[ht]
   simp[Act.eval,z6a,hs]
  ·have ih:=z3n (a:=a) hd hk ht hV hs n (by omega)
   cases hn:ops[n]? with
   | none=>exact ih
   | some on =>
    cases hvn:V n with
    | none=>exact ih
    | some vn =>
     simp only
     rw[Act.eval_put (fun d hd' e=>by cases e;exact zhn hd hk hn h1 _ ht hd')]
     exact ih

theorem z6w {p q:Nat→Bool} {i:Nat}:∀ {l:List Nat},i∈l→(∀ k,q k=true→p k=true)→p i=true→q i=false→l.countP q<l.countP p
 | x::r,hm,hpq,hp,hq=>by
  have hle:r.countP q≤r.countP p:=List.countP_mono_left (fun k _=>hpq k)
  rcases List.mem_cons.1 hm with rfl|hm
  ·rw[List.countP_cons_of_pos hp,List.countP_cons_of_neg (by rw[hq];decide)]
   omega
  ·have ih:=z6w hm hpq hp hq
   by_cases hx:q x=true
   ·rw[List.countP_cons_of_pos hx,List.countP_cons_of_pos (hpq x hx)]
    omega
   ·rw[List.countP_cons_of_neg hx]
    exact Nat.lt_of_lt_of_le ih (by rw[List.countP_cons];omega)

def Closed (ops:Array Oper) (V:Gh):Prop:=∀ (k:Nat) (o:Oper),ops[k]? = some o→(V k).isSome=true→∀ e∈o.after,Region.binds .any e=true→(V e.on).isSome=true

section
variable {P:Program} {ops:Array Oper} {Q:Exit→Act→World→Prop} {a0:Act} {J:Gh→World→Prop}

theorem zgk (hd:z2z ops=true) (hl:ze8 ops=true)
  (hstep:∀ (i:Nat) (o:Oper) (V:Gh) (w:World),ops[i]? = some o→V i=none→(∀ e∈o.after,Region.binds .any e=true→(V e.on).isSome=true)→Closed ops V→J V w →
   wpOp P ops Q i (fun a' w'=>∃ v,a'=(actG ops V a0 ops.size).put o.dst v∧J (V.set i v) w') (actG ops V a0 ops.size) w)
  (hend:∀ (V:Gh) (w:World),(∀ k,k<ops.size→(V k).isSome=true)→J V w→Q .normal (actG ops V a0 ops.size) w) :
  ∀ (fuel:Nat) (listed:Array Bool) (V:Gh) (w:World),listed.size=ops.size→(∀ k,k<ops.size→listed[k]? = some (V k).isSome)→(List.range ops.size).countP (fun k=>(V k).isNone)≤fuel→Closed ops V→J V w→wpAny P .any ops Q fuel listed (actG ops V a0 ops.size) w:=by
 intro fuel
 induction fuel with
 | zero =>
  intro listed V w hs hk hc hcl hJ
  have hall:∀ k,k<ops.size→(V k).isSome=true:=by
   intro k hk'
   have h0:(List.range ops.size).countP (fun k=>(V k).isNone)=0:=by omega
   have:=List.countP_eq_zero.1 h0 k (List.mem_range.2 hk')
   cases hv:V k with
   | none=>simp[hv] at this
   | some _=>rfl
  refine⟨?_,hend V w hall hJ⟩
  apply List.eq_nil_iff_forall_not_mem.2
  intro j hj
  obtain⟨h1,o,h2,-⟩:=mem_ready.1 hj
  have hj':=(Array.getElem?_eq_some_iff.1 h2).1
  have h3:=hk j hj'
  rw[hall j hj'] at h3
  rw[Array.getD_eq_getD_getElem?,h3] at h1
  cases h1
 | succ fuel ih =>
  intro listed V w hs hk hc hcl hJ
  refine⟨fun hr=>hend V w ?_ hJ,fun i hi=>?_⟩
  ·intro k hk'
   induction k using Nat.strongRecOn with
   | _ k ihk =>
    cases hv:V k with
    | some _=>rfl
    | none =>
     exfalso
     obtain⟨o,ho⟩:∃ o,ops[k]? = some o:=⟨_,Array.getElem?_eq_getElem hk'⟩
     have:k∈Region.ready .any ops listed:=mem_ready.2 ⟨by rw[Array.getD_eq_getD_getElem?,hk k hk',hv];rfl,o,ho,fun e he _=>by
      have hlt:=zkm hl ho e he
      rw[Array.getD_eq_getD_getElem?,hk e.on (by omega),ihk e.on hlt (by omega)]
      rfl⟩
     rw[hr] at this
     cases this
  ·obtain⟨h1,o,h2,h3⟩:=mem_ready.1 hi
   have hi':=(Array.getElem?_eq_some_iff.1 h2).1
   have hVi:V i=none:=by
    rw[Array.getD_eq_getD_getElem?,hk i hi'] at h1
    cases hv:V i with
    | none=>rfl
    | some _=>rw[hv] at h1;cases h1
   have hdp:∀ e∈o.after,Region.binds .any e=true→(V e.on).isSome=true:=fun e he hb=>by
    have h4:=h3 e he hb
    have hlt:=zkm hl h2 e he
    rw[Array.getD_eq_getD_getElem?,hk e.on (by omega)] at h4
    exact h4
   refine wpOp_mono ?_ (hstep i o V w h2 hVi hdp hcl hJ)
   ·rintro a' w' ⟨v,rfl,hJ'⟩
    have hmono:∀ k,(V k).isSome=true→(V.set i v k).isSome=true:=fun k hk'=>by
     by_cases e:k=i
     ·subst e;rw[Gh.set_self];rfl
     ·rw[Gh.set_ne V v e];exact hk'
    have hset:=zay (a:=a0) hd h2 hVi v ops.size
    rw[if_pos hi'] at hset
    rw[← hset]
    refine ih _ _ w' (by simpa using hs) (fun k hk'=>?_) ?_ ?_ hJ'
    ·by_cases e:k=i
     ·subst e
      rw[Array.getElem?_setIfInBounds_self_of_lt (by omega),Gh.set_self]
      rfl
     ·rw[Array.getElem?_setIfInBounds_ne (Ne.symm e),Gh.set_ne V v e]
      exact hk k hk'
    ·have hlt:(List.range ops.size).countP (fun k=>(V.set i v k).isNone)<(List.range ops.size).countP (fun k=>(V k).isNone):=by
      refine z6w (i:=i) (List.mem_range.2 hi') (fun k hk1=>?_) ?_ ?_
      ·by_cases e:k=i
       ·subst e;rw[Gh.set_self] at hk1;cases hk1
       ·rw[Gh.set_ne V v e] at hk1;exact hk1
      ·rw[hVi];rfl
      ·rw[Gh.set_self];rfl
     omega
    ·intro k ok hk1 hk2 e he hb
     by_cases hki:k=i
     ·subst hki
      rw[h2] at hk1
      cases hk1
      exact hmono _ (hdp e he hb)
     ·rw[Gh.set_ne V v hki] at hk2
      exact hmono _ (hcl k ok hk1 hk2 e he hb)

theorem zbq {id:Nat} {w:World} (hm:P.follows .mixedOrders=true) (hd:z2z ops=true) (hl:ze8 ops=true) (J:Gh→World→Prop) (h0:J (fun _=>none) w.drew)
  (hstep:∀ (i:Nat) (o:Oper) (V:Gh) (w:World),ops[i]? = some o→V i=none→(∀ e∈o.after,Region.binds .any e=true→(V e.on).isSome=true)→Closed ops V→J V w →
   wpOp P ops Q i (fun a' w'=>∃ v,a'=(actG ops V a0 ops.size).put o.dst v∧J (V.set i v) w') (actG ops V a0 ops.size) w)
  (hend:∀ (V:Gh) (w:World),(∀ k,k<ops.size→(V k).isSome=true)→J V w→Q .normal (actG ops V a0 ops.size) w):(Code.region id ops true).wp P Q a0 w:=by
 refine wp_region_any hm ?_
 have h:=zgk (P:=P) (Q:=Q) (a0:=a0) hd hl hstep hend ops.size (Array.replicate ops.size false) (fun _=>none) w.drew (by simp) (fun k hk=>by simp[hk]) (Nat.le_trans (List.countP_le_length) (by simp)) (fun k o _ h=>by cases h) h0
 have hz:∀ n,actG ops (fun _=>none) a0 n=a0:=by
  intro n
  induction n with
  | zero=>rfl
  | succ n ih =>
   simp only[actG]
   cases ops[n]?<;>exact ih
 rw[hz] at h
 exact h

theorem gop {i:Nat} {o:Oper} {a:Act} {w w':World} {v:Value} {K:Act→World→Prop} (ho:ops[i]? = some o) (hg:o.guard=none) (hr:(execOp a.eval o).run P w=.ok (.value v) w') (hK:K (a.put o.dst v) w'):wpOp P ops Q i K a w:=by
 unfold wpOp
 simp only[ho]
 have hw:Region.wanted o (yielded ops a.tmps)=true:=by simp[Region.wanted,hg]
 rw[if_pos hw]
 refine .inl ?_
 unfold Oper.wp
 rw[hr]
 exact hK

theorem z6x {i:Nat} {o:Oper} {a:Act} {w w':World} {K:Act→World→Prop} (ho:ops[i]? = some o) (hg:o.guard=none) (hr:(execOp a.eval o).run P w=.ok .skip w') (hK:K (a.put o.dst undef) w'):wpOp P ops Q i K a w:=by
 unfold wpOp
 simp only[ho]
 have hw:Region.wanted o (yielded ops a.tmps)=true:=by simp[Region.wanted,hg]
 rw[if_pos hw]
 refine .inl ?_
 unfold Oper.wp
 rw[hr]
 exact hK
end

end Go.Proofs.YtfeebdcmlnapiaaGreat.K

namespace Go.Proofs.YtfeebdcmlnapiaaGreat.K
open Go

def z6y (ops:Array Oper):Bool:=(List.range ops.size).all fun i=>match ops[i]? with
 | some x=>x.after.all fun e=>!Region.binds .any e||decide (e.on<i)
 | none=>true

theorem zho {ops:Array Oper} (h:z6y ops=true) {i:Nat} {x:Oper} (hi:ops[i]? = some x):∀ e∈x.after,Region.binds .any e=true→e.on<i:=by
 intro e he hb
 have h1:=(List.all_eq_true.1 h) i (List.mem_range.2 (Array.getElem?_eq_some_iff.1 hi).1)
 simp only[hi] at h1
 have h2:=(Array.all_eq_true_iff_forall_mem.1 h1) e he
 simpa [hb] using h2

section
variable {P:Program} {ops:Array Oper} {Q:Exit→Act→World→Prop} {a0:Act} {J:Gh→World→Prop}

theorem zf6 (hd:z2z ops=true) (hl:z6y ops=true)
  (hstep:∀ (i:Nat) (o:Oper) (V:Gh) (w:World),ops[i]? = some o→V i=none→(∀ e∈o.after,Region.binds .any e=true→(V e.on).isSome=true)→Closed ops V→J V w →
   wpOp P ops Q i (fun a' w'=>∃ v,a'=(actG ops V a0 ops.size).put o.dst v∧J (V.set i v) w') (actG ops V a0 ops.size) w)
  (hend:∀ (V:Gh) (w:World),(∀ k,k<ops.size→(V k).isSome=true)→J V w→Q .normal (actG ops V a0 ops.size) w) :
  ∀ (fuel:Nat) (listed:Array Bool) (V:Gh) (w:World),listed.size=ops.size→(∀ k,k<ops.size→listed[k]? = some (V k).isSome)→(List.range ops.size).countP (fun k=>(V k).isNone)≤fuel→Closed ops V→J V w→wpAny P .any ops Q fuel listed (actG ops V a0 ops.size) w:=by
 intro fuel
 induction fuel with
 | zero =>
  intro listed V w hs hk hc hcl hJ
  have hall:∀ k,k<ops.size→(V k).isSome=true:=by
   intro k hk'
   have h0:(List.range ops.size).countP (fun k=>(V k).isNone)=0:=by omega
   have:=List.countP_eq_zero.1 h0 k (List.mem_range.2 hk')
   cases hv:V k with
   | none=>simp[hv] at this
   | some _=>rfl
  refine⟨?_,hend V w hall hJ⟩
  apply List.eq_nil_iff_forall_not_mem.2
  intro j hj
  obtain⟨h1,o,h2,-⟩:=mem_ready.1 hj
  have hj':=(Array.getElem?_eq_some_iff.1 h2).1
  have h3:=hk j hj'
  rw[hall j hj'] at h3
  rw[Array.getD_eq_getD_getElem?,h3] at h1
  cases h1
 | succ fuel ih =>
  intro listed V w hs hk hc hcl hJ
  refine⟨fun hr=>hend V w ?_ hJ,fun i hi=>?_⟩
  ·intro k hk'
   induction k using Nat.strongRecOn with
   | _ k ihk =>
    cases hv:V k with
    | some _=>rfl
    | none =>
     exfalso
     obtain⟨o,ho⟩:∃ o,ops[k]? = some o:=⟨_,Array.getElem?_eq_getElem hk'⟩
     have:k∈Region.ready .any ops listed:=mem_ready.2 ⟨by rw[Array.getD_eq_getD_getElem?,hk k hk',hv];rfl,o,ho,fun e he hb=>by
      have hlt:=zho hl ho e he hb
      rw[Array.getD_eq_getD_getElem?,hk e.on (by omega),ihk e.on hlt (by omega)]
      rfl⟩
     rw[hr] at this
     cases this
  ·obtain⟨h1,o,h2,h3⟩:=mem_ready.1 hi
   have hi':=(Array.getElem?_eq_some_iff.1 h2).1
   have hVi:V i=none:=by
    rw[Array.getD_eq_getD_getElem?,hk i hi'] at h1
    cases hv:V i with
    | none=>rfl
    | some _=>rw[hv] at h1;cases h1
   have hdp:∀ e∈o.after,Region.binds .any e=true→(V e.on).isSome=true:=fun e he hb=>by
    have h4:=h3 e he hb
    have hlt:=zho hl h2 e he hb
    rw[Array.getD_eq_getD_getElem?,hk e.on (by omega)] at h4
    exact h4
   refine wpOp_mono ?_ (hstep i o V w h2 hVi hdp hcl hJ)
   ·rintro a' w' ⟨v,rfl,hJ'⟩
    have hmono:∀ k,(V k).isSome=true→(V.set i v k).isSome=true:=fun k hk'=>by
     by_cases e:k=i
     ·subst e;rw[Gh.set_self];rfl
     ·rw[Gh.set_ne V v e];exact hk'
    have hset:=zay (a:=a0) hd h2 hVi v ops.size
    rw[if_pos hi'] at hset
    rw[← hset]
    refine ih _ _ w' (by simpa using hs) (fun k hk'=>?_) ?_ ?_ hJ'
    ·by_cases e:k=i
     ·subst e
      rw[Array.getElem?_setIfInBounds_self_of_lt (by omega),Gh.set_self]
      rfl
     ·rw[Array.getElem?_setIfInBounds_ne (Ne.symm e),Gh.set_ne V v e]
      exact hk k hk'
    ·have hlt:(List.range ops.size).countP (fun k=>(V.set i v k).isNone)<(List.range ops.size).countP (fun k=>(V k).isNone):=by
      refine z6w (i:=i) (List.mem_range.2 hi') (fun k hk1=>?_) ?_ ?_
      ·by_cases e:k=i
       ·subst e;rw[Gh.set_self] at hk1;cases hk1
       ·rw[Gh.set_ne V v e] at hk1;exact hk1
      ·rw[hVi];rfl
      ·rw[Gh.set_self];rfl
     omega
    ·intro k ok hk1 hk2 e he hb
     by_cases hki:k=i
     ·subst hki
      rw[h2] at hk1
      cases hk1
      exact hmono _ (hdp e he hb)
     ·rw[Gh.set_ne V v hki] at hk2
      exact hmono _ (hcl k ok hk1 hk2 e he hb)

theorem z3q {id:Nat} {w:World} (hm:P.follows .mixedOrders=true) (hd:z2z ops=true) (hl:z6y ops=true) (J:Gh→World→Prop) (h0:J (fun _=>none) w.drew)
  (hstep:∀ (i:Nat) (o:Oper) (V:Gh) (w:World),ops[i]? = some o→V i=none→(∀ e∈o.after,Region.binds .any e=true→(V e.on).isSome=true)→Closed ops V→J V w →
   wpOp P ops Q i (fun a' w'=>∃ v,a'=(actG ops V a0 ops.size).put o.dst v∧J (V.set i v) w') (actG ops V a0 ops.size) w)
  (hend:∀ (V:Gh) (w:World),(∀ k,k<ops.size→(V k).isSome=true)→J V w→Q .normal (actG ops V a0 ops.size) w):(Code.region id ops true).wp P Q a0 w:=by
 refine wp_region_any hm ?_
 have h:=zf6 (P:=P) (Q:=Q) (a0:=a0) hd hl hstep hend ops.size (Array.replicate ops.size false) (fun _=>none) w.drew (by simp) (fun k hk=>by simp[hk]) (Nat.le_trans (List.countP_le_length) (by simp)) (fun k o _ h=>by cases h) h0
 have hz:∀ n,actG ops (fun _=>none) a0 n=a0:=by
  intro n
  induction n with
  | zero=>rfl
  | succ n ih =>
   simp only[actG]
   cases ops[n]?<;>exact ih
 rw[hz] at h
 exact h

end

end Go.Proofs.YtfeebdcmlnapiaaGreat.K

namespace Go.Proofs.YtfeebdcmlnapiaaGreat
open Go.RowKit K
structure Src (w:World) (k:Nat) (v:Value) (n:Nat) (xs:Zvs):Prop where
 len:xs.length=n * k
 one:∀ u∈xs,u.oneCell'=true
 lies:∃ oa cap,v=.slice oa n cap∧n≤cap∧cap≤maxLen∧(oa=none→n=0)∧∀ a,oa=some a→(a.spot=none∨n=0)∧∀ q u,xs[q]? = some u→w.cell? (a.add q)=some u

theorem zch (w:World) (k:Nat):Src w k (.slice none 0 0) 0 []:=⟨by simp,fun u hu=>by simp at hu,none,0,rfl,Nat.le_refl _,by unfold maxLen;omega,fun _=>rfl,fun a ha=>by cases ha⟩

theorem Src.cells {w w':World} {k:Nat} {v:Value} {n:Nat} {xs:Zvs} (h:Src w k v n xs) (hc:∀ a u,w.cell? a=some u→w'.cell? a=some u):Src w' k v n xs:=by
 obtain⟨h1,h2,oa,cap,h3,h4,h5,h6,h7⟩:=h
 exact⟨h1,h2,oa,cap,h3,h4,h5,h6,fun a ha=>⟨(h7 a ha).1,fun q u hu=>hc _ _ ((h7 a ha).2 q u hu)⟩⟩

theorem Src.below {w w':World} {k:Nat} {v:Value} {n:Nat} {xs:Zvs} (h:Src w k v n xs) (hb:Bw w w'):Src w' k v n xs :=
 h.cells fun a u hu=>(hb.cell (World.block_lt_of_cell? w _ hu)).trans hu

theorem z3m {w:World} {base:Nat} {e:TypeId} {k:Nat} {v:Value} {n:Nat} {xs:Zvs} (h:w.ownsRow base e k v n xs) (h1:∀ u∈xs,u.oneCell'=true):Src w k v n xs:=by
 refine⟨h.1,h1,?_⟩
 rcases h.2 with ⟨rfl,rfl⟩|⟨g,cap,cur,rfl,hb,hg,hnc,hcm,hcs,htake⟩
 ·exact⟨none,0,rfl,Nat.le_refl _,by unfold maxLen;omega,fun _=>rfl,fun a ha=>by cases ha⟩
 ·refine⟨_,cap,rfl,hnc,hcm,(fun hh=>by cases hh),fun a ha=>?_⟩
  cases ha
  refine⟨.inl rfl,fun q u hu=>?_⟩
  rw[Addr.add_mid,Nat.zero_add]
  exact zjm h q u hu

theorem z1v {P:Program} {w:World} {base k bytes:Nat} {t ty e:TypeId} {z:Value} (hk0:0<k) (ht:P.underlying t=some (.slice e)) (hi:(P.info? e).map (fun i=>(i.zero,i.size,i.bytes))=some (some z,k,bytes)) (hzs:z.cells.size=k)
  {v v2:Value} {n m:Nat} {xs ys:Zvs} (hown:w.ownsRow base e k v n xs) (hsrc:Src w k v2 m ys) (hbase:base≤w.heap.size) (h63:n+m≤maxLen) (hbytes:(n+m) * bytes≤140737488355328) :
  ∃ v' w',(Builtin.append_ #[t,t] ty #[v,v2]).run P w=.ok v' w'∧w'.ownsRow base e k v' (n+m) (xs++ys)∧w.grownBy w' v.ownBlock∧(v'.ownBlock=v.ownBlock∨v'.ownBlock=some w.heap.size):=by
 obtain⟨i,hi,hz,h1,h2⟩:=info_parts hi
 obtain⟨g1,g2,oa,cap,rfl,g4,g5,g6,g7⟩:=hsrc
 cases oa with
 | none =>
  have hm:=g6 rfl
  subst hm
  have hys:ys=[]:=by simpa using g1
  subst hys
  obtain⟨ov,cv,hv,hnc⟩:∃ (oa:Zoa) (cap:Nat),v=.slice oa n cap∧n≤cap:=by
   rcases hown.2 with ⟨h1,h2⟩|⟨g',cap,cur,h1,-,-,h5,-⟩
   ·exact⟨_,_,by rw[h1,h2],by omega⟩
   ·exact⟨_,_,h1,h5⟩
  subst hv
  exact⟨_,w,z7n t ty e i ht hi ov n cv cap hnc,by simpa using hown,World.grownBy.refl _ _,.inl rfl⟩
 | some ad =>
  obtain⟨-,hc⟩:=g7 ad rfl
  obtain⟨v',w',hr,k2,k3,k4,k5⟩:=run_append_own_at (P:=P) w base t ty e i z k bytes ht hi hz h1 h2 hzs hk0 v n xs hown ad m cap ys g1 hc g2 h63 hbytes hbase
  exact⟨v',w',hr,k2,k3,k5⟩

structure Chain (B:Nat) (e:TypeId) (k n:Nat) (xs:Zvs) (cs:Array Value) (i0 i1 i2 i3:Nat) (V:Gh) (w:World):Prop where
 c0:∀ v,V i0=some v→V i1=none→w.ownsRow B e k v 0 []
 c1:∀ v,V i1=some v→V i3=none→w.ownsRow B e k v n xs
 c2:∀ v,V i2=some v→V i3=none→∃ b,v=.slice (some ⟨b,0,none⟩) 1 1∧w.heap[b]? = some (.cells cs e (0,0))∧(∀ u,V i0=some u→V i1=none→u.ownBlock≠some b)∧(∀ u,V i1=some u→V i3=none→u.ownBlock≠some b)
 c3:∀ v,V i3=some v→w.ownsRow B e k v (n+1) (xs++cs.toList)

section
variable {B:Nat} {e:TypeId} {k n:Nat} {xs:Zvs} {cs:Array Value} {i0 i1 i2 i3:Nat} {V:Gh} {w w':World}

theorem Chain.start:Chain B e k n xs cs i0 i1 i2 i3 (fun _=>none) w:=by
 refine⟨?_,?_,?_,?_⟩<;>(intro v h;cases h)

theorem Chain.set (h:Chain B e k n xs cs i0 i1 i2 i3 V w) {j:Nat} (v:Value) (h0:i0≠j) (h1:i1≠j) (h2:i2≠j) (h3:i3≠j):Chain B e k n xs cs i0 i1 i2 i3 (V.set j v) w:=by
 obtain⟨a,b,c,d⟩:=h
 refine⟨?_,?_,?_,?_⟩<;>simp only[Gh.set_ne V v h0,Gh.set_ne V v h1,Gh.set_ne V v h2,Gh.set_ne V v h3]
 ·exact a
 ·exact b
 ·exact c
 ·exact d

theorem Chain.world (h:Chain B e k n xs cs i0 i1 i2 i3 V w) {r:Option Nat} (hg:w.grownBy w' r) (hr:∀ g,r=some g→∃ cs' e' f,w.heap[g]? = some (.cells cs' e' f)∧e'≠e):Chain B e k n xs cs i0 i1 i2 i3 V w':=by
 have key:∀ {v:Value} {m:Nat} {ys:Zvs},w.ownsRow B e k v m ys→w'.ownsRow B e k v m ys:=by
  intro v m ys ho
  refine ho.kept hg ?_
  rcases ho.2 with ⟨rfl,-⟩|⟨g,cap,cur,rfl,-,hgb,-⟩
  ·exact .inl rfl
  ·refine .inr fun he=>?_
   obtain⟨cs',e',f,h1,h2⟩:=hr g he.symm
   rw[hgb] at h1
   cases h1
   exact h2 rfl
 refine⟨fun v h1 h2=>key (h.c0 v h1 h2),fun v h1 h2=>key (h.c1 v h1 h2),fun v h1 h2=>?_,fun v h1=>key (h.c3 v h1)⟩
 obtain⟨b,q1,q2,q3,q4⟩:=h.c2 v h1 h2
 refine⟨b,q1,(hg.block b (ze q2) (fun he=>?_)).trans q2,q3,q4⟩
 obtain⟨cs',e',f,p1,p2⟩:=hr b he.symm
 rw[q2] at p1
 cases p1
 exact p2 rfl

theorem Chain.on (h:Chain B e k n xs cs i0 i1 i2 i3 V w) (hb:Bw w w'):Chain B e k n xs cs i0 i1 i2 i3 V w' :=
 h.world (r:=none) ⟨hb.os,hb.tape,hb.output,hb.size,fun j hj _=>hb.block j hj⟩ (fun g hg=>by cases hg)

theorem Chain.s0 (h:Chain B e k n xs cs i0 i1 i2 i3 V w) (hB:B≤w.heap.size) (g1:V i1=none) (d1:i1≠i0) (d2:i2≠i0) (d3:i3≠i0):Chain B e k n xs cs i0 i1 i2 i3 (V.set i0 (.slice (some ⟨w.heap.size,0,none⟩) 0 0)) (w.alloc (.cells #[] e)):=by
 have hb:Bw w (w.alloc (.cells #[] e)):=zBa
 have h':=h.on hb
 refine⟨fun v h1 h2=>?_,fun v h1 h2=>?_,fun v h1 h2=>?_,fun v h1=>?_⟩
 ·rw[Gh.set_self] at h1
  cases h1
  exact World.ownsRow_made (w:=w) #[] 0 hB (by decide) (by simp)
 ·rw[Gh.set_ne V _ d1] at h1
  rw[g1] at h1
  cases h1
 ·rw[Gh.set_ne V _ d2] at h1
  rw[Gh.set_ne V _ d3] at h2
  obtain⟨b,q1,q2,q3,q4⟩:=h.c2 v h1 h2
  refine⟨b,q1,(hb.block b (ze q2)).trans q2,fun u hu _ he=>?_,fun u hu _=>?_⟩
  ·rw[Gh.set_self] at hu
   cases hu
   have:=ze q2
   simp[Value.ownBlock] at he
   omega
  ·rw[Gh.set_ne V _ d1,g1] at hu
   cases hu
 ·rw[Gh.set_ne V _ d3] at h1
  exact h'.c3 v h1

theorem Chain.s1 (h:Chain B e k n xs cs i0 i1 i2 i3 V w) {v0 v':Value} (g0:V i0=some v0) (g1:V i1=none) (g3:V i3=none) (ho:w'.ownsRow B e k v' n xs) (hg:w.grownBy w' v0.ownBlock) (hl:v'.ownBlock=v0.ownBlock∨v'.ownBlock=some w.heap.size) (d1:i0≠i1) (d2:i2≠i1) (d3:i3≠i1):Chain B e k n xs cs i0 i1 i2 i3 (V.set i1 v') w':=by
 refine⟨fun v h1 h2=>?_,fun v h1 h2=>?_,fun v h1 h2=>?_,fun v h1=>?_⟩
 ·rw[Gh.set_self] at h2
  cases h2
 ·rw[Gh.set_self] at h1
  cases h1
  exact ho
 ·rw[Gh.set_ne V _ d2] at h1
  obtain⟨b,q1,q2,q3,q4⟩:=h.c2 v h1 g3
  refine⟨b,q1,(hg.block b (ze q2) (fun he=>q3 v0 g0 g1 he.symm)).trans q2,fun u hu hn=>?_,fun u hu _ he=>?_⟩
  ·rw[Gh.set_self] at hn
   cases hn
  ·rw[Gh.set_self] at hu
   cases hu
   rcases hl with hl|hl
   ·exact q3 v0 g0 g1 (hl ▸ he)
   ·rw[hl] at he
    cases he
    have:=ze q2
    omega
 ·rw[Gh.set_ne V _ d3,g3] at h1
  cases h1

theorem Chain.s2 (h:Chain B e k n xs cs i0 i1 i2 i3 V w) (d1:i0≠i2) (d2:i1≠i2) (d3:i3≠i2):Chain B e k n xs cs i0 i1 i2 i3 (V.set i2 (.slice (some ⟨w.heap.size,0,none⟩) 1 1)) (w.alloc (.cells cs e)):=by
 have hb:Bw w (w.alloc (.cells cs e)):=zBa
 have h':=h.on hb
 refine⟨fun v h1 h2=>?_,fun v h1 h2=>?_,fun v h1 h2=>?_,fun v h1=>?_⟩
 ·rw[Gh.set_ne V _ d1] at h1
  rw[Gh.set_ne V _ d2] at h2
  exact h'.c0 v h1 h2
 ·rw[Gh.set_ne V _ d2] at h1
  rw[Gh.set_ne V _ d3] at h2
  exact h'.c1 v h1 h2
 ·rw[Gh.set_self] at h1
  cases h1
  refine⟨w.heap.size,rfl,heap_alloc_new w _,fun u hu hn he=>?_,fun u hu hn he=>?_⟩
  ·rw[Gh.set_ne V _ d1] at hu
   rw[Gh.set_ne V _ d2] at hn
   have:=((h.c0 u hu hn).lt _ he).2
   omega
  ·rw[Gh.set_ne V _ d2] at hu
   rw[Gh.set_ne V _ d3] at hn
   have:=((h.c1 u hu hn).lt _ he).2
   omega
 ·rw[Gh.set_ne V _ d3] at h1
  exact h'.c3 v h1

theorem Chain.s3 (h:Chain B e k n xs cs i0 i1 i2 i3 V w) {v1 v':Value} (g1:V i1=some v1) (ho:w'.ownsRow B e k v' (n+1) (xs++cs.toList)) (d1:i1≠i3):Chain B e k n xs cs i0 i1 i2 i3 (V.set i3 v') w':=by
 refine⟨fun v h1 h2=>?_,fun v h1 h2=>?_,fun v h1 h2=>?_,fun v h1=>?_⟩
 ·rw[Gh.set_ne V _ d1,g1] at h2
  cases h2
 ·rw[Gh.set_self] at h2
  cases h2
 ·rw[Gh.set_self] at h2
  cases h2
 ·rw[Gh.set_self] at h1
  cases h1
  exact ho
end

open P12
def EvsX (w:World) (es:List EvV) (xs:Zvs):Prop:=∀ (i:Nat) (e:EvV),es[i]? = some e→∃ xa xc ya yc,(∀ (j:Nat) (u:Value),(evL e xa xc ya yc)[j]? = some u→xs[i * 9+j]? = some u)∧IntsAt w xa e.levels.length xc e.levels∧IntsAt w ya e.prev.length yc e.prev∧e.text.length≤maxLen

def StsX (w:World) (sts:Zis) (ys:Zvs):Prop:=∀ (i:Nat) (s:Zii),sts[i]? = some s→∃ xa xc,ys[i]? = some (.slice xa s.length xc)∧ItemsAt w xa s.length xc s

theorem EvsX.below {w w':World} {es:List EvV} {xs:Zvs} (h:EvsX w es xs) (hb:Bw w w'):EvsX w' es xs:=fun i e he=>by
 obtain⟨xa,xc,ya,yc,h1,h2,h3,h4⟩:=h i e he
 exact⟨xa,xc,ya,yc,h1,h2.below hb,h3.below hb,h4⟩

theorem StsX.below {w w':World} {sts:Zis} {ys:Zvs} (h:StsX w sts ys) (hb:Bw w w'):StsX w' sts ys:=fun i s hs=>by
 obtain⟨xa,xc,h1,h2⟩:=h i s hs
 exact⟨xa,xc,h1,h2.below hb⟩

theorem EvsX.snoc {w:World} {es:List EvV} {xs:Zvs} (h:EvsX w es xs) (hl:xs.length=es.length * 9) {e:EvV} {xa ya:Zoa} {xc yc:Nat} (h1:IntsAt w xa e.levels.length xc e.levels) (h2:IntsAt w ya e.prev.length yc e.prev) (h3:e.text.length≤maxLen):EvsX w (es++[e]) (xs++evL e xa xc ya yc):=by
 intro i e' he
 rcases Nat.lt_or_ge i es.length with hi|hi
 ·rw[List.getElem?_append_left hi] at he
  obtain⟨xa',xc',ya',yc',q1,q2⟩:=h i e' he
  refine⟨xa',xc',ya',yc',fun j u hu=>?_,q2⟩
  have hj:j<9:=by simpa [evL] using (zGi.1 hu).1
  rw[List.getElem?_append_left (by omega)]
  exact q1 j u hu
 ·rw[List.getElem?_append_right hi] at he
  have hi0:i=es.length:=by
   have:=(zGi.1 he).1
   simp at this
   omega
  subst hi0
  simp at he
  subst he
  refine⟨xa,xc,ya,yc,fun j u hu=>?_,h1,h2,h3⟩
  rw[List.getElem?_append_right (by omega),hl,Nat.add_sub_cancel_left]
  exact hu

theorem StsX.snoc {w:World} {sts:Zis} {ys:Zvs} (h:StsX w sts ys) (hl:ys.length=sts.length) {s:Zii} {xa:Zoa} {xc:Nat} (h1:ItemsAt w xa s.length xc s):StsX w (sts++[s]) (ys++[.slice xa s.length xc]):=by
 intro i s' hs
 rcases Nat.lt_or_ge i sts.length with hi|hi
 ·rw[List.getElem?_append_left hi] at hs
  obtain⟨xa',xc',q1,q2⟩:=h i s' hs
  exact⟨xa',xc',by rw[List.getElem?_append_left (by omega)];exact q1,q2⟩
 ·rw[List.getElem?_append_right hi] at hs
  have hi0:i=sts.length:=by
   have:=(zGi.1 hs).1
   simp at this
   omega
  subst hi0
  simp at hs
  subst hs
  exact⟨xa,xc,by rw[← hl,List.getElem?_append_right zLe];simp,h1⟩

structure RoomX (p:Nat) (w:World) (ve vs vg:Value) (es:List EvV) (sts:Zis) (xs ys zs:Zvs):Prop where
 es_:Src (mask p w) 9 ve es.length xs
 ex:EvsX (mask p w) es xs
 ss_:Src (mask p w) 1 vs sts.length ys
 sx:StsX (mask p w) sts ys
 gs_:Src (mask p w) 1 vg es.length zs

def RoomM (p:Nat) (w:World) (ve vs vg:Value) (es:List EvV) (sts:Zis):Prop:=∃ xs ys zs,RoomX p w ve vs vg es sts xs ys zs

section
variable {p:Nat} {w w':World} {ve vs vg:Value} {es:List EvV} {sts:Zis} {xs ys zs:Zvs}

theorem RoomX.on (h:RoomX p w ve vs vg es sts xs ys zs) (hb:Below (mask p w).heap.size (mask p w) (mask p w')):RoomX p w' ve vs vg es sts xs ys zs :=
 ⟨h.es_.below hb,h.ex.below hb,h.ss_.below hb,h.sx.below hb,h.gs_.below hb⟩

theorem RoomM.on (h:RoomM p w ve vs vg es sts) (hb:Below (mask p w).heap.size (mask p w) (mask p w')):RoomM p w' ve vs vg es sts:=by
 obtain⟨xs,ys,zs,h⟩:=h
 exact⟨xs,ys,zs,h.on hb⟩

theorem RoomM.nil (p:Nat) (w:World):RoomM p w (.slice none 0 0) (.slice none 0 0) (.slice none 0 0) [] [] :=
 ⟨[],[],[],zch _ _,fun i e he=>by simp at he,zch _ _,fun i e he=>by simp at he,zch _ _⟩

theorem zf7 {w:World} (h:Src w 9 ve es.length xs) (hx:EvsX w es xs):∃ oa cap,ve=.slice oa es.length cap∧EvsAt w oa es.length cap es:=by
 obtain⟨h1,h2,oa,cap,rfl,h4,h5,h6,h7⟩:=h
 refine⟨oa,cap,rfl,rfl,h4,h5,fun i e he=>?_⟩
 have hi:=(zGi.1 he).1
 obtain⟨xa,xc,ya,yc,q1,q2,q3,q4⟩:=hx i e he
 cases oa with
 | none=>have:=h6 rfl;omega
 | some a =>
  obtain⟨hsp,hc⟩:=h7 a rfl
  obtain⟨b,o,sp⟩:=a
  have hs:sp=none:=by
   rcases hsp with hsp|hsp
   ·exact hsp
   ·omega
  subst hs
  refine⟨b,o,xa,xc,ya,yc,rfl,fun j u hu=>?_,q2,q3,q4⟩
  have:=hc _ _ (q1 j u hu)
  rw[Addr.add_mid] at this
  rw[Nat.add_assoc]
  exact this

theorem zf8 {w:World} (h:Src w 1 vs sts.length ys) (hx:StsX w sts ys):∃ oa cap,vs=.slice oa sts.length cap∧StsAt w oa sts.length cap sts:=by
 obtain⟨h1,h2,oa,cap,rfl,h4,h5,h6,h7⟩:=h
 refine⟨oa,cap,rfl,rfl,h4,h5,fun i e he=>?_⟩
 have hi:=(zGi.1 he).1
 obtain⟨xa,xc,q1,q2⟩:=hx i e he
 cases oa with
 | none=>have:=h6 rfl;omega
 | some a =>
  obtain⟨hsp,hc⟩:=h7 a rfl
  obtain⟨b,o,sp⟩:=a
  have hs:sp=none:=by
   rcases hsp with hsp|hsp
   ·exact hsp
   ·omega
  subst hs
  refine⟨b,o,xa,xc,rfl,?_,q2⟩
  have:=hc _ _ q1
  rw[Addr.add_mid] at this
  exact this

theorem RoomX.add (h:RoomX p w ve vs vg es sts xs ys zs) (hb:Below (mask p w).heap.size (mask p w) (mask p w')) {B:Nat} (hp:p<B) {ve' vs' vg':Value} {e:EvV} {xa ya:Zoa} {xc yc:Nat} {s:Zii} {oa:Zoa} {cap:Nat} {g:Bool}
  (h1:w'.ownsRow B 62 9 ve' (es.length+1) (xs++evL e xa xc ya yc)) (h2:w'.ownsRow B 74 1 vs' (sts.length+1) (ys++[.slice oa s.length cap])) (h3:w'.ownsRow B 4 1 vg' (es.length+1) (zs++[.bool g]))
  (hl:IntsAt (mask p w') xa e.levels.length xc e.levels) (hq:IntsAt (mask p w') ya e.prev.length yc e.prev) (ht:e.text.length≤maxLen) (hs:ItemsAt (mask p w') oa s.length cap s) :
  RoomX p w' ve' vs' vg' (es++[e]) (sts++[s]) (xs++evL e xa xc ya yc) (ys++[.slice oa s.length cap]) (zs++[.bool g]):=by
 have h':=h.on hb
 have key:∀ {l:Zvs} {r:Zvs},(∀ u∈l,u.oneCell'=true)→(∀ u∈r,u.oneCell'=true)→∀ u∈l++r,u.oneCell'=true:=fun ha hb u hu=>by
  rcases List.mem_append.1 hu with hu|hu
  ·exact ha u hu
  ·exact hb u hu
 refine⟨?_,h'.ex.snoc h.es_.len hl hq ht,?_,h'.sx.snoc (by have:=h.ss_.len;omega) hs,?_⟩
 ·rw[List.length_append]
  exact z3m (z2f h1 hp) (key h.es_.one (by simp[evL,Value.oneCell']))
 ·rw[List.length_append]
  exact z3m (z2f h2 hp) (key h.ss_.one (by simp[Value.oneCell']))
 ·rw[List.length_append]
  exact z3m (z2f h3 hp) (key h.gs_.one (by simp[Value.oneCell']))
end

structure RoomT (p:Nat) (w:World) (ve vs vg:Value) (es:List EvV) (sts:Zis):Prop where
 e:∃ xs,(mask p w).ownsRow 0 62 9 ve es.length xs∧(∀ u∈xs,u.oneCell'=true)∧EvsX (mask p w) es xs
 s:∃ ys,(mask p w).ownsRow 0 74 1 vs sts.length ys∧(∀ u∈ys,u.oneCell'=true)∧StsX (mask p w) sts ys
 g:∃ zs,(mask p w).ownsRow 0 4 1 vg es.length zs∧(∀ u∈zs,u.oneCell'=true)

section
variable {p:Nat} {w w':World} {ve vs vg:Value} {es:List EvV} {sts:Zis}

theorem RoomT.room (h:RoomT p w ve vs vg es sts):RoomM p w ve vs vg es sts:=by
 obtain⟨⟨xs,h1,h2,h3⟩,⟨ys,h4,h5,h6⟩,⟨zs,h7,h8⟩⟩:=h
 exact⟨xs,ys,zs,z3m h1 h2,h3,z3m h4 h5,h6,z3m h7 h8⟩

theorem RoomT.on (h:RoomT p w ve vs vg es sts) (hb:Below (mask p w).heap.size (mask p w) (mask p w')):RoomT p w' ve vs vg es sts:=by
 obtain⟨⟨xs,h1,h2,h3⟩,⟨ys,h4,h5,h6⟩,⟨zs,h7,h8⟩⟩:=h
 exact⟨⟨xs,own_below h1 hb,h2,h3.below hb⟩,⟨ys,own_below h4 hb,h5,h6.below hb⟩,⟨zs,own_below h7 hb,h8⟩⟩

theorem RoomT.nil (p:Nat) (w:World):RoomT p w (.slice none 0 0) (.slice none 0 0) (.slice none 0 0) [] [] :=
 ⟨⟨[],World.ownsRow_nil _ _ _ _,(fun u hu=>by simp at hu),(fun i e he=>by simp at he)⟩,⟨[],World.ownsRow_nil _ _ _ _,(fun u hu=>by simp at hu),(fun i e he=>by simp at he)⟩,⟨[],World.ownsRow_nil _ _ _ _,(fun u hu=>by simp at hu)⟩⟩

theorem RoomT.off (h:RoomT p w ve vs vg es sts) {g:Nat} {cs:Array Value} (hg:w.grownBy w' (some g)) (hb:w.heap[g]? = some (.cells cs 32 (0,0))) (hcs:∀ u∈cs,∀ k n,u≠.int k n) (hgp:g≠p) (hp:p<w.heap.size):RoomT p w' ve vs vg es sts:=by
 have hmb:(mask p w).heap[g]? = some (.cells cs 32 (0,0)):=(z3l w hgp).trans hb
 have hgl:=ze hb
 have hm:(mask p w).grownBy (mask p w') (some g):=⟨hg.os,hg.tape,hg.output,by rw[z1y,z1y];exact hg.size,fun k hk hne=>by
  rw[z1y] at hk
  by_cases e:k=p
  ·subst e
   rw[z5s hp,z5s (zLt hp hg.size)]
  ·rw[z3l _ e,z3l _ e]
   exact hg.block k hk hne⟩
 have hrow:∀ {e:TypeId} {k:Nat} {v:Value} {n:Nat} {xs:Zvs},e≠32→(mask p w).ownsRow 0 e k v n xs→(mask p w').ownsRow 0 e k v n xs:=by
  intro e k v n xs hne ho
  refine ho.kept hm ?_
  rcases ho.2 with ⟨rfl,-⟩|⟨q,cap,cur,rfl,-,hq,-⟩
  ·exact .inl rfl
  ·refine .inr fun he=>?_
   cases he
   rw[hmb] at hq
   cases hq
   exact hne rfl
 have hcell:∀ {a:Addr} {k:IntKind} {n:Int},(mask p w).cell? a=some (.int k n)→(mask p w').cell? a=some (.int k n):=by
  intro a k n hc
  have hne:a.block≠g:=by
   intro e
   unfold World.cell? at hc
   rw[e,hmb] at hc
   simp only at hc
   split at hc
   ·cases hc
   ·have:=Array.mem_of_getElem? hc
    exact hcs _ this k n rfl
  rw[← hc]
  exact World.cell?_of_block (hm.block a.block (by have:=World.block_lt_of_cell? _ _ hc;exact this) (fun e=>hne (zSi e)))
 have hints:∀ {oa:Zoa} {n cap:Nat} {zs:Zin},IntsAt (mask p w) oa n cap zs→IntsAt (mask p w') oa n cap zs:=fun h=>⟨h.len,h.room,h.most,h.fits,fun i z hz=>by
  obtain⟨b,o,h1,h2⟩:=h.at_ i z hz
  exact⟨b,o,h1,hcell h2⟩⟩
 have hitems:∀ {oa:Zoa} {n cap:Nat} {s:Zii},ItemsAt (mask p w) oa n cap s→ItemsAt (mask p w') oa n cap s:=fun h=>⟨h.len,h.room,h.most,fun i x hx=>by
  obtain⟨b,o,h1,h2⟩:=h.at_ i x hx
  refine⟨b,o,h1,fun j u hu=>?_⟩
  have hc:=h2 j u hu
  have hu':u=.int .i64 x.1∨u=.int .i64 x.2:=by
   have:=zMg hu
   simpa [z02] using this
  rcases hu' with rfl|rfl<;>exact hcell hc⟩
 obtain⟨⟨xs,h1,h2,h3⟩,⟨ys,h4,h5,h6⟩,⟨zs,h7,h8⟩⟩:=h
 refine⟨⟨xs,hrow (by decide) h1,h2,fun i e he=>?_⟩,⟨ys,hrow (by decide) h4,h5,fun i s hs=>?_⟩,⟨zs,hrow (by decide) h7,h8⟩⟩
 ·obtain⟨xa,xc,ya,yc,q1,q2,q3,q4⟩:=h3 i e he
  exact⟨xa,xc,ya,yc,q1,hints q2,hints q3,q4⟩
 ·obtain⟨xa,xc,q1,q2⟩:=h6 i s hs
  exact⟨xa,xc,q1,hitems q2⟩

theorem RoomX.addT {xs ys zs:Zvs} (h:RoomX p w ve vs vg es sts xs ys zs) (hb:Below (mask p w).heap.size (mask p w) (mask p w')) {B:Nat} (hp:p<B) {ve' vs' vg':Value} {e:EvV} {xa ya:Zoa} {xc yc:Nat} {s:Zii} {oa:Zoa} {cap:Nat} {g:Bool}
  (h1:w'.ownsRow B 62 9 ve' (es.length+1) (xs++evL e xa xc ya yc)) (h2:w'.ownsRow B 74 1 vs' (sts.length+1) (ys++[.slice oa s.length cap])) (h3:w'.ownsRow B 4 1 vg' (es.length+1) (zs++[.bool g]))
  (hl:IntsAt (mask p w') xa e.levels.length xc e.levels) (hq:IntsAt (mask p w') ya e.prev.length yc e.prev) (ht:e.text.length≤maxLen) (hs:ItemsAt (mask p w') oa s.length cap s) :
  RoomT p w' ve' vs' vg' (es++[e]) (sts++[s]):=by
 have h':=h.add hb hp h1 h2 h3 hl hq ht hs
 refine⟨⟨_,?_,h'.es_.one,h'.ex⟩,⟨_,?_,h'.ss_.one,h'.sx⟩,⟨_,?_,h'.gs_.one⟩⟩
 ·rw[List.length_append]
  exact zu (z2f h1 hp) (Nat.zero_le _)
 ·rw[List.length_append]
  exact zu (z2f h2 hp) (Nat.zero_le _)
 ·rw[List.length_append]
  exact zu (z2f h3 hp) (Nat.zero_le _)
end

theorem z1w {w w':World} {base:Nat} {e e':TypeId} {k:Nat} {v:Value} {n g:Nat} {xs:Zvs} {cs:Array Value} (h:w.ownsRow base e k v n xs) (hg:w.grownBy w' (some g)) (hb:w.heap[g]? = some (.cells cs e' (0,0))) (hne:e≠e'):w'.ownsRow base e k v n xs:=by
 refine h.kept hg ?_
 rcases h.2 with ⟨rfl,-⟩|⟨q,cap,cur,rfl,-,hq,-⟩
 ·exact .inl rfl
 ·refine .inr fun he=>?_
  cases he
  rw[hb] at hq
  cases hq
  exact hne rfl

end Go.Proofs.YtfeebdcmlnapiaaGreat
