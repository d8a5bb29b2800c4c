/-
  Walks.
-/
import Derived.Lib.ItoaLen
import Derived.Test.YtfeebdcmlnapiaaGreatTItemsArg
set_option linter.unusedVariables false
namespace Go.Proofs.YtfeebdcmlnapiaaGreat.P1

def varF:Nat→Nat→List UInt8
 | 0,n=>[UInt8.ofNat n]
 | f+1,n=>if 127<n then UInt8.ofNat (n % 128+128)::varF f (n / 128) else [UInt8.ofNat n]

def varB (n:Nat):List UInt8:=varF 9 n

theorem y5p (f n:Nat) (h:127<n):varF (f+1) n=UInt8.ofNat (n % 128+128)::varF f (n / 128):=by
 simp[varF,h]

theorem y5q (f n:Nat) (h:n≤127):varF f n=[UInt8.ofNat n]:=by
 cases f<;>simp[varF];omega

theorem y5a (f n:Nat):(varF f n).length≤f+1:=by
 induction f generalizing n with
 | zero=>simp[varF]
 | succ f ih=>unfold varF;split<;>simp;exact ih _

theorem y3b (n:Nat):(varB n).length≤10:=y5a 9 n

theorem y5m (f n m:Nat) (xs:List UInt8) (hm:m<128 ^ (f+1)) (h:xs++varF f m=varB n) (hi:127<m) :
  ∃ f',f=f'+1∧m / 128<128 ^ (f'+1)∧(xs++[UInt8.ofNat (m % 128+128)])++varF f' (m / 128)=varB n:=by
 cases f with
 | zero=>simp at hm;omega
 | succ f' =>
  refine⟨f',rfl,?_,?_⟩
  ·rw[Nat.div_lt_iff_lt_mul (by decide)]
   rw[Nat.pow_succ] at hm
   exact hm
  ·rw[y5p f' m hi] at h
   simpa using h

theorem y5r (f n m:Nat) (xs:List UInt8) (h:xs++varF f m=varB n) (lo:m≤127):xs++[UInt8.ofNat m]=varB n:=by
 rw[y5q f m lo] at h
 exact h

end Go.Proofs.YtfeebdcmlnapiaaGreat.P1

namespace Go.Proofs.YtfeebdcmlnapiaaGreat.P9
open P1

def after:Option Int→Int→Bool
 | none,_=>true
 | some y,z=>decide (y<z)

def pv (zs:List Int):Nat→Option Int
 | 0=>none
 | j+1=>zs[j]?

end Go.Proofs.YtfeebdcmlnapiaaGreat.P9

namespace Go.Proofs.YtfeebdcmlnapiaaGreat.P11
open P1 P9

def y3a (l:List UInt8):List UInt8:=varB l.length++l

end Go.Proofs.YtfeebdcmlnapiaaGreat.P11

namespace Go.Proofs.YtfeebdcmlnapiaaGreat.P12
open P1 P9 P11

structure EvV where
 id:Int
 kind:Int
 sender:Int
 user:Int
 member:Int
 levels:List Int
 text:List UInt8
 prev:List Int
 depth:Int
deriving DecidableEq

def inR (a lo hi:Int):Bool:=decide (lo≤a)&&decide (a≤hi)

theorem inR_iff {a lo hi:Int}:inR a lo hi=true↔lo≤a∧a≤hi:=by simp[inR]

def lvOk (zs:List Int):Bool:=zs.all (fun z=>inR z 0 100)&&decide (zs.length=5)

def z0i (e:EvV):Bool:=if e.kind=2 then inR e.user 1 5&&inR e.member 0 3 else decide (e.user=0)&&decide (e.member=0)

def z13 (e:EvV):Bool:=if e.kind=3 then lvOk e.levels else decide (e.levels=[])

def txOk (e:EvV):Bool:=if e.kind=4∨e.kind=5 then decide (e.text.length≤24) else decide (e.text=[])

def zo (e:EvV):Bool:=inR e.kind 1 5&&(inR e.sender 1 5&&(z0i e&&(z13 e&&txOk e)))

def pvOk (id:Int):Option Int→List Int→Bool
 | _,[]=>true
 | p,z::r=>(inR z 1 1000000&&(decide (z≠id)&&after p z))&&pvOk id (some z) r

def z11 (e:EvV):Bool:=decide (e.prev.length≤3)&&(decide (e.kind=1↔e.prev=[])&&pvOk e.id none e.prev)

def evOk (e:EvV):Bool:=zo e&&(inR e.id 1 1000000&&(inR e.depth 0 1000000&&z11 e))

def byB (n:Int):UInt8:=UInt8.ofNat n.toNat

def varZ (n:Int):List UInt8:=varB n.toNat

def y3t (e:EvV):List UInt8:=byB e.kind::byB e.sender::byB e.user::byB e.member::(varB e.levels.length++(e.levels.map byB++y3a e.text))

def evB (e:EvV):List UInt8:=varZ e.id++(y3t e++(varB e.prev.length++(e.prev.flatMap varZ++varZ e.depth)))

theorem zef {id:Int}:∀ (zs:List Int) (p:Option Int),pvOk id p zs=true→∀ z∈zs,1≤z∧z≤1000000
 | y::r,p,h,z,hz=>by
  simp only[pvOk,Bool.and_eq_true,inR_iff] at h
  rcases List.mem_cons.1 hz with rfl|hz
  ·exact h.1.1
  ·exact zef r _ h.2 z hz

theorem zll {zs:List Int} (h:lvOk zs=true):∀ z∈zs,0≤z∧z≤100:=by
 unfold lvOk at h
 simp only[Bool.and_eq_true,List.all_eq_true] at h
 exact fun z hz=>inR_iff.1 (h.1 z hz)

theorem zcp {e:EvV} (h:z13 e=true):(∀ z∈e.levels,0≤z∧z≤100)∧e.levels.length≤5:=by
 unfold z13 at h
 split at h
 ·refine⟨zll h,?_⟩
  unfold lvOk at h
  simp only[Bool.and_eq_true,decide_eq_true_eq] at h
  omega
 ·have h:=of_decide_eq_true h
  rw[h]
  simp

theorem zlm {e:EvV} (h:txOk e=true):e.text.length≤24:=by
 unfold txOk at h
 split at h
 ·exact of_decide_eq_true h
 ·have h:=of_decide_eq_true h
  rw[h]
  simp

theorem zln {e:EvV} (h:z0i e=true):0≤e.user∧e.user≤5∧0≤e.member∧e.member≤3:=by
 unfold z0i at h
 split at h
 ·simp only[Bool.and_eq_true,inR_iff] at h
  omega
 ·simp only[Bool.and_eq_true,decide_eq_true_eq] at h
  omega

structure EvIn (e:EvV):Prop where
 id:1≤e.id∧e.id≤1000000
 kind:1≤e.kind∧e.kind≤5
 sender:1≤e.sender∧e.sender≤5
 user:0≤e.user∧e.user≤5
 member:0≤e.member∧e.member≤3
 levels:∀ z∈e.levels,0≤z∧z≤100
 many:e.levels.length≤5
 text:e.text.length≤24
 prev:∀ z∈e.prev,1≤z∧z≤1000000
 prevs:e.prev.length≤3
 depth:0≤e.depth∧e.depth≤1000000

theorem zhb {e:EvV} (h:evOk e=true):EvIn e:=by
 unfold evOk zo z11 at h
 simp only[Bool.and_eq_true,inR_iff,decide_eq_true_eq] at h
 obtain⟨⟨h1,h2,h3,h4,h5⟩,h6,h7,h8,-,h9⟩:=h
 have hm:=zln h3
 exact⟨h6,h1,h2,⟨hm.1,hm.2.1⟩,hm.2.2,(zcp h4).1,(zcp h4).2,zlm h5,zef _ _ h9,h8,h7⟩

def bz (b:UInt8):Int:=(b.toNat:Int)

theorem y5x {z:Int} (h:0≤z∧z≤255):bz (byB z)=z:=by
 unfold bz byB
 have:(UInt8.ofNat z.toNat).toNat=z.toNat:=by simp[UInt8.toNat_ofNat'];omega
 rw[this]
 omega

def y43 (e:EvV):Option (List UInt8):=if evOk e=true then some (evB e) else none

def keyOf (e:EvV):Int :=
 if e.kind=1 then 1 else if e.kind=3 then 2 else if e.kind=4 then 3 else if e.kind=2∧inR e.user 1 5=true then 10+e.user else 0

end Go.Proofs.YtfeebdcmlnapiaaGreat.P12

namespace Go.Proofs.YtfeebdcmlnapiaaGreat.P14
open P1 P9 P11 P12

def z0z (k:Int):Bool:=inR k 1 3||inR k 11 15

def zt:Option Int→List (Int × Int)→Bool
 | _,[]=>true
 | p,x::r=>(z0z x.1&&(inR x.2 1 1000000&&after p x.1))&&zt (some x.1) r

def stOk (s:List (Int × Int)):Bool:=decide (s.length≤8)&&zt none s

def stAt:List (Int × Int)→Int→Int
 | [],_=>0
 | x::r,k=>if x.1=k then x.2 else stAt r k

def stIn (s:List (Int × Int)) (k i:Int):List (Int × Int):=s.filter (fun x=>decide (x.1<k))++(k,i)::s.filter (fun x=>decide (k<x.1))

def z0n (s:List (Int × Int)) (k i:Int):List (Int × Int):=if stOk s&&stOk (stIn s k i) then stIn s k i else s

def z2r:List (Int × Int)→Int→Int→List (Int × Int)
 | [],k,i=>[(k,i)]
 | x::r,k,i=>if x.1<k then x::z2r r k i else if x.1=k then (k,i)::r else (k,i)::x::r

theorem zfz {p:Option Int} {a b:Int} (h:after p a=true) (hab:a<b):after p b=true:=by
 cases p with
 | none=>rfl
 | some y=>simp only[after,decide_eq_true_eq] at h ⊢;omega

theorem z3h:∀ {s:List (Int × Int)} {p:Option Int},zt p s=true→∀ x∈s,after p x.1=true
 | y::r,p,h,x,hx=>by
  simp only[zt,Bool.and_eq_true] at h
  rcases List.mem_cons.1 hx with rfl|hx
  ·exact h.1.2.2
  ·have:=z3h h.2 x hx
   exact zfz h.1.2.2 (by simpa [after] using this)

theorem stFrom_mem:∀ {s:List (Int × Int)} {p:Option Int},zt p s=true→∀ x∈s,z0z x.1=true∧inR x.2 1 1000000=true
 | y::r,p,h,x,hx=>by
  simp only[zt,Bool.and_eq_true] at h
  rcases List.mem_cons.1 hx with rfl|hx
  ·exact⟨h.1.1,h.1.2.1⟩
  ·exact stFrom_mem h.2 x hx

def z6q (k:Int):Int:=if k≤3 then k else k - 7

theorem z1x {k:Int} (h:z0z k=true):(1≤k∧k≤3)∨(11≤k∧k≤15):=by
 simp only[z0z,Bool.or_eq_true,inR_iff] at h
 exact h

theorem zcq {k:Int} (h:z0z k=true):1≤z6q k∧z6q k≤8:=by
 have:=z1x h
 unfold z6q
 split<;>omega

theorem zjn {a b:Int} (ha:z0z a=true) (hb:z0z b=true) (h:a<b):z6q a<z6q b:=by
 have:=z1x ha
 have:=z1x hb
 unfold z6q
 split<;>split<;>omega

theorem zb3:∀ {s:List (Int × Int)} {k:Int},z0z k=true→zt (some k) s=true→(s.length:Int)+z6q k≤8
 | [],k,hk,_=>by have:=zcq hk;simp;omega
 | x::r,k,hk,h=>by
  simp only[zt,Bool.and_eq_true] at h
  have ih:=zb3 h.1.1 h.2
  have:=zjn hk h.1.1 (by simpa [after] using h.1.2.2)
  simp only[List.length_cons]
  omega

theorem z4g {s:List (Int × Int)} (h:zt none s=true):s.length≤8:=by
 cases s with
 | nil=>simp
 | cons x r =>
  simp only[zt,Bool.and_eq_true] at h
  have:=zb3 h.1.1 h.2
  have:=zcq h.1.1
  simp only[List.length_cons]
  omega

theorem z1g (s:List (Int × Int)):stOk s=zt none s:=by
 unfold stOk
 cases h:zt none s with
 | false=>simp
 | true=>simp[z4g h]

theorem filter_all {α:Type} {f:α→Bool}:∀ {l:List α},(∀ x∈l,f x=true)→l.filter f=l:=fun h=>List.filter_eq_self.2 h

theorem zg0 {α:Type} {f:α→Bool}:∀ {l:List α},(∀ x∈l,f x=false)→l.filter f=[]:=fun h=>List.filter_eq_nil_iff.2 (fun x hx=>by simp[h x hx])

theorem zeg:∀ {s:List (Int × Int)} {p:Option Int} {k i:Int},zt p s=true→stIn s k i=z2r s k i
 | [],p,k,i,_=>rfl
 | x::r,p,k,i,h=>by
  simp only[zt,Bool.and_eq_true] at h
  have hr:∀ y∈r,x.1<y.1:=fun y hy=>by simpa [after] using z3h h.2 y hy
  have ih:=zeg (k:=k) (i:=i) h.2
  unfold stIn at ih ⊢
  unfold z2r
  by_cases h1:x.1<k
  ·rw[if_pos h1,← ih]
   rw[List.filter_cons_of_pos (by simpa using h1),List.filter_cons_of_neg (by simp;omega)]
   rfl
  ·rw[if_neg h1]
   have e1:r.filter (fun x=>decide (x.1<k))=[]:=zg0 (fun y hy=>by have:=hr y hy;simp;omega)
   have e2:r.filter (fun x=>decide (k<x.1))=r:=filter_all (fun y hy=>by have:=hr y hy;simp;omega)
   rw[List.filter_cons_of_neg (by simpa using h1),e1]
   by_cases h2:x.1=k
   ·rw[if_pos h2,List.filter_cons_of_neg (by simp;omega),e2]
    rfl
   ·rw[if_neg h2,List.filter_cons_of_pos (by simp;omega),e2]
    rfl

theorem z8v:∀ {s:List (Int × Int)} {p:Option Int} {k i:Int},zt p s=true→z0z k=true→inR i 1 1000000=true→after p k=true→zt p (z2r s k i)=true
 | [],p,k,i,_,hk,hi,hp=>by simp[z2r,zt,hk,hi,hp]
 | x::r,p,k,i,h,hk,hi,hp=>by
  simp only[zt,Bool.and_eq_true] at h
  unfold z2r
  split
  ·rename_i h1
   simp only[zt,Bool.and_eq_true]
   exact⟨h.1,z8v h.2 hk hi (by simpa [after] using h1)⟩
  ·rename_i h1
   split
   ·rename_i h2
    subst h2
    simp only[zt,Bool.and_eq_true]
    exact⟨⟨hk,hi,hp⟩,h.2⟩
   ·rename_i h2
    simp only[zt,Bool.and_eq_true]
    exact⟨⟨hk,hi,hp⟩,⟨h.1.1,h.1.2.1,by simp only[after,decide_eq_true_eq];omega⟩,h.2⟩

theorem zcr {k i:Int}:∀ (s:List (Int × Int)),(k,i)∈z2r s k i
 | []=>by simp[z2r]
 | x::r=>by
  unfold z2r
  split
  ·exact List.mem_cons_of_mem _ (zcr r)
  ·split<;>simp

theorem zas {s:List (Int × Int)} {k i:Int} (h:stOk s=true):stOk (z2r s k i)=(z0z k&&inR i 1 1000000):=by
 rw[z1g] at h
 rw[z1g]
 by_cases hb:(z0z k&&inR i 1 1000000)=true
 ·rw[hb]
  simp only[Bool.and_eq_true] at hb
  exact z8v h hb.1 hb.2 rfl
 ·rw[Bool.not_eq_true] at hb
  rw[hb]
  cases hq:zt none (z2r s k i) with
  | false=>rfl
  | true =>
   obtain⟨h1,h2⟩:=stFrom_mem hq _ (zcr s)
   simp only at h1 h2
   rw[h1,h2] at hb
   cases hb

theorem z8w (s:List (Int × Int)) (k i:Int):z0n s k i=if stOk s&&(z0z k&&inR i 1 1000000) then z2r s k i else s:=by
 unfold z0n
 cases h:stOk s with
 | false=>rfl
 | true=>rw[zeg (by rw[← z1g];exact h:zt none s=true),zas h]

theorem zeh {s:List (Int × Int)} {k i:Int} (h:stOk s=true):stOk (z0n s k i)=true:=by
 rw[z8w,h]
 split
 ·rename_i hb
  rw[zas h]
  simpa using hb
 ·exact h

theorem zat:∀ {s:List (Int × Int)} {p:Option Int},zt p s=true→∀ x∈s,stAt s x.1=x.2
 | y::r,p,h,x,hx=>by
  simp only[zt,Bool.and_eq_true] at h
  unfold stAt
  rcases List.mem_cons.1 hx with rfl|hx
  ·rw[if_pos rfl]
  ·have:=z3h h.2 x hx
   rw[if_neg (by simp only[after,decide_eq_true_eq] at this;omega)]
   exact zat h.2 x hx

def zf:List EvV→Int→Option EvV
 | [],_=>none
 | e::r,i=>if e.id=i then some e else zf r i

theorem z2h:∀ {es:List EvV} {i:Int} {e:EvV},zf es i=some e→e∈es∧e.id=i
 | x::r,i,e,h=>by
  unfold zf at h
  split at h
  ·rename_i h1
   cases h
   exact⟨by simp,h1⟩
  ·have:=z2h h
   exact⟨List.mem_cons_of_mem _ this.1,this.2⟩

theorem za9:∀ {es:List EvV} {i:Int},(∀ e∈es,e.id≠i)→zf es i=none
 | [],i,_=>rfl
 | x::r,i,h=>by
  unfold zf
  rw[if_neg (h x (by simp))]
  exact za9 (fun e he=>h e (List.mem_cons_of_mem _ he))

def z10 (es:List EvV) (s:List (Int × Int)) (u:Int):Int :=
 if inR u 1 5 then
  match zf es (stAt s (10+u)) with
  | none=>0
  | some e=>if e.kind=2∧e.user=u then e.member else 0
 else 0

def z0e (es:List EvV) (s:List (Int × Int)) (u:Int):Int :=
 let made:Int:=match zf es (stAt s 1) with
  | none=>0
  | some c=>if c.kind=1∧c.sender=u then 100 else 0
 if inR u 1 5 then
  match zf es (stAt s 2) with
  | none=>made
  | some p=>if p.kind=3∧p.levels.length=5 then p.levels.getD (u.toNat - 1) 0 else made
 else 0

def z3u (s:List (Int × Int)):Bool:=s.all (fun x=>decide (x.1≤10))

def z6r (es:List EvV) (s:List (Int × Int)) (e:EvV):Bool :=
 let now:=z10 es s e.user
 let asked:=decide (now=1)||decide (now=2)
 let first:=match zf es (stAt s 1) with
  | none=>false
  | some c=>decide (c.sender=e.sender)&&z3u s
 if e.member=2 then asked||first else if e.member=0 then asked else false

def z5b (es:List EvV) (s:List (Int × Int)) (e:EvV):Bool :=
 if e.user=e.sender then z6r es s e else
  let now:=z10 es s e.user
  let mine:=z0e es s e.sender
  let above:=decide (50≤mine)&&decide (z0e es s e.user<mine)
  decide (z10 es s e.sender=2)&&(if e.member=1 then decide (now=0) else if e.member=0 then (decide (now=1)||decide (now=2))&&above else if e.member=3 then decide (now≠3)&&above else false)

def z3y (es:List EvV) (s:List (Int × Int)) (e:EvV) (u:Int):Bool :=
 let mine:=z0e es s e.sender
 let old:=z0e es s u
 let now:=e.levels.getD (u.toNat - 1) 0
 decide (now=old)||(decide (now≤mine)&&(decide (old<mine)||decide (u=e.sender)))

def z6m (es:List EvV) (s:List (Int × Int)) (e:EvV):Bool :=
 (decide (z10 es s e.sender=2)&&decide (50≤z0e es s e.sender))&&([1,2,3,4,5]:List Int).all (z3y es s e)

def allowed (es:List EvV) (s:List (Int × Int)) (e:EvV):Bool :=
 evOk e&&(if e.kind=1 then decide (s=[]) else
  (match zf es (stAt s 1) with
   | none=>false
   | some c=>decide (c.kind=1)) &&
  (if e.kind=2 then z5b es s e else if e.kind=3 then z6m es s e else if e.kind=4 then decide (z10 es s e.sender=2)&&decide (50≤z0e es s e.sender) else decide (z10 es s e.sender=2)))

end Go.Proofs.YtfeebdcmlnapiaaGreat.P14

namespace Go.Proofs.YtfeebdcmlnapiaaGreat
open Go.RowKit P14 K
def zm:Zii→Int→Option Int
 | [],_=>none
 | x::r,k=>if x.1=k then some x.2 else zm r k

theorem z7h:∀ (s:Zii) (k:Int),stAt s k=(zm s k).getD 0
 | [],_=>rfl
 | x::r,k=>by
  unfold stAt zm
  split
  ·rfl
  ·exact z7h r k

theorem zaa (s:Zii) (x:Int × Int) (k:Int):zm (s++[x]) k=match zm s k with|some i=>some i|none=>if x.1=k then some x.2 else none:=by
 induction s with
 | nil=>simp[zm]
 | cons y r ih =>
  rw[List.cons_append]
  unfold zm
  split
  ·rfl
  ·exact ih

theorem z4l:∀ {s:Zii} {k i:Int},zm s k=some i→(k,i)∈s
 | x::r,k,i,h=>by
  unfold zm at h
  split at h
  ·rename_i e
   cases h
   subst e
   exact List.mem_cons_self
  ·exact List.mem_cons_of_mem _ (z4l h)

def updI (F:Int→Option Int) (k:Int) (v:Option Int):Int→Option Int:=fun x=>if x=k then v else F x

theorem z7i (F:Int→Option Int) (k:Int) (v:Option Int):updI F k v k=v:=if_pos rfl

theorem z6e (F:Int→Option Int) {k x:Int} (v:Option Int) (h:x≠k):updI F k v x=F x:=if_neg h

theorem zi3 {s:Zii} {x:Int × Int} (h:zm s x.1=none):zm (s++[x])=updI (zm s) x.1 (some x.2):=by
 funext k
 rw[zaa]
 by_cases e:k=x.1
 ·subst e;rw[h,z7i];simp
 ·rw[z6e _ _ e]
  cases zm s k with
  | none=>simp;intro h1;exact absurd h1.symm e
  | some i=>rfl

theorem zi4 {s:Zii} {x:Int × Int} {i:Int} (h:zm s x.1=some i):zm (s++[x])=zm s:=by
 funext k
 rw[zaa]
 by_cases e:k=x.1
 ·subst e;rw[h]
 ·cases zm s k with
  | none=>simp;intro h1;exact absurd h1.symm e
  | some i=>rfl

abbrev numD (i:Int):DataW Unit:=.lit (.int .i64 i)

structure IdTab (w:World) (b:Nat) (F:Int→Option Int) (m:Nat) (D:DataW Unit):Prop where
 own:w.ownsMap Tryz.prog 3 (plainElem Tryz.prog 3) b m D
 size:Maps.size D=m
 no:∀ k,F k=none→Maps.has D (.int .i64 k)=false
 yes:∀ k i,F k=some i→Maps.has D (.int .i64 k)=true∧D.atKey (.int .i64 k) (numD 0)=numD i
 wide:∀ k i,F k=some i→(Lit.int .i64 k).wf=true∧(Lit.int .i64 i).wf=true

theorem zcs {w:World} {b n:Nat} {D:DataW Unit} (h:w.ownsMap Tryz.prog 3 (plainElem Tryz.prog 3) b n D):w.ownsMap Tryz.prog 3 (plainElem Tryz.prog 3) b (Maps.size D) D:=by
 obtain⟨es,clock,hb,F,hs,rfl⟩:=h
 exact⟨es,clock,hb,F,by simp[Maps.size,length_sorted],rfl⟩

variable {w w':World} {b m:Nat} {F:Int→Option Int} {D:DataW Unit}

theorem IdTab.kept (h:IdTab w b F m D) {row:Option Nat} (hg:w.grownBy w' row) (hr:some b≠row):IdTab w' b F m D :=
 ⟨h.own.kept hg hr,h.size,h.no,h.yes,h.wide⟩

theorem IdTab.below (h:IdTab w b F m D) (hb:Bw w w'):IdTab w' b F m D:=h.kept (row:=none) (z0y hb) (fun e=>by cases e)

theorem IdTab.lt (h:IdTab w b F m D):b<w.heap.size:=h.own.lt

theorem z3v (k:Int):WideAt.IsKeyLit (.int .i64 k):=by simp[WideAt.IsKeyLit]

theorem z6n {x y:Int} (h:x≠y):(Lit.int .i64 x)≠.int .i64 y:=fun e=>h (by cases e;rfl)

theorem keyI {k:Int} (hk:(Lit.int .i64 k).wf=true):keyOf Tryz.prog 3 (.int .i64 k)=some (.int .i64 k):=Maps.keyOf_int_mk Tryz.underlying3 hk

theorem zn8:(Lit.int .i64 0).wf=true:=by decide

theorem IdTab.look (h:IdTab w b F m D) {k:Int} (hk:(Lit.int .i64 k).wf=true) :
  (Instr.lookup 180 (.map (some b)) (.int .i64 k) true).run Tryz.prog w=.ok (.tuple #[.int .i64 ((F k).getD 0),.bool (F k).isSome]) w:=by
 obtain⟨v,ps,hr,hv⟩:=h.own.look_ok (Maps.int_keyed Tryz.underlying3) Tryz.underlying180 (Tryz.zeroValue3 _) (plainElem_int Tryz.underlying3 zn8) (keyI hk)
 obtain⟨c,rfl,hc,hwc⟩:=plainElem_int_inv Tryz.underlying3 hv
 have hc1:=congrArg Prod.fst hc
 simp only at hc1
 cases hF:F k with
 | none =>
  have hh:=h.no k hF
  rw[Maps.atKey_of_not_has hh] at hc1
  rw[hh] at hr
  cases hc1
  exact hr
 | some i =>
  obtain⟨h1,h2⟩:=h.yes k i hF
  rw[h2] at hc1
  rw[h1] at hr
  cases hc1
  exact hr

theorem IdTab.get (h:IdTab w b F m D) {k:Int} (hk:(Lit.int .i64 k).wf=true) :
  (Instr.lookup 180 (.map (some b)) (.int .i64 k) false).run Tryz.prog w=.ok (.int .i64 ((F k).getD 0)) w:=by
 obtain⟨c,hr,hc1,hwc⟩:=h.own.lookup_int (Maps.int_keyed Tryz.underlying3) Tryz.underlying180 Tryz.underlying3 (Tryz.zeroValue3 _) (keyI hk)
 cases hF:F k with
 | none =>
  rw[Maps.atKey_of_not_has (h.no k hF)] at hc1
  cases hc1
  exact hr
 | some i =>
  rw[(h.yes k i hF).2] at hc1
  cases hc1
  exact hr

theorem IdTab.store (h:IdTab w b F m D) {k i:Int} (hk:(Lit.int .i64 k).wf=true) (hi:(Lit.int .i64 i).wf=true) {n:Nat} (ho:w'.ownsMap Tryz.prog 3 (plainElem Tryz.prog 3) b n (D.put (.int .i64 k) (numD i))) :
  IdTab w' b (updI F k (some i)) (if (F k).isSome then m else m+1) (D.put (.int .i64 k) (numD i)):=by
 have hD:=h.own.isMap
 have hT:=h.own.tidy (Maps.int_keyed Tryz.underlying3)
 have hsz:Maps.size (D.put (.int .i64 k) (numD i))=if (F k).isSome then m else m+1:=by
  rw[Maps.size_put hT,h.size]
  cases hF:F k with
  | none=>rw[h.no k hF];rfl
  | some f0=>rw[(h.yes k f0 hF).1];rfl
 refine⟨?_,hsz,fun x hx=>?_,fun x j hx=>?_,fun x j hx=>?_⟩
 ·rw[← hsz];exact zcs ho
 ·by_cases e:x=k
  ·subst e;rw[z7i] at hx;cases hx
  ·rw[z6e _ _ e] at hx
   rw[Maps.has_put_other (z6n e)]
   exact h.no x hx
 ·by_cases e:x=k
  ·subst e
   rw[z7i] at hx
   cases hx
   rw[Maps.has_put_same hD (z3v x),Maps.atKey_put_same hD (z3v x)]
   exact⟨rfl,rfl⟩
  ·rw[z6e _ _ e] at hx
   rw[Maps.has_put_other (z6n e),Maps.atKey_put_other (z6n e)]
   exact h.yes x j hx
 ·by_cases e:x=k
  ·subst e
   rw[z7i] at hx
   cases hx
   exact⟨hk,hi⟩
  ·rw[z6e _ _ e] at hx
   exact h.wide x j hx

theorem zct (w:World):IdTab (w.alloc (.map #[] 0)) w.heap.size (zm []) 0 (.map []) :=
 ⟨World.ownsMap_made w Tryz.prog 3 (plainElem Tryz.prog 3),rfl,fun k _=>rfl,fun k i h=>by simp[zm] at h,fun k i h=>by simp[zm] at h⟩

end Go.Proofs.YtfeebdcmlnapiaaGreat
