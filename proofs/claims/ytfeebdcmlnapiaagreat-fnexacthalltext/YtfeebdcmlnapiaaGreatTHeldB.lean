/-
  Walks.
-/
import Derived.Test.YtfeebdcmlnapiaaGreatTRoom3
open Go.Value renaming int->J
open Go.IntKind renaming i64->Y
set_option maxHeartbeats 4000000
set_option linter.unusedVariables false
set_option linter.unusedSimpArgs false
namespace Go.Proofs.YtfeebdcmlnapiaaGreat
open Go.RowKit K
def cellOf (w:World) (p:Addr):Value:=(w.cell? p).getD undef

def HeldB (B:Nat) (W:World) (b k:Nat) (w':World):Prop:=Below B W w'∧B≤w'.heap.size∧w'.there b 0 k

theorem HeldB.drew {B:Nat} {W:World} {b k:Nat} {w':World} (h:HeldB B W b k w'):HeldB B W b k w'.drew:=⟨h.1.drew,h.2.1,h.2.2⟩

theorem zmj {w w':World} {b k:Nat} (h:w.there b 0 k) (hk:0<k) (hb:Bw w w'):w'.there b 0 k:=fun j hj=>by
 obtain⟨h1,h2⟩:=h j hj
 obtain⟨u,hu⟩:=Option.isSome_iff_exists.1 h1
 have hlt:=zw hu
 exact⟨by rw[hb.cell hlt,hu];rfl,by rw[hb.frozen hlt];exact h2⟩

theorem HeldB.below {B:Nat} {W:World} {b k:Nat} {w' w'':World} (h:HeldB B W b k w') (hk:0<k) (hb:Below w'.heap.size w' w''):HeldB B W b k w'' :=
 ⟨h.1.trans (hb.mono h.2.1),zNt h.2.1 hb.size,zmj h.2.2 hk hb⟩

theorem HeldB.cell {B:Nat} {W:World} {b k:Nat} {w':World} (h:HeldB B W b k w') {p:Addr} (hp:p.block<B) {u:Value} (hu:W.cell? p=some u):w'.cell? p=some u:=(h.1.cell hp).trans hu

theorem HeldB.room {B:Nat} {W:World} {b k:Nat} {w':World} (h:HeldB B W b k w') {j:Nat} (hj:j<k):w'.cell? ⟨b,j,none⟩=some (cellOf w' ⟨b,j,none⟩):=by
 have:=(h.2.2 j hj).1
 rw[Nat.zero_add] at this
 obtain⟨u,hu⟩:=Option.isSome_iff_exists.1 this
 rw[cellOf,hu]
 rfl

theorem HeldB.free {B:Nat} {W:World} {b k:Nat} {w':World} (h:HeldB B W b k w') {j:Nat} (hj:j<k):w'.frozen? ⟨b,j,none⟩=false:=by
 have:=(h.2.2 j hj).2
 rwa [Nat.zero_add] at this

theorem HeldB.set {B:Nat} {W:World} {b k:Nat} {w':World} (h:HeldB B W b k w') {p:Addr} (hp:B≤p.block) (hs:p.spot=none) (u:Value):HeldB B W b k (w'.setCell p u):=by
 obtain⟨pb,po,ps⟩:=p
 simp only at hs
 subst hs
 exact⟨h.1.setCell hp u,zNt h.2.1 ((Below.refl 0 w').setCell (Nat.zero_le _) u).size,World.there_setCells h.2.2 pb po [u]⟩

end Go.Proofs.YtfeebdcmlnapiaaGreat
namespace Go.Proofs.YtfeebdcmlnapiaaGreat.P17

structure Ord {α:Type} (ah:α→α→Bool):Prop where
 asym:∀ x y,ah x y=true→ah y x=false
 nt:∀ x y z,ah x y=false→ah y z=false→ah x z=false

theorem Ord.self {α:Type} {ah:α→α→Bool} (h:Ord ah) (x:α):ah x x=false:=by
 cases q:ah x x with
 | false=>rfl
 | true=>have:=h.asym x x q;rw[q] at this;cases this

variable {α:Type} {ah:α→α→Bool}

def HeapOk (ah:α→α→Bool) (l:List α):Prop:=∀ i x y,0<i→l[i]? = some x→l[(i - 1) / 2]? = some y→ah x y=false

structure Up (ah:α→α→Bool) (l:List α) (at_:Nat):Prop where
 one:∀ i x y,0<i→i≠at_→l[i]? = some x→l[(i - 1) / 2]? = some y→ah x y=false
 two:∀ c x y,0<c→(c - 1) / 2=at_→0<at_→l[c]? = some x→l[(at_ - 1) / 2]? = some y→ah x y=false

structure Down (ah:α→α→Bool) (l:List α) (at_:Nat):Prop where
 one:∀ i x y,0<i→(i - 1) / 2≠at_→l[i]? = some x→l[(i - 1) / 2]? = some y→ah x y=false
 two:∀ c x y,0<c→(c - 1) / 2=at_→0<at_→l[c]? = some x→l[(at_ - 1) / 2]? = some y→ah x y=false

def z1a (l:List α) (i j:Nat) (x y:α):List α:=(l.set i y).set j x

theorem z3s (l:List α) (i j:Nat) (x y:α):(z1a l i j x y).length=l.length:=by simp[z1a]

theorem swap_perm {l:List α} {i j:Nat} {x y:α} (hi:l[i]? = some x) (hj:l[j]? = some y):(z1a l i j x y).Perm l:=by
 obtain⟨h1,rfl⟩:=List.getElem?_eq_some_iff.1 hi
 obtain⟨h2,rfl⟩:=List.getElem?_eq_some_iff.1 hj
 exact List.set_set_perm h1 h2

theorem zks {l:List α} {i j:Nat} {x y:α} (hi:l[i]? = some x) (hj:l[j]? = some y) (hne:i≠j):(z1a l i j x y)[i]? = some y:=by
 obtain⟨h1,_⟩:=List.getElem?_eq_some_iff.1 hi
 unfold z1a
 rw[List.getElem?_set_ne (Ne.symm hne),List.getElem?_set_self h1]

theorem zbw {l:List α} {i j:Nat} {x y:α} (hj:l[j]? = some y):(z1a l i j x y)[j]? = some x:=by
 obtain⟨h1,_⟩:=List.getElem?_eq_some_iff.1 hj
 unfold z1a
 rw[List.getElem?_set_self (by simpa using h1)]

theorem z4w {l:List α} {i j k:Nat} {x y:α} (hi:k≠i) (hj:k≠j):(z1a l i j x y)[k]? = l[k]?:=by
 unfold z1a
 rw[List.getElem?_set_ne (Ne.symm hj),List.getElem?_set_ne (Ne.symm hi)]

theorem Up.top {l:List α} (h:Up ah l 0):HeapOk ah l:=fun i x y hi hx hy=>h.one i x y hi (by omega) hx hy

theorem Up.rest {l:List α} {at_:Nat} {x y:α} (h:Up ah l at_) (hx:l[at_]? = some x) (hy:l[(at_ - 1) / 2]? = some y) (hn:ah x y=false):HeapOk ah l:=fun i u v hi hu hv=>by
 by_cases e:i=at_
 ·subst e
  rw[hx] at hu;cases hu
  rw[hy] at hv;cases hv
  exact hn
 ·exact h.one i u v hi e hu hv

theorem Up.rise (ho:Ord ah) {l:List α} {at_:Nat} {x y:α} (h:Up ah l at_) (h0:0<at_) (hx:l[at_]? = some x) (hy:l[(at_ - 1) / 2]? = some y) (ha:ah x y=true):Up ah (z1a l at_ ((at_ - 1) / 2) x y) ((at_ - 1) / 2):=by
 have hne:at_≠(at_ - 1) / 2:=by omega
 have e1:=zks hx hy hne
 have e2:=zbw (i:=at_) (x:=x) hy
 have hyx:=ho.asym x y ha
 refine⟨fun i u v hi hia hu hv=>?_,fun c u v hc hca h0a hu hv=>?_⟩
 ·by_cases i1:i=at_
  ·subst i1
   rw[e1] at hu;cases hu
   rw[e2] at hv;cases hv
   exact hyx
  ·rw[z4w i1 hia] at hu
   by_cases p1:(i - 1) / 2=at_
   ·rw[p1,e1] at hv;cases hv
    exact h.two i u _ hi p1 h0 hu hy
   ·by_cases p2:(i - 1) / 2=(at_ - 1) / 2
    ·rw[p2,e2] at hv;cases hv
     exact ho.nt u y _ (h.one i u y hi i1 hu (by rw[p2];exact hy)) hyx
    ·rw[z4w p1 p2] at hv
     exact h.one i u v hi i1 hu hv
 ·rw[z4w (by omega) (by omega)] at hv
  have hyv:=h.one ((at_ - 1) / 2) y v h0a (by omega) hy hv
  by_cases c1:c=at_
  ·subst c1
   rw[e1] at hu;cases hu
   exact hyv
  ·rw[z4w c1 (by omega)] at hu
   exact ho.nt u y v (h.one c u y hc c1 hu (by rw[hca];exact hy)) hyv

theorem Up.start {l:List α} (h:HeapOk ah l) (x:α):Up ah (l++[x]) l.length:=by
 refine⟨fun i u v hi hne hu hv=>?_,fun c u v hc hca h0 hu hv=>?_⟩
 ·have hlt:i<l.length:=by
   have:=(List.getElem?_eq_some_iff.1 hu).1
   simp at this
   omega
  rw[List.getElem?_append_left hlt] at hu
  rw[List.getElem?_append_left (by omega)] at hv
  exact h i u v hi hu hv
 ·have:=(List.getElem?_eq_some_iff.1 hu).1
  simp at this
  omega

theorem Down.rest {l:List α} {at_:Nat} {x:α} (h:Down ah l at_) (hx:l[at_]? = some x) (h1:∀ y,l[2 * at_+1]? = some y→ah y x=false) (h2:∀ y,l[2 * at_+2]? = some y→ah y x=false):HeapOk ah l:=fun i u v hi hu hv=>by
 by_cases e:(i - 1) / 2=at_
 ·rw[e,hx] at hv;cases hv
  rcases (show i=2 * at_+1∨i=2 * at_+2 by omega) with q|q
  ·subst q;exact h1 u hu
  ·subst q;exact h2 u hu
 ·exact h.one i u v hi e hu hv

theorem Down.sink (ho:Ord ah) {l:List α} {at_ t:Nat} {x y:α} (h:Down ah l at_) (ht0:0<t) (ht:(t - 1) / 2=at_) (hx:l[at_]? = some x) (hy:l[t]? = some y) (hxy:ah x y=false) (hother:∀ i u,0<i→(i - 1) / 2=at_→l[i]? = some u→ah u y=false):Down ah (z1a l at_ t x y) t:=by
 have hne:at_≠t:=by omega
 have e1:=zks hx hy hne
 have e2:=zbw (i:=at_) (x:=x) hy
 refine⟨fun i u v hi hip hu hv=>?_,fun c u v hc hca h0 hu hv=>?_⟩
 ·by_cases i1:i=t
  ·subst i1
   rw[e2] at hu;cases hu
   rw[ht,e1] at hv;cases hv
   exact hxy
  ·by_cases i2:i=at_
   ·subst i2
    rw[e1] at hu;cases hu
    rw[z4w (by omega) (by omega)] at hv
    exact h.two t y v ht0 ht hi hy hv
   ·rw[z4w i2 i1] at hu
    by_cases p1:(i - 1) / 2=at_
    ·rw[p1,e1] at hv;cases hv
     exact hother i u hi p1 hu
    ·rw[z4w p1 hip] at hv
     exact h.one i u v hi p1 hu hv
 ·rw[ht,e1] at hv;cases hv
  rw[z4w (by omega) (by omega)] at hu
  exact h.one c u _ hc (by omega) hu (by rw[hca];exact hy)

theorem HeapOk.most (ho:Ord ah) {l:List α} (h:HeapOk ah l) {t:α} (ht:l[0]? = some t):∀ (i:Nat) (x:α),l[i]? = some x→ah x t=false:=by
 intro i
 induction i using Nat.strongRecOn with
 | ind i ih =>
  intro x hx
  by_cases h0:i=0
  ·subst h0
   rw[ht] at hx;cases hx
   exact ho.self _
  ·have hlt:=(List.getElem?_eq_some_iff.1 hx).1
   have hp:l[(i - 1) / 2]? = some l[(i - 1) / 2]:=List.getElem?_eq_getElem (by omega)
   exact ho.nt x _ t (h i x _ (by omega) hx hp) (ih ((i - 1) / 2) (by omega) _ hp)

theorem Down.start {l:List α} {t z:α} {n:Nat} (h:HeapOk ah l) (hn:l.length=n+1) (ht:l[0]? = some t) (hz:l[n]? = some z):Down ah ((z1a l 0 n t z).take n) 0:=by
 refine⟨fun i u v hi hip hu hv=>?_,fun c u v hc hca h0 hu hv=>by omega⟩
 have hin:i<n:=by
  have:=(List.getElem?_eq_some_iff.1 hu).1
  simp at this
  omega
 rw[List.getElem?_take_of_lt hin,z4w (by omega) (by omega)] at hu
 rw[List.getElem?_take_of_lt (by omega),z4w (by omega) (by omega)] at hv
 exact h i u v hi hu hv

theorem zmk {l:List α} {t z:α} {n:Nat} (hn:l.length=n+1) (ht:l[0]? = some t) (hz:l[n]? = some z):(t::(z1a l 0 n t z).take n).Perm l:=by
 have hp:=swap_perm ht hz
 have hl:=z3s l 0 n t z
 have hj:=zbw (i:=0) (x:=t) hz
 have hsplit:z1a l 0 n t z=(z1a l 0 n t z).take n++[t]:=by
  have h1:=List.take_append_drop n (z1a l 0 n t z)
  have h2:(z1a l 0 n t z).drop n=[t]:=by
   obtain⟨h3,h4⟩:=List.getElem?_eq_some_iff.1 hj
   rw[List.drop_eq_getElem_cons h3,h4,List.drop_eq_nil_of_le (by omega)]
  rw[h2] at h1
  exact h1.symm
 have hc:(t::(z1a l 0 n t z).take n).Perm ((z1a l 0 n t z).take n++[t]):=(List.perm_append_comm (l₁:=[t]) (l₂:=(z1a l 0 n t z).take n))
 rw[← hsplit] at hc
 exact hc.trans hp

end Go.Proofs.YtfeebdcmlnapiaaGreat.P17

namespace Go.Proofs.YtfeebdcmlnapiaaGreat
open Go.RowKit P1 P17 K
theorem neW {a b:Int} {r:Bool} (h:(a==b)=r):(a != b)=!r:=by rw[← h];rfl

structure Wt where
 r:Bool
 l:Int
 d:Int
 i:Int

abbrev wtv (x:Wt):Value:=.agg #[.bool x.r,J Y x.l,J Y x.d,J Y x.i]

def z0c (x:Wt):Zvs:=[.bool x.r,J Y x.l,J Y x.d,J Y x.i]

theorem zq (x:Wt):(z0c x).length=4:=rfl

def hvW (a b:Wt):Bool:=if a.r=b.r then (if a.l=b.l then (if a.d=b.d then decide (a.i<b.i) else decide (a.d<b.d)) else decide (b.l<a.l)) else a.r

theorem zfd {r1 r2:Bool} {l1 d1 i1 l2 d2 i2:Int}:hvW ⟨r1,l1,d1,i1⟩ ⟨r2,l2,d2,i2⟩=true↔(r1=r2∧(l2<l1∨(l1=l2∧(d1<d2∨(d1=d2∧i1<i2)))))∨(r1=true∧r2=false):=by
 unfold hvW
 simp only
 by_cases hr:r1=r2
 ·subst hr
  by_cases hl:l1=l2
  ·subst hl
   by_cases hd:d1=d2
   ·subst hd
    simp
   ·simp[hd]
  ·simp[hl]
 ·rw[if_neg hr]
  cases r1<;>cases r2<;>simp at *

theorem hvW_ord:Ord hvW:=by
 refine⟨fun x y h=>?_,fun x y z h1 h2=>?_⟩
 ·obtain⟨r1,l1,d1,i1⟩:=x
  obtain⟨r2,l2,d2,i2⟩:=y
  rw[Bool.eq_false_iff]
  intro h'
  rw[zfd] at h h'
  cases r1<;>cases r2<;>simp at h h'<;>omega
 ·obtain⟨r1,l1,d1,i1⟩:=x
  obtain⟨r2,l2,d2,i2⟩:=y
  obtain⟨r3,l3,d3,i3⟩:=z
  rw[Bool.eq_false_iff] at h1 h2 ⊢
  rw[ne_eq,zfd] at h1 h2 ⊢
  cases r1<;>cases r2<;>cases r3<;>simp at h1 h2 ⊢<;>omega

theorem znr (w:World) (a b:Wt) (W:World) (h:(w.alloc (.cells #[.bool a.r,J Y a.l,J Y a.d,J Y a.i] 242)).alloc (.cells #[.bool b.r,J Y b.l,J Y b.d,J Y b.i] 242)=W) :
  Bw w W∧W.heap[w.heap.size]? = some (.cells #[.bool a.r,J Y a.l,J Y a.d,J Y a.i] 242 (0,0))∧W.heap[w.heap.size+1]? = some (.cells #[.bool b.r,J Y b.l,J Y b.d,J Y b.i] 242 (0,0)):=by
 subst h
 refine⟨((Below.refl w.heap.size w).alloc zLe _).alloc (by simp) _,?_,?_⟩
 ·exact ((zBa:Below (w.alloc (.cells #[.bool a.r,J Y a.l,J Y a.d,J Y a.i] 242)).heap.size _ _).block w.heap.size (by simp)).trans (heap_alloc_new w _)
 ·have:=heap_alloc_new (w.alloc (.cells #[.bool a.r,J Y a.l,J Y a.d,J Y a.i] 242)) (.cells #[.bool b.r,J Y b.l,J Y b.d,J Y b.i] 242)
  rw[World.size_alloc] at this
  exact this

theorem zan (a b:Wt) (w:World) :
  Calls Tryz.prog 249 #[wtv a,wtv b] w fun r w'=>r=.returned (.bool (hvW a b))∧Bw w w':=by
 obtain⟨W0,hW0⟩:∃ W0,(w.alloc (.cells #[.bool a.r,J Y a.l,J Y a.d,J Y a.i] 242)).alloc (.cells #[.bool b.r,J Y b.l,J Y b.d,J Y b.i] 242)=W0:=⟨_,rfl⟩
 obtain⟨hb0,hA,hB⟩:=znr w a b W0 hW0
 have a0:=zb hA 0 rfl
 have a1:=zb hA 1 rfl
 have a2:=zb hA 2 rfl
 have a3:=zb hA 3 rfl
 have b0:=zb hB 0 rfl
 have b1:=zb hB 1 rfl
 have b2:=zb hB 2 rfl
 have b3:=zb hB 3 rfl
 have HB0:=ZZ hb0
 have HW0:=ZZ hW0
 clear hb0 hW0 hA hB
 obtain⟨r1,l1,d1,i1⟩:=a
 obtain⟨r2,l2,d2,i2⟩:=b
 unfold hvW
 simp only at *
 by_cases hr:r1=r2
 ·subst hr
  rw[if_pos rfl]
  have gr:(r1 != r1)=false:=by simp
  cases gl:(l1==l2)
  ·have gl':(l1 != l2)=true:=neW gl
   have hl:¬ l1=l2:=by simpa using gl
   rw[if_neg hl]
   clear hl
   go_enter Tryz.func249,Tryz.ntmps249
   go_upto_region 1 with fail
   rw[HW0.o]
   clear HW0
   go_wp2_with fail
   go_ret
   exact⟨by first|rfl|simp,HB0.o⟩
  ·have gl':(l1 != l2)=false:=neW gl
   have hl:l1=l2:=by simpa using gl
   rw[if_pos hl]
   clear hl
   cases gd:(d1==d2)
   ·have gd':(d1 != d2)=true:=neW gd
    have hd:¬ d1=d2:=by simpa using gd
    rw[if_neg hd]
    clear hd
    go_enter Tryz.func249,Tryz.ntmps249
    go_upto_region 1 with fail
    rw[HW0.o]
    clear HW0
    go_wp2_with fail
    go_ret
    exact⟨by first|rfl|simp,HB0.o⟩
   ·have gd':(d1 != d2)=false:=neW gd
    have hd:d1=d2:=by simpa using gd
    rw[if_pos hd]
    clear hd
    go_enter Tryz.func249,Tryz.ntmps249
    go_upto_region 1 with fail
    rw[HW0.o]
    clear HW0
    go_wp2_with fail
    go_ret
    exact⟨by first|rfl|simp,HB0.o⟩
 ·rw[if_neg hr]
  have gr:(r1 != r2)=true:=by simpa using hr
  have gr2:(!(r1==r2))=true:=gr
  clear hr
  go_enter Tryz.func249,Tryz.ntmps249
  go_upto_region 1 with fail
  rw[HW0.o]
  clear HW0
  go_wp2_with fail
  go_ret
  exact⟨by first|rfl|simp,HB0.o⟩

open P5 P9 P11 P12 P14 P15
def wtOf (es:List EvV) (s:St) (e:EvV):Wt:=⟨heavy e,z06 es s e.sender,e.depth,e.id⟩

theorem zoj {es:List EvV} {s:St} (h:Sane es s) (a b:EvV):z0k es s a b=hvW (wtOf es s a) (wtOf es s b):=by
 unfold z0k hvW wtOf
 simp only[h.lev]

theorem zkt (e:EvV):heavy e=((e.kind==3)||((e.kind==2)&&((e.sender != e.user)&&((e.member==0)||(e.member==3))))):=by
 unfold heavy
 simp only[bne]
 rw[show decide (e.kind=3)=(e.kind==3) from rfl,show decide (e.kind=2)=(e.kind==2) from rfl,show decide (e.member=0)=(e.member==0) from rfl,show decide (e.member=3)=(e.member==3) from rfl,show decide (e.sender=e.user)=(e.sender==e.user) from rfl]
 cases (e.kind==3)<;>cases (e.kind==2)<;>cases (e.member==0)<;>cases (e.member==3)<;>cases (e.sender==e.user)<;>rfl

theorem ziw (e:EvV) (xl xp:Value) (w:World) :
  Calls Tryz.prog 247 #[evv e xl xp] w fun r w'=>r=.returned (.bool (heavy e))∧Bw w w':=by
 have hb0:=(Below.refl w.heap.size w).alloc zLe (.cells (zk e.id e.kind e.sender e.user e.member e.depth xl xp e.text) 62)
 have HB0:=ZZ hb0
 have A8:=ZZ (EB.new w e.id e.kind e.sender e.user e.member e.depth xl xp e.text)
 obtain⟨a0,a1,a2,a3,a4,a5,a6,a7,a8⟩:=A8.o.ev
 rw[zkt]
 cases g3:(e.kind==3)
 ·cases g2:(e.kind==2)
  ·go_enter Tryz.func247,Tryz.ntmps247
   go_wp2_with fail
   go_ret
   exact⟨by first|rfl|simp,HB0.o⟩
  ·cases gs:(e.sender != e.user)
   ·go_enter Tryz.func247,Tryz.ntmps247
    go_wp2_with fail
    go_ret
    exact⟨by first|rfl|simp,HB0.o⟩
   ·cases m0:(e.member==0)
    all_goals
     go_enter Tryz.func247,Tryz.ntmps247
     go_wp2_with fail
     go_ret
     exact⟨by first|rfl|simp,HB0.o⟩
 ·go_enter Tryz.func247,Tryz.ntmps247
  go_wp2_with fail
  go_ret
  exact⟨by first|rfl|simp,HB0.o⟩

theorem zix (b:Nat) (oa:Zoa) (n cap:Nat) (es:List EvV) (s:St) (e:EvV) (xl xp:Value) (w:World) (hS:Scn w b oa n cap es s) :
  Calls Tryz.prog 226 #[scv b oa n cap,evv e xl xp] w fun r w'=>r=.returned (wtv (wtOf es s e))∧Bw w w':=by
 obtain⟨W,hW⟩:∃ W,W=(((w.alloc (.cells #[.map (some b),.slice oa n cap] 182)).alloc (.cells (zk e.id e.kind e.sender e.user e.member e.depth xl xp e.text) 62)).alloc (.cells #[.bool false,J Y 0,J Y 0,J Y 0] 242)):=⟨_,rfl⟩
 have hb:Bw w W:=by rw[hW];exact (((Below.refl w.heap.size w).alloc zLe _).alloc (by simp) _).alloc (by simp;omega) _
 have hR0:W.heap[w.heap.size]? = some (.cells #[.map (some b),.slice oa n cap] 182 (0,0)):=by
  rw[hW]
  exact (((zBa).alloc (by simp) _:Below (w.alloc (.cells #[.map (some b),.slice oa n cap] 182)).heap.size _ _).block w.heap.size (by simp)).trans (heap_alloc_new w _)
 have hE0:EB W (w.heap.size+1) e.id e.kind e.sender e.user e.member e.depth xl xp e.text:=by
  rw[hW]
  have:=EB.new (w.alloc (.cells #[.map (some b),.slice oa n cap] 182)) e.id e.kind e.sender e.user e.member e.depth xl xp e.text
  rw[World.size_alloc] at this
  exact this.on (zBa) this.lt
 have hQ0:W.heap[w.heap.size+1+1]? = some (.cells #[.bool false,J Y 0,J Y 0,J Y 0] 242 (0,0)):=by
  rw[hW]
  have:=heap_alloc_new ((w.alloc (.cells #[.map (some b),.slice oa n cap] 182)).alloc (.cells (zk e.id e.kind e.sender e.user e.member e.depth xl xp e.text) 62)) (.cells #[.bool false,J Y 0,J Y 0,J Y 0] 242)
  rw[World.size_alloc,World.size_alloc] at this
  exact this
 have hH:HeldB (w.heap.size+1+1) W (w.heap.size+1+1) 4 W.drew:=by
  refine⟨zBr.drew,Nat.le_of_lt (ze hQ0),fun j hj=>?_⟩
  rw[Nat.zero_add]
  refine⟨?_,zh hQ0 j⟩
  match j,hj with
  | 0,_=>exact (congrArg Option.isSome (zb hQ0 0 rfl))
  | 1,_=>exact (congrArg Option.isSome (zb hQ0 1 rfl))
  | 2,_=>exact (congrArg Option.isSome (zb hQ0 2 rfl))
  | 3,_=>exact (congrArg Option.isSome (zb hQ0 3 rfl))
 obtain⟨v0,v1,v2,v3,v4,v5,v6,v7,v8⟩:=hE0.ev
 have hon:∀ w',HeldB (w.heap.size+1+1) W (w.heap.size+1+1) 4 w'→Bw w w':=fun w' h=>hb.trans (h.1.mono (by omega))
 have CK:=ZZ hon
 have AY:=ZZ (fun w' (h:HeldB (w.heap.size+1+1) W (w.heap.size+1+1) 4 w')=>z4c b oa n cap es s e.sender w' (hS.on (hon w' h)))
 have C8:=ZZ (fun w'=>ziw e xl xp w')
 generalize hhv:heavy e=hv at C8
 generalize hlv:z06 es s e.sender=lv at AY
 rw[show wtOf es s e=⟨hv,lv,e.depth,e.id⟩ from by unfold wtOf;rw[hhv,hlv]]
 have s0:∀ w',HeldB (w.heap.size+1+1) W (w.heap.size+1+1) 4 w'→w'.cell? ⟨w.heap.size,0,none⟩=some (.map (some b)):=fun w' h=>h.cell (by simp only;omega) (zb hR0 0 rfl)
 have s1:∀ w',HeldB (w.heap.size+1+1) W (w.heap.size+1+1) 4 w'→w'.cell? ⟨w.heap.size,1,none⟩=some (.slice oa n cap):=fun w' h=>h.cell (by simp only;omega) (zb hR0 1 rfl)
 have k0:∀ w',HeldB (w.heap.size+1+1) W (w.heap.size+1+1) 4 w'→w'.cell? ⟨w.heap.size+1,0,none⟩=some (J Y e.id):=fun w' h=>h.cell (by simp only;omega) v0
 have k1:∀ w',HeldB (w.heap.size+1+1) W (w.heap.size+1+1) 4 w'→w'.cell? ⟨w.heap.size+1,1,none⟩=some (J Y e.kind):=fun w' h=>h.cell (by simp only;omega) v1
 have k2:∀ w',HeldB (w.heap.size+1+1) W (w.heap.size+1+1) 4 w'→w'.cell? ⟨w.heap.size+1,2,none⟩=some (J Y e.sender):=fun w' h=>h.cell (by simp only;omega) v2
 have k3:∀ w',HeldB (w.heap.size+1+1) W (w.heap.size+1+1) 4 w'→w'.cell? ⟨w.heap.size+1,3,none⟩=some (J Y e.user):=fun w' h=>h.cell (by simp only;omega) v3
 have k4:∀ w',HeldB (w.heap.size+1+1) W (w.heap.size+1+1) 4 w'→w'.cell? ⟨w.heap.size+1,4,none⟩=some (J Y e.member):=fun w' h=>h.cell (by simp only;omega) v4
 have k5:∀ w',HeldB (w.heap.size+1+1) W (w.heap.size+1+1) 4 w'→w'.cell? ⟨w.heap.size+1,5,none⟩=some (xl):=fun w' h=>h.cell (by simp only;omega) v5
 have k6:∀ w',HeldB (w.heap.size+1+1) W (w.heap.size+1+1) 4 w'→w'.cell? ⟨w.heap.size+1,6,none⟩=some (.string ⟨e.text.toArray⟩):=fun w' h=>h.cell (by simp only;omega) v6
 have k7:∀ w',HeldB (w.heap.size+1+1) W (w.heap.size+1+1) 4 w'→w'.cell? ⟨w.heap.size+1,7,none⟩=some (xp):=fun w' h=>h.cell (by simp only;omega) v7
 have k8:∀ w',HeldB (w.heap.size+1+1) W (w.heap.size+1+1) 4 w'→w'.cell? ⟨w.heap.size+1,8,none⟩=some (J Y e.depth):=fun w' h=>h.cell (by simp only;omega) v8
 have r0:∀ w',HeldB (w.heap.size+1+1) W (w.heap.size+1+1) 4 w'→w'.cell? ⟨w.heap.size+1+1,0,none⟩=some (cellOf w' ⟨w.heap.size+1+1,0,none⟩):=fun w' h=>h.room (by omega)
 have q0:∀ w',HeldB (w.heap.size+1+1) W (w.heap.size+1+1) 4 w'→w'.frozen? ⟨w.heap.size+1+1,0,none⟩=false:=fun w' h=>h.free (by omega)
 have r1:∀ w',HeldB (w.heap.size+1+1) W (w.heap.size+1+1) 4 w'→w'.cell? ⟨w.heap.size+1+1,1,none⟩=some (cellOf w' ⟨w.heap.size+1+1,1,none⟩):=fun w' h=>h.room (by omega)
 have q1:∀ w',HeldB (w.heap.size+1+1) W (w.heap.size+1+1) 4 w'→w'.frozen? ⟨w.heap.size+1+1,1,none⟩=false:=fun w' h=>h.free (by omega)
 have r2:∀ w',HeldB (w.heap.size+1+1) W (w.heap.size+1+1) 4 w'→w'.cell? ⟨w.heap.size+1+1,2,none⟩=some (cellOf w' ⟨w.heap.size+1+1,2,none⟩):=fun w' h=>h.room (by omega)
 have q2:∀ w',HeldB (w.heap.size+1+1) W (w.heap.size+1+1) 4 w'→w'.frozen? ⟨w.heap.size+1+1,2,none⟩=false:=fun w' h=>h.free (by omega)
 have r3:∀ w',HeldB (w.heap.size+1+1) W (w.heap.size+1+1) 4 w'→w'.cell? ⟨w.heap.size+1+1,3,none⟩=some (cellOf w' ⟨w.heap.size+1+1,3,none⟩):=fun w' h=>h.room (by omega)
 have q3:∀ w',HeldB (w.heap.size+1+1) W (w.heap.size+1+1) 4 w'→w'.frozen? ⟨w.heap.size+1+1,3,none⟩=false:=fun w' h=>h.free (by omega)
 have HW:=ZZ hW
 clear hb hW hon hS hhv hlv v0 v1 v2 v3 v4 v5 v6 v7 v8 hR0 hE0 hQ0
 go_enter Tryz.func226,Tryz.ntmps226
 go_wp2_with fail
 rw[← HW.o]
 go_region_held3 (fun w'=>HeldB (w.heap.size+1+1) W (w.heap.size+1+1) 4 w') (first|exact hH|(exact HeldB.below ‹_› (by omega) hb2)|(exact HeldB.below ‹_› (by omega) hb3)|exact (((HeldB.set ‹_› (by simp) rfl _).set (by simp) rfl _).set (by simp) rfl _).set (by simp) rfl _)
  (first
   | (go_at_call 247;refine (C8.o _).mono ?_;rintro r w2 ⟨rfl,hb2⟩)
   | (go_at_call 214;refine (AY.o _ (by assumption)).mono ?_;rintro r w3 ⟨rfl,hb3⟩))
 rename_i hHe
 have hfin:=CK.o _ hHe
 have hH3:=(hH.below (by omega) hb2).below (by omega) hb3
 have z0:=r0 w3 hH3
 have z1:=r1 w3 hH3
 have z2:=r2 w3 hH3
 have z3:=r3 w3 hH3
 have JA:=ZZ hfin
 clear s0 s1 k0 k1 k2 k3 k4 k5 k6 k7 k8 r0 r1 r2 r3 q0 q1 q2 q3 hH hHe hH3 hfin
 go_wp2_with fail
 refine bodyPost_ret (v:=wtv ⟨hv,lv,e.depth,e.id⟩) (by simp[results,Tryz.results226,go_sem,z0,z1,z2,z3]) rfl ⟨rfl,JA.o⟩

end Go.Proofs.YtfeebdcmlnapiaaGreat
