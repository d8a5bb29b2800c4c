/-
  Walks.
-/
import Derived.Test.YtfeebdcmlnapiaaGreatTWalk12d
open Go.Value renaming int->J
open Go.IntKind renaming i64->Y
set_option maxHeartbeats 4000000
set_option linter.unusedVariables false
set_option linter.unusedSimpArgs false
namespace Go.Proofs.YtfeebdcmlnapiaaGreat
open Go.RowKit P1 P5 P9 P11 P12 P14 P15 K
def Tells (es:List EvV) (s:St):Prop:=∀ x∈s,∃ e∈es,e.id=x.2∧keyE e=x.1∧evOk e=true

theorem Tells.more {es:List EvV} {s:St} (h:Tells es s) (e:EvV):Tells (es++[e]) s:=fun x hx=>by
 obtain⟨e',h1,h2⟩:=h x hx
 exact⟨e',List.mem_append.2 (.inl h1),h2⟩

theorem zhp {k:Int}:∀ {s:St},(∃ x∈s,x.1=k)→(k,stAt s k)∈s
 | [],h=>by obtain⟨x,hx,_⟩:=h;simp at hx
 | y::r,h=>by
  unfold stAt
  by_cases e:y.1=k
  ·rw[if_pos e]
   refine List.mem_cons.2 (.inl ?_)
   rw[← e]
  ·rw[if_neg e]
   refine List.mem_cons.2 (.inr (zhp ?_))
   obtain⟨x,hx,hk⟩:=h
   rcases List.mem_cons.1 hx with rfl|hx
   ·exact absurd hk e
   ·exact⟨x,hx,hk⟩

theorem zbr {ss:List St} {x:Int × Int} (h:x∈agreed ss):∃ s∈ss,x∈s:=by
 unfold agreed at h
 obtain⟨k,hk,rfl⟩:=List.mem_map.1 h
 obtain⟨h1,h2⟩:=List.mem_filter.1 hk
 obtain⟨_,_,h3⟩:=z5f h1
 unfold z4r at h3
 obtain⟨s,hs,h4⟩:=List.any_eq_true.1 h3
 obtain⟨y,hy,h5⟩:=List.any_eq_true.1 h4
 have h6:=zhp (s:=s) (k:=k) ⟨y,hy,by simpa using h5⟩
 unfold alike at h2
 have h7:=List.all_eq_true.1 h2 s hs
 simp only[decide_eq_true_eq] at h7
 rw[h7] at h6
 exact⟨s,hs,h6⟩

theorem z9x {es:List EvV} {ss:List St} (h:∀ s∈ss,Tells es s):Tells es (agreed ss):=fun x hx=>by
 obtain⟨s,h1,h2⟩:=zbr hx
 exact h s h1 x h2

theorem zbs {es:List EvV} {s:St} (h:Tells es s) (z:Int):Tells es (tell es s z):=by
 unfold tell
 split
 ·rename_i hc
  simp only[Bool.and_eq_true] at hc
  have hok:evOk (evOf es z)=true:=by
   have h1:=hc.1
   unfold allowed at h1
   simp only[Bool.and_eq_true] at h1
   exact h1.1
  intro x hx
  rcases zaw hx with hx|rfl
  ·exact h x hx
  ·refine⟨evOf es z,?_,rfl,rfl,hok⟩
   unfold evOf at hok ⊢
   cases hf:zf es z with
   | none =>
    rw[hf] at hok
    exact absurd hok (by decide)
   | some e=>exact (z2h hf).1
 ·exact h

theorem zam {es:List EvV}:∀ (l:Zin) {s:St},Tells es s→Tells es (l.foldl (tell es) s)
 | [],_,h=>h
 | z::r,_,h=>zam r (zbs h z)

theorem ze0 {es:List EvV} {ss:List St} (h:∀ s∈ss,Tells es s):Tells es (P15.resolve es ss):=by
 match ss,h with
 | [],_=>intro x hx;simp[P15.resolve] at hx
 | [s],h=>exact h s List.mem_cons_self
 | s::t::r,h=>exact zam _ (z9x h)

theorem zdd:∀ (l:St) (p:Option Int),(∀ x∈l,z0z x.1=true∧inR x.2 1 1000000=true)→(l.map (·.1)).Pairwise (·<·)→(∀ x∈l,after p x.1=true)→zt p l=true
 | [],_,_,_,_=>rfl
 | x::r,p,h1,h2,h3=>by
  unfold zt
  rw[List.map_cons,List.pairwise_cons] at h2
  obtain⟨a1,a2⟩:=h1 x List.mem_cons_self
  rw[a1,a2,h3 x List.mem_cons_self,zdd r (some x.1) (fun y hy=>h1 y (List.mem_cons_of_mem _ hy)) h2.2 (fun y hy=>by
   have:=h2.1 y.1 (List.mem_map.2 ⟨y,hy,rfl⟩)
   simpa [after] using this)]
  rfl

theorem stFrom_mem:∀ {s:St} {p:Option Int},zt p s=true→∀ x∈s,z0z x.1=true∧inR x.2 1 1000000=true
 | y::r,p,h,x,hx=>by
  unfold zt at h
  simp only[Bool.and_eq_true] at h
  rcases List.mem_cons.1 hx with rfl|hx
  ·exact⟨h.1.1,h.1.2.1⟩
  ·exact stFrom_mem h.2 x hx

theorem znq (ss:List St):(keysOf ss).Pairwise (·<·):=by
 unfold keysOf z1c
 refine List.Pairwise.filter _ ?_
 rw[List.pairwise_map]
 exact List.Pairwise.imp (fun h=>by omega) (List.pairwise_lt_range (n:=16))

theorem z5i {ss:List St} (h:∀ s∈ss,stOk s=true):stOk (agreed ss)=true:=by
 rw[z1g]
 refine zdd _ none (fun x hx=>?_) ?_ (fun x hx=>rfl)
 ·obtain⟨s,h1,h2⟩:=zbr hx
  have h3:=h s h1
  rw[z1g] at h3
  exact stFrom_mem h3 x h2
 ·unfold agreed
  rw[List.map_map]
  have:((fun x:Int × Int=>x.1) ∘ fun k=>(k,stAt (ss.headD []) k))=id:=rfl
  rw[this,List.map_id]
  exact List.Pairwise.filter _ (znq ss)

theorem zhq {es:List EvV} {s:St} (h:stOk s=true) (z:Int):stOk (tell es s z)=true:=by
 unfold tell
 split
 ·exact zeh h
 ·exact h

theorem zf9 {es:List EvV}:∀ (l:Zin) {s:St},stOk s=true→stOk (l.foldl (tell es) s)=true
 | [],_,h=>h
 | z::r,_,h=>zf9 r (zhq h z)

theorem zir {es:List EvV} {ss:List St} (h:∀ s∈ss,stOk s=true):stOk (P15.resolve es ss)=true:=by
 match ss,h with
 | [],_=>rfl
 | [s],h=>exact h s List.mem_cons_self
 | s::t::r,h=>exact zf9 _ (z5i h)

theorem zde {es:List EvV} {sts:List St} (h:∀ s∈sts,Tells es s∧stOk s=true) (prev:Zin):Tells es (befS es sts prev)∧stOk (befS es sts prev)=true:=by
 unfold befS z2y
 cases hg:z3f es sts prev [] with
 | none=>exact⟨fun x hx=>by simp at hx,rfl⟩
 | some l =>
  simp only[Option.map_some,Option.getD_some]
  have hm:=z9w prev [] l (fun x hx=>by simp at hx) hg
  exact⟨ze0 (fun s hs=>(h s (hm s hs)).1),zir (fun s hs=>(h s (hm s hs)).2)⟩

theorem z8e {es:List EvV} {sts:List St} (h:Built es sts):(∀ e∈es,evOk e=true)∧∀ s∈sts,Tells es s∧stOk s=true:=by
 induction h with
 | nil=>exact⟨fun e he=>by simp at he,fun s hs=>by simp at hs⟩
 | @add es sts e hb hok ih =>
  obtain⟨he,_,_⟩:=z4b hok
  refine⟨fun x hx=>?_,fun s hs=>?_⟩
  ·rcases List.mem_append.1 hx with hx|hx
   ·exact ih.1 x hx
   ·simp at hx;subst hx;exact he
  ·rcases List.mem_append.1 hs with hs|hs
   ·exact⟨(ih.2 s hs).1.more e,(ih.2 s hs).2⟩
   ·simp at hs
    subst hs
    obtain⟨q1,q2⟩:=zde ih.2 e.prev
    unfold z0s
    split
    ·refine⟨fun x hx=>?_,zeh q2⟩
     rcases zaw hx with hx|rfl
     ·exact (q1.more e) x hx
     ·exact⟨e,List.mem_append.2 (.inr (by simp)),rfl,rfl,he⟩
    ·exact⟨q1.more e,q2⟩

def scEv (es:List EvV) (s:St) (k:Int):Option EvV:=match zm s k with
 | none=>none
 | some i=>zf es i

structure Sane (es:List EvV) (s:St):Prop where
 tells:Tells es s
 ok:stOk s=true
 ids:∀ e∈es,1≤e.id
 nod:(es.map (·.id)).Nodup

theorem zdf {k i:Int}:∀ {s:St},zm s k=some i→(k,i)∈s
 | [],h=>by cases h
 | y::r,h=>by
  unfold zm at h
  split at h
  ·rename_i e
   cases h
   refine List.mem_cons.2 (.inl ?_)
   rw[← e]
  ·exact List.mem_cons.2 (.inr (zdf h))

theorem zbt:∀ {es:List EvV} {e:EvV},(es.map (·.id)).Nodup→e∈es→zf es e.id=some e
 | x::r,e,hn,he=>by
  rw[List.map_cons,List.nodup_cons] at hn
  unfold zf
  rcases List.mem_cons.1 he with rfl|he
  ·rw[if_pos rfl]
  ·rw[if_neg (fun h=>hn.1 (by rw[h];exact List.mem_map.2 ⟨e,he,rfl⟩))]
   exact zbt hn.2 he

section
variable {es:List EvV} {s:St}

theorem Sane.told (h:Sane es s) {k i:Int} (hk:zm s k=some i):∃ e,zf es i=some e∧keyE e=k∧evOk e=true:=by
 obtain⟨e,h1,h2,h3,h4⟩:=h.tells _ (zdf hk)
 simp only at h2 h3
 exact⟨e,by rw[← h2];exact zbt h.nod h1,h3,h4⟩

theorem Sane.find (h:Sane es s) (k:Int):zf es (stAt s k)=scEv es s k:=by
 unfold scEv
 rw[z7h]
 cases hk:zm s k with
 | none=>exact za9 (fun e he=>by have:=h.ids e he;simp;omega)
 | some i=>rfl

theorem Sane.key (h:Sane es s) {k:Int} {e:EvV} (he:scEv es s k=some e):keyE e=k∧evOk e=true:=by
 unfold scEv at he
 cases hk:zm s k with
 | none=>rw[hk] at he;cases he
 | some i =>
  rw[hk] at he
  obtain⟨e',h1,h2,h3⟩:=h.told hk
  have he':zf es i=some e:=he
  rw[h1] at he'
  cases he'
  exact⟨h2,h3⟩

theorem zma {e:EvV} (h:keyE e=1):e.kind=1:=by
 unfold keyE at h
 split at h
 ·assumption
 ·split at h
  ·omega
  ·split at h
   ·omega
   ·split at h
    ·rename_i hu
     have:=hu.2
     simp[inR] at this
     omega
    ·omega

theorem zmb {e:EvV} (h:keyE e=2):e.kind=3:=by
 unfold keyE at h
 split at h
 ·omega
 ·split at h
  ·assumption
  ·split at h
   ·omega
   ·split at h
    ·rename_i hu
     have:=hu.2
     simp[inR] at this
     omega
    ·omega

theorem zkn {e:EvV} {u:Int} (hu:inR u 1 5=true) (h:keyE e=10+u):e.kind=2∧e.user=u:=by
 simp[inR] at hu
 unfold keyE at h
 split at h
 ·omega
 ·split at h
  ·omega
  ·split at h
   ·omega
   ·split at h
    ·rename_i hk
     exact⟨hk.1,by omega⟩
    ·omega

def z09 (es:List EvV) (s:St) (u:Int):Int:=match scEv es s (10+u) with
 | none=>0
 | some e=>e.member

def z2m (es:List EvV) (s:St) (u:Int):Bool:=match scEv es s 1 with
 | none=>false
 | some c=>decide (c.kind=1)&&decide (c.sender=u)

def z06 (es:List EvV) (s:St) (u:Int):Int :=
 if inR u 1 5 then
  match scEv es s 2 with
  | none=>if z2m es s u then 100 else 0
  | some p=>if p.kind=3 then (if (p.levels.length:Int)<u then 0 else p.levels.getD (u.toNat - 1) 0) else if z2m es s u then 100 else 0
 else 0

theorem Sane.mem (h:Sane es s) {u:Int} (hu:inR u 1 5=true):z10 es s u=z09 es s u:=by
 unfold z10 z09
 rw[if_pos hu,h.find]
 cases he:scEv es s (10+u) with
 | none=>rfl
 | some e =>
  obtain⟨h1,_⟩:=h.key he
  simp only
  rw[if_pos (zkn hu h1)]

theorem Sane.made (h:Sane es s) (u:Int):(match zf es (stAt s 1) with
  | none=>(0:Int)
  | some c=>if c.kind=1∧c.sender=u then 100 else 0)=if z2m es s u then 100 else 0:=by
 unfold z2m
 rw[h.find]
 cases he:scEv es s 1 with
 | none=>rfl
 | some c =>
  simp only
  by_cases h1:c.kind=1∧c.sender=u
  ·rw[if_pos h1,if_pos (by simp[h1.1,h1.2])]
  ·rw[if_neg h1,if_neg (by simpa using h1)]

theorem Sane.lev (h:Sane es s) (u:Int):z0e es s u=z06 es s u:=by
 unfold z0e z06
 by_cases hu:inR u 1 5=true
 ·rw[if_pos hu,if_pos hu,h.find 2]
  cases he:scEv es s 2 with
  | none=>exact h.made u
  | some p =>
   obtain⟨h1,h2⟩:=h.key he
   have h3:=zmb h1
   have h5:=z95 h2 h3
   simp only
   rw[if_pos ⟨h3,h5⟩,if_pos h3,if_neg (by simp[inR] at hu;rw[h5];omega)]
 ·rw[if_neg hu,if_neg hu]

theorem Sane.bare (h:Sane es s):z3u s=!(s.any (fun x=>inR x.1 11 15)):=by
 have hk:=h.ok
 rw[z1g] at hk
 have hm:=stFrom_mem hk
 unfold z3u
 clear hk h
 induction s with
 | nil=>rfl
 | cons x r ih =>
  have h1:=(hm x List.mem_cons_self).1
  simp only[z0z,inR,Bool.or_eq_true,Bool.and_eq_true,decide_eq_true_eq] at h1
  rw[List.all_cons,List.any_cons,ih (fun y hy=>hm y (List.mem_cons_of_mem _ hy)),Bool.not_or]
  congr 1
  by_cases h2:x.1≤10
  ·rw[decide_eq_true h2];simp[inR];omega
  ·rw[decide_eq_false h2];simp[inR];omega
end

abbrev scv (b:Nat) (oa:Zoa) (n cap:Nat):Value:=.agg #[.map (some b),.slice oa n cap]

structure Scn (w:World) (b:Nat) (oa:Zoa) (n cap:Nat) (es:List EvV) (s:St):Prop where
 ids:IdsOk w b s
 evs:EvsAt w oa n cap es

theorem Scn.on {w w':World} {b:Nat} {oa:Zoa} {n cap:Nat} {es:List EvV} {s:St} (h:Scn w b oa n cap es s) (hb:Bw w w'):Scn w' b oa n cap es s:=⟨h.ids.below hb,h.evs.below hb⟩

theorem zgl (oa:Zoa) (n cap:Nat) (es:List EvV) (ob:Zoa) (m cb:Nat) (s:St) (hm20:m≤1048576) (hws:∀ y∈s,z3d y) (w:World) (hev:EvsAt w oa n cap es) (hit:ItemsAt w ob m cb s) :
  Calls Tryz.prog 138 #[.slice oa n cap,.slice ob m cb] w fun r w'=>∃ b,r=.returned (scv b oa n cap)∧Scn w' b oa n cap es s∧Bw w w':=by
 obtain⟨W0,hW0,hb0,hR0⟩:=bxN w #[.map none,.slice none 0 0] 182
 have HK:=ZZ (z4j ob m cb s hm20 W0 (hit.below hb0) hws)
 have A8:=ZZ hev
 have HW0:=ZZ hW0
 have Ad:=ZZ hR0
 have HB0:=ZZ hb0
 clear hW0 hR0 hb0 hev hit
 go_enter Tryz.func138,Tryz.ntmps138
 go_upto_region 1 with fail
 rw[HW0.o]
 clear HW0
 go_wp2_with fail
 refine HK.o.mono ?_
 rintro e w1 ⟨rfl,hids,hb1⟩
 have hR1:=(hb1.block w.heap.size (ze Ad.o)).trans Ad.o
 have q0:=zb hR1 0 rfl
 have q1:=zb hR1 1 rfl
 have y0:=zh hR1 0
 have y1:=zh hR1 1
 have HR1:=ZZ hR1
 have Bj:=ZZ hids
 have HB1:=ZZ hb1
 clear hR1 hids hb1
 go_wp2_with fail
 obtain⟨w9,hw9⟩:∃ w9,((w1.setCell ⟨w.heap.size,0,none⟩ (.map (some W0.heap.size))).setCell ⟨w.heap.size,1,none⟩ (.slice oa n cap))=w9:=⟨_,rfl⟩
 obtain⟨hr,hg9⟩:=zx [.map (some W0.heap.size),.slice oa n cap] w1 _ 0 HR1.o
 rw[show w1.setCells w.heap.size 0 [.map (some W0.heap.size),.slice oa n cap]=w9 from hw9] at hr hg9
 rw[hw9]
 clear q0 q1
 have q0:w9.cell? ⟨w.heap.size,0,none⟩=some (.map (some W0.heap.size)):=zb hr 0 rfl
 have q1:w9.cell? ⟨w.heap.size,1,none⟩=some (.slice oa n cap):=zb hr 1 rfl
 refine bodyPost_ret (v:=scv W0.heap.size oa n cap) (by simp[results,Tryz.results138,go_sem,q0,q1]) rfl ?_
 have hne:some W0.heap.size≠some w.heap.size:=fun e=>by have:=zSi e;have:=ze Ad.o;omega
 obtain⟨D,k,hk,hT⟩:=Bj.o
 have hlow:Bw w w9:=(zTr HB0.o HB1.o).grown hg9 (zNt HB0.o.size HB1.o.size) (fun q hq=>by cases hq;exact Nat.le_refl _)
 exact⟨W0.heap.size,rfl,⟨⟨D,k,hk,hT.kept hg9 hne⟩,A8.o.below hlow⟩,hlow⟩

def scKn (es:List EvV) (s:St) (k:Int):EvV × Bool:=match zm s k with
 | none=>(noEv,false)
 | some i=>evKn es i

theorem za3 (es:List EvV) (s:St) (k:Int):scKn es s k=match scEv es s k with|none=>(noEv,false)|some e=>(e,true):=by
 unfold scKn scEv
 cases zm s k with
 | none=>rfl
 | some i =>
  simp only
  unfold evKn
  cases zf es i<;>rfl

theorem z7a (wv:World) (b:Nat) (oa:Zoa) (n cap:Nat) (es:List EvV) (s:St) (k:Int) (hk:(Lit.int .i64 k).wf=true) (w:World) (hevv:EvsAt wv oa n cap es) (hbv:Bw wv w) (hS:Scn w b oa n cap es s) :
  Calls Tryz.prog 207 #[scv b oa n cap,J Y k] w (zem wv w (scKn es s k).1 (scKn es s k).2):=by
 obtain⟨W0,hW0⟩:∃ W0,((w.alloc (.cells #[.map (some b),.slice oa n cap] 182)).alloc (.cells (zk 0 0 0 0 0 0 (.slice none 0 0) (.slice none 0 0) []) 62))=W0:=⟨_,rfl⟩
 have hb0:Bw w W0:=by rw[← hW0];exact ((Below.refl w.heap.size w).alloc zLe _).alloc (by simp) _
 have hR0:W0.heap[w.heap.size]? = some (.cells #[.map (some b),.slice oa n cap] 182 (0,0)):=by
  rw[← hW0]
  exact ((zBa:Below (w.alloc (.cells #[.map (some b),.slice oa n cap] 182)).heap.size _ _).block w.heap.size (by simp)).trans (heap_alloc_new w _)
 have hE0:EB W0 (w.heap.size+1) 0 0 0 0 0 0 (.slice none 0 0) (.slice none 0 0) []:=by
  rw[← hW0]
  have:=EB.new (w.alloc (.cells #[.map (some b),.slice oa n cap] 182)) 0 0 0 0 0 0 (.slice none 0 0) (.slice none 0 0) []
  rw[World.size_alloc] at this
  exact this
 have Jv:=ZZ hevv
 have EG:=ZZ (zTr hbv hb0)
 clear hevv hbv
 have Ak:=ZZ (hS.on hb0)
 obtain⟨D,m,hm,hT⟩:=Ak.o.ids
 have hlk:=hT.look hk
 have r0:=zb hR0 0 rfl
 have r1:=zb hR0 1 rfl
 have A9:=ZZ hE0
 have HB0:=ZZ hb0
 have HW0:=ZZ hW0
 have hlR:=hE0.lt
 obtain⟨⟨e,ok⟩,hR⟩:∃ R,scKn es s k=R:=⟨_,rfl⟩
 rw[hR]
 have AY:=ZZ hR
 clear hT hR0 hE0 hb0 hW0 hS hR
 go_enter Tryz.func207,Tryz.ntmps207
 go_upto_region 1 with fail
 rw[HW0.o]
 clear HW0
 cases hF:zm s k with
 | none =>
  have hsc:(e,ok)=(noEv,false):=by rw[← AY.o];unfold scKn;rw[hF]
  cases hsc
  rw[hF] at hlk
  simp only[Option.getD_none,Option.isSome_none] at hlk
  obtain⟨t0,t1,t2,t3,t4,t5,t6,t7,t8⟩:=A9.o.ev
  have z0:=A9.o.free 0
  have z1:=A9.o.free 1
  have z2:=A9.o.free 2
  have z3:=A9.o.free 3
  have z4:=A9.o.free 4
  have z5:=A9.o.free 5
  have z6:=A9.o.free 6
  have z7:=A9.o.free 7
  have z8:=A9.o.free 8
  clear hF AY
  go_wp2_with fail
  obtain⟨w9,hw9,hE9,hg9⟩:=A9.o.all 0 0 0 0 0 0 (.slice none 0 0) (.slice none 0 0) []
  try rw[show (.string ⟨#[]⟩:Value)=.string ⟨([]:Zbs).toArray⟩ from rfl]
  rw[hw9]
  obtain⟨q0,q1,q2,q3,q4,q5,q6,q7,q8⟩:=hE9.ev
  refine bodyPost_ret (v:=.tuple #[evv noEv (.slice none 0 0) (.slice none 0 0),.bool false]) (by simp[results,Tryz.results207,go_sem,noEv,q0,q1,q2,q3,q4,q5,q6,q7,q8]) rfl ?_
  exact⟨none,0,none,0,rfl,(by unfold noEv;exact z3p _),(by unfold noEv;exact z3p _),HB0.o.grown hg9 HB0.o.size (fun q hq=>by cases hq;omega)⟩
 | some i =>
  have hsc:evKn es i=(e,ok):=by rw[← AY.o];unfold scKn;rw[hF]
  rw[hF] at hlk
  simp only[Option.getD_some,Option.isSome_some] at hlk
  have BR:=ZZ (z9a wv oa n cap es i W0 Jv.o EG.o)
  rw[hsc] at BR
  simp only at BR
  clear hF hsc AY
  go_upto_region 4 with fail
  go_wp2_with fail
  refine BR.o.mono ?_
  rintro r w1 ⟨xa,xc,ya,yc,rfl,hx,hy,hb1⟩
  have HE2:=ZZ (A9.o.on hb1 hlR)
  have HX:=ZZ hx
  have HY:=ZZ hy
  have HB1:=ZZ (zTr HB0.o hb1)
  obtain⟨t0,t1,t2,t3,t4,t5,t6,t7,t8⟩:=HE2.o.ev
  have z0:=HE2.o.free 0
  have z1:=HE2.o.free 1
  have z2:=HE2.o.free 2
  have z3:=HE2.o.free 3
  have z4:=HE2.o.free 4
  have z5:=HE2.o.free 5
  have z6:=HE2.o.free 6
  have z7:=HE2.o.free 7
  have z8:=HE2.o.free 8
  clear hx hy hb1
  go_wp2_with fail
  obtain⟨w9,hw9,hE9,hg9⟩:=HE2.o.all e.id e.kind e.sender e.user e.member e.depth (.slice xa e.levels.length xc) (.slice ya e.prev.length yc) e.text
  rw[hw9]
  obtain⟨q0,q1,q2,q3,q4,q5,q6,q7,q8⟩:=hE9.ev
  refine bodyPost_ret (v:=.tuple #[evv e (.slice xa e.levels.length xc) (.slice ya e.prev.length yc),.bool ok]) (by simp[results,Tryz.results207,go_sem,q0,q1,q2,q3,q4,q5,q6,q7,q8]) rfl ?_
  have hb9:Bw w w9:=HB1.o.grown hg9 HB1.o.size (fun q hq=>by cases hq;omega)
  exact⟨xa,xc,ya,yc,rfl,HX.o,HY.o,hb9⟩

theorem zgm (b:Nat) (oa:Zoa) (n cap:Nat) (es:List EvV) (s:St) (k:Int) (hk:(Lit.int .i64 k).wf=true) (w:World) (hS:Scn w b oa n cap es s) :
  Calls Tryz.prog 207 #[scv b oa n cap,J Y k] w (z9j w (scKn es s k).1 (scKn es s k).2) :=
 (z7a w b oa n cap es s k hk w hS.evs zBr hS).mono fun r w' ⟨xa,xc,ya,yc,h1,h2,h3,h4⟩=>⟨xa,xc,ya,yc,h1,h2.below h4,h3.below h4,h4⟩

theorem zdg {w W0:World} {b:Nat} {oa:Zoa} {n cap:Nat} (hW0:((w.alloc (.cells #[.map (some b),.slice oa n cap] 182)).alloc (.cells (zk 0 0 0 0 0 0 (.slice none 0 0) (.slice none 0 0) []) 62))=W0) :
  Bw w W0∧W0.heap[w.heap.size]? = some (.cells #[.map (some b),.slice oa n cap] 182 (0,0))∧EB W0 (w.heap.size+1) 0 0 0 0 0 0 (.slice none 0 0) (.slice none 0 0) []:=by
 refine⟨by rw[← hW0];exact ((Below.refl w.heap.size w).alloc zLe _).alloc (by simp) _,?_,?_⟩
 ·rw[← hW0]
  exact ((zBa:Below (w.alloc (.cells #[.map (some b),.slice oa n cap] 182)).heap.size _ _).block w.heap.size (by simp)).trans (heap_alloc_new w _)
 ·rw[← hW0]
  have:=EB.new (w.alloc (.cells #[.map (some b),.slice oa n cap] 182)) 0 0 0 0 0 0 (.slice none 0 0) (.slice none 0 0) []
  rw[World.size_alloc] at this
  exact this

theorem z8l {w W0:World} {b:Nat} {oa:Zoa} {n cap:Nat} (hW0:w.alloc (.cells #[.map (some b),.slice oa n cap] 182)=W0) :
  Bw w W0∧W0.heap[w.heap.size]? = some (.cells #[.map (some b),.slice oa n cap] 182 (0,0)) :=
 ⟨by rw[← hW0];exact zBa,by rw[← hW0];exact heap_alloc_new _ _⟩

theorem zmc (es:List EvV) (s:St) (u:Int):z09 es s u=if (scKn es s (10+u)).2 then (scKn es s (10+u)).1.member else 0:=by
 unfold z09
 rw[za3]
 cases scEv es s (10+u)<;>rfl

theorem z5o (b:Nat) (oa:Zoa) (n cap:Nat) (es:List EvV) (s:St) (u:Int) (hu:-1000000≤u∧u≤1000000) (w:World) (hS:Scn w b oa n cap es s) :
  Calls Tryz.prog 237 #[scv b oa n cap,J Y u] w fun r w'=>r=.returned (J Y (z09 es s u))∧Bw w w':=by
 obtain⟨W0,hW0⟩:∃ W0,w.alloc (.cells #[.map (some b),.slice oa n cap] 182)=W0:=⟨_,rfl⟩
 obtain⟨hb0,hR0⟩:=z8l hW0
 have hwr:IntKind.i64.wrap (10+u)=10+u:=by rw[IntKind.wrap_i64];omega
 have Bb:=ZZ (zgm b oa n cap es s (10+u) (z3k (by omega) (by omega)) W0 (hS.on hb0))
 have r0:=zb hR0 0 rfl
 have r1:=zb hR0 1 rfl
 have HB0:=ZZ hb0
 have HW0:=ZZ hW0
 rw[zmc]
 generalize scKn es s (10+u)=R at Bb ⊢
 obtain⟨e,ok⟩:=R
 simp only at Bb ⊢
 clear hR0 hb0 hW0 hS
 go_enter Tryz.func237,Tryz.ntmps237
 go_upto_region 1 with fail
 rw[HW0.o]
 clear HW0
 cases ok
 ·go_wp2_with (go_at_call 207;(with_reducible refine Bb.o.mono ?_);rintro r w1 ⟨xa,xc,ya,yc,rfl,hx,hy,hb1⟩)
  go_ret
  exact⟨rfl,zg (zTr HB0.o hb1) (.cells (zk e.id e.kind e.sender e.user e.member e.depth (.slice xa e.levels.length xc) (.slice ya e.prev.length yc) e.text) 62)⟩
 ·go_wp2_with (go_at_call 207;(with_reducible refine Bb.o.mono ?_);rintro r w1 ⟨xa,xc,ya,yc,rfl,hx,hy,hb1⟩)
  go_ret
  exact⟨rfl,zg (zTr HB0.o hb1) (.cells (zk e.id e.kind e.sender e.user e.member e.depth (.slice xa e.levels.length xc) (.slice ya e.prev.length yc) e.text) 62)⟩

theorem z7b (b:Nat) (oa:Zoa) (n cap:Nat) (es:List EvV) (s:St) (u:Int) (hu:-1000000≤u∧u≤1000000) (w:World) (hS:Scn w b oa n cap es s) :
  Calls Tryz.prog 215 #[scv b oa n cap,J Y u] w fun r w'=>r=.returned (.bool (z09 es s u==2))∧Bw w w':=by
 obtain⟨W0,hW0⟩:∃ W0,w.alloc (.cells #[.map (some b),.slice oa n cap] 182)=W0:=⟨_,rfl⟩
 obtain⟨hb0,hR0⟩:=z8l hW0
 have HM:=ZZ (z5o b oa n cap es s u hu W0 (hS.on hb0))
 have r0:=zb hR0 0 rfl
 have r1:=zb hR0 1 rfl
 have HB0:=ZZ hb0
 have HW0:=ZZ hW0
 generalize z09 es s u=M at HM ⊢
 clear hR0 hb0 hW0 hS
 go_enter Tryz.func215,Tryz.ntmps215
 go_upto_region 1 with fail
 rw[HW0.o]
 clear HW0
 go_wp2_with (go_at_call 237;(with_reducible refine HM.o.mono ?_);rintro r w1 ⟨rfl,hb1⟩)
 go_ret
 exact⟨rfl,zTr HB0.o hb1⟩

theorem z6d (b:Nat) (oa:Zoa) (n cap:Nat) (es:List EvV) (s:St) (u:Int) (hu:-1000000≤u∧u≤1000000) (w:World) (hS:Scn w b oa n cap es s) :
  Calls Tryz.prog 236 #[scv b oa n cap,J Y u] w fun r w'=>r=.returned (.bool ((z09 es s u==1)||(z09 es s u==2)))∧Bw w w':=by
 obtain⟨W0,hW0⟩:∃ W0,w.alloc (.cells #[.map (some b),.slice oa n cap] 182)=W0:=⟨_,rfl⟩
 obtain⟨hb0,hR0⟩:=z8l hW0
 have HM:=ZZ (z5o b oa n cap es s u hu W0 (hS.on hb0))
 have r0:=zb hR0 0 rfl
 have r1:=zb hR0 1 rfl
 have HB0:=ZZ hb0
 have HW0:=ZZ hW0
 generalize z09 es s u=M at HM ⊢
 clear hR0 hb0 hW0 hS
 go_enter Tryz.func236,Tryz.ntmps236
 go_upto_region 1 with fail
 rw[HW0.o]
 clear HW0
 cases h1:(M==1)
 all_goals
  go_wp2_with (go_at_call 237;(with_reducible refine HM.o.mono ?_);rintro r w1 ⟨rfl,hb1⟩)
  go_ret
  exact⟨by first|rfl|(rw[h1];rfl),zTr HB0.o hb1⟩

theorem zmd {P:Program} {ops:Array Oper} {Q:Exit→Act→World→Prop} {i:Nat} {o:Oper} {a:Act} {w w':World} {f:FuncId} {args:Array Value} {K:Act→World→Prop} (ho:ops[i]? = some o) (hg:o.guard=none) (hr:(execOp a.eval o).run P w=.ok (.enter f args) w') (hc:Calls P f args w' fun e w''=>∃ v,e=.returned v∧K (a.put o.dst v) w''):wpOp P ops Q i K a w:=by
 unfold wpOp
 simp only[ho]
 have hw:Region.wanted o (yielded ops a.tmps)=true:=by simp[Region.wanted,hg]
 rw[if_pos hw]
 refine .inl ?_
 unfold Oper.wp
 rw[hr]
 simp only[Oper.upon]
 refine hc.mono ?_
 rintro e w'' ⟨v,rfl,hK⟩
 exact hK

theorem z4q {ops:Array Oper} {o p:Oper} {a:Act} {g t:Nat} {x:Bool} (hg:o.guard=some (g,x)) (hp:ops[g]? = some p) (hd:p.dst=some t) (hv:a.eval (.tmp t)=.bool x):Region.wanted o (yielded ops a.tmps)=true:=by
 have h1:a.tmps[t]? = some (.bool x):=by
  simp only[Act.eval,Array.getD_eq_getD_getElem?] at hv
  cases h:a.tmps[t]? with
  | none=>rw[h] at hv;simp[undef] at hv
  | some v=>rw[h] at hv;simpa using hv
 simp[Region.wanted,hg,yielded,hp,hd,h1]

theorem z5j {ops:Array Oper} {o p:Oper} {a:Act} {g t:Nat} {x y:Bool} (hg:o.guard=some (g,x)) (hp:ops[g]? = some p) (hd:p.dst=some t) (hv:a.eval (.tmp t)=.bool y) (hne:y≠x):Region.wanted o (yielded ops a.tmps)=false:=by
 have h1:a.tmps[t]? = some (.bool y):=by
  simp only[Act.eval,Array.getD_eq_getD_getElem?] at hv
  cases h:a.tmps[t]? with
  | none=>rw[h] at hv;simp[undef] at hv
  | some v=>rw[h] at hv;simpa using hv
 simp[Region.wanted,hg,yielded,hp,hd,h1,hne]

theorem z6p {P:Program} {ops:Array Oper} {Q:Exit→Act→World→Prop} {i:Nat} {o:Oper} {a:Act} {w w':World} {v:Value} {K:Act→World→Prop} (ho:ops[i]? = some o) (hw:Region.wanted o (yielded ops a.tmps)=true) (hr:(execOp a.eval o).run P w=.ok (.value v) w') (hK:K (a.put o.dst v) w'):wpOp P ops Q i K a w:=by
 unfold wpOp
 simp only[ho]
 rw[if_pos hw]
 refine .inl ?_
 unfold Oper.wp
 rw[hr]
 exact hK

theorem z8m {P:Program} {ops:Array Oper} {Q:Exit→Act→World→Prop} {i:Nat} {o:Oper} {a:Act} {w:World} {K:Act→World→Prop} (ho:ops[i]? = some o) (hw:Region.wanted o (yielded ops a.tmps)=false) (hK:K (a.put o.dst undef) w):wpOp P ops Q i K a w:=by
 unfold wpOp
 simp only[ho]
 rw[if_neg (by rw[hw];simp)]
 exact hK

def ctS (be:Nat) (ev:Value) (kd c:Int) (ok:Bool):Nat→Option Value
 | 0=>some ev
 | 1=>some (.bool ok)
 | 2=>some (.bool ok)
 | 3=>some (if ok then .pointer (some ⟨be,1,none⟩) else undef)
 | 4=>some (if ok then J Y kd else undef)
 | 5=>some (if ok then .bool (kd==c) else undef)
 | 6=>some (.bool (ok&&(kd==c)))
 | 8=>some (.bool (ok&&(kd==c)))
 | _=>none

structure JS (W:World) (RR:Nat) (ct:Nat→Option Value) (e:EvV) (xl xp:Value) (V:Gh) (w:World):Prop where
 pt:PT ct V
 gr:W.grownBy w (some RR)
 z:V 7=none→EB w RR 0 0 0 0 0 0 (.slice none 0 0) (.slice none 0 0) []
 d:V 7≠none→EB w RR e.id e.kind e.sender e.user e.member e.depth xl xp e.text

theorem JS.put {W:World} {RR:Nat} {ct:Nat→Option Value} {e:EvV} {xl xp:Value} {V:Gh} {w:World} (h:JS W RR ct e xl xp V w) {i:Nat} {v:Value} (hc:ct i=some v) (h7:i≠7):JS W RR ct e xl xp (V.set i v) w:=by
 refine⟨h.pt.set (fun c hc'=>by rw[hc] at hc';cases hc';rfl),h.gr,?_,?_⟩<;>rw[Gh.set_ne V v (Ne.symm h7)]
 ·exact h.z
 ·exact h.d

def z4z:List (Option Tmp × Op):=[(some 11,.load 62 (.tmp 4)),(some 12,.move (.tmp 5)),(some 13,.move (.tmp 12)),(some 14,.fieldAddr 62 (.tmp 4) 1),(some 15,.load 3 (.tmp 14)),(some 16,.binOp .eql 3 (.tmp 15) (.const (J Y 1)) 3),(some 17,.pick (.tmp 13) (.tmp 16) (.const (.bool false))),(none,.store 62 (.tmp 2) (.tmp 11)),(some 3,.assign (.tmp 17))]

def zis:List (List Nat):=[[],[],[1],[2],[2,3],[2,4],[2,5],[0,2],[6,7]]

def gdS1:List (Option (Nat × Bool)):=[none,none,none,some (2,true),some (2,true),some (2,true),none,none,none]

theorem zbu {id:Nat} {ops:Array Oper} {Q:Exit→Act→World→Prop} {a0:Act} {W:World} (hm:Tryz.prog.follows .mixedOrders=true) (htab:z3r ops=z4z) (hdp:z7c ops zis=true) (hgd:ops.toList.map (·.guard)=gdS1) (hd:z2z ops=true) (hl:z6y ops=true) (n2:z2d ops 2=true) (n4:z2d ops 4=true) (n5:z2d ops 5=true)
  {RR be:Nat} {e:EvV} {xa ya:Zoa} {xc yc:Nat} {ok:Bool}
  (hsz:18≤a0.tmps.size) (e2:a0.eval (.tmp 2)=.pointer (some ⟨RR,0,none⟩)) (e4:a0.eval (.tmp 4)=.pointer (some ⟨be,0,none⟩)) (e5:a0.eval (.tmp 5)=.bool ok) (hne:RR≠be)
  (hE:EB W be e.id e.kind e.sender e.user e.member e.depth (.slice xa e.levels.length xc) (.slice ya e.prev.length yc) e.text) (hZ:EB W RR 0 0 0 0 0 0 (.slice none 0 0) (.slice none 0 0) [])
  (hend:∀ (V:Gh) (w':World),(∀ k,k<9→∃ v,V k=some v)→V 8=some (.bool (ok&&(e.kind==1)))→EB w' RR e.id e.kind e.sender e.user e.member e.depth (.slice xa e.levels.length xc) (.slice ya e.prev.length yc) e.text→W.grownBy w' (some RR)→Q .normal (actG ops V a0 ops.size) w'):(Code.region id ops true).wp Tryz.prog Q a0 W:=by
 have hops:ops.size=9:=by
  have:=congrArg List.length htab
  simpa [z3r,z4z] using this
 have hget:∀ k (hk:k<9),ops[k]? = some (ops[k]'(by omega)):=fun k hk=>Array.getElem?_eq_getElem (by omega)
 have hdst:∀ k t,(z4z[k]?).map (·.1)=some (some t)→(hk:k<9)→(ops[k]'(by omega)).dst=some t:=fun k t ht hk=>by
  have:=z2n htab (hget k hk)
  rw[this] at ht
  simpa using ht
 have hbe:∀ w',W.grownBy w' (some RR)→EB w' be e.id e.kind e.sender e.user e.member e.depth (.slice xa e.levels.length xc) (.slice ya e.prev.length yc) e.text:=fun w' h=>hE.kept h (fun q=>hne (zSi q))
 refine z3q hm hd hl (JS W RR (ctS be (evv e (.slice xa e.levels.length xc) (.slice ya e.prev.length yc)) e.kind 1 ok) e (.slice xa e.levels.length xc) (.slice ya e.prev.length yc)) ?_ ?_ ?_
 ·exact⟨(fun k v c h=>by cases h),⟨rfl,rfl,rfl,Nat.le_refl _,fun _ _ _=>rfl⟩,fun _=>hZ,fun h=>absurd rfl h⟩
 ·intro i o V w7 ho hVi hdep0 hcl hJ
  have hi:i<9:=by have:=(Array.getElem?_eq_some_iff.1 ho).1;omega
  have hop0:=z2n htab ho
  have hg0:gdS1[i]? = some o.guard:=by rw[← hgd,List.getElem?_map,Array.getElem?_toList,ho];rfl
  have hdep:∀ {l:List Nat},zis[i]? = some l→∀ k∈l,∃ v,V k=some v:=fun hl=>z5t hdp ho hdep0 hl
  have hlate:∀ k,i∈(zis[k]?).getD []→V k=none:=fun k hk=>z7d hdp hcl k i hk hVi
  clear hdep0 hcl
  have hcases:i=0∨i=1∨i=2∨i=3∨i=4∨i=5∨i=6∨i=7∨i=8:=by omega
  rcases hcases with rfl|rfl|rfl|rfl|rfl|rfl|rfl|rfl|rfl
  ·have hop:o.op=.load 62 (.tmp 4):=zy hop0 rfl
   have hg:o.guard=_:=(zSi hg0).symm
   have E4:=evP (V:=V) n4 e4
   obtain⟨t0,t1,t2,t3,t4,t5,t6,t7,t8⟩:=(hbe _ hJ.gr).ev
   refine gop ho hg ?_ ⟨_,rfl,hJ.put rfl (by decide)⟩
   rw[runH hop]
   generalize actG ops V a0 ops.size=A at E4 ⊢
   clear hJ hget hdst hend hdep hlate hbe
   go_simp
  ·have hop:o.op=.move (.tmp 5):=zy hop0 rfl
   have hg:o.guard=_:=(zSi hg0).symm
   have E5:=evO (V:=V) n5 e5
   exact gM ho hg hop E5 ⟨_,rfl,hJ.put rfl (by decide)⟩
  ·have hop:o.op=.move (.tmp 12):=zy hop0 rfl
   have hg:o.guard=_:=(zSi hg0).symm
   obtain⟨v1,g1⟩:=hdep rfl 1 (by decide)
   have E12:=evD hd htab hsz 1 12 rfl g1
   obtain rfl:v1=_:=hJ.pt 1 v1 _ g1 rfl
   exact gM ho hg hop E12 ⟨_,rfl,hJ.put rfl (by decide)⟩
  ·have hop:o.op=.fieldAddr 62 (.tmp 4) 1:=zy hop0 rfl
   have hg:o.guard=_:=(zSi hg0).symm
   obtain⟨v2,g2⟩:=hdep rfl 2 (by decide)
   have E4:=evP (V:=V) n4 e4
   obtain rfl:v2=_:=hJ.pt 2 v2 _ g2 rfl
   have E13:(actG ops V a0 ops.size).eval (.tmp 13)=.bool ok:=z3n hd (hget 2 (by omega)) (hdst 2 13 (by simp[z4z]) (by omega)) g2 (by omega) _ (by omega)
   cases ok
   ·refine z8m ho (z5j hg (hget 2 (by omega)) (hdst 2 13 (by simp[z4z]) (by omega)) E13 (by decide)) ⟨_,rfl,hJ.put rfl (by decide)⟩
   ·have HW:=ZZ (z4q hg (hget 2 (by omega)) (hdst 2 13 (by simp[z4z]) (by omega)) E13)
    refine z6p ho HW.o ?_ ⟨_,rfl,hJ.put rfl (by decide)⟩
    clear E13 HW
    rw[runH hop]
    generalize actG ops V a0 ops.size=A at E4 ⊢
    clear hJ hget hdst hend hdep hlate hbe
    skip
    go_simp
  ·have hop:o.op=.load 3 (.tmp 14):=zy hop0 rfl
   have hg:o.guard=_:=(zSi hg0).symm
   obtain⟨v2,g2⟩:=hdep rfl 2 (by decide)
   obtain⟨v3,g3⟩:=hdep rfl 3 (by decide)
   have E14:=evT hd htab hsz 3 14 rfl g3
   obtain rfl:v2=_:=hJ.pt 2 v2 _ g2 rfl
   obtain rfl:v3=_:=hJ.pt 3 v3 _ g3 rfl
   have E13:(actG ops V a0 ops.size).eval (.tmp 13)=.bool ok:=z3n hd (hget 2 (by omega)) (hdst 2 13 (by simp[z4z]) (by omega)) g2 (by omega) _ (by omega)
   cases ok
   ·refine z8m ho (z5j hg (hget 2 (by omega)) (hdst 2 13 (by simp[z4z]) (by omega)) E13 (by decide)) ⟨_,rfl,hJ.put rfl (by decide)⟩
   ·have HW:=ZZ (z4q hg (hget 2 (by omega)) (hdst 2 13 (by simp[z4z]) (by omega)) E13)
    obtain⟨t0,t1,t2,t3,t4,t5,t6,t7,t8⟩:=(hbe _ hJ.gr).ev
    refine z6p ho HW.o ?_ ⟨_,rfl,hJ.put rfl (by decide)⟩
    clear E13 HW
    rw[runH hop]
    generalize actG ops V a0 ops.size=A at E14 ⊢
    clear hJ hget hdst hend hdep hlate hbe
    skip
    go_simp
  ·have hop:o.op=.binOp .eql 3 (.tmp 15) (.const (J Y 1)) 3:=zy hop0 rfl
   have hg:o.guard=_:=(zSi hg0).symm
   obtain⟨v2,g2⟩:=hdep rfl 2 (by decide)
   obtain⟨v4,g4⟩:=hdep rfl 4 (by decide)
   have E15:=evT hd htab hsz 4 15 rfl g4
   obtain rfl:v2=_:=hJ.pt 2 v2 _ g2 rfl
   obtain rfl:v4=_:=hJ.pt 4 v4 _ g4 rfl
   have E13:(actG ops V a0 ops.size).eval (.tmp 13)=.bool ok:=z3n hd (hget 2 (by omega)) (hdst 2 13 (by simp[z4z]) (by omega)) g2 (by omega) _ (by omega)
   cases ok
   ·refine z8m ho (z5j hg (hget 2 (by omega)) (hdst 2 13 (by simp[z4z]) (by omega)) E13 (by decide)) ⟨_,rfl,hJ.put rfl (by decide)⟩
   ·have HW:=ZZ (z4q hg (hget 2 (by omega)) (hdst 2 13 (by simp[z4z]) (by omega)) E13)
    refine z6p ho HW.o ?_ ⟨_,rfl,hJ.put rfl (by decide)⟩
    clear E13 HW
    rw[runH hop]
    generalize actG ops V a0 ops.size=A at E15 ⊢
    clear hJ hget hdst hend hdep hlate hbe
    skip
    go_simp
  ·have hop:o.op=.pick (.tmp 13) (.tmp 16) (.const (.bool false)):=zy hop0 rfl
   have hg:o.guard=_:=(zSi hg0).symm
   obtain⟨v2,g2⟩:=hdep rfl 2 (by decide)
   obtain⟨v5,g5⟩:=hdep rfl 5 (by decide)
   have E13:=evT hd htab hsz 2 13 rfl g2
   have E16:=evT hd htab hsz 5 16 rfl g5
   obtain rfl:v2=_:=hJ.pt 2 v2 _ g2 rfl
   obtain rfl:v5=_:=hJ.pt 5 v5 _ g5 rfl
   refine gop ho hg (v:=.bool (ok&&(e.kind==1))) ?_ ⟨_,rfl,hJ.put rfl (by decide)⟩
   cases ok
   ·rw[runH hop]
    generalize actG ops V a0 ops.size=A at E13 E16 ⊢
    clear hJ hget hdst hend hdep hlate hbe
    skip
    go_simp
   ·rw[runH hop]
    generalize actG ops V a0 ops.size=A at E13 E16 ⊢
    clear hJ hget hdst hend hdep hlate hbe
    skip
    go_simp
  ·have hop:o.op=.store 62 (.tmp 2) (.tmp 11):=zy hop0 rfl
   have hg:o.guard=_:=(zSi hg0).symm
   obtain⟨v0,g0⟩:=hdep rfl 0 (by decide)
   obtain⟨v2,g2⟩:=hdep rfl 2 (by decide)
   have E2:=evP (V:=V) n2 e2
   have E11:=evT hd htab hsz 0 11 rfl g0
   obtain rfl:v0=_:=hJ.pt 0 v0 _ g0 rfl
   obtain rfl:v2=_:=hJ.pt 2 v2 _ g2 rfl
   have hz:=hJ.z hVi
   obtain⟨w8,hw8,hE8,hg8⟩:=hz.all e.id e.kind e.sender e.user e.member e.depth (.slice xa e.levels.length xc) (.slice ya e.prev.length yc) e.text
   refine z6x ho hg (w':=w8) ?_ ⟨_,rfl,?_⟩
   ·obtain⟨k0,k1,k2,k3,k4,k5,k6,k7,k8⟩:=hz.ev
    have y0:=hz.free 0
    have y1:=hz.free 1
    have y2:=hz.free 2
    have y3:=hz.free 3
    have y4:=hz.free 4
    have y5:=hz.free 5
    have y6:=hz.free 6
    have y7:=hz.free 7
    have y8:=hz.free 8
    clear hE8 hg8 hz
    rw[runH hop]
    generalize actG ops V a0 ops.size=A at E2 E11 ⊢
    clear hJ hget hdst hend hdep hlate hbe
    skip
    go_simp
    try exact hw8
   ·refine⟨hJ.pt.set (fun c hc=>by cases hc),z00 hJ.gr hg8,fun h=>?_,fun _=>hE8⟩
    rw[Gh.set_self] at h
    cases h
  ·have hop:o.op=.assign (.tmp 17):=zy hop0 rfl
   have hg:o.guard=_:=(zSi hg0).symm
   obtain⟨v6,g6⟩:=hdep rfl 6 (by decide)
   have E17:=evT hd htab hsz 6 17 rfl g6
   obtain rfl:v6=_:=hJ.pt 6 v6 _ g6 rfl
   refine gop ho hg ?_ ⟨_,rfl,hJ.put rfl (by decide)⟩
   rw[runH hop]
   generalize actG ops V a0 ops.size=A at E17 ⊢
   clear hJ hget hdst hend hdep hlate hbe
   go_simp
 ·intro V w7 hall hJ
  have hall':∀ k,k<9→∃ v,V k=some v:=fun k hk=>Option.isSome_iff_exists.1 (hall k (by omega))
  obtain⟨v7,g7⟩:=hall' 7 (by omega)
  obtain⟨v8,g8⟩:=hall' 8 (by omega)
  obtain rfl:v8=_:=hJ.pt 8 v8 _ g8 rfl
  exact hend V w7 hall' g8 (hJ.d (by rw[g7];simp)) hJ.gr

def z5a:List (Option Tmp × Op):=[(some 11,.load 62 (.tmp 4)),(some 12,.move (.tmp 5)),(some 13,.move (.tmp 12)),(some 14,.fieldAddr 62 (.tmp 4) 1),(some 15,.load 3 (.tmp 14)),(some 16,.binOp .eql 3 (.tmp 15) (.const (J Y 3)) 3),(some 17,.pick (.tmp 13) (.tmp 16) (.const (.bool false))),(none,.store 62 (.tmp 2) (.tmp 11)),(some 3,.assign (.tmp 17))]

def zit:List (List Nat):=[[],[],[1],[2],[2,3],[2,4],[2,5],[0,2],[6,7]]

def gdS3:List (Option (Nat × Bool)):=[none,none,none,some (2,true),some (2,true),some (2,true),none,none,none]

theorem zfa {id:Nat} {ops:Array Oper} {Q:Exit→Act→World→Prop} {a0:Act} {W:World} (hm:Tryz.prog.follows .mixedOrders=true) (htab:z3r ops=z5a) (hdp:z7c ops zit=true) (hgd:ops.toList.map (·.guard)=gdS3) (hd:z2z ops=true) (hl:z6y ops=true) (n2:z2d ops 2=true) (n4:z2d ops 4=true) (n5:z2d ops 5=true)
  {RR be:Nat} {e:EvV} {xa ya:Zoa} {xc yc:Nat} {ok:Bool}
  (hsz:18≤a0.tmps.size) (e2:a0.eval (.tmp 2)=.pointer (some ⟨RR,0,none⟩)) (e4:a0.eval (.tmp 4)=.pointer (some ⟨be,0,none⟩)) (e5:a0.eval (.tmp 5)=.bool ok) (hne:RR≠be)
  (hE:EB W be e.id e.kind e.sender e.user e.member e.depth (.slice xa e.levels.length xc) (.slice ya e.prev.length yc) e.text) (hZ:EB W RR 0 0 0 0 0 0 (.slice none 0 0) (.slice none 0 0) [])
  (hend:∀ (V:Gh) (w':World),(∀ k,k<9→∃ v,V k=some v)→V 8=some (.bool (ok&&(e.kind==3)))→EB w' RR e.id e.kind e.sender e.user e.member e.depth (.slice xa e.levels.length xc) (.slice ya e.prev.length yc) e.text→W.grownBy w' (some RR)→Q .normal (actG ops V a0 ops.size) w'):(Code.region id ops true).wp Tryz.prog Q a0 W:=by
 have hops:ops.size=9:=by
  have:=congrArg List.length htab
  simpa [z3r,z5a] using this
 have hget:∀ k (hk:k<9),ops[k]? = some (ops[k]'(by omega)):=fun k hk=>Array.getElem?_eq_getElem (by omega)
 have hdst:∀ k t,(z5a[k]?).map (·.1)=some (some t)→(hk:k<9)→(ops[k]'(by omega)).dst=some t:=fun k t ht hk=>by
  have:=z2n htab (hget k hk)
  rw[this] at ht
  simpa using ht
 have hbe:∀ w',W.grownBy w' (some RR)→EB w' be e.id e.kind e.sender e.user e.member e.depth (.slice xa e.levels.length xc) (.slice ya e.prev.length yc) e.text:=fun w' h=>hE.kept h (fun q=>hne (zSi q))
 refine z3q hm hd hl (JS W RR (ctS be (evv e (.slice xa e.levels.length xc) (.slice ya e.prev.length yc)) e.kind 3 ok) e (.slice xa e.levels.length xc) (.slice ya e.prev.length yc)) ?_ ?_ ?_
 ·exact⟨(fun k v c h=>by cases h),⟨rfl,rfl,rfl,Nat.le_refl _,fun _ _ _=>rfl⟩,fun _=>hZ,fun h=>absurd rfl h⟩
 ·intro i o V w7 ho hVi hdep0 hcl hJ
  have hi:i<9:=by have:=(Array.getElem?_eq_some_iff.1 ho).1;omega
  have hop0:=z2n htab ho
  have hg0:gdS3[i]? = some o.guard:=by rw[← hgd,List.getElem?_map,Array.getElem?_toList,ho];rfl
  have hdep:∀ {l:List Nat},zit[i]? = some l→∀ k∈l,∃ v,V k=some v:=fun hl=>z5t hdp ho hdep0 hl
  have hlate:∀ k,i∈(zit[k]?).getD []→V k=none:=fun k hk=>z7d hdp hcl k i hk hVi
  clear hdep0 hcl
  have hcases:i=0∨i=1∨i=2∨i=3∨i=4∨i=5∨i=6∨i=7∨i=8:=by omega
  rcases hcases with rfl|rfl|rfl|rfl|rfl|rfl|rfl|rfl|rfl
  ·have hop:o.op=.load 62 (.tmp 4):=zy hop0 rfl
   have hg:o.guard=_:=(zSi hg0).symm
   have E4:=evP (V:=V) n4 e4
   obtain⟨t0,t1,t2,t3,t4,t5,t6,t7,t8⟩:=(hbe _ hJ.gr).ev
   refine gop ho hg ?_ ⟨_,rfl,hJ.put rfl (by decide)⟩
   rw[runH hop]
   generalize actG ops V a0 ops.size=A at E4 ⊢
   clear hJ hget hdst hend hdep hlate hbe
   go_simp
  ·have hop:o.op=.move (.tmp 5):=zy hop0 rfl
   have hg:o.guard=_:=(zSi hg0).symm
   have E5:=evO (V:=V) n5 e5
   exact gM ho hg hop E5 ⟨_,rfl,hJ.put rfl (by decide)⟩
  ·have hop:o.op=.move (.tmp 12):=zy hop0 rfl
   have hg:o.guard=_:=(zSi hg0).symm
   obtain⟨v1,g1⟩:=hdep rfl 1 (by decide)
   have E12:=evD hd htab hsz 1 12 rfl g1
   obtain rfl:v1=_:=hJ.pt 1 v1 _ g1 rfl
   exact gM ho hg hop E12 ⟨_,rfl,hJ.put rfl (by decide)⟩
  ·have hop:o.op=.fieldAddr 62 (.tmp 4) 1:=zy hop0 rfl
   have hg:o.guard=_:=(zSi hg0).symm
   obtain⟨v2,g2⟩:=hdep rfl 2 (by decide)
   have E4:=evP (V:=V) n4 e4
   obtain rfl:v2=_:=hJ.pt 2 v2 _ g2 rfl
   have E13:(actG ops V a0 ops.size).eval (.tmp 13)=.bool ok:=z3n hd (hget 2 (by omega)) (hdst 2 13 (by simp[z5a]) (by omega)) g2 (by omega) _ (by omega)
   cases ok
   ·refine z8m ho (z5j hg (hget 2 (by omega)) (hdst 2 13 (by simp[z5a]) (by omega)) E13 (by decide)) ⟨_,rfl,hJ.put rfl (by decide)⟩
   ·have HW:=ZZ (z4q hg (hget 2 (by omega)) (hdst 2 13 (by simp[z5a]) (by omega)) E13)
    refine z6p ho HW.o ?_ ⟨_,rfl,hJ.put rfl (by decide)⟩
    clear E13 HW
    rw[runH hop]
    generalize actG ops V a0 ops.size=A at E4 ⊢
    clear hJ hget hdst hend hdep hlate hbe
    skip
    go_simp
  ·have hop:o.op=.load 3 (.tmp 14):=zy hop0 rfl
   have hg:o.guard=_:=(zSi hg0).symm
   obtain⟨v2,g2⟩:=hdep rfl 2 (by decide)
   obtain⟨v3,g3⟩:=hdep rfl 3 (by decide)
   have E14:=evT hd htab hsz 3 14 rfl g3
   obtain rfl:v2=_:=hJ.pt 2 v2 _ g2 rfl
   obtain rfl:v3=_:=hJ.pt 3 v3 _ g3 rfl
   have E13:(actG ops V a0 ops.size).eval (.tmp 13)=.bool ok:=z3n hd (hget 2 (by omega)) (hdst 2 13 (by simp[z5a]) (by omega)) g2 (by omega) _ (by omega)
   cases ok
   ·refine z8m ho (z5j hg (hget 2 (by omega)) (hdst 2 13 (by simp[z5a]) (by omega)) E13 (by decide)) ⟨_,rfl,hJ.put rfl (by decide)⟩
   ·have HW:=ZZ (z4q hg (hget 2 (by omega)) (hdst 2 13 (by simp[z5a]) (by omega)) E13)
    obtain⟨t0,t1,t2,t3,t4,t5,t6,t7,t8⟩:=(hbe _ hJ.gr).ev
    refine z6p ho HW.o ?_ ⟨_,rfl,hJ.put rfl (by decide)⟩
    clear E13 HW
    rw[runH hop]
    generalize actG ops V a0 ops.size=A at E14 ⊢
    clear hJ hget hdst hend hdep hlate hbe
    skip
    go_simp
  ·have hop:o.op=.binOp .eql 3 (.tmp 15) (.const (J Y 3)) 3:=zy hop0 rfl
   have hg:o.guard=_:=(zSi hg0).symm
   obtain⟨v2,g2⟩:=hdep rfl 2 (by decide)
   obtain⟨v4,g4⟩:=hdep rfl 4 (by decide)
   have E15:=evT hd htab hsz 4 15 rfl g4
   obtain rfl:v2=_:=hJ.pt 2 v2 _ g2 rfl
   obtain rfl:v4=_:=hJ.pt 4 v4 _ g4 rfl
   have E13:(actG ops V a0 ops.size).eval (.tmp 13)=.bool ok:=z3n hd (hget 2 (by omega)) (hdst 2 13 (by simp[z5a]) (by omega)) g2 (by omega) _ (by omega)
   cases ok
   ·refine z8m ho (z5j hg (hget 2 (by omega)) (hdst 2 13 (by simp[z5a]) (by omega)) E13 (by decide)) ⟨_,rfl,hJ.put rfl (by decide)⟩
   ·have HW:=ZZ (z4q hg (hget 2 (by omega)) (hdst 2 13 (by simp[z5a]) (by omega)) E13)
    refine z6p ho HW.o ?_ ⟨_,rfl,hJ.put rfl (by decide)⟩
    clear E13 HW
    rw[runH hop]
    generalize actG ops V a0 ops.size=A at E15 ⊢
    clear hJ hget hdst hend hdep hlate hbe
    skip
    go_simp
  ·have hop:o.op=.pick (.tmp 13) (.tmp 16) (.const (.bool false)):=zy hop0 rfl
   have hg:o.guard=_:=(zSi hg0).symm
   obtain⟨v2,g2⟩:=hdep rfl 2 (by decide)
   obtain⟨v5,g5⟩:=hdep rfl 5 (by decide)
   have E13:=evT hd htab hsz 2 13 rfl g2
   have E16:=evT hd htab hsz 5 16 rfl g5
   obtain rfl:v2=_:=hJ.pt 2 v2 _ g2 rfl
   obtain rfl:v5=_:=hJ.pt 5 v5 _ g5 rfl
   refine gop ho hg (v:=.bool (ok&&(e.kind==3))) ?_ ⟨_,rfl,hJ.put rfl (by decide)⟩
   cases ok
   ·rw[runH hop]
    generalize actG ops V a0 ops.size=A at E13 E16 ⊢
    clear hJ hget hdst hend hdep hlate hbe
    skip
    go_simp
   ·rw[runH hop]
    generalize actG ops V a0 ops.size=A at E13 E16 ⊢
    clear hJ hget hdst hend hdep hlate hbe
    skip
    go_simp
  ·have hop:o.op=.store 62 (.tmp 2) (.tmp 11):=zy hop0 rfl
   have hg:o.guard=_:=(zSi hg0).symm
   obtain⟨v0,g0⟩:=hdep rfl 0 (by decide)
   obtain⟨v2,g2⟩:=hdep rfl 2 (by decide)
   have E2:=evP (V:=V) n2 e2
   have E11:=evT hd htab hsz 0 11 rfl g0
   obtain rfl:v0=_:=hJ.pt 0 v0 _ g0 rfl
   obtain rfl:v2=_:=hJ.pt 2 v2 _ g2 rfl
   have hz:=hJ.z hVi
   obtain⟨w8,hw8,hE8,hg8⟩:=hz.all e.id e.kind e.sender e.user e.member e.depth (.slice xa e.levels.length xc) (.slice ya e.prev.length yc) e.text
   refine z6x ho hg (w':=w8) ?_ ⟨_,rfl,?_⟩
   ·obtain⟨k0,k1,k2,k3,k4,k5,k6,k7,k8⟩:=hz.ev
    have y0:=hz.free 0
    have y1:=hz.free 1
    have y2:=hz.free 2
    have y3:=hz.free 3
    have y4:=hz.free 4
    have y5:=hz.free 5
    have y6:=hz.free 6
    have y7:=hz.free 7
    have y8:=hz.free 8
    clear hE8 hg8 hz
    rw[runH hop]
    generalize actG ops V a0 ops.size=A at E2 E11 ⊢
    clear hJ hget hdst hend hdep hlate hbe
    skip
    go_simp
    try exact hw8
   ·refine⟨hJ.pt.set (fun c hc=>by cases hc),z00 hJ.gr hg8,fun h=>?_,fun _=>hE8⟩
    rw[Gh.set_self] at h
    cases h
  ·have hop:o.op=.assign (.tmp 17):=zy hop0 rfl
   have hg:o.guard=_:=(zSi hg0).symm
   obtain⟨v6,g6⟩:=hdep rfl 6 (by decide)
   have E17:=evT hd htab hsz 6 17 rfl g6
   obtain rfl:v6=_:=hJ.pt 6 v6 _ g6 rfl
   refine gop ho hg ?_ ⟨_,rfl,hJ.put rfl (by decide)⟩
   rw[runH hop]
   generalize actG ops V a0 ops.size=A at E17 ⊢
   clear hJ hget hdst hend hdep hlate hbe
   go_simp
 ·intro V w7 hall hJ
  have hall':∀ k,k<9→∃ v,V k=some v:=fun k hk=>Option.isSome_iff_exists.1 (hall k (by omega))
  obtain⟨v7,g7⟩:=hall' 7 (by omega)
  obtain⟨v8,g8⟩:=hall' 8 (by omega)
  obtain rfl:v8=_:=hJ.pt 8 v8 _ g8 rfl
  exact hend V w7 hall' g8 (hJ.d (by rw[g7];simp)) hJ.gr

theorem z8n (b:Nat) (oa:Zoa) (n cap:Nat) (es:List EvV) (s:St) (w:World) (hS:Scn w b oa n cap es s) :
  Calls Tryz.prog 174 #[scv b oa n cap] w (z9j w (scKn es s 1).1 ((scKn es s 1).2&&((scKn es s 1).1.kind==1))):=by
 obtain⟨W0,hW0⟩:∃ W0,((w.alloc (.cells #[.map (some b),.slice oa n cap] 182)).alloc (.cells (zk 0 0 0 0 0 0 (.slice none 0 0) (.slice none 0 0) []) 62))=W0:=⟨_,rfl⟩
 obtain⟨hb0,hR0,hE0⟩:=zdg (b:=b) (oa:=oa) (n:=n) (cap:=cap) hW0
 have Bb:=ZZ (z7a w b oa n cap es s 1 (by decide) W0 hS.evs hb0 (hS.on hb0))
 have r0:=zb hR0 0 rfl
 have r1:=zb hR0 1 rfl
 have Ah:=ZZ hE0
 have HB0:=ZZ hb0
 have HW0:=ZZ hW0
 have hlR:=hE0.lt
 generalize scKn es s 1=R at Bb ⊢
 obtain⟨e,ok⟩:=R
 simp only at Bb ⊢
 clear hR0 hE0 hb0 hW0 hS
 go_enter Tryz.func174,Tryz.ntmps174
 go_upto_region 1 with fail
 rw[HW0.o]
 clear HW0
 go_upto_region 2 with (go_at_call 207;(with_reducible refine Bb.o.mono ?_);rintro r w1 ⟨xa,xc,ya,yc,rfl,hx,hy,hb1⟩)
 obtain⟨w2,hw2⟩:∃ w2,w1.alloc (.cells (zk e.id e.kind e.sender e.user e.member e.depth (.slice xa e.levels.length xc) (.slice ya e.prev.length yc) e.text) 62)=w2:=⟨_,rfl⟩
 have hb2:Bw w1 w2:=by rw[← hw2];exact zBa
 have hE2:EB w2 w1.heap.size e.id e.kind e.sender e.user e.member e.depth (.slice xa e.levels.length xc) (.slice ya e.prev.length yc) e.text:=by rw[← hw2];exact EB.new _ _ _ _ _ _ _ _ _ _
 try rw[show w1.alloc (.cells #[J Y e.id,J Y e.kind,J Y e.sender,J Y e.user,J Y e.member,.slice xa e.levels.length xc,.string ⟨e.text.toArray⟩,.slice ya e.prev.length yc,J Y e.depth] 62)=w2 from hw2]
 have hs1:=hb1.size
 have HRR:=ZZ ((Ah.o.on hb1 hlR).on hb2 (by omega))
 have HX:=ZZ hx
 have HY:=ZZ hy
 have HB2:=ZZ (HB0.o.trans ((hb1.trans (hb2.mono hs1)).mono HB0.o.size))
 have hbe:w.heap.size+1≠w1.heap.size:=by omega
 generalize w1.heap.size=be at hE2 hbe ⊢
 have HE2:=ZZ hE2
 clear hx hy hb1 hb2 hw2 hE2
 refine zbu (RR:=w.heap.size+1) (be:=be) (e:=e) (xa:=xa) (ya:=ya) (xc:=xc) (yc:=yc) (ok:=ok) (by kernel_rfl) (by kernel_rfl) (by kernel_rfl) (by kernel_rfl) (by kernel_rfl) (by kernel_rfl) (by kernel_rfl) (by kernel_rfl) (by kernel_rfl) (by simp) rfl rfl rfl hbe HE2.o HRR.o ?_
 intro V w3 hall g8 hE3 hg3
 have BX:=ZZ hE3
 have Gd:=ZZ hg3
 obtain⟨v0,g0'⟩:=hall 0 (by omega)
 obtain⟨v1,g1'⟩:=hall 1 (by omega)
 obtain⟨v2,g2'⟩:=hall 2 (by omega)
 obtain⟨v3,g3'⟩:=hall 3 (by omega)
 obtain⟨v4,g4'⟩:=hall 4 (by omega)
 obtain⟨v5,g5'⟩:=hall 5 (by omega)
 obtain⟨v6,g6'⟩:=hall 6 (by omega)
 obtain⟨v7,g7'⟩:=hall 7 (by omega)
 simp only[actG,List.size_toArray,List.length_cons,List.length_nil,List.getElem?_toArray,List.getElem?_cons_zero,List.getElem?_cons_succ,g0',g1',g2',g3',g4',g5',g6',g7',g8,Act.put,List.setIfInBounds_toArray,List.set_cons_zero,List.set_cons_succ]
 clear g0' g1' g2' g3' g4' g5' g6' g7'
 clear hall hE3 hg3
 obtain⟨q0,q1,q2,q3,q4,q5,q6,q7,q8⟩:=BX.o.ev
 go_wp2_with fail
 refine bodyPost_ret (v:=.tuple #[evv e (.slice xa e.levels.length xc) (.slice ya e.prev.length yc),.bool (ok&&(e.kind==1))]) (by simp[results,Tryz.results174,go_sem,q0,q1,q2,q3,q4,q5,q6,q7,q8]) rfl ?_
 have hb9:Bw w w3:=HB2.o.grown Gd.o HB2.o.size (fun q hq=>by cases hq;omega)
 exact⟨xa,xc,ya,yc,rfl,HX.o.below hb9,HY.o.below hb9,hb9⟩

theorem zgn (b:Nat) (oa:Zoa) (n cap:Nat) (es:List EvV) (s:St) (w:World) (hS:Scn w b oa n cap es s) :
  Calls Tryz.prog 239 #[scv b oa n cap] w (z9j w (scKn es s 2).1 ((scKn es s 2).2&&((scKn es s 2).1.kind==3))):=by
 obtain⟨W0,hW0⟩:∃ W0,((w.alloc (.cells #[.map (some b),.slice oa n cap] 182)).alloc (.cells (zk 0 0 0 0 0 0 (.slice none 0 0) (.slice none 0 0) []) 62))=W0:=⟨_,rfl⟩
 obtain⟨hb0,hR0,hE0⟩:=zdg (b:=b) (oa:=oa) (n:=n) (cap:=cap) hW0
 have Bb:=ZZ (z7a w b oa n cap es s 2 (by decide) W0 hS.evs hb0 (hS.on hb0))
 have r0:=zb hR0 0 rfl
 have r1:=zb hR0 1 rfl
 have Ah:=ZZ hE0
 have HB0:=ZZ hb0
 have HW0:=ZZ hW0
 have hlR:=hE0.lt
 generalize scKn es s 2=R at Bb ⊢
 obtain⟨e,ok⟩:=R
 simp only at Bb ⊢
 clear hR0 hE0 hb0 hW0 hS
 go_enter Tryz.func239,Tryz.ntmps239
 go_upto_region 1 with fail
 rw[HW0.o]
 clear HW0
 go_upto_region 2 with (go_at_call 207;(with_reducible refine Bb.o.mono ?_);rintro r w1 ⟨xa,xc,ya,yc,rfl,hx,hy,hb1⟩)
 obtain⟨w2,hw2⟩:∃ w2,w1.alloc (.cells (zk e.id e.kind e.sender e.user e.member e.depth (.slice xa e.levels.length xc) (.slice ya e.prev.length yc) e.text) 62)=w2:=⟨_,rfl⟩
 have hb2:Bw w1 w2:=by rw[← hw2];exact zBa
 have hE2:EB w2 w1.heap.size e.id e.kind e.sender e.user e.member e.depth (.slice xa e.levels.length xc) (.slice ya e.prev.length yc) e.text:=by rw[← hw2];exact EB.new _ _ _ _ _ _ _ _ _ _
 try rw[show w1.alloc (.cells #[J Y e.id,J Y e.kind,J Y e.sender,J Y e.user,J Y e.member,.slice xa e.levels.length xc,.string ⟨e.text.toArray⟩,.slice ya e.prev.length yc,J Y e.depth] 62)=w2 from hw2]
 have hs1:=hb1.size
 have HRR:=ZZ ((Ah.o.on hb1 hlR).on hb2 (by omega))
 have HX:=ZZ hx
 have HY:=ZZ hy
 have HB2:=ZZ (HB0.o.trans ((hb1.trans (hb2.mono hs1)).mono HB0.o.size))
 have hbe:w.heap.size+1≠w1.heap.size:=by omega
 generalize w1.heap.size=be at hE2 hbe ⊢
 have HE2:=ZZ hE2
 clear hx hy hb1 hb2 hw2 hE2
 refine zfa (RR:=w.heap.size+1) (be:=be) (e:=e) (xa:=xa) (ya:=ya) (xc:=xc) (yc:=yc) (ok:=ok) (by kernel_rfl) (by kernel_rfl) (by kernel_rfl) (by kernel_rfl) (by kernel_rfl) (by kernel_rfl) (by kernel_rfl) (by kernel_rfl) (by kernel_rfl) (by simp) rfl rfl rfl hbe HE2.o HRR.o ?_
 intro V w3 hall g8 hE3 hg3
 have BX:=ZZ hE3
 have Gd:=ZZ hg3
 obtain⟨v0,g0'⟩:=hall 0 (by omega)
 obtain⟨v1,g1'⟩:=hall 1 (by omega)
 obtain⟨v2,g2'⟩:=hall 2 (by omega)
 obtain⟨v3,g3'⟩:=hall 3 (by omega)
 obtain⟨v4,g4'⟩:=hall 4 (by omega)
 obtain⟨v5,g5'⟩:=hall 5 (by omega)
 obtain⟨v6,g6'⟩:=hall 6 (by omega)
 obtain⟨v7,g7'⟩:=hall 7 (by omega)
 simp only[actG,List.size_toArray,List.length_cons,List.length_nil,List.getElem?_toArray,List.getElem?_cons_zero,List.getElem?_cons_succ,g0',g1',g2',g3',g4',g5',g6',g7',g8,Act.put,List.setIfInBounds_toArray,List.set_cons_zero,List.set_cons_succ]
 clear g0' g1' g2' g3' g4' g5' g6' g7'
 clear hall hE3 hg3
 obtain⟨q0,q1,q2,q3,q4,q5,q6,q7,q8⟩:=BX.o.ev
 go_wp2_with fail
 refine bodyPost_ret (v:=.tuple #[evv e (.slice xa e.levels.length xc) (.slice ya e.prev.length yc),.bool (ok&&(e.kind==3))]) (by simp[results,Tryz.results239,go_sem,q0,q1,q2,q3,q4,q5,q6,q7,q8]) rfl ?_
 have hb9:Bw w w3:=HB2.o.grown Gd.o HB2.o.size (fun q hq=>by cases hq;omega)
 exact⟨xa,xc,ya,yc,rfl,HX.o.below hb9,HY.o.below hb9,hb9⟩

theorem zko (es:List EvV) (s:St) (u:Int):z2m es s u=(((scKn es s 1).2&&((scKn es s 1).1.kind==1))&&((scKn es s 1).1.sender==u)):=by
 unfold z2m
 rw[za3]
 cases scEv es s 1 with
 | none=>rfl
 | some c=>rfl

theorem zme (es:List EvV) (s:St) (u:Int):z06 es s u=if inR u 1 5 then (if ((scKn es s 2).2&&((scKn es s 2).1.kind==3)) then (if ((scKn es s 2).1.levels.length:Int)<u then 0 else (scKn es s 2).1.levels.getD (u.toNat - 1) 0) else if z2m es s u then 100 else 0) else 0:=by
 unfold z06
 rw[za3]
 cases scEv es s 2 with
 | none=>rfl
 | some c =>
  by_cases h:c.kind=3
  ·simp[h]
  ·simp[h]

theorem z9y (b:Nat) (oa:Zoa) (n cap:Nat) (es:List EvV) (s:St) (u:Int) (w:World) (hS:Scn w b oa n cap es s) :
  Calls Tryz.prog 234 #[scv b oa n cap,J Y u] w fun r w'=>r=.returned (.bool (z2m es s u))∧Bw w w':=by
 obtain⟨W0,hW0⟩:∃ W0,w.alloc (.cells #[.map (some b),.slice oa n cap] 182)=W0:=⟨_,rfl⟩
 obtain⟨hb0,hR0⟩:=z8l hW0
 have HC:=ZZ (z8n b oa n cap es s W0 (hS.on hb0))
 have r0:=zb hR0 0 rfl
 have r1:=zb hR0 1 rfl
 have HB0:=ZZ hb0
 have HW0:=ZZ hW0
 rw[zko]
 generalize ((scKn es s 1).2&&((scKn es s 1).1.kind==1))=ok at HC ⊢
 generalize (scKn es s 1).1=e at HC ⊢
 clear hR0 hb0 hW0 hS
 go_enter Tryz.func234,Tryz.ntmps234
 go_upto_region 1 with fail
 rw[HW0.o]
 clear HW0
 cases ok
 all_goals
  go_wp2_with (go_at_call 174;(with_reducible refine HC.o.mono ?_);rintro r w1 ⟨xa,xc,ya,yc,rfl,hx,hy,hb1⟩)
  go_ret
  exact⟨by first|rfl|simp,zg (zTr HB0.o hb1) (.cells (zk e.id e.kind e.sender e.user e.member e.depth (.slice xa e.levels.length xc) (.slice ya e.prev.length yc) e.text) 62)⟩

theorem z4c (b:Nat) (oa:Zoa) (n cap:Nat) (es:List EvV) (s:St) (u:Int) (w:World) (hS:Scn w b oa n cap es s) :
  Calls Tryz.prog 214 #[scv b oa n cap,J Y u] w fun r w'=>r=.returned (J Y (z06 es s u))∧Bw w w':=by
 obtain⟨W0,hW0⟩:∃ W0,w.alloc (.cells #[.map (some b),.slice oa n cap] 182)=W0:=⟨_,rfl⟩
 obtain⟨hb0,hR0⟩:=z8l hW0
 have HP:=ZZ (zgn b oa n cap es s W0 (hS.on hb0))
 have G7:=ZZ (fun W (h:Bw W0 W)=>z9y b oa n cap es s u W ((hS.on hb0).on h))
 have HW:=ZZ (fun w=>z6f u 1 5 w)
 have r0:=zb hR0 0 rfl
 have r1:=zb hR0 1 rfl
 have hlr:=ze hR0
 have HB0:=ZZ hb0
 have HW0:=ZZ hW0
 rw[zme]
 generalize ((scKn es s 2).2&&((scKn es s 2).1.kind==3))=ok at HP ⊢
 generalize (scKn es s 2).1=e at HP ⊢
 generalize z2m es s u=md at G7 ⊢
 clear hR0 hb0 hW0 hS
 have Jw:=ZZ (show inR u 1 5=true→1≤u∧u≤5 by intro h;simpa [inR] using h)
 rw[show (decide (1≤u)&&decide (u≤5))=inR u 1 5 from rfl] at HW
 cases hin:inR u 1 5
 ·rw[hin] at HW
  go_enter Tryz.func214,Tryz.ntmps214
  go_upto_region 1 with fail
  rw[HW0.o]
  go_wp2_with (go_at_call 93;(with_reducible refine (HW.o _).mono ?_);rintro r w9 ⟨rfl,rfl⟩)
  go_ret
  exact⟨rfl,HB0.o⟩
 ·rw[hin] at HW
  obtain⟨h1,h5⟩:=Jw.o hin
  cases ok
  ·cases md
   all_goals
    go_enter Tryz.func214,Tryz.ntmps214
    go_upto_region 1 with fail
    rw[HW0.o]
    go_upto_region 8 with (first
     | (go_at_call 93;(with_reducible refine (HW.o _).mono ?_);rintro r w9 ⟨rfl,rfl⟩)
     | (go_at_call 239;(with_reducible refine HP.o.mono ?_);rintro r w1 ⟨xa,xc,ya,yc,rfl,hx,hy,hb1⟩;have hlr1:=zLt hlr hb1.size;have s0:=(hb1.cell hlr).trans r0;have s1:=(hb1.cell hlr).trans r1))
    have hbv:Bw W0 (w1.alloc (.cells (zk e.id e.kind e.sender e.user e.member e.depth (.slice xa e.levels.length xc) (.slice ya e.prev.length yc) e.text) 62)):=zg hb1 _
    have Jy:=ZZ (G7.o _ hbv)
    have EG:=ZZ (zTr HB0.o hbv)
    clear hx hy hb1 hbv
    go_wp2_with (go_at_call 234;(with_reducible refine Jy.o.mono ?_);rintro r w3 ⟨rfl,hb3⟩)
    go_ret
    exact⟨by first|rfl|simp,zTr EG.o hb3⟩
  ·by_cases hlen:(e.levels.length:Int)<u
   ·rw[if_pos rfl,if_pos rfl,if_pos hlen]
    go_enter Tryz.func214,Tryz.ntmps214
    go_upto_region 1 with fail
    rw[HW0.o]
    go_wp2_with (first
     | (go_at_call 93;(with_reducible refine (HW.o _).mono ?_);rintro r w9 ⟨rfl,rfl⟩)
     | (go_at_call 239;(with_reducible refine HP.o.mono ?_);rintro r w1 ⟨xa,xc,ya,yc,rfl,hx,hy,hb1⟩;have hlr1:=zLt hlr hb1.size;have s0:=(hb1.cell hlr).trans r0;have s1:=(hb1.cell hlr).trans r1))
    go_ret
    exact⟨rfl,zg (zTr HB0.o hb1) (.cells (zk e.id e.kind e.sender e.user e.member e.depth (.slice xa e.levels.length xc) (.slice ya e.prev.length yc) e.text) 62)⟩
   ·rw[if_pos rfl,if_pos rfl,if_neg hlen]
    obtain⟨j,rfl⟩:∃ j:Nat,u=(j:Int)+1:=⟨u.toNat - 1,by omega⟩
    have hjl:j<e.levels.length:=by omega
    have KW:=ZZ (show e.levels.getD (((j:Int)+1).toNat - 1) 0=e.levels[j] by
     rw[show ((j:Int)+1).toNat - 1=j by omega,List.getD_eq_getElem?_getD,List.getElem?_eq_getElem hjl]
     rfl)
    go_enter Tryz.func214,Tryz.ntmps214
    go_upto_region 1 with fail
    rw[HW0.o]
    go_upto_region 7 with (first
     | (go_at_call 93;(with_reducible refine (HW.o _).mono ?_);rintro r w9 ⟨rfl,rfl⟩)
     | (go_at_call 239;(with_reducible refine HP.o.mono ?_);rintro r w1 ⟨xa,xc,ya,yc,rfl,hx,hy,hb1⟩;have hlr1:=zLt hlr hb1.size;have s0:=(hb1.cell hlr).trans r0;have s1:=(hb1.cell hlr).trans r1))
    have hbA:Bw w1 (w1.alloc (.cells (zk e.id e.kind e.sender e.user e.member e.depth (.slice xa e.levels.length xc) (.slice ya e.prev.length yc) e.text) 62)):=zBa
    obtain⟨z,b2,q2,hz,hidx,hb2,c0,hwz⟩:=(hx.below hbA).get Tryz.underlying60 z0f j hjl
    have hze:z=e.levels[j]:=by
     rw[List.getElem?_eq_getElem hjl] at hz
     exact (zSi hz).symm
    have EG:=ZZ (zg (zTr HB0.o hb1) (.cells (zk e.id e.kind e.sender e.user e.member e.depth (.slice xa e.levels.length xc) (.slice ya e.prev.length yc) e.text) 62))
    have KX:=ZZ hze
    clear hze hz hbA
    go_wp2_with fail
    go_ret
    exact⟨by rw[KW.o,← KX.o];rfl,EG.o⟩

abbrev trv (b:Nat) (oa:Zoa) (n cap:Nat) (e:EvV) (xl xp:Value):Value:=.agg #[.map (some b),.slice oa n cap,J Y e.id,J Y e.kind,J Y e.sender,J Y e.user,J Y e.member,xl,.string ⟨e.text.toArray⟩,xp,J Y e.depth]

theorem z1e {w W0:World} {b:Nat} {oa:Zoa} {n cap:Nat} {e:EvV} {xl xp:Value} (hW0:w.alloc (.cells #[.map (some b),.slice oa n cap,J Y e.id,J Y e.kind,J Y e.sender,J Y e.user,J Y e.member,xl,.string ⟨e.text.toArray⟩,xp,J Y e.depth] 185)=W0) :
  Bw w W0∧W0.heap[w.heap.size]? = some (.cells #[.map (some b),.slice oa n cap,J Y e.id,J Y e.kind,J Y e.sender,J Y e.user,J Y e.member,xl,.string ⟨e.text.toArray⟩,xp,J Y e.depth] 185 (0,0)) :=
 ⟨by rw[← hW0];exact zBa,by rw[← hW0];exact heap_alloc_new _ _⟩

theorem zmf (b:Nat) (oa:Zoa) (n cap:Nat) (es:List EvV) (s:St) (e:EvV) (xl xp:Value) (hse:inR e.sender 1 5=true) (w:World) (hS:Scn w b oa n cap es s) :
  Calls Tryz.prog 209 #[trv b oa n cap e xl xp] w fun r w'=>r=.returned (.bool ((z09 es s e.sender==1)||(z09 es s e.sender==2)))∧Bw w w':=by
 obtain⟨W0,hW0⟩:∃ W0,w.alloc (.cells #[.map (some b),.slice oa n cap,J Y e.id,J Y e.kind,J Y e.sender,J Y e.user,J Y e.member,xl,.string ⟨e.text.toArray⟩,xp,J Y e.depth] 185)=W0:=⟨_,rfl⟩
 obtain⟨hb0,hR0⟩:=z1e hW0
 have hsr:-1000000≤e.sender∧e.sender≤1000000:=by simp[inR] at hse;omega
 have Ak:=ZZ (hS.on hb0)
 have r0:=zb hR0 0 rfl
 have r1:=zb hR0 1 rfl
 have r4:=zb hR0 4 rfl
 have r5:=zb hR0 5 rfl
 have hlr:=ze hR0
 have HB0:=ZZ hb0
 have HW0:=ZZ hW0
 have HA:=ZZ (z6d b oa n cap es s e.sender hsr W0 Ak.o)
 clear hR0 hb0 hW0 hS
 go_enter Tryz.func209,Tryz.ntmps209
 go_upto_region 1 with fail
 rw[HW0.o]
 clear HW0
 go_wp2_with (go_at_call 236;(with_reducible refine HA.o.mono ?_);rintro r w1 ⟨rfl,hb1⟩)
 go_ret
 exact⟨rfl,zTr HB0.o hb1⟩

theorem zkp (b:Nat) (oa:Zoa) (n cap:Nat) (es:List EvV) (s:St) (e:EvV) (xl xp:Value) (hse:inR e.sender 1 5=true) (w:World) (hS:Scn w b oa n cap es s) :
  Calls Tryz.prog 181 #[trv b oa n cap e xl xp] w fun r w'=>r=.returned (.bool (z09 es s e.sender==2))∧Bw w w':=by
 obtain⟨W0,hW0⟩:∃ W0,w.alloc (.cells #[.map (some b),.slice oa n cap,J Y e.id,J Y e.kind,J Y e.sender,J Y e.user,J Y e.member,xl,.string ⟨e.text.toArray⟩,xp,J Y e.depth] 185)=W0:=⟨_,rfl⟩
 obtain⟨hb0,hR0⟩:=z1e hW0
 have hsr:-1000000≤e.sender∧e.sender≤1000000:=by simp[inR] at hse;omega
 have Ak:=ZZ (hS.on hb0)
 have r0:=zb hR0 0 rfl
 have r1:=zb hR0 1 rfl
 have r4:=zb hR0 4 rfl
 have r5:=zb hR0 5 rfl
 have hlr:=ze hR0
 have HB0:=ZZ hb0
 have HW0:=ZZ hW0
 have HA:=ZZ (z7b b oa n cap es s e.sender hsr W0 Ak.o)
 clear hR0 hb0 hW0 hS
 go_enter Tryz.func181,Tryz.ntmps181
 go_upto_region 1 with fail
 rw[HW0.o]
 clear HW0
 go_wp2_with (go_at_call 215;(with_reducible refine HA.o.mono ?_);rintro r w1 ⟨rfl,hb1⟩)
 go_ret
 exact⟨rfl,zTr HB0.o hb1⟩

theorem z8f (b:Nat) (oa:Zoa) (n cap:Nat) (es:List EvV) (s:St) (e:EvV) (xl xp:Value) (hse:inR e.sender 1 5=true) (w:World) (hS:Scn w b oa n cap es s) :
  Calls Tryz.prog 213 #[trv b oa n cap e xl xp] w fun r w'=>r=.returned (.bool ((z09 es s e.sender==2)&&decide (50≤z06 es s e.sender)))∧Bw w w':=by
 obtain⟨W0,hW0⟩:∃ W0,w.alloc (.cells #[.map (some b),.slice oa n cap,J Y e.id,J Y e.kind,J Y e.sender,J Y e.user,J Y e.member,xl,.string ⟨e.text.toArray⟩,xp,J Y e.depth] 185)=W0:=⟨_,rfl⟩
 obtain⟨hb0,hR0⟩:=z1e hW0
 have hsr:-1000000≤e.sender∧e.sender≤1000000:=by simp[inR] at hse;omega
 have Ak:=ZZ (hS.on hb0)
 have r0:=zb hR0 0 rfl
 have r1:=zb hR0 1 rfl
 have r4:=zb hR0 4 rfl
 have r5:=zb hR0 5 rfl
 have hlr:=ze hR0
 have HB0:=ZZ hb0
 have HW0:=ZZ hW0
 have HA:=ZZ (z7b b oa n cap es s e.sender hsr W0 Ak.o)
 have HL:=ZZ (fun W (h:Bw W0 W)=>z4c b oa n cap es s e.sender W (Ak.o.on h))
 generalize (z09 es s e.sender==2)=jo at HA ⊢
 generalize z06 es s e.sender=lv at HL ⊢
 clear hR0 hb0 hW0 hS
 go_enter Tryz.func213,Tryz.ntmps213
 go_upto_region 1 with fail
 rw[HW0.o]
 clear HW0
 cases jo
 ·go_wp2_with (go_at_call 215;(with_reducible refine HA.o.mono ?_);rintro r w1 ⟨rfl,hb1⟩)
  go_ret
  exact⟨rfl,zTr HB0.o hb1⟩
 ·go_wp2_with (first
   | (go_at_call 215;(with_reducible refine HA.o.mono ?_);rintro r w1 ⟨rfl,hb1⟩;have s0:=(hb1.cell hlr).trans r0;have s1:=(hb1.cell hlr).trans r1;have s4:=(hb1.cell hlr).trans r4;have Be:=ZZ (HL.o w1 hb1))
   | (go_at_call 214;(with_reducible refine Be.o.mono ?_);rintro r w2 ⟨rfl,hb2⟩))
  go_ret
  exact⟨by first|rfl|simp,HB0.o.trans ((zTr hb1 hb2).mono HB0.o.size)⟩

theorem ziu (b:Nat) (oa:Zoa) (n cap:Nat) (es:List EvV) (s:St) (e:EvV) (xl xp:Value) (hse:inR e.sender 1 5=true) (hus:-1000000≤e.user∧e.user≤1000000) (w:World) (hS:Scn w b oa n cap es s) :
  Calls Tryz.prog 180 #[trv b oa n cap e xl xp] w fun r w'=>r=.returned (.bool ((z09 es s e.sender==2)&&decide (50≤z06 es s e.sender)))∧Bw w w':=by
 obtain⟨W0,hW0⟩:∃ W0,w.alloc (.cells #[.map (some b),.slice oa n cap,J Y e.id,J Y e.kind,J Y e.sender,J Y e.user,J Y e.member,xl,.string ⟨e.text.toArray⟩,xp,J Y e.depth] 185)=W0:=⟨_,rfl⟩
 obtain⟨hb0,hR0⟩:=z1e hW0
 have hsr:-1000000≤e.sender∧e.sender≤1000000:=by simp[inR] at hse;omega
 have Ak:=ZZ (hS.on hb0)
 have r0:W0.cell? ⟨w.heap.size,0,none⟩=some (.map (some b)):=zb hR0 0 rfl
 have r1:W0.cell? ⟨w.heap.size,1,none⟩=some (.slice oa n cap):=zb hR0 1 rfl
 have r2:W0.cell? ⟨w.heap.size,2,none⟩=some (J Y e.id):=zb hR0 2 rfl
 have r3:W0.cell? ⟨w.heap.size,3,none⟩=some (J Y e.kind):=zb hR0 3 rfl
 have r4:W0.cell? ⟨w.heap.size,4,none⟩=some (J Y e.sender):=zb hR0 4 rfl
 have r5:W0.cell? ⟨w.heap.size,5,none⟩=some (J Y e.user):=zb hR0 5 rfl
 have r6:W0.cell? ⟨w.heap.size,6,none⟩=some (J Y e.member):=zb hR0 6 rfl
 have r7:W0.cell? ⟨w.heap.size,7,none⟩=some xl:=zb hR0 7 rfl
 have r8:W0.cell? ⟨w.heap.size,8,none⟩=some (.string ⟨e.text.toArray⟩):=zb hR0 8 rfl
 have r9:W0.cell? ⟨w.heap.size,9,none⟩=some xp:=zb hR0 9 rfl
 have r10:W0.cell? ⟨w.heap.size,10,none⟩=some (J Y e.depth):=zb hR0 10 rfl
 have hlr:=ze hR0
 have HB0:=ZZ hb0
 have HW0:=ZZ hW0
 have HA:=ZZ (z8f b oa n cap es s e xl xp hse W0 Ak.o)
 clear hR0 hb0 hW0 hS
 go_enter Tryz.func180,Tryz.ntmps180
 go_upto_region 1 with fail
 rw[HW0.o]
 clear HW0
 go_wp2_with (go_at_call 213;(with_reducible refine HA.o.mono ?_);rintro r w1 ⟨rfl,hb1⟩)
 go_ret
 exact⟨rfl,zTr HB0.o hb1⟩

theorem zfb (b:Nat) (oa:Zoa) (n cap:Nat) (es:List EvV) (s:St) (e:EvV) (xl xp:Value) (hse:inR e.sender 1 5=true) (hus:-1000000≤e.user∧e.user≤1000000) (w:World) (hS:Scn w b oa n cap es s) :
  Calls Tryz.prog 210 #[trv b oa n cap e xl xp] w fun r w'=>r=.returned (.bool ((z09 es s e.sender==2)&&(z09 es s e.user==0)))∧Bw w w':=by
 obtain⟨W0,hW0⟩:∃ W0,w.alloc (.cells #[.map (some b),.slice oa n cap,J Y e.id,J Y e.kind,J Y e.sender,J Y e.user,J Y e.member,xl,.string ⟨e.text.toArray⟩,xp,J Y e.depth] 185)=W0:=⟨_,rfl⟩
 obtain⟨hb0,hR0⟩:=z1e hW0
 have hsr:-1000000≤e.sender∧e.sender≤1000000:=by simp[inR] at hse;omega
 have Ak:=ZZ (hS.on hb0)
 have r0:W0.cell? ⟨w.heap.size,0,none⟩=some (.map (some b)):=zb hR0 0 rfl
 have r1:W0.cell? ⟨w.heap.size,1,none⟩=some (.slice oa n cap):=zb hR0 1 rfl
 have r2:W0.cell? ⟨w.heap.size,2,none⟩=some (J Y e.id):=zb hR0 2 rfl
 have r3:W0.cell? ⟨w.heap.size,3,none⟩=some (J Y e.kind):=zb hR0 3 rfl
 have r4:W0.cell? ⟨w.heap.size,4,none⟩=some (J Y e.sender):=zb hR0 4 rfl
 have r5:W0.cell? ⟨w.heap.size,5,none⟩=some (J Y e.user):=zb hR0 5 rfl
 have r6:W0.cell? ⟨w.heap.size,6,none⟩=some (J Y e.member):=zb hR0 6 rfl
 have r7:W0.cell? ⟨w.heap.size,7,none⟩=some xl:=zb hR0 7 rfl
 have r8:W0.cell? ⟨w.heap.size,8,none⟩=some (.string ⟨e.text.toArray⟩):=zb hR0 8 rfl
 have r9:W0.cell? ⟨w.heap.size,9,none⟩=some xp:=zb hR0 9 rfl
 have r10:W0.cell? ⟨w.heap.size,10,none⟩=some (J Y e.depth):=zb hR0 10 rfl
 have hlr:=ze hR0
 have HB0:=ZZ hb0
 have HW0:=ZZ hW0
 have HA:=ZZ (z7b b oa n cap es s e.sender hsr W0 Ak.o)
 have HL:=ZZ (fun W (h:Bw W0 W)=>z5o b oa n cap es s e.user hus W (Ak.o.on h))
 generalize (z09 es s e.sender==2)=jo at HA ⊢
 generalize z09 es s e.user=lv at HL ⊢
 clear hR0 hb0 hW0 hS
 go_enter Tryz.func210,Tryz.ntmps210
 go_upto_region 1 with fail
 rw[HW0.o]
 clear HW0
 cases jo
 ·go_wp2_with (go_at_call 215;(with_reducible refine HA.o.mono ?_);rintro r w1 ⟨rfl,hb1⟩)
  go_ret
  exact⟨rfl,zTr HB0.o hb1⟩
 ·go_wp2_with (first
   | (go_at_call 215;(with_reducible refine HA.o.mono ?_);rintro r w1 ⟨rfl,hb1⟩;have s0:=(hb1.cell hlr).trans r0;have s1:=(hb1.cell hlr).trans r1;have s4:=(hb1.cell hlr).trans r4;have s5:=(hb1.cell hlr).trans r5;have Be:=ZZ (HL.o w1 hb1))
   | (go_at_call 237;(with_reducible refine Be.o.mono ?_);rintro r w2 ⟨rfl,hb2⟩))
  go_ret
  exact⟨by first|rfl|simp,HB0.o.trans ((zTr hb1 hb2).mono HB0.o.size)⟩

theorem zdh (b:Nat) (oa:Zoa) (n cap:Nat) (es:List EvV) (s:St) (e:EvV) (xl xp:Value) (hse:inR e.sender 1 5=true) (hus:-1000000≤e.user∧e.user≤1000000) (w:World) (hS:Scn w b oa n cap es s) :
  Calls Tryz.prog 238 #[trv b oa n cap e xl xp] w fun r w'=>r=.returned (.bool (((z09 es s e.sender==2)&&decide (50≤z06 es s e.sender))&&decide (z06 es s e.user<z06 es s e.sender)))∧Bw w w':=by
 obtain⟨W0,hW0⟩:∃ W0,w.alloc (.cells #[.map (some b),.slice oa n cap,J Y e.id,J Y e.kind,J Y e.sender,J Y e.user,J Y e.member,xl,.string ⟨e.text.toArray⟩,xp,J Y e.depth] 185)=W0:=⟨_,rfl⟩
 obtain⟨hb0,hR0⟩:=z1e hW0
 have hsr:-1000000≤e.sender∧e.sender≤1000000:=by simp[inR] at hse;omega
 have Ak:=ZZ (hS.on hb0)
 have r0:W0.cell? ⟨w.heap.size,0,none⟩=some (.map (some b)):=zb hR0 0 rfl
 have r1:W0.cell? ⟨w.heap.size,1,none⟩=some (.slice oa n cap):=zb hR0 1 rfl
 have r2:W0.cell? ⟨w.heap.size,2,none⟩=some (J Y e.id):=zb hR0 2 rfl
 have r3:W0.cell? ⟨w.heap.size,3,none⟩=some (J Y e.kind):=zb hR0 3 rfl
 have r4:W0.cell? ⟨w.heap.size,4,none⟩=some (J Y e.sender):=zb hR0 4 rfl
 have r5:W0.cell? ⟨w.heap.size,5,none⟩=some (J Y e.user):=zb hR0 5 rfl
 have r6:W0.cell? ⟨w.heap.size,6,none⟩=some (J Y e.member):=zb hR0 6 rfl
 have r7:W0.cell? ⟨w.heap.size,7,none⟩=some xl:=zb hR0 7 rfl
 have r8:W0.cell? ⟨w.heap.size,8,none⟩=some (.string ⟨e.text.toArray⟩):=zb hR0 8 rfl
 have r9:W0.cell? ⟨w.heap.size,9,none⟩=some xp:=zb hR0 9 rfl
 have r10:W0.cell? ⟨w.heap.size,10,none⟩=some (J Y e.depth):=zb hR0 10 rfl
 have hlr:=ze hR0
 have HB0:=ZZ hb0
 have HW0:=ZZ hW0
 have HA:=ZZ (fun W (h:Bw W0 W)=>z8f b oa n cap es s e xl xp hse W (Ak.o.on h))
 have HL:=ZZ (fun W (h:Bw W0 W)=>z4c b oa n cap es s e.sender W (Ak.o.on h))
 have HU:=ZZ (fun W (h:Bw W0 W)=>z4c b oa n cap es s e.user W (Ak.o.on h))
 generalize ((z09 es s e.sender==2)&&decide (50≤z06 es s e.sender))=ru at HA ⊢
 generalize z06 es s e.sender=lv at HL ⊢
 generalize z06 es s e.user=lu at HU ⊢
 clear hR0 hb0 hW0 hS
 go_enter Tryz.func238,Tryz.ntmps238
 go_upto_region 1 with fail
 rw[HW0.o]
 clear HW0
 cases ru
 all_goals
  refine zn (F:=Bw W0) (by kernel_rfl) (by kernel_rfl) zBr.drew ?_
  have hne:Nonempty (InW (Bw W0)):=⟨⟨_,zBr⟩⟩
  have k0:=ciW r0
  have k1:=ciW r1
  have k2:=ciW r2
  have k3:=ciW r3
  have k4:=ciW r4
  have k5:=ciW r5
  have k6:=ciW r6
  have k7:=ciW r7
  have k8:=ciW r8
  have k9:=ciW r9
  have k10:=ciW r10
  repeat (go_big_quiet_step (first
   | (go_at_call 213;(with_reducible refine (HA.o _ (InW.h (F:=Bw W0) _)).mono ?_);rintro e' w4 ⟨rfl,hb4⟩;exact⟨rfl,iwW hb4,rfl⟩)
   | (go_at_call 214;(with_reducible refine (HL.o _ (InW.h (F:=Bw W0) _)).mono ?_);rintro e' w4 ⟨rfl,hb4⟩;exact⟨rfl,iwW hb4,rfl⟩)
   | (go_at_call 214;(with_reducible refine (HU.o _ (InW.h (F:=Bw W0) _)).mono ?_);rintro e' w4 ⟨rfl,hb4⟩;exact⟨rfl,iwW hb4,rfl⟩)))
  refine wpQuiet_nil ?_
  intro _ hw'
  obtain⟨nq,hw''⟩:=hw'
  subst hw''
  have hnq:=nq.h
  generalize nq.w=w5 at hnq ⊢
  clear hne k0 k1 k2 k3 k4 k5 k6 k7 k8 k9 k10
  go_wp2_with fail
  go_ret
  exact⟨by first|rfl|simp,zTr HB0.o hnq⟩

theorem zfc (b:Nat) (oa:Zoa) (n cap:Nat) (es:List EvV) (s:St) (e:EvV) (xl xp:Value) (hse:inR e.sender 1 5=true) (hus:-1000000≤e.user∧e.user≤1000000) (w:World) (hS:Scn w b oa n cap es s) :
  Calls Tryz.prog 211 #[trv b oa n cap e xl xp] w fun r w'=>r=.returned (.bool ((((z09 es s e.sender==2)&&decide (50≤z06 es s e.sender))&&decide (z06 es s e.user<z06 es s e.sender))&&((z09 es s e.user==1)||(z09 es s e.user==2))))∧Bw w w':=by
 obtain⟨W0,hW0⟩:∃ W0,w.alloc (.cells #[.map (some b),.slice oa n cap,J Y e.id,J Y e.kind,J Y e.sender,J Y e.user,J Y e.member,xl,.string ⟨e.text.toArray⟩,xp,J Y e.depth] 185)=W0:=⟨_,rfl⟩
 obtain⟨hb0,hR0⟩:=z1e hW0
 have hsr:-1000000≤e.sender∧e.sender≤1000000:=by simp[inR] at hse;omega
 have Ak:=ZZ (hS.on hb0)
 have r0:W0.cell? ⟨w.heap.size,0,none⟩=some (.map (some b)):=zb hR0 0 rfl
 have r1:W0.cell? ⟨w.heap.size,1,none⟩=some (.slice oa n cap):=zb hR0 1 rfl
 have r2:W0.cell? ⟨w.heap.size,2,none⟩=some (J Y e.id):=zb hR0 2 rfl
 have r3:W0.cell? ⟨w.heap.size,3,none⟩=some (J Y e.kind):=zb hR0 3 rfl
 have r4:W0.cell? ⟨w.heap.size,4,none⟩=some (J Y e.sender):=zb hR0 4 rfl
 have r5:W0.cell? ⟨w.heap.size,5,none⟩=some (J Y e.user):=zb hR0 5 rfl
 have r6:W0.cell? ⟨w.heap.size,6,none⟩=some (J Y e.member):=zb hR0 6 rfl
 have r7:W0.cell? ⟨w.heap.size,7,none⟩=some xl:=zb hR0 7 rfl
 have r8:W0.cell? ⟨w.heap.size,8,none⟩=some (.string ⟨e.text.toArray⟩):=zb hR0 8 rfl
 have r9:W0.cell? ⟨w.heap.size,9,none⟩=some xp:=zb hR0 9 rfl
 have r10:W0.cell? ⟨w.heap.size,10,none⟩=some (J Y e.depth):=zb hR0 10 rfl
 have hlr:=ze hR0
 have HB0:=ZZ hb0
 have HW0:=ZZ hW0
 have HA:=ZZ (zdh b oa n cap es s e xl xp hse hus W0 Ak.o)
 have HL:=ZZ (fun W (h:Bw W0 W)=>z6d b oa n cap es s e.user hus W (Ak.o.on h))
 generalize (((z09 es s e.sender==2)&&decide (50≤z06 es s e.sender))&&decide (z06 es s e.user<z06 es s e.sender))=ou at HA ⊢
 clear hR0 hb0 hW0 hS
 go_enter Tryz.func211,Tryz.ntmps211
 go_upto_region 1 with fail
 rw[HW0.o]
 clear HW0
 cases ou
 ·go_wp2_with (go_at_call 238;(with_reducible refine HA.o.mono ?_);rintro r w1 ⟨rfl,hb1⟩)
  go_ret
  exact⟨rfl,zTr HB0.o hb1⟩
 ·go_wp2_with (first
   | (go_at_call 238;(with_reducible refine HA.o.mono ?_);rintro r w1 ⟨rfl,hb1⟩;have s0:=(hb1.cell hlr).trans r0;have s1:=(hb1.cell hlr).trans r1;have s4:=(hb1.cell hlr).trans r4;have s5:=(hb1.cell hlr).trans r5;have Be:=ZZ (HL.o w1 hb1))
   | (go_at_call 236;(with_reducible refine Be.o.mono ?_);rintro r w2 ⟨rfl,hb2⟩))
  go_ret
  exact⟨by first|rfl|simp,HB0.o.trans ((zTr hb1 hb2).mono HB0.o.size)⟩

theorem zkq (b:Nat) (oa:Zoa) (n cap:Nat) (es:List EvV) (s:St) (e:EvV) (xl xp:Value) (hse:inR e.sender 1 5=true) (hus:-1000000≤e.user∧e.user≤1000000) (w:World) (hS:Scn w b oa n cap es s) :
  Calls Tryz.prog 212 #[trv b oa n cap e xl xp] w fun r w'=>r=.returned (.bool ((((z09 es s e.sender==2)&&decide (50≤z06 es s e.sender))&&decide (z06 es s e.user<z06 es s e.sender))&&(z09 es s e.user != 3)))∧Bw w w':=by
 obtain⟨W0,hW0⟩:∃ W0,w.alloc (.cells #[.map (some b),.slice oa n cap,J Y e.id,J Y e.kind,J Y e.sender,J Y e.user,J Y e.member,xl,.string ⟨e.text.toArray⟩,xp,J Y e.depth] 185)=W0:=⟨_,rfl⟩
 obtain⟨hb0,hR0⟩:=z1e hW0
 have hsr:-1000000≤e.sender∧e.sender≤1000000:=by simp[inR] at hse;omega
 have Ak:=ZZ (hS.on hb0)
 have r0:W0.cell? ⟨w.heap.size,0,none⟩=some (.map (some b)):=zb hR0 0 rfl
 have r1:W0.cell? ⟨w.heap.size,1,none⟩=some (.slice oa n cap):=zb hR0 1 rfl
 have r2:W0.cell? ⟨w.heap.size,2,none⟩=some (J Y e.id):=zb hR0 2 rfl
 have r3:W0.cell? ⟨w.heap.size,3,none⟩=some (J Y e.kind):=zb hR0 3 rfl
 have r4:W0.cell? ⟨w.heap.size,4,none⟩=some (J Y e.sender):=zb hR0 4 rfl
 have r5:W0.cell? ⟨w.heap.size,5,none⟩=some (J Y e.user):=zb hR0 5 rfl
 have r6:W0.cell? ⟨w.heap.size,6,none⟩=some (J Y e.member):=zb hR0 6 rfl
 have r7:W0.cell? ⟨w.heap.size,7,none⟩=some xl:=zb hR0 7 rfl
 have r8:W0.cell? ⟨w.heap.size,8,none⟩=some (.string ⟨e.text.toArray⟩):=zb hR0 8 rfl
 have r9:W0.cell? ⟨w.heap.size,9,none⟩=some xp:=zb hR0 9 rfl
 have r10:W0.cell? ⟨w.heap.size,10,none⟩=some (J Y e.depth):=zb hR0 10 rfl
 have hlr:=ze hR0
 have HB0:=ZZ hb0
 have HW0:=ZZ hW0
 have HA:=ZZ (zdh b oa n cap es s e xl xp hse hus W0 Ak.o)
 have HL:=ZZ (fun W (h:Bw W0 W)=>z5o b oa n cap es s e.user hus W (Ak.o.on h))
 generalize (((z09 es s e.sender==2)&&decide (50≤z06 es s e.sender))&&decide (z06 es s e.user<z06 es s e.sender))=ou at HA ⊢
 clear hR0 hb0 hW0 hS
 go_enter Tryz.func212,Tryz.ntmps212
 go_upto_region 1 with fail
 rw[HW0.o]
 clear HW0
 cases ou
 ·go_wp2_with (go_at_call 238;(with_reducible refine HA.o.mono ?_);rintro r w1 ⟨rfl,hb1⟩)
  go_ret
  exact⟨rfl,zTr HB0.o hb1⟩
 ·go_wp2_with (first
   | (go_at_call 238;(with_reducible refine HA.o.mono ?_);rintro r w1 ⟨rfl,hb1⟩;have s0:=(hb1.cell hlr).trans r0;have s1:=(hb1.cell hlr).trans r1;have s4:=(hb1.cell hlr).trans r4;have s5:=(hb1.cell hlr).trans r5;have Be:=ZZ (HL.o w1 hb1))
   | (go_at_call 237;(with_reducible refine Be.o.mono ?_);rintro r w2 ⟨rfl,hb2⟩))
  go_ret
  exact⟨by first|rfl|simp,HB0.o.trans ((zTr hb1 hb2).mono HB0.o.size)⟩

end Go.Proofs.YtfeebdcmlnapiaaGreat
