/-
  Walks.
-/
import Derived.Test.YtfeebdcmlnapiaaGreatTWalk11u
import Derived.Test.YtfeebdcmlnapiaaGreatTWalk11r
set_option linter.unusedVariables false
set_option linter.unusedSimpArgs false
namespace Go.Proofs.YtfeebdcmlnapiaaGreat
open Go.RowKit P1 P5 P9 P11 P12 P14 P15 P16 P17 K
def wtI (es:List EvV) (s:St) (z:Int):Wt:=wtOf es s (evOf es z)

theorem zn7 {es:List EvV} {s:St} {z:Int} (h:known es z):(wtI es s z).i=z:=z8k h

structure Left (es:List EvV) (s:St) (left:Zin) (near:Int→Zin):Prop where
 sane:Sane es s
 nd:left.Nodup
 kn:∀ x∈left,known es x
 nr:∀ b∈left,z6v es left b (near b)

structure Kahn (es:List EvV) (s:St) (left:Zin) (R:Zin) (out:Zin) (h:List Wt) (f:Nat):Prop where
 ok:OutOk es left out
 perm:h.Perm ((z0u es left out).map (wtI es s))
 run:z0r es s left f out=R
 enough:left.length≤f+out.length

section
variable {es:List EvV} {s:St} {left R out:Zin} {near:Int→Zin} {h:List Wt} {f:Nat}

theorem Kahn.start (hl:Left es s left near) {h:List Wt} (hp:h.Perm ((z0u es left []).map (wtI es s))):Kahn es s left (z0r es s left (left.length+1) []) [] h (left.length+1) :=
 ⟨OutOk.nil _ _,hp,rfl,by simp⟩

theorem Kahn.done (k:Kahn es s left R out [] f):R=out:=by
 have h1:=k.perm
 have h2:(z0u es left out).map (wtI es s)=[]:=h1.nil_eq.symm
 rw[← k.run]
 exact zim f (List.map_eq_nil_iff.1 h2)

theorem Kahn.len (k:Kahn es s left R out h f):h.length+out.length≤left.length:=by
 have h1:=k.perm.length_eq
 rw[List.length_map] at h1
 have h2:=z2v (l:=out) (m:=left) k.ok.nd k.ok.sub
 have h3:(z0u es left out).length+out.length≤left.length:=by
  have hs:∀ (l:Zin),(∀ x∈out,x∈l)→out.Nodup→(l.filter (fun z=>!(out.contains z||!ready (behind es z) left out))).length+out.length≤l.length:=by
   intro l hsub hnd
   have e1:(l.filter (fun z=>!(out.contains z||!ready (behind es z) left out))).length≤(l.filter (fun z=>!out.contains z)).length:=by
    have:l.filter (fun z=>!(out.contains z||!ready (behind es z) left out))=(l.filter (fun z=>!out.contains z)).filter (fun z=>ready (behind es z) left out):=by
     rw[List.filter_filter]
     congr 1
     funext z
     cases out.contains z<;>cases ready (behind es z) left out<;>rfl
    rw[this]
    exact List.length_filter_le _ _
   have e2:(l.filter (fun z=>out.contains z)).length+(l.filter (fun z=>!out.contains z)).length=l.length:=by
    have:=List.length_eq_countP_add_countP (fun z=>out.contains z) (l:=l)
    rw[List.countP_eq_length_filter,List.countP_eq_length_filter] at this
    rw[this]
    congr 2
    congr 1
    funext z
    cases out.contains z<;>simp
   have e3:out.length≤(l.filter (fun z=>out.contains z)).length:=z2v hnd (fun z hz=>List.mem_filter.2 ⟨hsub z hz,List.contains_iff_mem.2 hz⟩)
   omega
  exact hs left k.ok.sub k.ok.nd
 omega

theorem Kahn.pop (hl:Left es s left near) (k:Kahn es s left R out h f) {t:Wt} {h':List Wt} (hp:(t::h').Perm h) (hm:∀ y∈h',hvW y t=false) :
  t.i∈left∧t.i ∉ out∧(∀ h2:List Wt,h2.Perm (h'++(z5n near left out t.i).map (wtI es s))→Kahn es s left R (out++[t.i]) h2 (f - 1)):=by
 have ht:t∈(z0u es left out).map (wtI es s):=k.perm.mem_iff.1 (hp.mem_iff.1 List.mem_cons_self)
 obtain⟨z,hz,rfl⟩:=List.mem_map.1 ht
 obtain⟨z1,z2,z3⟩:=freeL_mem.1 hz
 have hzi:(wtI es s z).i=z:=zn7 (hl.kn z z1)
 rw[hzi]
 have hfn:(z0u es left out).Nodup:=hl.nd.filter _
 have hperm:(wtI es s z::h').Perm ((z0u es left out).map (wtI es s)):=hp.trans k.perm
 have hbest:∀ y∈z0u es left out,y=z∨z0k es s (evOf es z) (evOf es y)=true:=fun y hy=>by
  by_cases e:y=z
  ·exact .inl e
  ·refine .inr ?_
   have hy1:=(freeL_mem.1 hy).1
   have hyi:(wtI es s y).i=y:=zn7 (hl.kn y hy1)
   have hin:wtI es s y∈wtI es s z::h':=hperm.mem_iff.2 (List.mem_map.2 ⟨y,hy,rfl⟩)
   rcases List.mem_cons.1 hin with q|q
   ·exact absurd (by rw[← hyi,q,hzi]:y=z) e
   ·have hv:=hm _ q
    have hv2:z0k es s (evOf es y) (evOf es z)=false:=by rw[zoj hl.sane];exact hv
    exact zdv (by rw[z8k (hl.kn y hy1),z8k (hl.kn z z1)];exact e) hv2
 have hlen:out.length<left.length:=by
  have:=z2v (l:=z::out) (m:=left) (List.nodup_cons.2 ⟨z2,k.ok.nd⟩) (fun x hx=>by
   rcases List.mem_cons.1 hx with q|q
   ·rw[q];exact z1
   ·exact k.ok.sub x q)
  simp only[List.length_cons] at this
  omega
 obtain⟨f',rfl⟩:∃ f',f=f'+1:=⟨f - 1,by have:=k.enough;omega⟩
 refine⟨z1,z2,fun h2 hh2=>⟨k.ok.next hz,?_,?_,?_⟩⟩
 ·have he:((z0u es left out).map (wtI es s)).Perm (wtI es s z::((z0u es left out).erase z).map (wtI es s)):=by
   have:=(List.perm_cons_erase hz).map (wtI es s)
   simpa using this
  have hh:h'.Perm (((z0u es left out).erase z).map (wtI es s)):=(hperm.trans he).cons_inv
  have hn:=(zk8 hl.nd hl.nr k.ok hz).map (wtI es s)
  rw[List.map_append] at hn
  exact hh2.trans ((hh.append_right _).trans hn.symm)
 ·rw[← k.run,P16.ordGo_step f' hl.kn k.ok hz hbest]
  rfl
 ·rw[List.length_append]
  have:=k.enough
  simp
  omega
end

def behL (near:Int→Zin) (left:Zin) (t:Int):Zin:=left.filter (fun b=>(near b).contains t)

theorem behL_mem {near:Int→Zin} {left:Zin} {t b:Int}:b∈behL near left t↔b∈left∧t∈near b:=by
 unfold behL
 rw[List.mem_filter,List.contains_iff_mem]

theorem zaz {es:List EvV} {s:St} {left out:Zin} {near:Int→Zin} {t b:Int} (hl:Left es s left near) (ht:t ∉ out) (hb:b∈behL near left t):z1l near (out++[t]) b+1=z1l near out b:=by
 obtain⟨h1,h2⟩:=behL_mem.1 hb
 have:=zbk (near:=near) (b:=b) (hl.nr b h1).nd ht
 rw[List.contains_iff_mem.2 h2,if_pos rfl] at this
 exact this

theorem zkz {es:List EvV} {s:St} {left out:Zin} {near:Int→Zin} {t:Int} (hl:Left es s left near) (ht:t ∉ out):(behL near left t).filter (fun z=>z1l near out z==1)=z5n near left out t:=by
 unfold z5n
 refine List.filter_congr (fun b hb=>?_)
 have h1:=zaz hl ht hb
 rw[Bool.eq_iff_iff,beq_iff_eq,List.all_eq_true]
 simp only[List.contains_iff_mem]
 rw[← zbj]
 omega

theorem zmo {es:List EvV} {s:St} {left out:Zin} {near:Int→Zin} {t z:Int} (hl:Left es s left near) (ht:t ∉ out) (hz:z∈left):z4f (z1l near out) (behL near left t) z=z1l near (out++[t]) z:=by
 have h:=zbk (near:=near) (b:=z) (hl.nr z hz).nd ht
 unfold z4f
 by_cases hm:z∈behL near left t
 ·have h1:=zaz hl ht hm
  rw[if_pos hm]
  omega
 ·have hn:(near z).contains t=false:=by
   rw[Bool.eq_false_iff]
   exact fun q=>hm (behL_mem.2 ⟨hz,List.contains_iff_mem.1 q⟩)
  rw[hn] at h
  rw[if_neg hm]
  simp only[Bool.false_eq_true,↓reduceIte] at h
  omega

theorem zj4 {es:List EvV} {s:St} {left:Zin} {near:Int→Zin} (hl:Left es s left near):left.filter (fun z=>z1l near [] z==0)=z0u es left []:=by
 unfold z0u
 refine List.filter_congr (fun z hz=>?_)
 rw[Bool.eq_iff_iff,beq_iff_eq,zbj,← z2w (OutOk.nil es left) (hl.nr z hz)]
 simp

structure QOne (es:List EvV) (s:St) (B bt:Nat) (wr:World) (T:Int→Option Value) (m:Nat) (D:DataW Value) (done:Zin):Prop where
 tab:VTab wr bt T m D
 has:∀ k,(T k).isSome=true↔k∈done∧known es k
 at_:∀ k v,T k=some v→∃ q,v=.pointer (some ⟨q,0,none⟩)∧B≤q∧wr.heap[q]? = some (.cells (z2g (wtI es s k) 0 (.slice none 0 0)) 245 (0,0))
 inj:∀ k k',T k=T k'→T k≠none→k=k'

section
variable {es:List EvV} {s:St} {B bt m:Nat} {wr w2 w8:World} {T:Int→Option Value} {D:DataW Value} {done:Zin}

theorem QOne.on (h:QOne es s B bt wr T m D done) (hb:Bw wr w2):QOne es s B bt w2 T m D done :=
 ⟨h.tab.below hb,h.has,fun k v hv=>by
  obtain⟨q,q1,q2,q3⟩:=h.at_ k v hv
  exact⟨q,q1,q2,(hb.block q (ze q3)).trans q3⟩,h.inj⟩

theorem QOne.skip (h:QOne es s B bt wr T m D done) {id:Int} (hk:¬ known es id):QOne es s B bt wr T m D (done++[id]) :=
 ⟨h.tab,fun k=>by
  rw[h.has,List.mem_append,List.mem_singleton]
  constructor
  ·exact fun q=>⟨.inl q.1,q.2⟩
  ·rintro ⟨q|q,q2⟩
   ·exact⟨q,q2⟩
   ·rw[q] at q2;exact absurd q2 hk,h.at_,h.inj⟩

theorem QOne.take (h:QOne es s B bt wr T m D done) {id:Int} (hw:(Lit.int .i64 id).wf=true) (hk:known es id) {b:Nat} (hb:Bw wr w8) (hB:B≤wr.heap.size) (hbb:wr.heap.size≤b) (hc:w8.heap[b]? = some (.cells (z2g (wtI es s id) 0 (.slice none 0 0)) 245 (0,0))) (ho:w2.ownsMap Tryz.prog 3 z1z bt (m+1) (D.put (.int .i64 id) (.held (.pointer (some ⟨b,0,none⟩))))) (ht:w8.mapTurned w2 bt):∃ m',m'≤m+1∧QOne es s B bt w2 (updV T id (some (.pointer (some ⟨b,0,none⟩)))) m' (D.put (.int .i64 id) (.held (.pointer (some ⟨b,0,none⟩)))) (done++[id]):=by
 have h8:=h.on hb
 have hg:=ht.grown
 have hst:=h8.tab.store hw ho
 have hne:∀ {q:Nat} {cs:Array Value},w8.heap[q]? = some (.cells cs 245 (0,0))→w2.heap[q]? = some (.cells cs 245 (0,0)):=fun {q cs} hq=>by
  refine (hg.block q (ze hq) (fun e=>?_)).trans hq
  obtain⟨es',clock,hbm,_⟩:=h8.tab.own
  cases e
  rw[hq] at hbm
  cases hbm
 refine⟨_,?_,hst,fun k=>?_,fun k v hv=>?_,fun k k' hkk hn=>?_⟩
 ·split<;>omega
 ·rw[List.mem_append,List.mem_singleton]
  by_cases e:k=id
  ·subst e
   rw[z14]
   exact⟨fun _=>⟨.inr rfl,hk⟩,fun _=>rfl⟩
  ·rw[z0j _ _ e,h.has]
   constructor
   ·exact fun q=>⟨.inl q.1,q.2⟩
   ·rintro ⟨q|q,q2⟩
    ·exact⟨q,q2⟩
    ·exact absurd q e
 ·by_cases e:k=id
  ·subst e
   rw[z14] at hv
   cases hv
   exact⟨b,rfl,zNt hB hbb,hne hc⟩
  ·rw[z0j _ _ e] at hv
   obtain⟨q,q1,q2,q3⟩:=h8.at_ k v hv
   exact⟨q,q1,q2,hne q3⟩
 ·have old:∀ x,x≠id→T x≠some (.pointer (some ⟨b,0,none⟩)):=fun x hx q=>by
   obtain⟨q0,q1,q2,q3⟩:=h.at_ x _ q
   cases q1
   have:=ze q3
   omega
  by_cases e:k=id
  ·by_cases e':k'=id
   ·rw[e,e']
   ·rw[e,z14,z0j _ _ e'] at hkk
    exact absurd hkk.symm (old k' e')
  ·by_cases e':k'=id
   ·rw[e',z14,z0j _ _ e] at hkk
    exact absurd hkk (old k e)
   ·rw[z0j _ _ e,z0j _ _ e'] at hkk
    rw[z0j _ _ e] at hn
    exact h.inj k k' hkk hn
end

def z3t (T:Int→Option Value) (k:Int):Nat:=match T k with
 | some (.pointer (some ⟨q,_,_⟩))=>q
 | _=>0

theorem QOne.turns {es:List EvV} {s:St} {B bt m:Nat} {wr:World} {T:Int→Option Value} {D:DataW Value} {done left:Zin} (h:QOne es s B bt wr T m D done) (hl:∀ k,(T k).isSome=true↔k∈left):TurnsOk wr T left (wtI es s) (fun _=>0) (z3t T) (fun _=>.slice none 0 0):=by
 have hq:∀ z∈left,∃ q,T z=some (.pointer (some ⟨q,0,none⟩))∧z3t T z=q∧wr.heap[q]? = some (.cells (z2g (wtI es s z) 0 (.slice none 0 0)) 245 (0,0)):=fun z hz=>by
  obtain⟨v,hv⟩:=Option.isSome_iff_exists.1 ((hl z).2 hz)
  obtain⟨q,rfl,_,q3⟩:=h.at_ z v hv
  exact⟨q,hv,by unfold z3t;rw[hv],q3⟩
 refine⟨fun z hz=>?_,fun z hz y hy e=>?_⟩
 ·obtain⟨q,h1,h2,h3⟩:=hq z hz
  rw[h2]
  exact⟨h1,h3⟩
 ·obtain⟨q,h1,h2,h3⟩:=hq z hz
  obtain⟨q',h1',h2',h3'⟩:=hq y hy
  rw[h2,h2'] at e
  subst e
  exact h.inj z y (by rw[h1,h1']) (by rw[h1];simp)

structure QTwo (w1 wr:World) (T:Int→Option Value) (left:Zin) (wt:Int→Wt) (wn:Int→Nat) (q:Int→Nat) (vb:Int→Value) (bl:Int→Zin) (vf:Value) (found:Zin):Prop where
 tu:TurnsOk wr T left wt wn q vb
 rows:∀ z∈left,wr.ownsRow w1.heap.size 3 1 (vb z) (bl z).length ((bl z).map z03)
 ap:∀ z∈left,∀ y∈left,z≠y→Aside2 (vb z) (vb y)
 fr:TuFr w1.heap.size left q w1 wr
 ql:∀ z∈left,q z<w1.heap.size
 frow:wr.ownsRow w1.heap.size 3 1 vf found.length (found.map z03)
 fap:∀ z∈left,Aside2 (vb z) vf

section
variable {w1 wr w2 w8:World} {T:Int→Option Value} {left:Zin} {wt:Int→Wt} {wn wn':Int→Nat} {q:Int→Nat} {vb:Int→Value} {bl bl':Int→Zin} {vf vf':Value} {found found':Zin}

theorem QTwo.start (h:TurnsOk w1 T left wt (fun _=>0) q (fun _=>.slice none 0 0)):QTwo w1 w1 T left wt (fun _=>0) q (fun _=>.slice none 0 0) (fun _=>[]) (.slice none 0 0) [] :=
 ⟨h,fun z hz=>World.ownsRow_nil _ _ _ _,(fun z hz y hy _ k hk=>by cases hk),TuFr.refl _ _ _ _,fun z hz=>ze (h.at_ z hz).2,World.ownsRow_nil _ _ _ _,(fun z hz k hk=>by cases hk)⟩

theorem QTwo.congr (h:QTwo w1 wr T left wt wn q vb bl vf found) (h1:∀ z∈left,wn z=wn' z) (h2:∀ z∈left,bl z=bl' z):QTwo w1 wr T left wt wn' q vb bl' vf found :=
 ⟨⟨fun z hz=>by rw[← h1 z hz];exact h.tu.at_ z hz,h.tu.inj⟩,fun z hz=>by rw[← h2 z hz];exact h.rows z hz,h.ap,h.fr,h.ql,h.frow,h.fap⟩

theorem QTwo.drop (h:QTwo w1 wr T left wt wn q vb bl vf found):QTwo w1 wr T left wt wn q vb bl (.slice none 0 0) [] :=
 ⟨h.tu,h.rows,h.ap,h.fr,h.ql,World.ownsRow_nil _ _ _ _,fun z hz k hk e=>by cases e⟩

theorem QTwo.more (h:QTwo w1 wr T left wt wn q vb bl vf found) (hb:Bw wr w2) (ho:w2.ownsRow wr.heap.size 3 1 vf' found'.length (found'.map z03)):QTwo w1 w2 T left wt wn q vb bl vf' found':=by
 have hs:=h.fr.size
 refine⟨h.tu.on hb,fun z hz=>own_below (h.rows z hz) hb,h.ap,h.fr.trans (TuFr.on (hb.mono hs)),h.ql,zu ho hs,fun z hz=>z7p (h.rows z hz) ho zLe⟩

theorem QTwo.wait (h:QTwo w1 wr T left wt wn q vb bl vf found) {z:Int} (hz:z∈left):QTwo w1 (wr.setCell ⟨q z,4,none⟩ (.int .i64 ((wn z+1:Nat):Int))) T left wt (fun x=>if x=z then wn z+1 else wn x) q vb bl vf found:=by
 obtain⟨h1,h2⟩:=zfg (m:=((wn z+1:Nat):Int)) (h.tu.at_ z hz).2
 have hs:=h.fr.size
 have hqz:=h.ql z hz
 refine⟨⟨fun y hy=>⟨(h.tu.at_ y hy).1,?_⟩,h.tu.inj⟩,fun y hy=>(h.rows y hy).kept h2 (.inr (fun e=>by have:=((h.rows y hy).lt _ e).1;omega)),h.ap,h.fr.trans (TuFr.one hz hs h2),h.ql,h.frow.kept h2 (.inr (fun e=>by have:=(h.frow.lt _ e).1;omega)),h.fap⟩
 by_cases e:y=z
 ·subst e
  rw[if_pos rfl]
  exact h1
 ·rw[if_neg e]
  have hy2:=(h.tu.at_ y hy).2
  exact (h2.block (q y) (ze hy2) (fun e2=>e (h.tu.inj y hy z hz (zSi e2)))).trans hy2

theorem zmp {w:World} {b:Nat} {x:Wt} {n:Int} {vb v:Value} (h:w.heap[b]? = some (.cells (z2g x n vb) 245 (0,0))):(w.setCell ⟨b,5,none⟩ v).heap[b]? = some (.cells (z2g x n v) 245 (0,0))∧w.grownBy (w.setCell ⟨b,5,none⟩ v) (some b):=by
 obtain⟨h1,h2⟩:=zx [v] w _ 5 h
 exact⟨h1,h2⟩

theorem QTwo.beh (h:QTwo w1 wr T left wt wn q vb bl vf found) {a id:Int} (ha:a∈left) {v:Value} (hg:wr.grownBy w8 (vb a).ownBlock) (ho:w8.ownsRow w1.heap.size 3 1 v ((bl a).length+1) ((bl a).map z03++[.int .i64 id])) (hl:v.ownBlock=(vb a).ownBlock∨∃ g,v.ownBlock=some g∧wr.heap.size≤g):QTwo w1 (w8.setCell ⟨q a,5,none⟩ v) T left wt wn q (fun x=>if x=a then v else vb x) (fun x=>if x=a then bl a++[id] else bl x) vf found:=by
 have hs:=h.fr.size
 have hqa:=h.ql a ha
 have hfar:∀ z∈left,some (q z)≠(vb a).ownBlock:=fun z hz e=>by
  have:=((h.rows a ha).lt _ e.symm).1
  have:=h.ql z hz
  omega
 have tu8:∀ z∈left,w8.heap[q z]? = some (.cells (z2g (wt z) (wn z) (vb z)) 245 (0,0)):=fun z hz=>(hg.block (q z) (ze (h.tu.at_ z hz).2) (hfar z hz)).trans (h.tu.at_ z hz).2
 obtain⟨h1,h2⟩:=zmp (v:=v) (tu8 a ha)
 have keepO:∀ {u:Value} {n:Nat} {xs:Zvs},wr.ownsRow w1.heap.size 3 1 u n xs→Aside2 u (vb a)→(w8.setCell ⟨q a,5,none⟩ v).ownsRow w1.heap.size 3 1 u n xs∧Aside2 u v:=fun {u n xs} hu hap=>by
  have k1:w8.ownsRow w1.heap.size 3 1 u n xs:=hu.kept hg (by
   cases hv:u.ownBlock with
   | none=>exact .inl rfl
   | some g=>exact .inr (fun e=>hap g hv e.symm))
  refine⟨k1.kept h2 (.inr (fun e=>by have:=(k1.lt _ e).1;omega)),fun k hk hkv=>?_⟩
  rcases hl with hl|⟨g,hl,hge⟩
  ·rw[hl] at hkv;exact hap k hk hkv
  ·rw[hl] at hkv
   have:=(hu.lt k hk).2
   have:=zSi hkv
   omega
 have hb8:Below w1.heap.size wr w8:=zBr.grown hg hs (fun k hk=>((h.rows a ha).lt k hk).1)
 have hs8:=zNt hs hg.size
 refine⟨⟨fun z hz=>⟨(h.tu.at_ z hz).1,?_⟩,h.tu.inj⟩,fun z hz=>?_,fun z hz y hy hne=>?_,(h.fr.trans (TuFr.on hb8)).trans (TuFr.one ha hs8 h2),h.ql,(keepO h.frow (h.fap a ha).symm).1,fun z hz=>?_⟩
 ·by_cases e:z=a
  ·subst e
   rw[if_pos rfl]
   exact h1
  ·rw[if_neg e]
   exact (h2.block (q z) (ze (tu8 z hz)) (fun e2=>e (h.tu.inj z hz a ha (zSi e2)))).trans (tu8 z hz)
 ·by_cases e:z=a
  ·subst e
   simp only[↓reduceIte]
   rw[z0p,z6s]
   exact ho.kept h2 (.inr (fun e=>by have:=(ho.lt _ e).1;omega))
  ·simp only[e,↓reduceIte]
   exact (keepO (h.rows z hz) (h.ap z hz a ha e)).1
 ·by_cases e:z=a
  ·subst e
   simp only[↓reduceIte,Ne.symm hne]
   exact (keepO (h.rows y hy) (h.ap y hy z hz (Ne.symm hne))).2.symm
  ·by_cases e':y=a
   ·subst e'
    simp only[e,↓reduceIte]
    exact (keepO (h.rows z hz) (h.ap z hz y hy e)).2
   ·simp only[e,e',↓reduceIte]
    exact h.ap z hz y hy hne
 ·by_cases e:z=a
  ·subst e
   simp only[↓reduceIte]
   exact (keepO h.frow (h.fap z hz).symm).2.symm
  ·simp only[e,↓reduceIte]
   exact h.fap z hz
end

def wnF (left:Zin) (near:Int→Zin) (i:Nat) (x:Int):Nat:=if x∈left.take i then (near x).length else 0

def blF (left:Zin) (near:Int→Zin) (i:Nat) (x:Int):Zin:=(left.take i).filter (fun b=>(near b).contains x)

def updN (near:Int→Zin) (id:Int) (l:Zin):Int→Zin:=fun x=>if x=id then l else near x

section
variable {left:Zin} {near:Int→Zin} {i j:Nat} {id x:Int} {found:Zin}

theorem z97 (hn:left.Nodup) (h:left[i]? = some id):id ∉ left.take i:=fun hm=>by
 obtain⟨h3,h4⟩:=zGi.1 h
 have h:=List.take_append_drop i left
 rw[List.drop_eq_getElem_cons h3,h4] at h
 rw[← h,List.nodup_append] at hn
 exact hn.2.2 id hm id List.mem_cons_self rfl

theorem z5p (h:left[i]? = some id):left.take (i+1)=left.take i++[id]:=by
 rw[List.take_add_one,h];rfl

theorem zmq (hn:left.Nodup) (h:left[i]? = some id):wnF left (updN near id found) (i+1) x=if x=id then found.length else wnF left near i x:=by
 unfold wnF updN
 rw[z5p h]
 by_cases e:x=id
 ·subst e;simp
 ·simp[e]

theorem zmr (hn:left.Nodup) (h:left[i]? = some id):blF left (updN near id found) (i+1) x=blF left near i x++(if x∈found then [id] else []):=by
 have hni:=z97 hn h
 unfold blF
 rw[z5p h,List.filter_append]
 congr 1
 ·refine List.filter_congr (fun b hb=>?_)
  have hbi:¬ b=id:=fun e=>hni (by rw[← e];exact hb)
  simp only[updN,hbi,↓reduceIte]
 ·by_cases hx:x∈found
  ·rw[if_pos hx,List.filter_cons]
   simp[updN,hx]
  ·rw[if_neg hx,List.filter_cons]
   simp[updN,hx]

theorem znt:(blF left near i x).length≤left.length:=by
 unfold blF
 refine zNt (List.length_filter_le _ _) ?_
 rw[List.length_take]
 omega

def wnG (left:Zin) (near:Int→Zin) (i:Nat) (id:Int) (j:Nat) (x:Int):Nat:=if x=id then j else wnF left near i x

def blG (left:Zin) (near:Int→Zin) (i:Nat) (id:Int) (found:Zin) (j:Nat) (x:Int):Zin:=blF left near i x++(if x∈found.take j then [id] else [])

theorem zms {a:Int} (hf:found.Nodup) (h:found[j]? = some a):(fun x=>if x=a then blG left near i id found j a++[id] else blG left near i id found j x)=blG left near i id found (j+1):=by
 funext x
 unfold blG
 have hna:=z97 hf h
 rw[z5p h]
 by_cases e:x=a
 ·subst e
  rw[if_pos rfl,if_neg hna]
  simp
 ·rw[if_neg e]
  simp[e]

theorem zmt:(fun x=>if x=id then wnG left near i id j id+1 else wnG left near i id j x)=wnG left near i id (j+1):=by
 funext x
 unfold wnG
 by_cases e:x=id
 ·simp[e]
 ·simp[e]

theorem znu:(blG left near i id found j x).length≤left.length+1:=by
 unfold blG
 have:=znt (left:=left) (near:=near) (i:=i) (x:=x)
 rw[List.length_append]
 split<;>simp<;>omega

theorem zl0 (b:Int):z1l near [] b=(near b).length:=by
 unfold z1l
 simp
end

end Go.Proofs.YtfeebdcmlnapiaaGreat
