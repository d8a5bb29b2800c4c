/-
  Walks.
-/
import Derived.Test.YtgebcpkpdbdfoaaGreatRWalk12e
import Derived.Test.YtgebcpkpdbdfoaaGreatRWalk10f
import Derived.Test.YtgebcpkpdbdfoaaGreatRRoom1
import Derived.Test.YtgebcpkpdbdfoaaGreatRWalk12f
set_option linter.unusedVariables false
set_option linter.unusedSimpArgs false
namespace Go.Proofs.YtgebcpkpdbdfoaaGreat
open Go.RowKit P5 P9 P12 P14 P15 K

def EvsR (w:World) (B:Nat) (v:Value) (es:List EvV):Prop :=
 ∃ xs,w.ownsRow B 47 9 v es.length xs∧(∀ u∈xs,u.oneCell'=true)∧∀ (i:Nat) (e:EvV),es[i]? = some e→∃ vl vp:Value,(∀ (j:Nat) (u:Value),(zh e.id e.kind e.sender e.user e.member e.depth vl vp e.text).toList[j]? = some u→xs[i * 9+j]? = some u) ∧
  w.ownsRow B 3 1 vl e.levels.length (e.levels.map zu)∧w.ownsRow B 3 1 vp e.prev.length (e.prev.map zu)∧(∀ z∈e.levels,(Lit.int .i64 z).wf=true)∧(∀ z∈e.prev,(Lit.int .i64 z).wf=true)∧e.text.length≤maxLen

theorem EvsR.below {w w':World} {B:Nat} {v:Value} {es:List EvV} (h:EvsR w B v es) (hb:Below w.heap.size w w'):EvsR w' B v es:=by
 obtain⟨xs,h1,h2,h3⟩:=h
 refine⟨xs,own_below h1 hb,h2,fun i e he=>?_⟩
 obtain⟨vl,vp,q1,q2,q3,q4⟩:=h3 i e he
 exact⟨vl,vp,q1,own_below q2 hb,own_below q3 hb,q4⟩

theorem EvsR.off {w w':World} {B:Nat} {v:Value} {es:List EvV} (h:EvsR w B v es) {r:Option Nat} (hg:w.grownBy w' r) (hr:∀ g,r=some g→∃ cs e f,w.heap[g]? = some (.cells cs e f)∧e≠47∧e≠3):EvsR w' B v es:=by
 have key:∀ {e:TypeId} {k:Nat} {u:Value} {m:Nat} {ys:List Value},(e=47∨e=3)→w.ownsRow B e k u m ys→w'.ownsRow B e k u m ys:=by
  intro e k u m ys hd ho
  refine ho.kept hg ?_
  rcases ho.2 with ⟨rfl,-⟩|⟨g,cap,cur,rfl,-,hgb,-⟩
  ·exact .inl rfl
  ·refine .inr fun he=>?_
   obtain⟨cs,e',f,h1,h2,h3⟩:=hr g he.symm
   rw[hgb] at h1
   cases h1
   rcases hd with hd|hd
   ·exact h2 hd
   ·exact h3 hd
 obtain⟨xs,h1,h2,h3⟩:=h
 refine⟨xs,key (.inl rfl) h1,h2,fun i e he=>?_⟩
 obtain⟨vl,vp,q1,q2,q3,q4⟩:=h3 i e he
 exact⟨vl,vp,q1,key (.inr rfl) q2,key (.inr rfl) q3,q4⟩

theorem EvsR.down {w:World} {B B':Nat} {v:Value} {es:List EvV} (h:EvsR w B v es) (hb:B'≤B):EvsR w B' v es:=by
 obtain⟨xs,h1,h2,h3⟩:=h
 refine⟨xs,zq h1 hb,h2,fun i e he=>?_⟩
 obtain⟨vl,vp,q1,q2,q3,q4⟩:=h3 i e he
 exact⟨vl,vp,q1,zq q2 hb,zq q3 hb,q4⟩

theorem EvsR.form {w:World} {B:Nat} {v:Value} {es:List EvV} (h:EvsR w B v es):∃ oa cap,v=.slice oa es.length cap:=by
 obtain⟨xs,h1,_⟩:=h
 exact zb h1

theorem EvsR.view {w:World} {B p:Nat} {v:Value} {es:List EvV} (h:EvsR w B v es) (hp:p<B):∃ xs,Src (mask p w) 9 v es.length xs∧EvsX (mask p w) es xs:=by
 obtain⟨xs,h1,h2,h3⟩:=h
 refine⟨xs,z2t (z10 h1 hp) h2,fun i e he=>?_⟩
 obtain⟨vl,vp,q1,q2,q3,q4,q5,q6⟩:=h3 i e he
 obtain⟨xa,xc,rfl,hl⟩:=z0e (z10 q2 hp) q4
 obtain⟨ya,yc,rfl,hq⟩:=z0e (z10 q3 hp) q5
 exact⟨xa,xc,ya,yc,q1,hl,hq,q6⟩

theorem EvsR.new (w:World):EvsR (w.alloc (.cells #[] 47)) w.heap.size (.slice (some ⟨w.heap.size,0,none⟩) 0 0) [] :=
 ⟨[],World.ownsRow_made (w:=w) #[] 0 (Nat.le_refl _) (by decide) rfl,fun u hu=>by simp at hu,fun i e he=>by simp at he⟩

theorem EvsR.snoc {w W0 w':World} {B:Nat} {v v':Value} {es:List EvV} {e:EvV} {vl vp:Value} {xs:List Value} (hx:W0.ownsRow B 47 9 v es.length xs) (hone:∀ u∈xs,u.oneCell'=true)
  (hall:∀ (i:Nat) (e:EvV),es[i]? = some e→∃ vl vp:Value,(∀ (j:Nat) (u:Value),(zh e.id e.kind e.sender e.user e.member e.depth vl vp e.text).toList[j]? = some u→xs[i * 9+j]? = some u)∧W0.ownsRow B 3 1 vl e.levels.length (e.levels.map zu)∧W0.ownsRow B 3 1 vp e.prev.length (e.prev.map zu)∧(∀ z∈e.levels,(Lit.int .i64 z).wf=true)∧(∀ z∈e.prev,(Lit.int .i64 z).wf=true)∧e.text.length≤maxLen)
  (hl:W0.ownsRow B 3 1 vl e.levels.length (e.levels.map zu)) (hq:W0.ownsRow B 3 1 vp e.prev.length (e.prev.map zu)) (fl:∀ z∈e.levels,(Lit.int .i64 z).wf=true) (fp:∀ z∈e.prev,(Lit.int .i64 z).wf=true) (ft:e.text.length≤maxLen) (hol:vl.oneCell'=true) (hoq:vp.oneCell'=true)
  (hown:w'.ownsRow B 47 9 v' (es.length+1) (xs++(zh e.id e.kind e.sender e.user e.member e.depth vl vp e.text).toList)) {o:Obj} (hg:(W0.alloc o).grownBy w' v.ownBlock):EvsR w' B v' (es++[e]):=by
 have hlen:xs.length=es.length * 9:=hx.1
 have key:∀ {u:Value} {m:Nat} {ys:List Value},W0.ownsRow B 3 1 u m ys→w'.ownsRow B 3 1 u m ys:=fun ho=>z5n (ho.alloc o) (hx.alloc o) (by decide) hg
 refine⟨_,by rw[z05];exact hown,fun u hu=>?_,fun i e' he=>?_⟩
 ·rcases List.mem_append.1 hu with hu|hu
  ·exact hone u hu
  ·simp only[zh,List.mem_cons,List.mem_nil_iff,or_false] at hu
   rcases hu with rfl|rfl|rfl|rfl|rfl|rfl|rfl|rfl|rfl<;>first|rfl|exact hol|exact hoq
 ·rcases Nat.lt_or_ge i es.length with hi|hi
  ·rw[List.getElem?_append_left hi] at he
   obtain⟨vl',vp',q1,q2,q3,q4⟩:=hall i e' he
   refine⟨vl',vp',fun j u hu=>?_,key q2,key q3,q4⟩
   have hj:j<9:=by simpa [zh] using (List.getElem?_eq_some_iff.1 hu).1
   rw[List.getElem?_append_left (by omega)]
   exact q1 j u hu
  ·rw[List.getElem?_append_right hi] at he
   have hi0:i=es.length:=by
    have:=(List.getElem?_eq_some_iff.1 he).1
    simp at this
    omega
   subst hi0
   simp at he
   subst he
   refine⟨vl,vp,fun j u hu=>?_,key hl,key hq,fl,fp,ft⟩
   rw[List.getElem?_append_right (by omega),hlen,Nat.add_sub_cancel_left]
   exact hu

def zlx (w:World) (es:List EvV) (r:Ending) (w':World):Prop:=∃ v,r=.returned v∧EvsR w' w.heap.size v es∧Below w.heap.size w w'

theorem z4g {α:Type} {l:List α} {j:Nat} {x:α} (h:l[j]? = some x):l.take (j+1)=l.take j++[x]:=by
 rw[List.take_add_one,h]
 rfl

set_option maxRecDepth 100000 in
set_option maxHeartbeats 4000000 in
theorem zbk (oa:Option Addr) (n cap:Nat) (es:List EvV) (hfine:FineE es) (w:World) (hat:EvsAt w oa n cap es) :
  Calls Tryz.prog 127 #[.slice oa n cap] w (zlx w es):=by
 have hmx:=Nat.le_trans hat.room hat.most
 unfold maxLen at hmx
 have hn20:n≤1048576:=by rw[← hat.len];exact hfine.len
 have HN:=hide hat.len
 have HAT:=hide hat
 have Ja:=hide (fun (e:EvV) (he:e∈es)=>hfine.one he)
 have Al:=hide (EvsR.new w)
 have HB0:=hide (show Below w.heap.size w (w.alloc (.cells #[] 47)) from (Below.refl _ _).alloc (Nat.le_refl _) _)
 clear hat hfine
 go_enter Tryz.func127,Tryz.ntmps127
 go_wp2_with fail
 go_loopw [3,4] (fun v i wr=>∃ (j:Nat) (oo:Option Addr) (co:Nat),i=.int .i64 (j:Int)∧v=.slice oo j co∧j≤n∧EvsR wr w.heap.size (.slice oo j co) (es.take j)∧Below w.heap.size w wr) (fun _ i _=>n - (intOf i).toNat)
 case atStart=>exact⟨0,_,_,rfl,rfl,Nat.zero_le _,Al.out,HB0.out⟩
 case round =>
  obtain⟨j,oo,co,rfl,rfl,hj,hR,hbel⟩:=hrel
  have HR:=hide hR
  have hsz:=hbel.size
  clear Al HB0 hR
  by_cases hlt:j<n
  ·have j0:(j:Int)<(n:Int):=by omega
   obtain⟨e,b,q,xa,xc,ya,yc,he,hidx,hev⟩:=(HAT.out.below hbel).get Tryz.underlying24 z1p j hlt
   obtain⟨f1,f2,f3⟩:=Ja.out e (List.mem_of_getElem? he)
   have HC:=hide (zfm e xa xc ya yc f1 f2 f3 wr hev.lev hev.prv)
   obtain⟨c0,c1,c2,c3,c4,c5,c6,c7,c8⟩:=hev.cs
   have Ml:=hide hev.lev.fits
   have Mm:=hide hev.prv.fits
   have AZ:=hide (z4g he)
   have hlj:(es.take j).length=j:=by rw[List.length_take,HN.out];omega
   clear hev he
   go_wp2_with (first
    | (go_at_call 69;(with_reducible refine HC.out.mono ?_);rintro r w1 ⟨vl,vp,rfl,ho1,hb1⟩;obtain⟨ol,cl,rfl⟩:=zb ho1.l;obtain⟨oq,cq,rfl⟩:=zb ho1.p;obtain⟨xs,hx,hone,hall⟩:=HR.out.below hb1;rw[hlj] at hx)
    | (at_builtin;refine z5u (W0:=w1) (cs:=zh e.id e.kind e.sender e.user e.member e.depth (.slice ol e.levels.length cl) (.slice oq e.prev.length cq) e.text) rfl _ _ 24 rfl (by decide) Tryz.underlying24 zgm rfl rfl hx rfl rfl (by simp[Value.oneCell']) (Nat.le_trans hsz hb1.size) (by unfold maxLen;omega) (by omega) ?_;intro v2 w2 ho2 hg2;obtain⟨o2,c2',rfl⟩:=zb ho2))
   have hR2:EvsR w2 w.heap.size (.slice o2 (j+1) c2') (es.take (j+1)):=by
    rw[AZ.out]
    exact EvsR.snoc (w:=w) (v:=.slice oo j co) (by rw[hlj];exact hx) hone hall (zq ho1.l hsz) (zq ho1.p hsz) Ml.out Mm.out (by unfold maxLen;omega) rfl rfl (by rw[hlj];exact ho2) hg2
   have HR2:=hide hR2
   have HB2:=hide (hbel.trans (hb1.mono hsz |>.trans (((Below.refl w.heap.size w1).alloc (Nat.le_trans hsz hb1.size) _).grown hg2 (by have:=Nat.le_trans hsz hb1.size;simp;omega) (fun k hk=>(hx.lt k hk).1))))
   clear hR2 ho2 hg2 hx hone hall ho1 hb1
   go_roundw
   case rel=>exact⟨j+1,o2,c2',by go_num,rfl,by omega,HR2.out,HB2.out⟩
   case measure=>simp[intOf];omega
  ·have hjn:j=n:=by omega
   subst hjn
   have HE:=hide (show es.take j=es by rw[← HN.out,List.take_length])
   go_wp2_with fail
   go_ret
   exact⟨_,rfl,by have h:=HR.out;rw[HE.out] at h;exact h,hbel⟩

end Go.Proofs.YtgebcpkpdbdfoaaGreat

namespace Go.Proofs.YtgebcpkpdbdfoaaGreat
open Go.RowKit P5 P9 P12 P14 P15 K

theorem z7l {P:Program} {ops:Array Oper} {Q:Exit→Act→World→Prop} {i:Nat} {o:Oper} {a:Act} {w w':World} {f:FuncId} {args:Array Value} {K:Act→World→Prop} (ho:ops[i]? = some o) (hg:o.guard=none) (hr:(execOp a.eval o).run P w=.ok (.enter f args) w') (hc:Calls P f args w' fun e w''=>∃ v,e=.returned v∧K (a.put o.dst v) w''):wpOp P ops Q i K a w:=by
 unfold wpOp
 simp only[ho]
 have hw:Region.wanted o (yielded ops a.tmps)=true:=by simp[Region.wanted,hg]
 rw[if_pos hw]
 refine .inl ?_
 unfold Oper.wp
 rw[hr]
 simp only[Oper.upon]
 refine hc.mono ?_
 rintro e w'' ⟨v,rfl,hK⟩
 exact hK

def StsR (w:World) (B:Nat) (v:Value) (sts:List St):Prop :=
 ∃ ys,w.ownsRow B 28 1 v sts.length ys∧∀ (i:Nat) (s:St),sts[i]? = some s→∃ vi,ys[i]? = some vi∧w.ownsRow B 36 2 vi s.length (s.flatMap z06)

theorem StsR.below {w w':World} {B:Nat} {v:Value} {sts:List St} (h:StsR w B v sts) (hb:Below w.heap.size w w'):StsR w' B v sts:=by
 obtain⟨ys,h1,h2⟩:=h
 refine⟨ys,own_below h1 hb,fun i s hs=>?_⟩
 obtain⟨vi,q1,q2⟩:=h2 i s hs
 exact⟨vi,q1,own_below q2 hb⟩

theorem StsR.off {w w':World} {B:Nat} {v:Value} {sts:List St} (h:StsR w B v sts) {g:Nat} {cs:Array Value} {e:TypeId} (hg:w.grownBy w' (some g)) (hb:w.heap[g]? = some (.cells cs e (0,0))) (h1:28≠e) (h2:36≠e):StsR w' B v sts:=by
 obtain⟨ys,q1,q2⟩:=h
 refine⟨ys,ze q1 hg hb h1,fun i s hs=>?_⟩
 obtain⟨vi,q3,q4⟩:=q2 i s hs
 exact⟨vi,q3,ze q4 hg hb h2⟩

theorem StsR.nil (w:World) (B:Nat):StsR w B (.slice none 0 0) []:=⟨[],World.ownsRow_nil _ _ _ _,fun i s hs=>by simp at hs⟩

theorem StsR.form {w:World} {B:Nat} {v:Value} {sts:List St} (h:StsR w B v sts):∃ oa cap,v=.slice oa sts.length cap:=by
 obtain⟨ys,h1,_⟩:=h
 exact zb h1

theorem StsR.view {w:World} {B p:Nat} {v:Value} {sts:List St} (h:StsR w B v sts) (hp:p<B):∃ ys,Src (mask p w) 1 v sts.length ys∧StsX (mask p w) sts ys:=by
 obtain⟨ys,h1,h2⟩:=h
 have hl:ys.length=sts.length:=by have:=h1.1;omega
 refine⟨ys,z2t (z10 h1 hp) (fun u hu=>?_),fun i s hs=>?_⟩
 ·obtain⟨i,hi⟩:=List.mem_iff_getElem?.1 hu
  have hi':=(List.getElem?_eq_some_iff.1 hi).1
  obtain⟨vi,q1,q2⟩:=h2 i sts[i] (List.getElem?_eq_getElem (by omega))
  rw[hi] at q1
  cases q1
  obtain⟨_,_,rfl⟩:=zb q2
  rfl
 ·obtain⟨vi,q1,q2⟩:=h2 i s hs
  obtain⟨xa,xc,rfl,hi⟩:=z03 (z10 q2 hp)
  exact⟨xa,xc,q1,hi⟩

theorem StsR.snoc {w w':World} {B:Nat} {v v' vi:Value} {sts:List St} {s:St} {ys:List Value} (h1:w.ownsRow B 28 1 v sts.length ys) (h2:∀ (i:Nat) (s:St),sts[i]? = some s→∃ vi,ys[i]? = some vi∧w.ownsRow B 36 2 vi s.length (s.flatMap z06)) (hi:w.ownsRow B 36 2 vi s.length (s.flatMap z06)) (ho:w'.ownsRow B 28 1 v' (sts.length+1) (ys++[vi])) (hg:w.grownBy w' v.ownBlock):StsR w' B v' (sts++[s]):=by
 have hl:ys.length=sts.length:=by have:=h1.1;omega
 refine⟨_,by rw[z05];exact ho,fun i s' hs=>?_⟩
 rcases Nat.lt_or_ge i sts.length with hlt|hge
 ·rw[List.getElem?_append_left hlt] at hs
  obtain⟨vj,q1,q2⟩:=h2 i s' hs
  exact⟨vj,by rw[List.getElem?_append_left (by omega)];exact q1,z5n q2 h1 (by decide) hg⟩
 ·rw[List.getElem?_append_right hge] at hs
  have hi0:i=sts.length:=by
   have:=(List.getElem?_eq_some_iff.1 hs).1
   simp at this
   omega
  subst hi0
  simp at hs
  subst hs
  exact⟨vi,by rw[← hl,List.getElem?_append_right (Nat.le_refl _)];simp,z5n hi h1 (by decide) hg⟩

end Go.Proofs.YtgebcpkpdbdfoaaGreat

namespace Go.Proofs.YtgebcpkpdbdfoaaGreat
open Go.RowKit P5 P9 P12 P14 P15 K

theorem zd7 {w:World} {oa:Option Addr} {n cap:Nat} {s:List (Int × Int)} (h:ItemsAt w oa n cap s):Src w 2 (.slice oa n cap) n (s.flatMap z06):=by
 refine⟨by rw[z3c z06 2 z2s,h.len],zb6 s,oa,cap,rfl,h.room,h.most,fun ho=>?_,fun a ha=>?_⟩
 ·subst ho
  exact (z8y h).2
 ·subst ha
  have hsp:a.spot=none∨s=[]:=by
   cases s with
   | nil=>exact .inr rfl
   | cons y r =>
    obtain⟨b,o',he,_⟩:=h.at_ 0 y rfl
    exact .inl (by cases he;rfl)
  rcases hsp with hsp|rfl
  ·obtain⟨b,o',sp⟩:=a
   simp only at hsp
   subst hsp
   exact⟨.inl rfl,zb7 h⟩
  ·exact⟨.inr (by have:=h.len;simpa using this.symm),fun q u hu=>by simp at hu⟩

def ctC (R:Nat) (ve vg:Value):Nat→Option Value
 | 0=>some (.pointer (some ⟨R,0,none⟩))
 | 1=>some ve
 | 4=>some (.pointer (some ⟨R,2,none⟩))
 | 5=>some vg
 | _=>none

structure JC (B:Nat) (W:World) (ct:Nat→Option Value) (es:List EvV) (zs:List Value) (V:Gh) (w:World):Prop where
 pt:PT ct V
 bel:Below B W w
 up:B≤w.heap.size
 e2:∀ v,V 2=some v→EvsR w B v es
 g3:∀ v,V 3=some v→V 6=none→w.ownsRow B 4 1 v 0 []
 g6:∀ v,V 6=some v→w.ownsRow B 4 1 v es.length zs
 b7:∀ v,V 7=some v→∃ x z,V 2=some x∧V 6=some z∧v=.agg #[x,.slice none 0 0,z]
 b8:∀ v,V 8=some v→∃ b,v=.pointer (some ⟨b,0,none⟩)∧B≤b∧∃ cs,w.heap[b]? = some (.cells cs 41 (0,0))∧cs.size=3∧(V 9≠none→∃ x z,V 2=some x∧V 6=some z∧cs=#[x,.slice none 0 0,z])

section
variable {B:Nat} {W:World} {ct:Nat→Option Value} {es:List EvV} {zs:List Value} {V:Gh} {w w':World}

theorem JC.on (h:JC B W ct es zs V w) (hb:Below w.heap.size w w'):JC B W ct es zs V w':=by
 refine⟨h.pt,h.bel.trans (hb.mono h.up),Nat.le_trans h.up hb.size,fun v hv=>(h.e2 v hv).below hb,fun v hv h6=>own_below (h.g3 v hv h6) hb,fun v hv=>own_below (h.g6 v hv) hb,h.b7,fun v hv=>?_⟩
 obtain⟨b,q1,q2,cs,q3,q4⟩:=h.b8 v hv
 exact⟨b,q1,q2,cs,(hb.block b (zf q3)).trans q3,q4⟩

theorem JC.put (h:JC B W ct es zs V w) {i:Nat} {v:Value} (hi:V i=none) (hc:∀ c,ct i=some c→v=c) (a2:i=2→EvsR w B v es) (a3:i=3→w.ownsRow B 4 1 v 0 []) (a6:i=6→w.ownsRow B 4 1 v es.length zs) (a7:i=7→∃ x z,V 2=some x∧V 6=some z∧v=.agg #[x,.slice none 0 0,z]) (a8:i=8→∃ b,v=.pointer (some ⟨b,0,none⟩)∧B≤b∧∃ cs,w.heap[b]? = some (.cells cs 41 (0,0))∧cs.size=3∧V 9=none) (a9:i≠9):JC B W ct es zs (V.set i v) w:=by
 refine⟨h.pt.set hc,h.bel,h.up,fun u hu=>?_,fun u hu h6=>?_,fun u hu=>?_,fun u hu=>?_,fun u hu=>?_⟩
 ·by_cases e:2=i
  ·subst e;rw[Gh.set_self] at hu;cases hu;exact a2 rfl
  ·rw[Gh.set_ne V v e] at hu;exact h.e2 u hu
 ·by_cases e:3=i
  ·subst e;rw[Gh.set_self] at hu;cases hu;exact a3 rfl
  ·rw[Gh.set_ne V v e] at hu
   by_cases e6:6=i
   ·subst e6;rw[Gh.set_self] at h6;cases h6
   ·rw[Gh.set_ne V v e6] at h6;exact h.g3 u hu h6
 ·by_cases e:6=i
  ·subst e;rw[Gh.set_self] at hu;cases hu;exact a6 rfl
  ·rw[Gh.set_ne V v e] at hu;exact h.g6 u hu
 ·by_cases e:7=i
  ·subst e
   rw[Gh.set_self] at hu
   cases hu
   obtain⟨x,z,q1,q2,q3⟩:=a7 rfl
   exact⟨x,z,zx hi q1,zx hi q2,q3⟩
  ·rw[Gh.set_ne V v e] at hu
   obtain⟨x,z,q1,q2,q3⟩:=h.b7 u hu
   exact⟨x,z,zx hi q1,zx hi q2,q3⟩
 ·by_cases e:8=i
  ·subst e
   rw[Gh.set_self] at hu
   cases hu
   obtain⟨b,q1,q2,cs,q3,q4,q5⟩:=a8 rfl
   refine⟨b,q1,q2,cs,q3,q4,fun hn=>?_⟩
   rw[Gh.set_ne V _ (by decide),q5] at hn
   exact absurd rfl hn
  ·rw[Gh.set_ne V v e] at hu
   obtain⟨b,q1,q2,cs,q3,q4,q5⟩:=h.b8 u hu
   refine⟨b,q1,q2,cs,q3,q4,fun hn=>?_⟩
   rw[Gh.set_ne V v (Ne.symm a9)] at hn
   obtain⟨x,z,r1,r2,r3⟩:=q5 hn
   exact⟨x,z,zx hi r1,zx hi r2,r3⟩

theorem JC.c6 (h:JC B W ct es zs V w) {v3 v':Value} (hi:V 6=none) (h3:V 3=some v3) (hct:ct 6=none) (ho:w'.ownsRow B 4 1 v' es.length zs) (hg:w.grownBy w' v3.ownBlock):JC B W ct es zs (V.set 6 v') w':=by
 have hr:=h.g3 v3 h3 hi
 refine⟨h.pt.set (fun c hc=>by rw[hct] at hc;cases hc),h.bel.grown hg h.up (fun q hq=>(hr.lt q hq).1),Nat.le_trans h.up hg.size,fun u hu=>?_,fun u hu h6=>?_,fun u hu=>?_,fun u hu=>?_,fun u hu=>?_⟩
 ·rw[Gh.set_ne V _ (by decide)] at hu
  exact (h.e2 u hu).off hg (fun g hg'=>by
   obtain⟨cs,e,f,q1,q2⟩:=z0q (e2:=47) hr (by decide) g hg'
   obtain⟨cs',e',f',q3,q4⟩:=z0q (e2:=3) hr (by decide) g hg'
   rw[q1] at q3
   cases q3
   exact⟨_,_,_,q1,q2,q4⟩)
 ·rw[Gh.set_self] at h6;cases h6
 ·rw[Gh.set_self] at hu;cases hu;exact ho
 ·rw[Gh.set_ne V _ (by decide)] at hu
  obtain⟨x,z,q1,q2,q3⟩:=h.b7 u hu
  exact⟨x,z,zx hi q1,zx hi q2,q3⟩
 ·rw[Gh.set_ne V _ (by decide)] at hu
  obtain⟨b,q1,q2,cs,q3,q4,q5⟩:=h.b8 u hu
  refine⟨b,q1,q2,cs,(hg.block b (zf q3) (fun he=>?_)).trans q3,q4,fun hn=>?_⟩
  ·obtain⟨cs',e',f',r1,r2⟩:=z0q (e2:=41) hr (by decide) b he.symm
   rw[q3] at r1
   cases r1
   exact r2 rfl
  ·rw[Gh.set_ne V _ (by decide)] at hn
   obtain⟨x,z,r1,r2,r3⟩:=q5 hn
   exact⟨x,z,zx hi r1,zx hi r2,r3⟩

theorem JC.c9 (h:JC B W ct es zs V w) {x z:Value} {b:Nat} {cs:Array Value} (hi:V 9=none) (h2:V 2=some x) (h6:V 6=some z) (hct:ct 9=none) (h8:V 8=some (.pointer (some ⟨b,0,none⟩))) (hb:w.heap[b]? = some (.cells cs 41 (0,0))) (hB:B≤b) (hg:w.grownBy w' (some b)) (hb':w'.heap[b]? = some (.cells #[x,.slice none 0 0,z] 41 (0,0))) (v:Value):JC B W ct es zs (V.set 9 v) w':=by
 refine⟨h.pt.set (fun c hc=>by rw[hct] at hc;cases hc),h.bel.grown hg h.up (fun q hq=>by cases hq;exact hB),Nat.le_trans h.up hg.size,fun u hu=>?_,fun u hu h6'=>?_,fun u hu=>?_,fun u hu=>?_,fun u hu=>?_⟩
 ·rw[Gh.set_ne V _ (by decide)] at hu
  exact (h.e2 u hu).off hg (fun g hg'=>by cases hg';exact⟨_,_,_,hb,by decide,by decide⟩)
 ·rw[Gh.set_ne V _ (by decide)] at hu h6'
  exact ze (h.g3 u hu h6') hg hb (by decide)
 ·rw[Gh.set_ne V _ (by decide)] at hu
  exact ze (h.g6 u hu) hg hb (by decide)
 ·rw[Gh.set_ne V _ (by decide)] at hu
  obtain⟨x,z,q1,q2,q3⟩:=h.b7 u hu
  exact⟨x,z,zx hi q1,zx hi q2,q3⟩
 ·rw[Gh.set_ne V _ (by decide),h8] at hu
  cases hu
  exact⟨b,rfl,hB,_,hb',rfl,fun _=>⟨x,z,zx hi h2,zx hi h6,rfl⟩⟩
end

def tabC:List (Option Tmp × Op):=[(some 5,.fieldAddr 41 (.tmp 1) 0),(some 6,.load 24 (.tmp 5)),(some 7,.call { callee:=.value (.func 127),args:=#[.tmp 6],argTypes:=#[24] }),(some 8,.buildSlice 39 0 #[]),(some 9,.fieldAddr 41 (.tmp 1) 2),(some 10,.load 39 (.tmp 9)),(some 11,.call { callee:=.builtin .append,args:=#[.tmp 8,.tmp 10],argTypes:=#[39,39] }),(some 12,.build 41 #[(0,.tmp 7),(2,.tmp 11)]),(some 3,.alloc 41),(none,.store 41 (.tmp 3) (.tmp 12))]

def depC:List (List Nat):=[[],[0],[1],[],[],[4],[2,3,5],[2,6],[],[0,1,2,3,4,5,6,7,8]]

set_option maxHeartbeats 4000000 in
theorem zfx {id:Nat} {ops:Array Oper} {Q:Exit→Act→World→Prop} {a0:Act} {w:World} (hm:Tryz.prog.follows .mixedOrders=true) (htab:z1w ops=tabC) (hdp:z4z ops depC=true) (hfree:z6o ops=true) (hd:z2e ops=true) (hl:za4 ops=true) (n1:z16 ops 1=true)
  {R:Nat} {oa:Option Addr} {ca:Nat} {vs vg:Value} {es:List EvV} {zs:List Value}
  (hsz:33≤a0.tmps.size) (e1:a0.eval (.tmp 1)=.pointer (some ⟨R,0,none⟩)) (hfine:FineE es) (hn:es.length≤1000000)
  (hroom:∀ w',Below w.heap.size w w'→w'.cell? ⟨R,0,none⟩=some (.slice oa es.length ca)∧w'.cell? ⟨R,1,none⟩=some vs∧w'.cell? ⟨R,2,none⟩=some vg)
  (hev:∀ w',Below w.heap.size w w'→EvsAt w' oa es.length ca es) (hsG:∀ w',Below w.heap.size w w'→Src w' 1 vg es.length zs)
  (hend:∀ (V:Gh) (w':World) (x z:Value) (b:Nat),(∀ k,k<10→∃ v,V k=some v)→V 8=some (.pointer (some ⟨b,0,none⟩))→w.heap.size≤b→w'.heap[b]? = some (.cells #[x,.slice none 0 0,z] 41 (0,0))→Below w.heap.size w w'→EvsR w' w.heap.size x es→w'.ownsRow w.heap.size 4 1 z es.length zs→Q .normal (actG ops V a0 ops.size) w'):(Code.region id ops true).wp Tryz.prog Q a0 w:=by
 have hops:ops.size=10:=by
  have:=congrArg List.length htab
  simpa [z1w,tabC] using this
 have hget:∀ k (hk:k<10),ops[k]? = some (ops[k]'(by omega)):=fun k hk=>Array.getElem?_eq_getElem (by omega)
 have hdst:∀ k t,(tabC[k]?).map (·.1)=some (some t)→(hk:k<10)→(ops[k]'(by omega)).dst=some t:=fun k t ht hk=>by
  have:=z0v htab (hget k hk)
  rw[this] at ht
  simpa using ht
 refine z5v hm hd hl (JC w.heap.size w (ctC R (.slice oa es.length ca) vg) es zs) ?_ ?_ ?_
 ·refine⟨(fun k v c h=>by cases h),(Below.refl _ _).drew,Nat.le_refl _,?_,?_,?_,?_,?_⟩<;>(intro v h;cases h)
 ·intro i o V w7 ho hVi hdep0 hcl hJ
  have hi:i<10:=by have:=(Array.getElem?_eq_some_iff.1 ho).1;omega
  have hop0:=z0v htab ho
  have hg:=z4f hfree ho
  have hdep:∀ {l:List Nat},depC[i]? = some l→∀ k∈l,∃ v,V k=some v:=fun hl=>z0w hdp ho hdep0 hl
  have hlate:∀ k,i∈(depC[k]?).getD []→V k=none:=fun k hk=>y0n hdp hcl k i hk hVi
  clear hdep0 hcl
  have hcases:i=0∨i=1∨i=2∨i=3∨i=4∨i=5∨i=6∨i=7∨i=8∨i=9:=by omega
  rcases hcases with rfl|rfl|rfl|rfl|rfl|rfl|rfl|rfl|rfl|rfl
  ·have hop:o.op=.fieldAddr 41 (.tmp 1) 0:=zk hop0 rfl
   have E1:=evP (V:=V) n1 e1
   refine gop ho hg ?_ ⟨_,rfl,hJ.put hVi (fun c hc=>by cases hc;rfl) (fun h=>by omega) (fun h=>by omega) (fun h=>by omega) (fun h=>by omega) (fun h=>by omega) (by decide)⟩
   rw[runH hop]
   generalize actG ops V a0 ops.size=A at E1 ⊢
   clear hJ hget hdst hroom hend hdep hlate hev hsG
   go_simp
  ·have hop:o.op=.load 24 (.tmp 5):=zk hop0 rfl
   obtain⟨v0,g0⟩:=hdep rfl 0 (by decide)
   have E5:=evT hd htab hsz 0 5 rfl g0
   obtain rfl:v0=_:=hJ.pt 0 v0 _ g0 rfl
   obtain⟨r0,r1,r2⟩:=hroom _ hJ.bel
   refine gop ho hg ?_ ⟨_,rfl,hJ.put hVi (fun c hc=>by cases hc;rfl) (fun h=>by omega) (fun h=>by omega) (fun h=>by omega) (fun h=>by omega) (fun h=>by omega) (by decide)⟩
   rw[runH hop]
   generalize actG ops V a0 ops.size=A at E5 ⊢
   clear hJ hget hdst hroom hend hdep hlate hev hsG
   go_simp
  ·have hop:o.op=.call { callee:=.value (.func 127),args:=#[.tmp 6],argTypes:=#[24] }:=zk hop0 rfl
   obtain⟨v1,g1⟩:=hdep rfl 1 (by decide)
   have E6:=evT hd htab hsz 1 6 rfl g1
   obtain rfl:v1=_:=hJ.pt 1 v1 _ g1 rfl
   have HC:=hide (zbk oa es.length ca es hfine w7 (hev _ hJ.bel))
   refine z7l ho hg (f:=127) (args:=#[.slice oa es.length ca]) (w':=w7) ?_ (HC.out.mono ?_)
   ·rw[runH hop]
    generalize actG ops V a0 ops.size=A at E6 ⊢
    clear hJ hget hdst hroom hend hdep hlate hev hsG HC
    go_simp
   ·rintro e w8 ⟨v,rfl,hR,hb⟩
    exact⟨v,rfl,_,rfl,(hJ.on hb).put hVi (fun c hc=>by cases hc) (fun _=>hR.down hJ.up) (fun h=>by omega) (fun h=>by omega) (fun h=>by omega) (fun h=>by omega) (by decide)⟩
  ·have hop:o.op=.buildSlice 39 0 #[]:=zk hop0 rfl
   have hb:Below w7.heap.size w7 (w7.alloc (.cells #[] 4)):=(Below.refl _ _).alloc (Nat.le_refl _) _
   refine gop ho hg ?_ ⟨.slice (some ⟨w7.heap.size,0,none⟩) 0 0,rfl,(hJ.on hb).put hVi (fun c hc=>by cases hc) (fun h=>by omega) (fun _=>World.ownsRow_made (w:=w7) #[] 0 hJ.up (by decide) rfl) (fun h=>by omega) (fun h=>by omega) (fun h=>by omega) (by decide)⟩
   clear hb
   rw[runH hop]
   generalize actG ops V a0 ops.size=A
   clear hJ hget hdst hroom hend hdep hlate hev hsG
   go_simp
  ·have hop:o.op=.fieldAddr 41 (.tmp 1) 2:=zk hop0 rfl
   have E1:=evP (V:=V) n1 e1
   refine gop ho hg ?_ ⟨_,rfl,hJ.put hVi (fun c hc=>by cases hc;rfl) (fun h=>by omega) (fun h=>by omega) (fun h=>by omega) (fun h=>by omega) (fun h=>by omega) (by decide)⟩
   rw[runH hop]
   generalize actG ops V a0 ops.size=A at E1 ⊢
   clear hJ hget hdst hroom hend hdep hlate hev hsG
   go_simp
  ·have hop:o.op=.load 39 (.tmp 9):=zk hop0 rfl
   obtain⟨v4,g4⟩:=hdep rfl 4 (by decide)
   have E9:=evT hd htab hsz 4 9 rfl g4
   obtain rfl:v4=_:=hJ.pt 4 v4 _ g4 rfl
   obtain⟨r0,r1,r2⟩:=hroom _ hJ.bel
   refine gop ho hg ?_ ⟨_,rfl,hJ.put hVi (fun c hc=>by cases hc;rfl) (fun h=>by omega) (fun h=>by omega) (fun h=>by omega) (fun h=>by omega) (fun h=>by omega) (by decide)⟩
   rw[runH hop]
   generalize actG ops V a0 ops.size=A at E9 ⊢
   clear hJ hget hdst hroom hend hdep hlate hev hsG
   go_simp
  ·have hop:o.op=.call { callee:=.builtin .append,args:=#[.tmp 8,.tmp 10],argTypes:=#[39,39] }:=zk hop0 rfl
   obtain⟨v2,g2⟩:=hdep rfl 2 (by decide)
   obtain⟨v3,g3⟩:=hdep rfl 3 (by decide)
   obtain⟨v5,g5⟩:=hdep rfl 5 (by decide)
   have E8:=evD hd htab hsz 3 8 rfl g3
   have E10:=evD hd htab hsz 5 10 rfl g5
   obtain rfl:v5=_:=hJ.pt 5 v5 _ g5 rfl
   obtain⟨v',w',hr,k1,k2,k3⟩:=z0o (P:=Tryz.prog) (ty:=o.type) (t:=39) (by decide) Tryz.underlying39 zet rfl (hJ.g3 v3 g3 hVi) (hsG _ hJ.bel) hJ.up (by unfold maxLen;omega) (by omega)
   refine gop ho hg ?_ ⟨_,rfl,hJ.c6 hVi g3 rfl (by simpa using k1) k2⟩
   rw[runH hop]
   simp only[execOp,resolve,invoke,builtin,Sem.run_bind,Sem.run_pure,Result.andThen_ok,List.map_toArray,List.map_cons,List.map_nil,E8,E10,hr]
  ·have hop:o.op=.build 41 #[(0,.tmp 7),(2,.tmp 11)]:=zk hop0 rfl
   obtain⟨v2,g2⟩:=hdep rfl 2 (by decide)
   obtain⟨v6,g6⟩:=hdep rfl 6 (by decide)
   have E7:=evT hd htab hsz 2 7 rfl g2
   have E11:=evT hd htab hsz 6 11 rfl g6
   refine gop ho hg ?_ ⟨.agg #[v2,.slice none 0 0,v6],rfl,hJ.put hVi (fun c hc=>by cases hc) (fun h=>by omega) (fun h=>by omega) (fun h=>by omega) (fun _=>⟨v2,v6,g2,g6,rfl⟩) (fun h=>by omega) (by decide)⟩
   obtain⟨oa2,c2,rfl⟩:=(hJ.e2 v2 g2).form
   obtain⟨oa6,c6,rfl⟩:=zb (hJ.g6 v6 g6)
   rw[runH hop]
   generalize actG ops V a0 ops.size=A at E7 E11 ⊢
   clear hJ hget hdst hroom hend hdep hlate hev hsG
   go_simp
  ·have hop:o.op=.alloc 41:=zk hop0 rfl
   have hb:Below w7.heap.size w7 (w7.alloc (.cells #[.slice none 0 0,.slice none 0 0,.slice none 0 0] 41)):=(Below.refl _ _).alloc (Nat.le_refl _) _
   have hn9:V 9=none:=hlate 9 (by simp[depC])
   refine gop ho hg ?_ ⟨.pointer (some ⟨w7.heap.size,0,none⟩),rfl,(hJ.on hb).put hVi (fun c hc=>by cases hc) (fun h=>by omega) (fun h=>by omega) (fun h=>by omega) (fun h=>by omega) (fun _=>⟨_,rfl,hJ.up,_,heap_alloc_new w7 _,rfl,hn9⟩) (by decide)⟩
   clear hb
   rw[runH hop]
   generalize actG ops V a0 ops.size=A
   clear hJ hget hdst hroom hend hdep hlate hev hsG
   go_simp
  ·have hop:o.op=.store 41 (.tmp 3) (.tmp 12):=zk hop0 rfl
   obtain⟨v7,g7⟩:=hdep rfl 7 (by decide)
   obtain⟨v8,g8⟩:=hdep rfl 8 (by decide)
   have E3:=evT hd htab hsz 8 3 rfl g8
   have E12:=evT hd htab hsz 7 12 rfl g7
   obtain⟨b,rfl,hBb,cs,hb,hcs,-⟩:=hJ.b8 v8 g8
   obtain⟨x,z,q1,q2,rfl⟩:=hJ.b7 v7 g7
   obtain⟨hb2,hg2⟩:=z0c [x,.slice none 0 0,z] w7 cs 0 hb
   have hb3:(w7.setCells b 0 [x,.slice none 0 0,z]).heap[b]? = some (.cells #[x,.slice none 0 0,z] 41 (0,0)):=by rw[hb2];congr 2;exact zay hcs
   refine z4e ho hg (w':=w7.setCells b 0 [x,.slice none 0 0,z]) ?_ ⟨_,rfl,hJ.c9 hVi q1 q2 rfl g8 hb hBb hg2 hb3 _⟩
   obtain⟨oa2,c2,rfl⟩:=(hJ.e2 x q1).form
   obtain⟨oa6,c6,rfl⟩:=zb (hJ.g6 z q2)
   obtain⟨k0,k1,k2⟩:=cells3 hb hcs
   have y0:=zn hb 0
   have y1:=zn hb 1
   have y2:=zn hb 2
   rw[runH hop]
   generalize actG ops V a0 ops.size=A at E3 E12 ⊢
   clear hJ hget hdst hroom hend hdep hlate hev hsG
   go_simp
   rfl
 ·intro V w7 hall hJ
  have hall':∀ k,k<10→∃ v,V k=some v:=fun k hk=>Option.isSome_iff_exists.1 (hall k (by omega))
  obtain⟨v8,g8⟩:=hall' 8 (by omega)
  obtain⟨v9,g9⟩:=hall' 9 (by omega)
  obtain⟨b,rfl,hBb,cs,hb,hcs,hq⟩:=hJ.b8 v8 g8
  obtain⟨x,z,q1,q2,rfl⟩:=hq (by rw[g9];simp)
  exact hend V w7 x z b hall' g8 hBb hb hJ.bel (hJ.e2 x q1) (hJ.g6 z q2)

def ctD (R b:Nat) (vst vs:Value) (j:Int) (bb qq:Nat) (sl:Value):Nat→Option Value
 | 0=>some (.pointer (some ⟨b,1,none⟩))
 | 1=>some vst
 | 3=>some (.pointer (some ⟨R,1,none⟩))
 | 4=>some vs
 | 5=>some (.int .i64 j)
 | 6=>some (.pointer (some ⟨bb,qq,none⟩))
 | 7=>some sl
 | 11=>some (.pointer (some ⟨b,1,none⟩))
 | _=>none

structure AfD (B:Nat) (w0:World) (R b:Nat) (rc:Array Value) (x vst z:Value) (es:List EvV) (zs:List Value) (sts:List St) (d:Bool) (u:Value) (w:World):Prop where
 bel:Below B w0 w
 r:w.heap[R]? = some (.cells rc 41 (0,0))
 e:EvsR w B x es
 g:w.ownsRow B 4 1 z es.length zs
 s:StsR w B u sts
 o:w.heap[b]? = some (.cells #[x,(if d then u else vst),z] 41 (0,0))

structure JD (B:Nat) (w0 W:World) (ct:Nat→Option Value) (R b:Nat) (rc:Array Value) (x vst z:Value) (es:List EvV) (zs:List Value) (sts:List St) (s:St) (V:Gh) (w:World):Prop where
 pt:PT ct V
 bel:V 10=none→Below W.heap.size W w
 i2:∀ v,V 2=some v→V 8=none→w.ownsRow W.heap.size 36 2 v 0 []
 i8:V 10=none→∀ v,V 8=some v→w.ownsRow W.heap.size 36 2 v s.length (s.flatMap z06)
 l9:V 10=none→∀ v,V 9=some v→∃ bl v8,V 8=some v8∧v=.slice (some ⟨bl,0,none⟩) 1 1∧w.heap[bl]? = some (.cells #[v8] 28 (0,0))
 af:∀ u,V 10=some u→AfD B w0 R b rc x vst z es zs (sts++[s]) (V 12).isSome u w

section
variable {B:Nat} {w0 W:World} {ct:Nat→Option Value} {R b:Nat} {rc:Array Value} {x vst z:Value} {es:List EvV} {zs:List Value} {sts:List St} {s:St} {V:Gh} {w w':World}

theorem JD.pure (h:JD B w0 W ct R b rc x vst z es zs sts s V w) {i:Nat} {v:Value} (hi:V i=none) (hc:ct i=some v) (hm:i∈[0,1,3,4,5,6,7,11]):JD B w0 W ct R b rc x vst z es zs sts s (V.set i v) w:=by
 simp only[List.mem_cons,List.mem_nil_iff,or_false] at hm
 have h2:2≠i:=by omega
 have h8:8≠i:=by omega
 have h9:9≠i:=by omega
 have h10:10≠i:=by omega
 have h12:12≠i:=by omega
 refine⟨h.pt.set (fun c hc'=>by rw[hc] at hc';cases hc';rfl),?_,?_,?_,?_,?_⟩<;>simp only[Gh.set_ne V v h2,Gh.set_ne V v h8,Gh.set_ne V v h9,Gh.set_ne V v h10,Gh.set_ne V v h12]
 ·exact h.bel
 ·exact h.i2
 ·exact h.i8
 ·exact h.l9
 ·exact h.af

theorem JD.s2 (h:JD B w0 W ct R b rc x vst z es zs sts s V w) (hi:V 2=none) (h8:V 8=none) (h9:V 9=none) (h10:V 10=none) (hct:ct 2=none):JD B w0 W ct R b rc x vst z es zs sts s (V.set 2 (.slice (some ⟨w.heap.size,0,none⟩) 0 0)) (w.alloc (.cells #[] 36)):=by
 have hb:=h.bel h10
 refine⟨h.pt.set (fun c hc=>by rw[hct] at hc;cases hc),fun _=>hb.alloc hb.size _,fun v hv _=>?_,fun _ v hv=>?_,fun _ v hv=>?_,fun u hu=>?_⟩
 ·rw[Gh.set_self] at hv
  cases hv
  exact World.ownsRow_made (w:=w) #[] 0 hb.size (by decide) rfl
 ·rw[Gh.set_ne V _ (by decide),h8] at hv;cases hv
 ·rw[Gh.set_ne V _ (by decide),h9] at hv;cases hv
 ·rw[Gh.set_ne V _ (by decide),h10] at hu;cases hu

theorem JD.s8 (h:JD B w0 W ct R b rc x vst z es zs sts s V w) {v2 v':Value} (hi:V 8=none) (h2:V 2=some v2) (h9:V 9=none) (h10:V 10=none) (hct:ct 8=none) (ho:w'.ownsRow W.heap.size 36 2 v' s.length (s.flatMap z06)) (hg:w.grownBy w' v2.ownBlock):JD B w0 W ct R b rc x vst z es zs sts s (V.set 8 v') w':=by
 have hb:=h.bel h10
 have hr:=h.i2 v2 h2 hi
 refine⟨h.pt.set (fun c hc=>by rw[hct] at hc;cases hc),fun _=>hb.grown hg hb.size (fun q hq=>(hr.lt q hq).1),fun v hv h8=>?_,fun _ v hv=>?_,fun _ v hv=>?_,fun u hu=>?_⟩
 ·rw[Gh.set_self] at h8;cases h8
 ·rw[Gh.set_self] at hv;cases hv;exact ho
 ·rw[Gh.set_ne V _ (by decide),h9] at hv;cases hv
 ·rw[Gh.set_ne V _ (by decide),h10] at hu;cases hu

theorem JD.s9 (h:JD B w0 W ct R b rc x vst z es zs sts s V w) {v8:Value} (hi:V 9=none) (h8:V 8=some v8) (h10:V 10=none) (hct:ct 9=none):JD B w0 W ct R b rc x vst z es zs sts s (V.set 9 (.slice (some ⟨w.heap.size,0,none⟩) 1 1)) (w.alloc (.cells #[v8] 28)):=by
 have hb:=h.bel h10
 have hbA:Below w.heap.size w (w.alloc (.cells #[v8] 28)):=(Below.refl _ _).alloc (Nat.le_refl _) _
 refine⟨h.pt.set (fun c hc=>by rw[hct] at hc;cases hc),fun _=>hb.alloc hb.size _,fun v hv h8'=>?_,fun _ v hv=>?_,fun _ v hv=>?_,fun u hu=>?_⟩
 ·rw[Gh.set_ne V _ (by decide),h8] at h8';cases h8'
 ·rw[Gh.set_ne V _ (by decide)] at hv
  exact own_below (h.i8 h10 v hv) hbA
 ·rw[Gh.set_self] at hv
  cases hv
  exact⟨w.heap.size,v8,by rw[Gh.set_ne V _ (by decide)];exact h8,rfl,heap_alloc_new w _⟩
 ·rw[Gh.set_ne V _ (by decide),h10] at hu;cases hu

theorem JD.s10 (h:JD B w0 W ct R b rc x vst z es zs sts s V w) {u:Value} (hi:V 10=none) (h8:∃ v,V 8=some v) (h12:V 12=none) (hct:ct 10=none) (ha:AfD B w0 R b rc x vst z es zs (sts++[s]) false u w'):JD B w0 W ct R b rc x vst z es zs sts s (V.set 10 u) w':=by
 obtain⟨v8,h8⟩:=h8
 refine⟨h.pt.set (fun c hc=>by rw[hct] at hc;cases hc),fun hn=>?_,fun v hv h8'=>?_,fun hn=>?_,fun hn=>?_,fun u' hu=>?_⟩
 ·rw[Gh.set_self] at hn;cases hn
 ·rw[Gh.set_ne V _ (by decide),h8] at h8';cases h8'
 ·rw[Gh.set_self] at hn;cases hn
 ·rw[Gh.set_self] at hn;cases hn
 ·rw[Gh.set_self] at hu
  cases hu
  rw[Gh.set_ne V _ (by decide),h12]
  exact ha

theorem JD.s12 (h:JD B w0 W ct R b rc x vst z es zs sts s V w) {u v:Value} (hi:V 12=none) (h10:V 10=some u) (h8:∃ v,V 8=some v) (hct:ct 12=none) (ha:AfD B w0 R b rc x vst z es zs (sts++[s]) true u w'):JD B w0 W ct R b rc x vst z es zs sts s (V.set 12 v) w':=by
 obtain⟨v8,h8⟩:=h8
 refine⟨h.pt.set (fun c hc=>by rw[hct] at hc;cases hc),fun hn=>?_,fun v hv h8'=>?_,fun hn=>?_,fun hn=>?_,fun u' hu=>?_⟩
 ·rw[Gh.set_ne V _ (by decide),h10] at hn;cases hn
 ·rw[Gh.set_ne V _ (by decide),h8] at h8';cases h8'
 ·rw[Gh.set_ne V _ (by decide),h10] at hn;cases hn
 ·rw[Gh.set_ne V _ (by decide),h10] at hn;cases hn
 ·rw[Gh.set_ne V _ (by decide),h10] at hu
  cases hu
  rw[Gh.set_self]
  exact ha
end

def tabD:List (Option Tmp × Op):=[(some 20,.fieldAddr 41 (.tmp 3) 1),(some 21,.load 25 (.tmp 20)),(some 22,.buildSlice 28 0 #[]),(some 23,.fieldAddr 41 (.tmp 1) 1),(some 24,.load 25 (.tmp 23)),(some 25,.move (.tmp 4)),(some 26,.indexAddr 25 (.tmp 24) (.tmp 25)),(some 27,.load 28 (.tmp 26)),(some 28,.call { callee:=.builtin .append,args:=#[.tmp 22,.tmp 27],argTypes:=#[28,28] }),(some 29,.buildSlice 25 1 #[(0,.tmp 28)]),(some 30,.call { callee:=.builtin .append,args:=#[.tmp 21,.tmp 29],argTypes:=#[25,25] }),(some 31,.fieldAddr 41 (.tmp 3) 1),(none,.store 25 (.tmp 31) (.tmp 30))]

def depD:List (List Nat):=[[],[0],[],[],[3],[],[4,5],[6],[2,7],[8],[1,8,9],[0,1,2,3,4,5,6,7,8,9,10],[0,1,2,3,4,5,6,7,8,9,10,11]]

set_option maxHeartbeats 4000000 in
theorem zdz {id:Nat} {ops:Array Oper} {Q:Exit→Act→World→Prop} {a0:Act} {W:World} (hm:Tryz.prog.follows .mixedOrders=true) (htab:z1w ops=tabD) (hdp:z4z ops depD=true) (hfree:z6o ops=true) (hd:z2e ops=true) (hl:za4 ops=true) (n1:z16 ops 1=true) (n3:z16 ops 3=true) (n4:z16 ops 4=true)
  {B R b j:Nat} {w0:World} {ve vg x z:Value} {ov:Option Addr} {cv:Nat} {so:Option Addr} {sn sc:Nat} {es:List EvV} {zs:List Value} {sts:List St} {s:St} {bb qq:Nat} {xa:Option Addr} {xc:Nat}
  (hsz:33≤a0.tmps.size) (e1:a0.eval (.tmp 1)=.pointer (some ⟨R,0,none⟩)) (e3:a0.eval (.tmp 3)=.pointer (some ⟨b,0,none⟩)) (e4:a0.eval (.tmp 4)=.int .i64 (j:Int))
  (hidx:∀ wx,(Instr.indexAt 25 (.slice so sn sc) (.int .i64 (j:Int))).run Tryz.prog wx=.ok (.pointer (some ⟨bb,qq,none⟩)) wx)
  (hB0:Below B w0 W) (hBW:B≤W.heap.size) (hBb:B≤b) (hRb:R≠b) (hs20:s.length≤1048576) (hst20:sts.length≤1048576)
  (hR:W.heap[R]? = some (.cells #[ve,.slice so sn sc,vg] 41 (0,0))) (hO:W.heap[b]? = some (.cells #[x,.slice ov sts.length cv,z] 41 (0,0)))
  (hc0:W.cell? ⟨bb,qq,none⟩=some (.slice xa s.length xc)) (hit:ItemsAt W xa s.length xc s) (hE:EvsR W B x es) (hG:W.ownsRow B 4 1 z es.length zs) (hsts:StsR W B (.slice ov sts.length cv) sts)
  (hend:∀ (V:Gh) (w':World) (u:Value),(∀ k,k<13→∃ v,V k=some v)→AfD B w0 R b #[ve,.slice so sn sc,vg] x (.slice ov sts.length cv) z es zs (sts++[s]) true u w'→Q .normal (actG ops V a0 ops.size) w'):(Code.region id ops true).wp Tryz.prog Q a0 W:=by
 have hops:ops.size=13:=by
  have:=congrArg List.length htab
  simpa [z1w,tabD] using this
 have hget:∀ k (hk:k<13),ops[k]? = some (ops[k]'(by omega)):=fun k hk=>Array.getElem?_eq_getElem (by omega)
 have hdst:∀ k t,(tabD[k]?).map (·.1)=some (some t)→(hk:k<13)→(ops[k]'(by omega)).dst=some t:=fun k t ht hk=>by
  have:=z0v htab (hget k hk)
  rw[this] at ht
  simpa using ht
 have hblk:∀ w',Below W.heap.size W w'→w'.heap[b]? = some (.cells #[x,.slice ov sts.length cv,z] 41 (0,0))∧w'.cell? ⟨R,1,none⟩=some (.slice so sn sc):=fun w' h=>⟨(h.block b (zf hO)).trans hO,za ((h.block R (zf hR)).trans hR) 1 rfl⟩
 have hcel:∀ w',Below W.heap.size W w'→w'.cell? ⟨bb,qq,none⟩=some (.slice xa s.length xc):=fun w' h=>(h.cell (z0d hc0)).trans hc0
 have hsrc:∀ w',Below W.heap.size W w'→Src w' 2 (.slice xa s.length xc) s.length (s.flatMap z06):=fun w' h=>zd7 (hit.below h)
 have hafter:∀ (w w':World) (u:Value) (ys:List Value) {vi:Value},Below W.heap.size W w→w.ownsRow B 28 1 (.slice ov sts.length cv) sts.length ys→(∀ (i:Nat) (s:St),sts[i]? = some s→∃ vi,ys[i]? = some vi∧w.ownsRow B 36 2 vi s.length (s.flatMap z06))→w.ownsRow W.heap.size 36 2 vi s.length (s.flatMap z06)→w'.ownsRow B 28 1 u (sts.length+1) (ys++[vi])→w.grownBy w' (Value.slice ov sts.length cv).ownBlock→AfD B w0 R b #[ve,.slice so sn sc,vg] x (.slice ov sts.length cv) z es zs (sts++[s]) false u w':=by
  intro w w' u ys vi hb hy1 hy2 hi ho hg
  have hRw:=(hb.block R (zf hR)).trans hR
  have hOw:=(hb.block b (zf hO)).trans hO
  have hne:∀ {g:Nat} {cs:Array Value},w.heap[g]? = some (.cells cs 41 (0,0))→some g≠(Value.slice ov sts.length cv).ownBlock:=by
   intro g cs hgb he
   obtain⟨cs',e',f',r1,r2⟩:=z0q (e2:=41) hy1 (by decide) g he.symm
   rw[hgb] at r1
   cases r1
   exact r2 rfl
  refine⟨(hB0.trans (hb.mono hBW)).grown hg (Nat.le_trans hBW hb.size) (fun q hq=>(hy1.lt q hq).1),(hg.block R (zf hRw) (hne hRw)).trans hRw,?_,z5n (own_below hG hb) hy1 (by decide) hg,StsR.snoc hy1 hy2 (zq hi hBW) ho hg,(hg.block b (zf hOw) (hne hOw)).trans hOw⟩
  refine (hE.below hb).off hg (fun g hg'=>?_)
  obtain⟨cs,e,f,q1,q2⟩:=z0q (e2:=47) hy1 (by decide) g hg'
  obtain⟨cs',e',f',q3,q4⟩:=z0q (e2:=3) hy1 (by decide) g hg'
  rw[q1] at q3
  cases q3
  exact⟨_,_,_,q1,q2,q4⟩
 have hstore:∀ (w:World) (u:Value),AfD B w0 R b #[ve,.slice so sn sc,vg] x (.slice ov sts.length cv) z es zs (sts++[s]) false u w→AfD B w0 R b #[ve,.slice so sn sc,vg] x (.slice ov sts.length cv) z es zs (sts++[s]) true u (w.setCell ⟨b,1,none⟩ u):=by
  intro w u ha
  have hO2:w.heap[b]? = some (.cells #[x,.slice ov sts.length cv,z] 41 (0,0)):=ha.o
  have hg:=z01 w b 1 u
  exact⟨ha.bel.grown hg (Nat.le_trans hBb (Nat.le_of_lt (zf hO2))) (fun q hq=>by cases hq;exact hBb),(hg.block R (zf ha.r) (fun q=>hRb (Option.some.inj q))).trans ha.r,ha.e.off hg (fun g hg'=>by cases hg';exact⟨_,_,_,hO2,by decide,by decide⟩),ze ha.g hg hO2 (by decide),ha.s.off hg hO2 (by decide) (by decide),z2m _ hO2⟩
 refine z5v hm hd hl (JD B w0 W (ctD R b (.slice ov sts.length cv) (.slice so sn sc) (j:Int) bb qq (.slice xa s.length xc)) R b #[ve,.slice so sn sc,vg] x (.slice ov sts.length cv) z es zs sts s) ?_ ?_ ?_
 ·refine⟨(fun k v c h=>by cases h),(fun _=>(Below.refl _ _).drew),(fun v h=>by cases h),(fun _ v h=>by cases h),(fun _ v h=>by cases h),(fun v h=>by cases h)⟩
 ·intro i o V w7 ho hVi hdep0 hcl hJ
  have hi:i<13:=by have:=(Array.getElem?_eq_some_iff.1 ho).1;omega
  have hop0:=z0v htab ho
  have hg:=z4f hfree ho
  have hdep:∀ {l:List Nat},depD[i]? = some l→∀ k∈l,∃ v,V k=some v:=fun hl=>z0w hdp ho hdep0 hl
  have hlate:∀ k,i∈(depD[k]?).getD []→V k=none:=fun k hk=>y0n hdp hcl k i hk hVi
  have hback:∀ k d,d∈(depD[k]?).getD []→∀ u,V k=some u→V d≠none:=fun k d hk u hv=>by
   cases hl:depD[k]? with
   | none=>rw[hl] at hk;simp at hk
   | some l =>
    rw[hl] at hk
    have hk24:k<13:=by have:=(List.getElem?_eq_some_iff.1 hl).1;simpa [depD] using this
    obtain⟨u',hu⟩:=z0w hdp (hget k hk24) (hcl k _ (hget k hk24) (by rw[hv];rfl)) hl d (by simpa using hk)
    rw[hu]
    simp
  have hchain:∀ k d1 d2 d3,d1∈(depD[k]?).getD []→d2∈(depD[d1]?).getD []→d3∈(depD[d2]?).getD []→∀ u,V k=some u→V d3≠none:=fun k d1 d2 d3 h1 h2 h3 u hv=>by
   obtain⟨u1,hu1⟩:=Option.ne_none_iff_exists'.1 (hback k d1 h1 u hv)
   obtain⟨u2,hu2⟩:=Option.ne_none_iff_exists'.1 (hback d1 d2 h2 u1 hu1)
   exact hback d2 d3 h3 u2 hu2
  clear hdep0 hcl
  have hcases:i=0∨i=1∨i=2∨i=3∨i=4∨i=5∨i=6∨i=7∨i=8∨i=9∨i=10∨i=11∨i=12:=by omega
  rcases hcases with rfl|rfl|rfl|rfl|rfl|rfl|rfl|rfl|rfl|rfl|rfl|rfl|rfl
  ·have hop:o.op=.fieldAddr 41 (.tmp 3) 1:=zk hop0 rfl
   have E3:=evP (V:=V) n3 e3
   refine gop ho hg ?_ ⟨_,rfl,hJ.pure hVi rfl (by simp)⟩
   rw[runH hop]
   generalize actG ops V a0 ops.size=A at E3 ⊢
   clear hJ hget hdst hend hdep hlate hback hchain hblk hcel hsrc hafter hstore
   go_simp
  ·have hop:o.op=.load 25 (.tmp 20):=zk hop0 rfl
   obtain⟨v0,g0⟩:=hdep rfl 0 (by decide)
   have E20:=evT hd htab hsz 0 20 rfl g0
   obtain rfl:v0=_:=hJ.pt 0 v0 _ g0 rfl
   have hz10:V 10=none:=hlate 10 (by simp[depD])
   obtain⟨hO,hRr⟩:=hblk _ (hJ.bel hz10)
   have q1:=za hO 1 rfl
   refine gop ho hg ?_ ⟨_,rfl,hJ.pure hVi rfl (by simp)⟩
   try clear hz8
   try clear hz10
   try clear hO hRr
   rw[runH hop]
   generalize actG ops V a0 ops.size=A at E20 ⊢
   clear hJ hget hdst hend hdep hlate hback hchain hblk hcel hsrc hafter hstore
   go_simp
  ·have hop:o.op=.buildSlice 28 0 #[]:=zk hop0 rfl
   have hz8:V 8=none:=hlate 8 (by simp[depD])
   have hz9:V 9=none:=by
    cases hv:V 9 with
    | none=>rfl
    | some u=>exact absurd (hback 9 8 (by simp[depD]) u hv) (by simp[hz8])
   have hz10:V 10=none:=by
    cases hv:V 10 with
    | none=>rfl
    | some u=>exact absurd (hback 10 8 (by simp[depD]) u hv) (by simp[hz8])
   refine gop ho hg ?_ ⟨_,rfl,hJ.s2 hVi hz8 hz9 hz10 rfl⟩
   clear hz8 hz9 hz10
   rw[runH hop]
   generalize actG ops V a0 ops.size=A
   clear hJ hget hdst hend hdep hlate hback hchain hblk hcel hsrc hafter hstore
   go_simp
  ·have hop:o.op=.fieldAddr 41 (.tmp 1) 1:=zk hop0 rfl
   have E1:=evP (V:=V) n1 e1
   refine gop ho hg ?_ ⟨_,rfl,hJ.pure hVi rfl (by simp)⟩
   rw[runH hop]
   generalize actG ops V a0 ops.size=A at E1 ⊢
   clear hJ hget hdst hend hdep hlate hback hchain hblk hcel hsrc hafter hstore
   go_simp
  ·have hop:o.op=.load 25 (.tmp 23):=zk hop0 rfl
   obtain⟨v3,g3⟩:=hdep rfl 3 (by decide)
   have E23:=evT hd htab hsz 3 23 rfl g3
   obtain rfl:v3=_:=hJ.pt 3 v3 _ g3 rfl
   have hz8:V 8=none:=by
    cases hv:V 8 with
    | none=>rfl
    | some u=>exact absurd (hchain 8 7 6 4 (by simp[depD]) (by simp[depD]) (by simp[depD]) u hv) (by simp[hVi])
   have hz10:V 10=none:=by
    cases hv:V 10 with
    | none=>rfl
    | some u=>exact absurd (hback 10 8 (by simp[depD]) u hv) (by simp[hz8])
   obtain⟨hO,hRr⟩:=hblk _ (hJ.bel hz10)
   have q1:=hRr
   refine gop ho hg ?_ ⟨_,rfl,hJ.pure hVi rfl (by simp)⟩
   try clear hz8
   try clear hz10
   try clear hO hRr
   rw[runH hop]
   generalize actG ops V a0 ops.size=A at E23 ⊢
   clear hJ hget hdst hend hdep hlate hback hchain hblk hcel hsrc hafter hstore
   go_simp
  ·have hop:o.op=.move (.tmp 4):=zk hop0 rfl
   have E4:=evO (V:=V) n4 e4
   exact gM ho hg hop E4 ⟨_,rfl,hJ.pure hVi rfl (by simp)⟩
  ·have hop:o.op=.indexAddr 25 (.tmp 24) (.tmp 25):=zk hop0 rfl
   obtain⟨v4,g4⟩:=hdep rfl 4 (by decide)
   obtain⟨v5,g5⟩:=hdep rfl 5 (by decide)
   have E24:=evT hd htab hsz 4 24 rfl g4
   have E25:=evT hd htab hsz 5 25 rfl g5
   obtain rfl:v4=_:=hJ.pt 4 v4 _ g4 rfl
   obtain rfl:v5=_:=hJ.pt 5 v5 _ g5 rfl
   have hidx1:=hidx
   refine gop ho hg ?_ ⟨_,rfl,hJ.pure hVi rfl (by simp)⟩
   rw[runH hop]
   generalize actG ops V a0 ops.size=A at E24 E25 ⊢
   clear hJ hget hdst hend hdep hlate hback hchain hblk hcel hsrc hafter hstore
   go_simp
  ·have hop:o.op=.load 28 (.tmp 26):=zk hop0 rfl
   obtain⟨v6,g6⟩:=hdep rfl 6 (by decide)
   have E26:=evT hd htab hsz 6 26 rfl g6
   obtain rfl:v6=_:=hJ.pt 6 v6 _ g6 rfl
   have hz8:V 8=none:=hlate 8 (by simp[depD])
   have hz10:V 10=none:=by
    cases hv:V 10 with
    | none=>rfl
    | some u=>exact absurd (hback 10 8 (by simp[depD]) u hv) (by simp[hz8])
   have q1:=hcel _ (hJ.bel hz10)
   refine gop ho hg ?_ ⟨_,rfl,hJ.pure hVi rfl (by simp)⟩
   try clear hz8
   try clear hz10
   try clear hO hRr
   rw[runH hop]
   generalize actG ops V a0 ops.size=A at E26 ⊢
   clear hJ hget hdst hend hdep hlate hback hchain hblk hcel hsrc hafter hstore
   go_simp
  ·have hop:o.op=.call { callee:=.builtin .append,args:=#[.tmp 22,.tmp 27],argTypes:=#[28,28] }:=zk hop0 rfl
   obtain⟨v2,g2⟩:=hdep rfl 2 (by decide)
   obtain⟨v7,g7⟩:=hdep rfl 7 (by decide)
   have E22:=evD hd htab hsz 2 22 rfl g2
   have E27:=evD hd htab hsz 7 27 rfl g7
   obtain rfl:v7=_:=hJ.pt 7 v7 _ g7 rfl
   have hz9:V 9=none:=hlate 9 (by simp[depD])
   have hz10:V 10=none:=hlate 10 (by simp[depD])
   obtain⟨v',w',hr,k1,k2,k3⟩:=z0o (P:=Tryz.prog) (ty:=o.type) (t:=28) (by decide) Tryz.underlying28 z4j rfl (hJ.i2 v2 g2 hVi) (hsrc _ (hJ.bel hz10)) (hJ.bel hz10).size (by unfold maxLen;omega) (by omega)
   refine gop ho hg ?_ ⟨_,rfl,hJ.s8 hVi g2 hz9 hz10 rfl (by simpa using k1) k2⟩
   rw[runH hop]
   simp only[execOp,resolve,invoke,builtin,Sem.run_bind,Sem.run_pure,Result.andThen_ok,List.map_toArray,List.map_cons,List.map_nil,E22,E27,hr]
  ·have hop:o.op=.buildSlice 25 1 #[(0,.tmp 28)]:=zk hop0 rfl
   obtain⟨v8,g8⟩:=hdep rfl 8 (by decide)
   have E28:=evT hd htab hsz 8 28 rfl g8
   have hz10:V 10=none:=hlate 10 (by simp[depD])
   obtain⟨oa8,c8,hv8⟩:=zb (hJ.i8 hz10 v8 g8)
   refine gop ho hg ?_ ⟨_,rfl,hJ.s9 hVi g8 hz10 rfl⟩
   subst hv8
   clear hz10
   rw[runH hop]
   generalize actG ops V a0 ops.size=A at E28 ⊢
   clear hJ hget hdst hend hdep hlate hback hchain hblk hcel hsrc hafter hstore
   go_simp
  ·have hop:o.op=.call { callee:=.builtin .append,args:=#[.tmp 21,.tmp 29],argTypes:=#[25,25] }:=zk hop0 rfl
   obtain⟨v1,g1⟩:=hdep rfl 1 (by decide)
   obtain⟨v8,g8⟩:=hdep rfl 8 (by decide)
   obtain⟨v9,g9⟩:=hdep rfl 9 (by decide)
   have E21:=evD hd htab hsz 1 21 rfl g1
   have E29:=evD hd htab hsz 9 29 rfl g9
   obtain rfl:v1=_:=hJ.pt 1 v1 _ g1 rfl
   have hz12:V 12=none:=hlate 12 (by simp[depD])
   obtain⟨bl,v8',g8',rfl,hbl⟩:=hJ.l9 hVi v9 g9
   obtain rfl:v8'=v8:=by rw[g8] at g8';cases g8';rfl
   have hb:=hJ.bel hVi
   have hi8:=hJ.i8 hVi v8' g8
   obtain⟨ys,hy1,hy2⟩:=hsts.below hb
   have hone:v8'.oneCell'=true:=by obtain⟨_,_,rfl⟩:=zb hi8;rfl
   obtain⟨v',w',hr,k1,k2,k3⟩:=z0o (P:=Tryz.prog) (ty:=o.type) (t:=25) (by decide) Tryz.underlying25 z8m rfl hy1 (z7b hbl rfl (by simpa using hone)) (Nat.le_trans hBW hb.size) (by unfold maxLen;omega) (by omega)
   have hk2:=k2
   refine gop ho hg ?_ ⟨_,rfl,hJ.s10 hVi ⟨_,g8⟩ hz12 rfl (hafter _ _ _ _ hb hy1 hy2 hi8 k1 hk2)⟩
   rw[runH hop]
   simp only[execOp,resolve,invoke,builtin,Sem.run_bind,Sem.run_pure,Result.andThen_ok,List.map_toArray,List.map_cons,List.map_nil,E21,E29,hr]
  ·have hop:o.op=.fieldAddr 41 (.tmp 3) 1:=zk hop0 rfl
   have E3:=evP (V:=V) n3 e3
   refine gop ho hg ?_ ⟨_,rfl,hJ.pure hVi rfl (by simp)⟩
   rw[runH hop]
   generalize actG ops V a0 ops.size=A at E3 ⊢
   clear hJ hget hdst hend hdep hlate hback hchain hblk hcel hsrc hafter hstore
   go_simp
  ·have hop:o.op=.store 25 (.tmp 31) (.tmp 30):=zk hop0 rfl
   obtain⟨v8,g8⟩:=hdep rfl 8 (by decide)
   obtain⟨v10,g10⟩:=hdep rfl 10 (by decide)
   obtain⟨v11,g11⟩:=hdep rfl 11 (by decide)
   have E30:=evT hd htab hsz 10 30 rfl g10
   have E31:=evT hd htab hsz 11 31 rfl g11
   obtain rfl:v11=_:=hJ.pt 11 v11 _ g11 rfl
   have ha:=hJ.af v10 g10
   rw[hVi] at ha
   have hO:w7.heap[b]? = some (.cells #[x,.slice ov sts.length cv,z] 41 (0,0)):=ha.o
   obtain⟨o10,c10,rfl⟩:=ha.s.form
   have q1:=za hO 1 rfl
   have y1:=zn hO 1
   refine z4e ho hg (w':=w7.setCell ⟨b,1,none⟩ _) ?_ ⟨_,rfl,hJ.s12 hVi g10 ⟨_,g8⟩ rfl (hstore _ _ ha)⟩
   clear ha hO
   rw[runH hop]
   generalize actG ops V a0 ops.size=A at E30 E31 ⊢
   clear hJ hget hdst hend hdep hlate hback hchain hblk hcel hsrc hafter hstore
   go_simp
 ·intro V w7 hall hJ
  have hall':∀ k,k<13→∃ v,V k=some v:=fun k hk=>Option.isSome_iff_exists.1 (hall k (by omega))
  obtain⟨v10,g10⟩:=hall' 10 (by omega)
  obtain⟨v12,g12⟩:=hall' 12 (by omega)
  have ha:=hJ.af v10 g10
  rw[g12] at ha
  exact hend V w7 v10 hall' ha

end Go.Proofs.YtgebcpkpdbdfoaaGreat

namespace Go.Proofs.YtgebcpkpdbdfoaaGreat
open Go.RowKit P5 P9 P12 P14 P15 K

structure RoomR (w:World) (B:Nat) (ve vs vg:Value) (es:List EvV) (sts:List St):Prop where
 e:EvsR w B ve es
 s:StsR w B vs sts
 g:∃ zs,(∀ u∈zs,u.oneCell'=true)∧w.ownsRow B 4 1 vg es.length zs

theorem RoomR.room {w:World} {B p:Nat} {ve vs vg:Value} {es:List EvV} {sts:List St} (h:RoomR w B ve vs vg es sts) (hp:p<B):RoomM p w ve vs vg es sts:=by
 obtain⟨xs,h1,h2⟩:=h.e.view hp
 obtain⟨ys,h3,h4⟩:=h.s.view hp
 obtain⟨zs,h5,h6⟩:=h.g
 exact⟨xs,ys,zs,h1,h2,h3,h4,z2t (z10 h6 hp) h5⟩

def zkh (w:World) (es:List EvV) (sts:List St) (r:Ending) (w':World):Prop:=∃ ve vs vg,r=.returned (rmv ve vs vg)∧RoomR w' w.heap.size ve vs vg es sts∧Below w.heap.size w w'

set_option maxRecDepth 100000 in
set_option maxHeartbeats 8000000 in
theorem zfy (p:Nat) (ve vs vg:Value) (es:List EvV) (sts:List St) (hinv:RInv es sts) (w:World) (hroom:RoomM p w ve vs vg es sts) :
  Calls Tryz.prog 81 #[rmv ve vs vg] w (zkh w es sts):=by
 obtain⟨xs,ys,zs,hX⟩:=hroom
 obtain⟨oa,ca,rfl,hev⟩:=z7j hX.es_ hX.ex
 obtain⟨so,sc,rfl,hst⟩:=z7k hX.ss_ hX.sx
 have hn40:=hinv.len
 have Df:=hide hinv.eqn
 have hs40:sts.length≤40:=by rw[hinv.eqn];exact hn40
 have Dn:=hide (fun s hs=>(hinv.st s hs).len)
 have Af:=hide hev.un
 have HST:=hide hst.un
 have HG:=hide (hX.gs_.cells (w':=w) (fun a u h=>(z18 h).1))
 obtain⟨W0,hW0⟩:∃ W0,((w.alloc (.cells #[.slice oa es.length ca,.slice so sts.length sc,vg] 41)).alloc (.cells #[.slice none 0 0,.slice none 0 0,.slice none 0 0] 41))=W0:=⟨_,rfl⟩
 have hb0:Below w.heap.size w W0:=by rw[← hW0];exact ((Below.refl w.heap.size w).alloc (Nat.le_refl _) _).alloc (by simp) _
 have hR0:W0.heap[w.heap.size]? = some (.cells #[.slice oa es.length ca,.slice so sts.length sc,vg] 41 (0,0)):=by
  rw[← hW0]
  exact (((Below.refl _ _).alloc (Nat.le_refl _) _:Below (w.alloc (.cells #[.slice oa es.length ca,.slice so sts.length sc,vg] 41)).heap.size _ _).block w.heap.size (by simp)).trans (heap_alloc_new w _)
 have hQ0:W0.heap[w.heap.size+1]? = some (.cells #[.slice none 0 0,.slice none 0 0,.slice none 0 0] 41 (0,0)):=by
  rw[← hW0]
  have:=heap_alloc_new (w.alloc (.cells #[.slice oa es.length ca,.slice so sts.length sc,vg] 41)) (.cells #[.slice none 0 0,.slice none 0 0,.slice none 0 0] 41)
  rw[World.size_alloc] at this
  exact this
 have hs0:W0.heap.size=w.heap.size+2:=by rw[← hW0];simp
 have Al:=hide hR0
 have DK:=hide hQ0
 have HB0:=hide hb0
 have HW0:=hide hW0
 have Ja:=hide hinv.fine
 clear hX hev hst hR0 hQ0 hb0 hW0 hinv
 go_enter Tryz.func81,Tryz.ntmps81
 go_upto_region 1 with fail
 rw[HW0.out]
 clear HW0
 refine zfx (R:=w.heap.size) (oa:=oa) (ca:=ca) (vs:=.slice so sts.length sc) (vg:=vg) (es:=es) (zs:=zs) (by kernel_rfl) (by kernel_rfl) (by kernel_rfl) (by kernel_rfl) (by kernel_rfl) (by kernel_rfl) (by kernel_rfl) (by simp[Act.put]) rfl Ja.out (by omega) ?_ ?_ ?_ ?_
 ·intro wz hz;exact⟨za ((hz.block _ (by omega)).trans Al.out) 0 rfl,za ((hz.block _ (by omega)).trans Al.out) 1 rfl,za ((hz.block _ (by omega)).trans Al.out) 2 rfl⟩
 ·intro wz hz;exact Af.out.below (HB0.out.trans (hz.mono HB0.out.size))
 ·intro wz hz;exact HG.out.below (HB0.out.trans (hz.mono HB0.out.size))
 ·intro V w1 x z b hall g8 hBb hbb hb1 hex hgz
  obtain⟨ox,cx,rfl⟩:=hex.form
  obtain⟨oz,cz,rfl⟩:=zb hgz
  have Ah:=hide hex
  have Dv:=hide hgz
  have BB:=hide hbb
  have HB1:=hide hb1
  obtain⟨v0,g0'⟩:=hall 0 (by omega)
  obtain⟨v1,g1'⟩:=hall 1 (by omega)
  obtain⟨v2,g2'⟩:=hall 2 (by omega)
  obtain⟨v3,g3'⟩:=hall 3 (by omega)
  obtain⟨v4,g4'⟩:=hall 4 (by omega)
  obtain⟨v5,g5'⟩:=hall 5 (by omega)
  obtain⟨v6,g6'⟩:=hall 6 (by omega)
  obtain⟨v7,g7'⟩:=hall 7 (by omega)
  obtain⟨v9,g9'⟩:=hall 9 (by omega)
  simp only[actG,List.size_toArray,List.length_cons,List.length_nil,List.getElem?_toArray,List.getElem?_cons_zero,List.getElem?_cons_succ,g0',g1',g2',g3',g4',g5',g6',g7',g8,g9',Act.put,List.setIfInBounds_toArray,List.set_cons_zero,List.set_cons_succ]
  clear g0' g1' g2' g3' g4' g5' g6' g7' g9'
  clear hall hex hgz hbb hb1
  go_wp2_with fail
  go_loopw [4] (fun i wr=>∃ (j:Nat) (ov:Option Addr) (cv:Nat),i=.int .i64 (j:Int)∧j≤sts.length∧wr.heap[b]? = some (.cells #[.slice ox es.length cx,.slice ov j cv,.slice oz es.length cz] 41 (0,0))∧EvsR wr W0.heap.size (.slice ox es.length cx) es∧wr.ownsRow W0.heap.size 4 1 (.slice oz es.length cz) es.length zs∧StsR wr W0.heap.size (.slice ov j cv) (sts.take j)∧Below W0.heap.size W0 wr) (fun i _=>sts.length - (intOf i).toNat)
  case atStart=>exact⟨0,none,0,rfl,Nat.zero_le _,BB.out,Ah.out,Dv.out,StsR.nil _ _,HB1.out⟩
  case round =>
   obtain⟨j,ov,cv,rfl,hj,hO,hE,hGg,hS,hB⟩:=hrel
   have HO:=hide hO
   have HE:=hide hE
   have Lx:=hide hGg
   have HS:=hide hS
   have HB:=hide hB
   have hsz:=hB.size
   have hbw:=HB0.out.trans (hB.mono HB0.out.size)
   have hRw:=(hB.block w.heap.size (by omega)).trans Al.out
   have r1:=za hRw 1 rfl
   have HRW:=hide hRw
   have Em:=hide ((hB.block (w.heap.size+1) (by omega)).trans DK.out)
   have hbne:w.heap.size≠b:=by omega
   clear BB Ah Dv HB1 hO hE hGg hS hB hRw
   by_cases hlt:j<sts.length
   ·have j0:(j:Int)<(sts.length:Int):=by omega
    obtain⟨s,bb,qq,xa,xc,hs,hidx,hc0,hit⟩:=(HST.out.below hbw).get Tryz.underlying25 z3y j hlt
    have hlj:(sts.take j).length=j:=by rw[List.length_take];omega
    have h16:=Dn.out s (List.mem_of_getElem? hs)
    have AZ:=hide (z4g hs)
    have Mo:=hide (show StsR wr W0.heap.size (.slice ov (sts.take j).length cv) (sts.take j) by rw[hlj];exact HS.out)
    have Mq:=hide (show wr.heap[b]? = some (.cells #[.slice ox es.length cx,.slice ov (sts.take j).length cv,.slice oz es.length cz] 41 (0,0)) by rw[hlj];exact HO.out)
    have LA:=hide hlj
    clear hs hlj
    go_upto_region 5 with fail
    refine zdz (B:=W0.heap.size) (R:=w.heap.size) (b:=b) (j:=j) (w0:=W0) (ve:=.slice oa es.length ca) (vg:=vg) (x:=.slice ox es.length cx) (z:=.slice oz es.length cz) (ov:=ov) (cv:=cv) (so:=so) (sn:=sts.length) (sc:=sc) (es:=es) (zs:=zs) (sts:=sts.take j) (s:=s) (bb:=bb) (qq:=qq) (xa:=xa) (xc:=xc) (by kernel_rfl) (by kernel_rfl) (by kernel_rfl) (by kernel_rfl) (by kernel_rfl) (by kernel_rfl) (by kernel_rfl) (by kernel_rfl) (by kernel_rfl) (by simp) rfl rfl rfl hidx HB.out hsz hBb hbne (by omega) (by rw[LA.out];omega) HRW.out Mq.out hc0 hit HE.out Lx.out Mo.out ?_
    intro V2 w2 u hall2 ha
    obtain⟨ou,cu,hu⟩:=ha.s.form
    rw[z05,LA.out] at hu
    subst hu
    have HA:=hide ha
    obtain⟨v0,g0'⟩:=hall2 0 (by omega)
    obtain⟨v1,g1'⟩:=hall2 1 (by omega)
    obtain⟨v2,g2'⟩:=hall2 2 (by omega)
    obtain⟨v3,g3'⟩:=hall2 3 (by omega)
    obtain⟨v4,g4'⟩:=hall2 4 (by omega)
    obtain⟨v5,g5'⟩:=hall2 5 (by omega)
    obtain⟨v6,g6'⟩:=hall2 6 (by omega)
    obtain⟨v7,g7'⟩:=hall2 7 (by omega)
    obtain⟨v8,g8'⟩:=hall2 8 (by omega)
    obtain⟨v9,g9'⟩:=hall2 9 (by omega)
    obtain⟨v10,g10'⟩:=hall2 10 (by omega)
    obtain⟨v11,g11'⟩:=hall2 11 (by omega)
    obtain⟨v12,g12'⟩:=hall2 12 (by omega)
    simp only[actG,List.size_toArray,List.length_cons,List.length_nil,List.getElem?_toArray,List.getElem?_cons_zero,List.getElem?_cons_succ,g0',g1',g2',g3',g4',g5',g6',g7',g8',g9',g10',g11',g12',Act.put,List.setIfInBounds_toArray,List.set_cons_zero,List.set_cons_succ]
    clear g0' g1' g2' g3' g4' g5' g6' g7' g8' g9' g10' g11' g12'
    clear hall2 ha hc0 hit hidx
    go_wp2_with fail
    go_roundw
    case rel=>exact⟨j+1,ou,cu,by go_num,by omega,HA.out.o,HA.out.e,HA.out.g,by rw[AZ.out];exact HA.out.s,HA.out.bel⟩
    case measure=>simp[intOf];omega
   ·have j0:¬ ((j:Int)<(sts.length:Int)):=by omega
    have hjn:j=sts.length:=by omega
    subst hjn
    have q0:=za HO.out 0 rfl
    have q1:=za HO.out 1 rfl
    have q2:=za HO.out 2 rfl
    have k0:=za Em.out 0 rfl
    have k1:=za Em.out 1 rfl
    have k2:=za Em.out 2 rfl
    have y0:=zn Em.out 0
    have y1:=zn Em.out 1
    have y2:=zn Em.out 2
    go_wp2_with fail
    obtain⟨w9,hw9⟩:∃ w9,(((wr.setCell ⟨w.heap.size+1,0,none⟩ (.slice ox es.length cx)).setCell ⟨w.heap.size+1,1,none⟩ (.slice ov sts.length cv)).setCell ⟨w.heap.size+1,2,none⟩ (.slice oz es.length cz))=w9:=⟨_,rfl⟩
    obtain⟨hr,hg9⟩:=z0c [.slice ox es.length cx,.slice ov sts.length cv,.slice oz es.length cz] wr _ 0 Em.out
    rw[show wr.setCells (w.heap.size+1) 0 [.slice ox es.length cx,.slice ov sts.length cv,.slice oz es.length cz]=w9 from hw9] at hr hg9
    rw[hw9]
    clear q0 q1 q2
    have q0:w9.cell? ⟨w.heap.size+1,0,none⟩=some (.slice ox es.length cx):=za hr 0 rfl
    have q1:w9.cell? ⟨w.heap.size+1,1,none⟩=some (.slice ov sts.length cv):=za hr 1 rfl
    have q2:w9.cell? ⟨w.heap.size+1,2,none⟩=some (.slice oz es.length cz):=za hr 2 rfl
    refine bodyPost_ret (v:=rmv (.slice ox es.length cx) (.slice ov sts.length cv) (.slice oz es.length cz)) (by simp[results,Tryz.results81,go_sem,q0,q1,q2]) rfl ?_
    refine⟨_,_,_,rfl,⟨(HE.out.off hg9 (fun g hg=>by cases hg;exact⟨_,_,_,Em.out,by decide,by decide⟩)).down (by omega),?_,zs,HG.out.one,zq (ze Lx.out hg9 Em.out (by decide)) (by omega)⟩,hbw.grown hg9 hbw.size (fun k hk=>by cases hk;omega)⟩
    have hS9:=HS.out.off hg9 Em.out (by decide) (by decide)
    rw[List.take_length] at hS9
    obtain⟨yy,h1,h2⟩:=hS9
    exact⟨yy,zq h1 (by omega),fun i s hs=>by
     obtain⟨vi,q3,q4⟩:=h2 i s hs
     exact⟨vi,q3,zq q4 (by omega)⟩⟩

end Go.Proofs.YtgebcpkpdbdfoaaGreat

namespace Go.Proofs.YtgebcpkpdbdfoaaGreat.K
open Go

def z5x (ops:Array Oper):Bool:=(List.range ops.size).all fun i=>match ops[i]? with
 | some x=>x.after.all fun e=>!Region.binds .any e||decide (e.on<i)
 | none=>true

theorem zgu {ops:Array Oper} (h:z5x ops=true) {i:Nat} {x:Oper} (hi:ops[i]? = some x):∀ e∈x.after,Region.binds .any e=true→e.on<i:=by
 intro e he hb
 have h1:=(List.all_eq_true.1 h) i (List.mem_range.2 (Array.getElem?_eq_some_iff.1 hi).1)
 simp only[hi] at h1
 have h2:=(Array.all_eq_true_iff_forall_mem.1 h1) e he
 simpa [hb] using h2

section
variable {P:Program} {ops:Array Oper} {Q:Exit→Act→World→Prop} {a0:Act} {J:Gh→World→Prop}

theorem zeu (hd:z2e ops=true) (hl:z5x ops=true)
  (hstep:∀ (i:Nat) (o:Oper) (V:Gh) (w:World),ops[i]? = some o→V i=none→(∀ e∈o.after,Region.binds .any e=true→(V e.on).isSome=true)→Closed ops V→J V w →
   wpOp P ops Q i (fun a' w'=>∃ v,a'=(actG ops V a0 ops.size).put o.dst v∧J (V.set i v) w') (actG ops V a0 ops.size) w)
  (hend:∀ (V:Gh) (w:World),(∀ k,k<ops.size→(V k).isSome=true)→J V w→Q .normal (actG ops V a0 ops.size) w) :
  ∀ (fuel:Nat) (listed:Array Bool) (V:Gh) (w:World),listed.size=ops.size→(∀ k,k<ops.size→listed[k]? = some (V k).isSome)→(List.range ops.size).countP (fun k=>(V k).isNone)≤fuel→Closed ops V→J V w→wpAny P .any ops Q fuel listed (actG ops V a0 ops.size) w:=by
 intro fuel
 induction fuel with
 | zero =>
  intro listed V w hs hk hc hcl hJ
  have hall:∀ k,k<ops.size→(V k).isSome=true:=by
   intro k hk'
   have h0:(List.range ops.size).countP (fun k=>(V k).isNone)=0:=by omega
   have:=List.countP_eq_zero.1 h0 k (List.mem_range.2 hk')
   cases hv:V k with
   | none=>simp[hv] at this
   | some _=>rfl
  refine⟨?_,hend V w hall hJ⟩
  apply List.eq_nil_iff_forall_not_mem.2
  intro j hj
  obtain⟨h1,o,h2,-⟩:=mem_ready.1 hj
  have hj':=(Array.getElem?_eq_some_iff.1 h2).1
  have h3:=hk j hj'
  rw[hall j hj'] at h3
  rw[Array.getD_eq_getD_getElem?,h3] at h1
  cases h1
 | succ fuel ih =>
  intro listed V w hs hk hc hcl hJ
  refine⟨fun hr=>hend V w ?_ hJ,fun i hi=>?_⟩
  ·intro k hk'
   induction k using Nat.strongRecOn with
   | _ k ihk =>
    cases hv:V k with
    | some _=>rfl
    | none =>
     exfalso
     obtain⟨o,ho⟩:∃ o,ops[k]? = some o:=⟨_,Array.getElem?_eq_getElem hk'⟩
     have:k∈Region.ready .any ops listed:=mem_ready.2 ⟨by rw[Array.getD_eq_getD_getElem?,hk k hk',hv];rfl,o,ho,fun e he hb=>by
      have hlt:=zgu hl ho e he hb
      rw[Array.getD_eq_getD_getElem?,hk e.on (by omega),ihk e.on hlt (by omega)]
      rfl⟩
     rw[hr] at this
     cases this
  ·obtain⟨h1,o,h2,h3⟩:=mem_ready.1 hi
   have hi':=(Array.getElem?_eq_some_iff.1 h2).1
   have hVi:V i=none:=by
    rw[Array.getD_eq_getD_getElem?,hk i hi'] at h1
    cases hv:V i with
    | none=>rfl
    | some _=>rw[hv] at h1;cases h1
   have hdp:∀ e∈o.after,Region.binds .any e=true→(V e.on).isSome=true:=fun e he hb=>by
    have h4:=h3 e he hb
    have hlt:=zgu hl h2 e he hb
    rw[Array.getD_eq_getD_getElem?,hk e.on (by omega)] at h4
    exact h4
   refine wpOp_mono ?_ (hstep i o V w h2 hVi hdp hcl hJ)
   ·rintro a' w' ⟨v,rfl,hJ'⟩
    have hmono:∀ k,(V k).isSome=true→(V.set i v k).isSome=true:=fun k hk'=>by
     by_cases e:k=i
     ·subst e;rw[Gh.set_self];rfl
     ·rw[Gh.set_ne V v e];exact hk'
    have hset:=zax (a:=a0) hd h2 hVi v ops.size
    rw[if_pos hi'] at hset
    rw[← hset]
    refine ih _ _ w' (by simpa using hs) (fun k hk'=>?_) ?_ ?_ hJ'
    ·by_cases e:k=i
     ·subst e
      rw[Array.getElem?_setIfInBounds_self_of_lt (by omega),Gh.set_self]
      rfl
     ·rw[Array.getElem?_setIfInBounds_ne (Ne.symm e),Gh.set_ne V v e]
      exact hk k hk'
    ·have hlt:(List.range ops.size).countP (fun k=>(V.set i v k).isNone)<(List.range ops.size).countP (fun k=>(V k).isNone):=by
      refine z7i (i:=i) (List.mem_range.2 hi') (fun k hk1=>?_) ?_ ?_
      ·by_cases e:k=i
       ·subst e;rw[Gh.set_self] at hk1;cases hk1
       ·rw[Gh.set_ne V v e] at hk1;exact hk1
      ·rw[hVi];rfl
      ·rw[Gh.set_self];rfl
     omega
    ·intro k ok hk1 hk2 e he hb
     by_cases hki:k=i
     ·subst hki
      rw[h2] at hk1
      cases hk1
      exact hmono _ (hdp e he hb)
     ·rw[Gh.set_ne V v hki] at hk2
      exact hmono _ (hcl k ok hk1 hk2 e he hb)

theorem z1y {id:Nat} {w:World} (hm:P.follows .mixedOrders=true) (hd:z2e ops=true) (hl:z5x ops=true) (J:Gh→World→Prop) (h0:J (fun _=>none) w.drew)
  (hstep:∀ (i:Nat) (o:Oper) (V:Gh) (w:World),ops[i]? = some o→V i=none→(∀ e∈o.after,Region.binds .any e=true→(V e.on).isSome=true)→Closed ops V→J V w →
   wpOp P ops Q i (fun a' w'=>∃ v,a'=(actG ops V a0 ops.size).put o.dst v∧J (V.set i v) w') (actG ops V a0 ops.size) w)
  (hend:∀ (V:Gh) (w:World),(∀ k,k<ops.size→(V k).isSome=true)→J V w→Q .normal (actG ops V a0 ops.size) w):(Code.region id ops true).wp P Q a0 w:=by
 refine wp_region_any hm ?_
 have h:=zeu (P:=P) (Q:=Q) (a0:=a0) hd hl hstep hend ops.size (Array.replicate ops.size false) (fun _=>none) w.drew (by simp) (fun k hk=>by simp[hk]) (Nat.le_trans (List.countP_le_length) (by simp)) (fun k o _ h=>by cases h) h0
 have hz:∀ n,actG ops (fun _=>none) a0 n=a0:=by
  intro n
  induction n with
  | zero=>rfl
  | succ n ih =>
   simp only[actG]
   cases ops[n]?<;>exact ih
 rw[hz] at h
 exact h

end

end Go.Proofs.YtgebcpkpdbdfoaaGreat.K

namespace Go.Proofs.YtgebcpkpdbdfoaaGreat
open Go.RowKit P5 P9 P12 P14 P15 K

def z96 (len:Nat):Nat:=if 24<6+len / 8 then 24 else 6+len / 8

theorem zfz (a:Option Addr) (len cap:Nat) (hlen:len≤1048576) (w:World) :
  Calls Tryz.prog 118 #[.slice a len cap] w fun e w'=>e=.returned (.int .i64 (z96 len:Int))∧w=w':=by
 unfold z96
 have hd:(len:Int).tdiv 8=(len:Int) / 8:=Int.tdiv_eq_ediv_of_nonneg (by omega)
 by_cases h:24<6+len / 8
 ·have h0:(24:Int)<6+(len:Int) / 8:=by omega
  rw[if_pos h]
  go_enter Tryz.func118,Tryz.ntmps118
  go_wp2_with fail
  go_ret
  exact⟨rfl,rfl⟩
 ·have h0:¬ ((24:Int)<6+(len:Int) / 8):=by omega
  rw[if_neg h]
  go_enter Tryz.func118,Tryz.ntmps118
  go_wp2_with fail
  go_ret
  exact⟨by first|rfl|(congr 2;omega),rfl⟩

structure EvP (es:List EvV) (id:Int) (e:EvV):Prop where
 id_:e.id=id
 sz:evw e≤1000
 first:es=[]→e=⟨id,1,1,0,0,[],[],[],0⟩
 tx:e.text.length≤30
 np:e.prev.length≤3

def ctR (ve vs vg:Value) (p:Nat) (j:Int):Nat→Option Value
 | 0=>some (rmv ve vs vg)
 | 1=>some (.pointer (some ⟨p,0,none⟩))
 | 2=>some (rmv ve vs vg)
 | 3=>some (.int .i64 j)
 | 4=>some (.int .i64 (1+j))
 | _=>none

structure JR (B p:Nat) (a:Option Addr) (len cap:Nat) (W:World) (ct:Nat→Option Value) (es:List EvV) (sts:List St) (id:Int) (V:Gh) (w:World):Prop where
 pt:PT ct V
 cur:CurAt B w p a len cap
 gr:W.grownBy w (some p)
 n5:∀ v,V 5=some v→V 6=none→∃ e vl vp,v=evv e vl vp∧EvP es id e∧w.ownsRow W.heap.size 3 1 vl e.levels.length (e.levels.map zu)∧w.ownsRow W.heap.size 3 1 vp e.prev.length (e.prev.map zu)∧(∀ z∈e.levels,(Lit.int .i64 z).wf=true)∧(∀ z∈e.prev,(Lit.int .i64 z).wf=true)
 a6:∀ v,V 6=some v→∃ e o1 n1 c1 o2 n2 c2 o3 n3 c3,EvP es id e∧v=.tuple #[rmv (.slice o1 n1 c1) (.slice o2 n2 c2) (.slice o3 n3 c3),.bool (z1c es sts e)]∧(z1c es sts e=true→RoomT p w (.slice o1 n1 c1) (.slice o2 n2 c2) (.slice o3 n3 c3) (es++[e]) (sts++[z4o es sts e]))
 m7:∀ v,V 7=some v→V 6=some v
 x8:∀ v,V 8=some v→∃ t,V 6=some (.tuple #[v,t])
 x9:∀ v,V 9=some v→∃ t,V 6=some (.tuple #[t,v])
 b10:∀ v,V 10=some v→∃ b,v=.pointer (some ⟨b,0,none⟩)∧W.heap.size≤b∧∃ cs,w.heap[b]? = some (.cells cs 41 (0,0))∧cs.size=3∧(∀ u∈cs,∀ k n,u≠.int k n)∧(V 11≠none→∃ x y z t,V 6=some (.tuple #[rmv x y z,t])∧cs=#[x,y,z])
 x12:∀ v,V 12=some v→V 9=some v

section
variable {B p:Nat} {a:Option Addr} {len cap:Nat} {W:World} {ct:Nat→Option Value} {es:List EvV} {sts:List St} {id:Int} {V:Gh} {w w':World}

theorem JR.on (h:JR B p a len cap W ct es sts id V w) (hp:p<W.heap.size) (hc:CurAt B w' p a len cap) (hg:w.grownBy w' (some p)):JR B p a len cap W ct es sts id V w':=by
 have hp':p<w.heap.size:=Nat.lt_of_lt_of_le hp h.gr.size
 refine⟨h.pt,hc,zm h.gr hg,fun v h5 h6=>?_,fun v h6=>?_,h.m7,h.x8,h.x9,fun v hv=>?_,h.x12⟩
 ·obtain⟨e,vl,vp,q1,q2,q3,q4,q5⟩:=h.n5 v h5 h6
  exact⟨e,vl,vp,q1,q2,q3.kept hg (z13 q3 hp),q4.kept hg (z13 q4 hp),q5⟩
 ·obtain⟨e,o1,n1,c1,o2,n2,c2,o3,n3,c3,q1,q2,q3⟩:=h.a6 v h6
  exact⟨e,o1,n1,c1,o2,n2,c2,o3,n3,c3,q1,q2,fun hk=>(q3 hk).on (z1t hg hp')⟩
 ·obtain⟨b,q1,q2,cs,q3,q4⟩:=h.b10 v hv
  exact⟨b,q1,q2,cs,(hg.block b (zf q3) (fun e=>by have:=Option.some.inj e;omega)).trans q3,q4⟩

theorem JR.put (h:JR B p a len cap W ct es sts id V w) {i:Nat} {v:Value} (hi:V i=none) (hc:∀ c,ct i=some c→v=c)
  (a5:i=5→V 6=none→∃ e vl vp,v=evv e vl vp∧EvP es id e∧w.ownsRow W.heap.size 3 1 vl e.levels.length (e.levels.map zu)∧w.ownsRow W.heap.size 3 1 vp e.prev.length (e.prev.map zu)∧(∀ z∈e.levels,(Lit.int .i64 z).wf=true)∧(∀ z∈e.prev,(Lit.int .i64 z).wf=true))
  (a6:i=6→∃ e o1 n1 c1 o2 n2 c2 o3 n3 c3,EvP es id e∧v=.tuple #[rmv (.slice o1 n1 c1) (.slice o2 n2 c2) (.slice o3 n3 c3),.bool (z1c es sts e)]∧(z1c es sts e=true→RoomT p w (.slice o1 n1 c1) (.slice o2 n2 c2) (.slice o3 n3 c3) (es++[e]) (sts++[z4o es sts e])))
  (a7:i=7→V 6=some v) (a8:i=8→∃ t,V 6=some (.tuple #[v,t])) (a9:i=9→∃ t,V 6=some (.tuple #[t,v]))
  (a10:i=10→∃ b,v=.pointer (some ⟨b,0,none⟩)∧W.heap.size≤b∧∃ cs,w.heap[b]? = some (.cells cs 41 (0,0))∧cs.size=3∧(∀ u∈cs,∀ k n,u≠.int k n)∧V 11=none)
  (a11:i≠11) (a12:i=12→V 9=some v):JR B p a len cap W ct es sts id (V.set i v) w:=by
 refine⟨h.pt.set hc,h.cur,h.gr,fun u hu h6=>?_,fun u hu=>?_,fun u hu=>?_,fun u hu=>?_,fun u hu=>?_,fun u hu=>?_,fun u hu=>?_⟩
 ·by_cases e:5=i
  ·subst e
   rw[Gh.set_self] at hu
   cases hu
   rw[Gh.set_ne V _ (by decide)] at h6
   exact a5 rfl h6
  ·rw[Gh.set_ne V v e] at hu
   by_cases e6:6=i
   ·subst e6;rw[Gh.set_self] at h6;cases h6
   ·rw[Gh.set_ne V v e6] at h6;exact h.n5 u hu h6
 ·by_cases e:6=i
  ·subst e;rw[Gh.set_self] at hu;cases hu;exact a6 rfl
  ·rw[Gh.set_ne V v e] at hu;exact h.a6 u hu
 ·by_cases e:7=i
  ·subst e;rw[Gh.set_self] at hu;cases hu;exact zx hi (a7 rfl)
  ·rw[Gh.set_ne V v e] at hu;exact zx hi (h.m7 u hu)
 ·by_cases e:8=i
  ·subst e;rw[Gh.set_self] at hu;cases hu;obtain⟨t,ht⟩:=a8 rfl;exact⟨t,zx hi ht⟩
  ·rw[Gh.set_ne V v e] at hu;obtain⟨t,ht⟩:=h.x8 u hu;exact⟨t,zx hi ht⟩
 ·by_cases e:9=i
  ·subst e;rw[Gh.set_self] at hu;cases hu;obtain⟨t,ht⟩:=a9 rfl;exact⟨t,zx hi ht⟩
  ·rw[Gh.set_ne V v e] at hu;obtain⟨t,ht⟩:=h.x9 u hu;exact⟨t,zx hi ht⟩
 ·by_cases e:10=i
  ·subst e
   rw[Gh.set_self] at hu
   cases hu
   obtain⟨b,q1,q2,cs,q3,q4,q5,q6⟩:=a10 rfl
   refine⟨b,q1,q2,cs,q3,q4,q5,fun hn=>?_⟩
   rw[Gh.set_ne V _ (by decide),q6] at hn
   exact absurd rfl hn
  ·rw[Gh.set_ne V v e] at hu
   obtain⟨b,q1,q2,cs,q3,q4,q5,q6⟩:=h.b10 u hu
   refine⟨b,q1,q2,cs,q3,q4,q5,fun hn=>?_⟩
   rw[Gh.set_ne V v (Ne.symm a11)] at hn
   obtain⟨x,y,z,t,r1,r2⟩:=q6 hn
   exact⟨x,y,z,t,zx hi r1,r2⟩
 ·by_cases e:12=i
  ·subst e;rw[Gh.set_self] at hu;cases hu;exact zx hi (a12 rfl)
  ·rw[Gh.set_ne V v e] at hu;exact zx hi (h.x12 u hu)

theorem JR.s11 (h:JR B p a len cap W ct es sts id V w) {x y z t v:Value} {b:Nat} {cs:Array Value} (hp:p<W.heap.size) (hB:B≤W.heap.size) (hi:V 11=none) (h6:V 6=some (.tuple #[rmv x y z,t])) (hct:ct 11=none) (h10:V 10=some (.pointer (some ⟨b,0,none⟩))) (hb:w.heap[b]? = some (.cells cs 41 (0,0))) (hcs:∀ u∈cs,∀ k n,u≠.int k n) (hbW:W.heap.size≤b) (hg:w.grownBy w' (some b)) (hb':w'.heap[b]? = some (.cells #[x,y,z] 41 (0,0))) (hxyz:∀ u∈(#[x,y,z]:Array Value),∀ k n,u≠.int k n):JR B p a len cap W ct es sts id (V.set 11 v) w':=by
 have hlow:Below W.heap.size w w':=(Below.refl _ _).grown hg h.gr.size (fun q hq=>by cases hq;exact hbW)
 refine⟨h.pt.set (fun c hc=>by rw[hct] at hc;cases hc),h.cur.kept (hlow.mono hB) (hlow.block p hp),z02 h.gr hlow,fun u hu h6'=>?_,fun u hu=>?_,fun u hu=>?_,fun u hu=>?_,fun u hu=>?_,fun u hu=>?_,fun u hu=>?_⟩
 ·rw[Gh.set_ne V _ (by decide),h6] at h6';cases h6'
 ·rw[Gh.set_ne V _ (by decide)] at hu
  obtain⟨e,o1,n1,c1,o2,n2,c2,o3,n3,c3,q1,q2,q3⟩:=h.a6 u hu
  exact⟨e,o1,n1,c1,o2,n2,c2,o3,n3,c3,q1,q2,fun hk=>(q3 hk).off hg hb hcs (by omega) (Nat.lt_of_lt_of_le hp h.gr.size)⟩
 ·rw[Gh.set_ne V _ (by decide)] at hu;exact zx hi (h.m7 u hu)
 ·rw[Gh.set_ne V _ (by decide)] at hu;obtain⟨t,ht⟩:=h.x8 u hu;exact⟨t,zx hi ht⟩
 ·rw[Gh.set_ne V _ (by decide)] at hu;obtain⟨t,ht⟩:=h.x9 u hu;exact⟨t,zx hi ht⟩
 ·rw[Gh.set_ne V _ (by decide),h10] at hu
  cases hu
  exact⟨b,rfl,hbW,_,hb',rfl,hxyz,fun _=>⟨x,y,z,t,zx hi h6,rfl⟩⟩
 ·rw[Gh.set_ne V _ (by decide)] at hu;exact zx hi (h.x12 u hu)
end

def tabR:List (Option Tmp × Op):=[(some 17,.load 41 (.tmp 5)),(some 18,.move (.tmp 0)),(some 19,.load 41 (.tmp 5)),(some 20,.move (.tmp 6)),(some 21,.binOp .add 3 (.const (.int .i64 1)) (.tmp 20) 3),(some 22,.call { callee:=.value (.func 79),args:=#[.tmp 18,.tmp 19,.tmp 21],argTypes:=#[72,41,3] }),(some 23,.call { callee:=.value (.func 80),args:=#[.tmp 17,.tmp 22],argTypes:=#[41,47] }),(some 16,.move (.tmp 23)),(some 24,.extract (.tmp 16) 0),(some 25,.extract (.tmp 16) 1),(some 7,.alloc 41),(none,.store 41 (.tmp 7) (.tmp 24)),(some 8,.assign (.tmp 25))]

def depR:List (List Nat):=[[],[],[],[],[3],[1,2,4],[0,5],[6],[7],[7],[],[6,8,10],[6,9,11]]

set_option maxHeartbeats 4000000 in
theorem zg0 {id:Nat} {ops:Array Oper} {Q:Exit→Act→World→Prop} {a0:Act} {W:World} (hm:Tryz.prog.follows .mixedOrders=true) (htab:z1w ops=tabR) (hdp:z4z ops depR=true) (hfree:z6o ops=true) (hd:z2e ops=true) (hl:z5x ops=true) (n0:z16 ops 0=true) (n5:z16 ops 5=true) (n6:z16 ops 6=true)
  {B p R j:Nat} {a:Option Addr} {len cap:Nat} {ve vs vg:Value} {es:List EvV} {sts:List St}
  (hsz:30≤a0.tmps.size) (e0:a0.eval (.tmp 0)=.pointer (some ⟨p,0,none⟩)) (e5:a0.eval (.tmp 5)=.pointer (some ⟨R,0,none⟩)) (e6:a0.eval (.tmp 6)=.int .i64 (j:Int)) (hj:j≤1000)
  (hp:p<W.heap.size) (hB:B≤W.heap.size) (hinv:RInv es sts) (hroom:RoomM p W ve vs vg es sts) (hcur:CurAt B W p a len cap)
  (hroomc:∀ w',W.grownBy w' (some p)→w'.cell? ⟨R,0,none⟩=some ve∧w'.cell? ⟨R,1,none⟩=some vs∧w'.cell? ⟨R,2,none⟩=some vg)
  (hend:∀ (V:Gh) (w':World) (e:EvV) (o1:Option Addr) (n1 c1:Nat) (o2:Option Addr) (n2 c2:Nat) (o3:Option Addr) (n3 c3 b:Nat),(∀ k,k<13→∃ v,V k=some v)→V 12=some (.bool (z1c es sts e))→V 10=some (.pointer (some ⟨b,0,none⟩))→EvP es (1+(j:Int)) e→W.heap.size≤b→w'.heap[b]? = some (.cells #[.slice o1 n1 c1,.slice o2 n2 c2,.slice o3 n3 c3] 41 (0,0))→(z1c es sts e=true→RoomT p w' (.slice o1 n1 c1) (.slice o2 n2 c2) (.slice o3 n3 c3) (es++[e]) (sts++[z4o es sts e]))→CurAt B w' p a len cap→W.grownBy w' (some p)→Q .normal (actG ops V a0 ops.size) w'):(Code.region id ops true).wp Tryz.prog Q a0 W:=by
 have hops:ops.size=13:=by
  have:=congrArg List.length htab
  simpa [z1w,tabR] using this
 have hwr:IntKind.i64.wrap (1+(j:Int))=1+(j:Int):=by rw[IntKind.wrap_i64];omega
 have hget:∀ k (hk:k<13),ops[k]? = some (ops[k]'(by omega)):=fun k hk=>Array.getElem?_eq_getElem (by omega)
 have hdst:∀ k t,(tabR[k]?).map (·.1)=some (some t)→(hk:k<13)→(ops[k]'(by omega)).dst=some t:=fun k t ht hk=>by
  have:=z0v htab (hget k hk)
  rw[this] at ht
  simpa using ht
 refine z1y hm hd hl (JR B p a len cap W (ctR ve vs vg p (j:Int)) es sts (1+(j:Int))) ?_ ?_ ?_
 ·refine⟨(fun k v c h=>by cases h),hcur.kept ((Below.refl B W).drew) rfl,⟨rfl,rfl,rfl,Nat.le_refl _,fun _ _ _=>rfl⟩,(fun v h=>by cases h),(fun v h=>by cases h),(fun v h=>by cases h),(fun v h=>by cases h),(fun v h=>by cases h),(fun v h=>by cases h),(fun v h=>by cases h)⟩
 ·intro i o V w7 ho hVi hdep0 hcl hJ
  have hi:i<13:=by have:=(Array.getElem?_eq_some_iff.1 ho).1;omega
  have hop0:=z0v htab ho
  have hg:=z4f hfree ho
  have hdep:∀ {l:List Nat},depR[i]? = some l→∀ k∈l,∃ v,V k=some v:=fun hl=>z0w hdp ho hdep0 hl
  have hlate:∀ k,i∈(depR[k]?).getD []→V k=none:=fun k hk=>y0n hdp hcl k i hk hVi
  clear hdep0 hcl
  have hcases:i=0∨i=1∨i=2∨i=3∨i=4∨i=5∨i=6∨i=7∨i=8∨i=9∨i=10∨i=11∨i=12:=by omega
  rcases hcases with rfl|rfl|rfl|rfl|rfl|rfl|rfl|rfl|rfl|rfl|rfl|rfl|rfl
  ·have hop:o.op=.load 41 (.tmp 5):=zk hop0 rfl
   have E5:=evP (V:=V) n5 e5
   obtain⟨r0,r1,r2⟩:=hroomc _ hJ.gr
   refine gop ho hg ?_ ⟨_,rfl,hJ.put hVi (fun c hc=>by cases hc;rfl) (fun h _=>by omega) (fun h=>by omega) (fun h=>by omega) (fun h=>by omega) (fun h=>by omega) (fun h=>by omega) (by decide) (fun h=>by omega)⟩
   rw[runH hop]
   generalize actG ops V a0 ops.size=A at E5 ⊢
   clear hJ hget hdst hend hdep hlate hroomc hroom hinv
   go_simp
  ·have hop:o.op=.move (.tmp 0):=zk hop0 rfl
   have E0:=evO (V:=V) n0 e0
   exact gM ho hg hop E0 ⟨_,rfl,hJ.put hVi (fun c hc=>by cases hc;rfl) (fun h _=>by omega) (fun h=>by omega) (fun h=>by omega) (fun h=>by omega) (fun h=>by omega) (fun h=>by omega) (by decide) (fun h=>by omega)⟩
  ·have hop:o.op=.load 41 (.tmp 5):=zk hop0 rfl
   have E5:=evP (V:=V) n5 e5
   obtain⟨r0,r1,r2⟩:=hroomc _ hJ.gr
   refine gop ho hg ?_ ⟨_,rfl,hJ.put hVi (fun c hc=>by cases hc;rfl) (fun h _=>by omega) (fun h=>by omega) (fun h=>by omega) (fun h=>by omega) (fun h=>by omega) (fun h=>by omega) (by decide) (fun h=>by omega)⟩
   rw[runH hop]
   generalize actG ops V a0 ops.size=A at E5 ⊢
   clear hJ hget hdst hend hdep hlate hroomc hroom hinv
   go_simp
  ·have hop:o.op=.move (.tmp 6):=zk hop0 rfl
   have E6:=evO (V:=V) n6 e6
   exact gM ho hg hop E6 ⟨_,rfl,hJ.put hVi (fun c hc=>by cases hc;rfl) (fun h _=>by omega) (fun h=>by omega) (fun h=>by omega) (fun h=>by omega) (fun h=>by omega) (fun h=>by omega) (by decide) (fun h=>by omega)⟩
  ·have hop:o.op=.binOp .add 3 (.const (.int .i64 1)) (.tmp 20) 3:=zk hop0 rfl
   obtain⟨v3,g3⟩:=hdep rfl 3 (by decide)
   have E20:=evT hd htab hsz 3 20 rfl g3
   obtain rfl:v3=_:=hJ.pt 3 v3 _ g3 rfl
   refine gop ho hg ?_ ⟨_,rfl,hJ.put hVi (fun c hc=>by cases hc;rfl) (fun h _=>by omega) (fun h=>by omega) (fun h=>by omega) (fun h=>by omega) (fun h=>by omega) (fun h=>by omega) (by decide) (fun h=>by omega)⟩
   rw[runH hop]
   generalize actG ops V a0 ops.size=A at E20 ⊢
   clear hJ hget hdst hend hdep hlate hroomc hroom hinv
   go_simp
  ·have hop:o.op=.call { callee:=.value (.func 79),args:=#[.tmp 18,.tmp 19,.tmp 21],argTypes:=#[72,41,3] }:=zk hop0 rfl
   obtain⟨v1,g1⟩:=hdep rfl 1 (by decide)
   obtain⟨v2,g2⟩:=hdep rfl 2 (by decide)
   obtain⟨v4,g4⟩:=hdep rfl 4 (by decide)
   have E18:=evT hd htab hsz 1 18 rfl g1
   have E19:=evT hd htab hsz 2 19 rfl g2
   have E21:=evT hd htab hsz 4 21 rfl g4
   obtain rfl:v1=_:=hJ.pt 1 v1 _ g1 rfl
   obtain rfl:v2=_:=hJ.pt 2 v2 _ g2 rfl
   obtain rfl:v4=_:=hJ.pt 4 v4 _ g4 rfl
   have HC:=hide (zfw B p a len cap ve vs vg es sts (1+(j:Int)) hinv w7 (Nat.le_trans hB hJ.gr.size) hJ.cur (hroom.on (z1t hJ.gr hp)))
   have hz6:V 6=none:=hlate 6 (by simp[depR])
   refine z7l ho hg (f:=79) (args:=#[.pointer (some ⟨p,0,none⟩),rmv ve vs vg,.int .i64 (1+(j:Int))]) (w':=w7) ?_ (HC.out.mono ?_)
   ·rw[runH hop]
    generalize actG ops V a0 ops.size=A at E18 E19 E21 ⊢
    clear hJ hget hdst hend hdep hlate hroomc hroom hinv
    clear HC
    go_simp
   ·rintro r w8 ⟨e,vl,vp,rfl,hl,hq,fl,fp,hid,nl,np,tx,hf,hc8,hg8⟩
    refine⟨_,rfl,_,rfl,(hJ.on hp hc8 hg8).put hVi (fun c hc=>by cases hc) (fun _ _=>⟨e,vl,vp,rfl,⟨hid,by unfold evw;omega,hf,tx,np⟩,zq hl hJ.gr.size,zq hq hJ.gr.size,fl,fp⟩) (fun h=>by omega) (fun h=>by omega) (fun h=>by omega) (fun h=>by omega) (fun h=>by omega) (by decide) (fun h=>by omega)⟩
  ·have hop:o.op=.call { callee:=.value (.func 80),args:=#[.tmp 17,.tmp 22],argTypes:=#[41,47] }:=zk hop0 rfl
   obtain⟨v0,g0⟩:=hdep rfl 0 (by decide)
   obtain⟨v5,g5⟩:=hdep rfl 5 (by decide)
   have E17:=evT hd htab hsz 0 17 rfl g0
   have E22:=evT hd htab hsz 5 22 rfl g5
   obtain rfl:v0=_:=hJ.pt 0 v0 _ g0 rfl
   obtain⟨e,vl,vp,rfl,hP,hl,hq,fl,fp⟩:=hJ.n5 v5 g5 hVi
   have hp7:p<w7.heap.size:=Nat.lt_of_lt_of_le hp hJ.gr.size
   obtain⟨xa,xc,hxa,hil⟩:=z0e (z10 hl hp) fl
   obtain⟨ya,yc,hya,hiq⟩:=z0e (z10 hq hp) fp
   subst hxa
   subst hya
   have htx:=hP.tx
   have hnp:=hP.np
   have HC:=hide (zhi p ve vs vg es sts e xa xc ya yc hinv (by omega) (by omega) w7 hp7 (hroom.on (z1t hJ.gr hp)) hil hiq)
   refine z7l ho hg (f:=80) (args:=#[rmv ve vs vg,evv e (.slice xa e.levels.length xc) (.slice ya e.prev.length yc)]) (w':=w7) ?_ (HC.out.mono ?_)
   ·rw[runH hop]
    generalize actG ops V a0 ops.size=A at E17 E22 ⊢
    clear hJ hget hdst hend hdep hlate hroomc hroom hinv
    clear HC hl hq hil hiq fl fp hP
    go_simp
   ·rintro r w8 ⟨x,y,z,rfl,hT,hF,hb8⟩
    have hc8:=hJ.cur.kept (hb8.mono (Nat.le_trans hB hJ.gr.size)) (hb8.block p hp7)
    have hg8:w7.grownBy w8 (some p):=⟨hb8.os,hb8.tape,hb8.output,hb8.size,fun k hk _=>hb8.block k hk⟩
    obtain⟨o1,n1,c1,o2,n2,c2,o3,n3,c3,rfl,rfl,rfl⟩:∃ o1 n1 c1 o2 n2 c2 o3 n3 c3,x=.slice o1 n1 c1∧y=.slice o2 n2 c2∧z=.slice o3 n3 c3:=by
     cases hk:z1c es sts e with
     | false=>obtain⟨h1,h2,h3⟩:=hF hk;exact⟨_,_,_,_,_,_,_,_,_,h1,h2,h3⟩
     | true =>
      obtain⟨⟨_,h1,_⟩,⟨_,h2,_⟩,⟨_,h3,_⟩⟩:=hT hk
      obtain⟨_,_,e1⟩:=zb h1
      obtain⟨_,_,e2⟩:=zb h2
      obtain⟨_,_,e3⟩:=zb h3
      exact⟨_,_,_,_,_,_,_,_,_,e1,e2,e3⟩
    refine⟨_,rfl,_,rfl,(hJ.on hp hc8 hg8).put hVi (fun c hc=>by cases hc) (fun h _=>by omega) (fun _=>⟨e,o1,n1,c1,o2,n2,c2,o3,n3,c3,hP,rfl,hT⟩) (fun h=>by omega) (fun h=>by omega) (fun h=>by omega) (fun h=>by omega) (by decide) (fun h=>by omega)⟩
  ·have hop:o.op=.move (.tmp 23):=zk hop0 rfl
   obtain⟨v6,g6⟩:=hdep rfl 6 (by decide)
   have E23:=evD hd htab hsz 6 23 rfl g6
   exact gM ho hg hop E23 ⟨_,rfl,hJ.put hVi (fun c hc=>by cases hc) (fun h _=>by omega) (fun h=>by omega) (fun _=>g6) (fun h=>by omega) (fun h=>by omega) (fun h=>by omega) (by decide) (fun h=>by omega)⟩
  ·have hop:o.op=.extract (.tmp 16) 0:=zk hop0 rfl
   obtain⟨v7,g7⟩:=hdep rfl 7 (by decide)
   have E16:=evT hd htab hsz 7 16 rfl g7
   obtain⟨e,o1,n1,c1,o2,n2,c2,o3,n3,c3,hP,hv,hT⟩:=hJ.a6 v7 (hJ.m7 v7 g7)
   refine gop ho hg (v:=rmv (.slice o1 n1 c1) (.slice o2 n2 c2) (.slice o3 n3 c3)) ?_ ⟨_,rfl,hJ.put hVi (fun c hc=>by cases hc) (fun h _=>by omega) (fun h=>by omega) (fun h=>by omega) (fun _=>⟨_,by rw[hJ.m7 v7 g7,hv]⟩) (fun h=>by omega) (fun h=>by omega) (by decide) (fun h=>by omega)⟩
   subst hv
   clear hP hT
   rw[runH hop]
   generalize actG ops V a0 ops.size=A at E16 ⊢
   clear hJ hget hdst hend hdep hlate hroomc hroom hinv
   go_simp
  ·have hop:o.op=.extract (.tmp 16) 1:=zk hop0 rfl
   obtain⟨v7,g7⟩:=hdep rfl 7 (by decide)
   have E16:=evT hd htab hsz 7 16 rfl g7
   obtain⟨e,o1,n1,c1,o2,n2,c2,o3,n3,c3,hP,hv,hT⟩:=hJ.a6 v7 (hJ.m7 v7 g7)
   refine gop ho hg (v:=.bool (z1c es sts e)) ?_ ⟨_,rfl,hJ.put hVi (fun c hc=>by cases hc) (fun h _=>by omega) (fun h=>by omega) (fun h=>by omega) (fun h=>by omega) (fun _=>⟨_,by rw[hJ.m7 v7 g7,hv]⟩) (fun h=>by omega) (by decide) (fun h=>by omega)⟩
   subst hv
   clear hP hT
   rw[runH hop]
   generalize actG ops V a0 ops.size=A at E16 ⊢
   clear hJ hget hdst hend hdep hlate hroomc hroom hinv
   go_simp
  ·have hop:o.op=.alloc 41:=zk hop0 rfl
   have hb:Below w7.heap.size w7 (w7.alloc (.cells #[.slice none 0 0,.slice none 0 0,.slice none 0 0] 41)):=(Below.refl _ _).alloc (Nat.le_refl _) _
   have hz11:V 11=none:=hlate 11 (by simp[depR])
   have hp7:p<w7.heap.size:=Nat.lt_of_lt_of_le hp hJ.gr.size
   refine gop ho hg ?_ ⟨.pointer (some ⟨w7.heap.size,0,none⟩),rfl,(hJ.on hp (hJ.cur.kept (hb.mono (Nat.le_trans hB hJ.gr.size)) (hb.block p hp7)) ⟨hb.os,hb.tape,hb.output,hb.size,fun k hk _=>hb.block k hk⟩).put hVi (fun c hc=>by cases hc) (fun h _=>by omega) (fun h=>by omega) (fun h=>by omega) (fun h=>by omega) (fun h=>by omega) (fun _=>⟨_,rfl,hJ.gr.size,_,heap_alloc_new w7 _,rfl,by simp,hz11⟩) (by decide) (fun h=>by omega)⟩
   clear hb hz11 hp7
   rw[runH hop]
   generalize actG ops V a0 ops.size=A
   clear hJ hget hdst hend hdep hlate hroomc hroom hinv
   go_simp
  ·have hop:o.op=.store 41 (.tmp 7) (.tmp 24):=zk hop0 rfl
   obtain⟨v6,g6⟩:=hdep rfl 6 (by decide)
   obtain⟨v8,g8⟩:=hdep rfl 8 (by decide)
   obtain⟨v10,g10⟩:=hdep rfl 10 (by decide)
   have E7:=evT hd htab hsz 10 7 rfl g10
   have E24:=evT hd htab hsz 8 24 rfl g8
   obtain⟨b,rfl,hBb,cs,hb,hcs,hni,-⟩:=hJ.b10 v10 g10
   obtain⟨t,ht⟩:=hJ.x8 v8 g8
   obtain⟨e,o1,n1,c1,o2,n2,c2,o3,n3,c3,hP,hv,hT⟩:=hJ.a6 _ ht
   obtain⟨rfl,rfl⟩:v8=rmv (.slice o1 n1 c1) (.slice o2 n2 c2) (.slice o3 n3 c3)∧t=.bool (z1c es sts e):=by injection hv with h;simpa using h
   obtain⟨hb2,hg2⟩:=z0c [.slice o1 n1 c1,.slice o2 n2 c2,.slice o3 n3 c3] w7 cs 0 hb
   have hb3:(w7.setCells b 0 [.slice o1 n1 c1,.slice o2 n2 c2,.slice o3 n3 c3]).heap[b]? = some (.cells #[.slice o1 n1 c1,.slice o2 n2 c2,.slice o3 n3 c3] 41 (0,0)):=by rw[hb2];congr 2;exact zay hcs
   refine z4e ho hg (w':=w7.setCells b 0 [.slice o1 n1 c1,.slice o2 n2 c2,.slice o3 n3 c3]) ?_ ⟨_,rfl,hJ.s11 hp hB hVi ht rfl g10 hb hni hBb hg2 hb3 (by simp)⟩
   obtain⟨k0,k1,k2⟩:=cells3 hb hcs
   have y0:=zn hb 0
   have y1:=zn hb 1
   have y2:=zn hb 2
   clear hP hT hv ht
   rw[runH hop]
   generalize actG ops V a0 ops.size=A at E7 E24 ⊢
   clear hJ hget hdst hend hdep hlate hroomc hroom hinv
   go_simp
   rfl
  ·have hop:o.op=.assign (.tmp 25):=zk hop0 rfl
   obtain⟨v6,g6⟩:=hdep rfl 6 (by decide)
   obtain⟨v9,g9⟩:=hdep rfl 9 (by decide)
   obtain⟨v11,g11⟩:=hdep rfl 11 (by decide)
   have E25:=evT hd htab hsz 9 25 rfl g9
   refine gop ho hg ?_ ⟨v9,rfl,hJ.put hVi (fun c hc=>by cases hc) (fun h _=>by omega) (fun h=>by omega) (fun h=>by omega) (fun h=>by omega) (fun h=>by omega) (fun h=>by omega) (by decide) (fun _=>g9)⟩
   rw[runH hop]
   generalize actG ops V a0 ops.size=A at E25 ⊢
   clear hJ hget hdst hend hdep hlate hroomc hroom hinv
   go_simp
 ·intro V w7 hall hJ
  have hall':∀ k,k<13→∃ v,V k=some v:=fun k hk=>Option.isSome_iff_exists.1 (hall k (by omega))
  obtain⟨v10,g10⟩:=hall' 10 (by omega)
  obtain⟨v11,g11⟩:=hall' 11 (by omega)
  obtain⟨v12,g12⟩:=hall' 12 (by omega)
  obtain⟨t,ht⟩:=hJ.x9 v12 (hJ.x12 v12 g12)
  obtain⟨e,o1,n1,c1,o2,n2,c2,o3,n3,c3,hP,hv,hT⟩:=hJ.a6 _ ht
  obtain⟨rfl,rfl⟩:t=rmv (.slice o1 n1 c1) (.slice o2 n2 c2) (.slice o3 n3 c3)∧v12=.bool (z1c es sts e):=by injection hv with h;simpa using h
  obtain⟨b,rfl,hBb,cs,hb,hcs,hni,hq⟩:=hJ.b10 v10 g10
  obtain⟨x,y,z,t',r1,rfl⟩:=hq (by rw[g11];simp)
  rw[ht] at r1
  obtain⟨rfl,rfl,rfl⟩:.slice o1 n1 c1=x∧.slice o2 n2 c2=y∧.slice o3 n3 c3=z:=by
   injection r1 with h
   injection h with h
   have h2:(Value.slice o1 n1 c1=x∧Value.slice o2 n2 c2=y∧Value.slice o3 n3 c3=z)∧Value.bool (z1c es sts e)=t':=by simpa [rmv] using h
   exact h2.1
  exact hend V w7 e o1 n1 c1 o2 n2 c2 o3 n3 c3 b hall' g12 g10 hP hBb hb hT hJ.cur hJ.gr

end Go.Proofs.YtgebcpkpdbdfoaaGreat

namespace Go.Proofs.YtgebcpkpdbdfoaaGreat
open Go.RowKit P5 P9 P12 P14 P15 K

inductive Built:List EvV→List St→Prop
 | nil:Built [] []
 | add {es:List EvV} {sts:List St} {e:EvV} (h:Built es sts) (hok:z1c es sts e=true):Built (es++[e]) (sts++[z4o es sts e])

theorem zki:z1c [] [] ⟨1,1,1,0,0,[],[],[],0⟩=true:=by decide

structure zle (es:List EvV) (sts:List St):Prop where
 inv:RInv es sts
 built:Built es sts
 some_:es≠[]
 ids:∀ e∈es,e.id≤24

theorem RoomR.off {w w':World} {B:Nat} {ve vs vg:Value} {es:List EvV} {sts:List St} (h:RoomR w B ve vs vg es sts) {g:Nat} {cs:Array Value} (hg:w.grownBy w' (some g)) (hb:w.heap[g]? = some (.cells cs 41 (0,0))):RoomR w' B ve vs vg es sts:=by
 obtain⟨h1,h2,zs,h3,h4⟩:=h
 exact⟨h1.off hg (fun q hq=>by cases hq;exact⟨_,_,_,hb,by decide,by decide⟩),h2.off hg hb (by decide) (by decide),zs,h3,ze h4 hg hb (by decide)⟩

theorem RoomR.down {w:World} {B B':Nat} {ve vs vg:Value} {es:List EvV} {sts:List St} (h:RoomR w B ve vs vg es sts) (hb:B'≤B):RoomR w B' ve vs vg es sts:=by
 obtain⟨h1,⟨ys,h2,h2'⟩,zs,h3,h4⟩:=h
 exact⟨h1.down hb,⟨ys,zq h2 hb,fun i s hs=>by
  obtain⟨vi,q1,q2⟩:=h2' i s hs
  exact⟨vi,q1,zq q2 hb⟩⟩,zs,h3,zq h4 hb⟩

theorem RoomR.below {w w':World} {B:Nat} {ve vs vg:Value} {es:List EvV} {sts:List St} (h:RoomR w B ve vs vg es sts) (hb:Below w.heap.size w w'):RoomR w' B ve vs vg es sts:=by
 obtain⟨h1,h2,zs,h3,h4⟩:=h
 exact⟨h1.below hb,h2.below hb,zs,h3,own_below h4 hb⟩

theorem RoomR.form {w:World} {B:Nat} {ve vs vg:Value} {es:List EvV} {sts:List St} (h:RoomR w B ve vs vg es sts):∃ o1 c1 o2 c2 o3 c3,ve=.slice o1 es.length c1∧vs=.slice o2 sts.length c2∧vg=.slice o3 es.length c3:=by
 obtain⟨_,_,h1⟩:=h.e.form
 obtain⟨_,_,h2⟩:=h.s.form
 obtain⟨_,_,h3⟩:=h.g
 obtain⟨_,_,h4⟩:=zb h3
 exact⟨_,_,_,_,_,_,h1,h2,h4⟩

def zkj (B p:Nat) (a:Option Addr) (len cap:Nat) (w:World) (r:Ending) (w':World):Prop :=
 ∃ ve vs vg es sts,r=.returned (rmv ve vs vg)∧RoomR w' w.heap.size ve vs vg es sts∧zle es sts∧CurAt B w' p a len cap∧w.grownBy w' (some p)

set_option maxRecDepth 100000 in
set_option maxHeartbeats 8000000 in
theorem zg1 (B p:Nat) (a:Option Addr) (len cap:Nat) (hlen:len≤1048576) (w:World) (hB:B≤w.heap.size) (hc:CurAt B w p a len cap) :
  Calls Tryz.prog 65 #[.pointer (some ⟨p,0,none⟩),.slice a len cap] w (zkj B p a len cap w):=by
 have hpw:=hc.lt
 have KA:=hide (fun w=>zfz a len cap hlen w)
 have hN24:z96 len≤24:=by unfold z96;split<;>omega
 have hN1:1≤z96 len:=by unfold z96;split<;>omega
 generalize z96 len=N at KA hN24 hN1
 obtain⟨W0,hW0⟩:∃ W0,((w.alloc (.cells #[.slice none 0 0,.slice none 0 0,.slice none 0 0] 41)).alloc (.cells #[.slice none 0 0,.slice none 0 0,.slice none 0 0] 41))=W0:=⟨_,rfl⟩
 have hb0:Below w.heap.size w W0:=by rw[← hW0];exact ((Below.refl w.heap.size w).alloc (Nat.le_refl _) _).alloc (by simp) _
 have hQ0:W0.heap[w.heap.size]? = some (.cells #[.slice none 0 0,.slice none 0 0,.slice none 0 0] 41 (0,0)):=by
  rw[← hW0]
  exact (((Below.refl _ _).alloc (Nat.le_refl _) _:Below (w.alloc (.cells #[.slice none 0 0,.slice none 0 0,.slice none 0 0] 41)).heap.size _ _).block w.heap.size (by simp)).trans (heap_alloc_new w _)
 have hR0:W0.heap[w.heap.size+1]? = some (.cells #[.slice none 0 0,.slice none 0 0,.slice none 0 0] 41 (0,0)):=by
  rw[← hW0]
  have:=heap_alloc_new (w.alloc (.cells #[.slice none 0 0,.slice none 0 0,.slice none 0 0] 41)) (.cells #[.slice none 0 0,.slice none 0 0,.slice none 0 0] 41)
  rw[World.size_alloc] at this
  exact this
 have DK:=hide hQ0
 have Al:=hide hR0
 have Cr:=hide (hc.kept (hb0.mono hB) (hb0.block p hpw))
 have Jd:=hide (show w.grownBy W0 (some p) from ⟨hb0.os,hb0.tape,hb0.output,hb0.size,fun k hk _=>hb0.block k hk⟩)
 have HW0:=hide hW0
 clear hQ0 hR0 hb0 hW0 hc
 go_enter Tryz.func65,Tryz.ntmps65
 go_wp2_with fail
 rw[HW0.out]
 clear HW0
 go_loopw [6] (fun i wr=>∃ (j:Nat) (o1:Option Addr) (n1 c1:Nat) (o2:Option Addr) (n2 c2:Nat) (o3:Option Addr) (n3 c3:Nat) (es:List EvV) (sts:List St),i=.int .i64 (j:Int)∧j≤N∧wr.heap[w.heap.size+1]? = some (.cells #[.slice o1 n1 c1,.slice o2 n2 c2,.slice o3 n3 c3] 41 (0,0))∧wr.heap[w.heap.size]? = some (.cells #[.slice none 0 0,.slice none 0 0,.slice none 0 0] 41 (0,0))∧RoomT p wr (.slice o1 n1 c1) (.slice o2 n2 c2) (.slice o3 n3 c3) es sts∧RInv es sts∧Built es sts∧(0<j→es≠[])∧(∀ e∈es,e.id≤(j:Int))∧CurAt B wr p a len cap∧w.grownBy wr (some p)) (fun i _=>N - (intOf i).toNat)
 case atStart=>exact⟨0,_,_,_,_,_,_,_,_,_,[],[],rfl,Nat.zero_le _,Al.out,DK.out,RoomT.nil p W0,RInv.nil,Built.nil,(fun h=>absurd h (by omega)),(fun e he=>by simp at he),Cr.out,Jd.out⟩
 case round =>
  obtain⟨j,o1,n1,c1,o2,n2,c2,o3,n3,c3,es,sts,rfl,hj,hR,hQ,hT,hI,hBu,hne,hids,hcu,hgr⟩:=hrel
  have HR:=hide hR
  have HQ:=hide hQ
  have HT:=hide hT
  have HI:=hide hI
  have KC:=hide hBu
  have Ab:=hide hne
  have Dw:=hide hids
  have DJ:=hide hcu
  have CL:=hide hgr
  have hsz:=hgr.size
  have hlR:=zf hR
  clear hR hQ hT hI hBu hne hids hcu hgr Al DK Cr Jd
  by_cases hlt:j<N
  ·have j0:(j:Int)<(N:Int):=by omega
   go_upto_region 5 with (go_at_call 118;(with_reducible refine (KA.out _).mono ?_);rintro r w1 ⟨rfl,rfl⟩)
   refine zg0 (B:=B) (p:=p) (R:=w.heap.size+1) (j:=j) (a:=a) (len:=len) (cap:=cap) (ve:=.slice o1 n1 c1) (vs:=.slice o2 n2 c2) (vg:=.slice o3 n3 c3) (es:=es) (sts:=sts) (by kernel_rfl) (by kernel_rfl) (by kernel_rfl) (by kernel_rfl) (by kernel_rfl) (by kernel_rfl) (by kernel_rfl) (by kernel_rfl) (by kernel_rfl) (by simp) rfl rfl rfl (by omega) (by omega) (by omega) HI.out HT.out.room DJ.out ?_ ?_
   ·intro wz hz
    have hh:=(hz.block (w.heap.size+1) hlR (fun q=>by have:=Option.some.inj q;omega)).trans HR.out
    exact⟨za hh 0 rfl,za hh 1 rfl,za hh 2 rfl⟩
   ·intro V w2 e p1 m1 d1 p2 m2 d2 p3 m3 d3 b hall g12 g10 hP hBb hbb hT2 hc2 hg2
    have HP:=hide hP
    have BB:=hide hbb
    have HT2:=hide hT2
    have Gx:=hide hc2
    have HG2:=hide hg2
    have HR2:=hide ((hg2.block (w.heap.size+1) hlR (fun q=>by have:=Option.some.inj q;omega)).trans HR.out)
    have ES:=hide ((hg2.block w.heap.size (by omega) (fun q=>by have:=Option.some.inj q;omega)).trans HQ.out)
    obtain⟨v0,g0'⟩:=hall 0 (by omega)
    obtain⟨v1,g1'⟩:=hall 1 (by omega)
    obtain⟨v2,g2'⟩:=hall 2 (by omega)
    obtain⟨v3,g3'⟩:=hall 3 (by omega)
    obtain⟨v4,g4'⟩:=hall 4 (by omega)
    obtain⟨v5,g5'⟩:=hall 5 (by omega)
    obtain⟨v6,g6'⟩:=hall 6 (by omega)
    obtain⟨v7,g7'⟩:=hall 7 (by omega)
    obtain⟨v8,g8'⟩:=hall 8 (by omega)
    obtain⟨v9,g9'⟩:=hall 9 (by omega)
    obtain⟨v11,g11'⟩:=hall 11 (by omega)
    simp only[actG,List.size_toArray,List.length_cons,List.length_nil,List.getElem?_toArray,List.getElem?_cons_zero,List.getElem?_cons_succ,g0',g1',g2',g3',g4',g5',g6',g7',g8',g9',g10,g11',g12,Act.put,List.setIfInBounds_toArray,List.set_cons_zero,List.set_cons_succ]
    clear g0' g1' g2' g3' g4' g5' g6' g7' g8' g9' g11'
    clear hall hP hbb hT2 hc2 hg2
    cases hok:z1c es sts e
    ·rw[hok] at g12
     go_wp2_with fail
     go_roundw
     case rel=>exact⟨j+1,_,_,_,_,_,_,_,_,_,es,sts,by go_num,by omega,HR2.out,ES.out,HT.out.on (z1t HG2.out (by omega)),HI.out,KC.out,(fun _ hE=>by
      subst hE
      have hs:sts=[]:=List.eq_nil_of_length_eq_zero (by have:=HI.out.eqn;simpa using this)
      subst hs
      have hj0:j=0:=by
       rcases Nat.eq_zero_or_pos j with h|h
       ·exact h
       ·exact absurd rfl (Ab.out h)
      subst hj0
      have he:=HP.out.first rfl
      rw[he] at hok
      rw[show ((1:Int)+((0:Nat):Int))=1 from rfl,zki] at hok
      cases hok),(fun x hx=>by have:=Dw.out x hx;omega),Gx.out,zm CL.out HG2.out⟩
     case measure=>simp[intOf];omega
    ·rw[hok] at g12
     have hT3:=HT2.out hok
     have m0:=za BB.out 0 rfl
     have m1':=za BB.out 1 rfl
     have m2':=za BB.out 2 rfl
     have q0:=za HR2.out 0 rfl
     have q1:=za HR2.out 1 rfl
     have q2:=za HR2.out 2 rfl
     have y0:=zn HR2.out 0
     have y1:=zn HR2.out 1
     have y2:=zn HR2.out 2
     have HT3:=hide hT3
     clear hT3
     go_wp2_with fail
     obtain⟨w9,hw9⟩:∃ w9,(((w2.setCell ⟨w.heap.size+1,0,none⟩ (.slice p1 m1 d1)).setCell ⟨w.heap.size+1,1,none⟩ (.slice p2 m2 d2)).setCell ⟨w.heap.size+1,2,none⟩ (.slice p3 m3 d3))=w9:=⟨_,rfl⟩
     obtain⟨hr,hg9⟩:=z0c [.slice p1 m1 d1,.slice p2 m2 d2,.slice p3 m3 d3] w2 _ 0 HR2.out
     rw[show w2.setCells (w.heap.size+1) 0 [.slice p1 m1 d1,.slice p2 m2 d2,.slice p3 m3 d3]=w9 from hw9] at hr hg9
     rw[hw9]
     have hr9:w9.heap[w.heap.size+1]? = some (.cells #[.slice p1 m1 d1,.slice p2 m2 d2,.slice p3 m3 d3] 41 (0,0)):=hr
     have hlow:Below (w.heap.size+1) w2 w9:=(Below.refl _ _).grown hg9 (by have:=HG2.out.size;omega) (fun k hk=>by cases hk;omega)
     have Mr:=hide (HT3.out.off hg9 HR2.out (by simp) (by omega) (by have:=HG2.out.size;omega))
     have Ms:=hide (Gx.out.kept (hlow.mono (by omega)) (hlow.block p (by omega)))
     have Mt:=hide (z02 (zm CL.out HG2.out) (hlow.mono (by omega)))
     have Mv:=hide ((hlow.block w.heap.size (by omega)).trans ES.out)
     have Mw:=hide hr9
     clear q0 q1 q2 y0 y1 y2 m0 m1' m2' hr hr9 hg9 hw9 hlow HT3
     go_roundw
     case rel=>exact⟨j+1,_,_,_,_,_,_,_,_,_,es++[e],sts++[z4o es sts e],by go_num,by omega,Mw.out,Mv.out,Mr.out,HI.out.add hok HP.out.sz,Built.add KC.out hok,(fun _=>by simp),fun x hx=>by
      rcases List.mem_append.1 hx with hx|hx
      ·have:=Dw.out x hx;omega
      ·simp at hx;subst hx;have:=HP.out.id_;omega,Ms.out,Mt.out⟩
     case measure=>simp[intOf];omega
  ·have j0:¬ ((j:Int)<(N:Int)):=by omega
   have r0:=za HR.out 0 rfl
   have r1:=za HR.out 1 rfl
   have r2:=za HR.out 2 rfl
   have Mx:=hide (zfy p _ _ _ es sts HI.out wr HT.out.room)
   go_upto_region 8 with (go_at_call 118;(with_reducible refine (KA.out _).mono ?_);rintro r w1 ⟨rfl,rfl⟩)
   go_wp2_with fail
   refine Mx.out.mono ?_
   rintro r w2 ⟨xe,xs,xg,rfl,hrr,hb2⟩
   obtain⟨p1,d1,p2,d2,p3,d3,rfl,rfl,rfl⟩:=hrr.form
   have hQ2:=(hb2.block w.heap.size (by omega)).trans HQ.out
   have q0:=za hQ2 0 rfl
   have q1:=za hQ2 1 rfl
   have q2:=za hQ2 2 rfl
   have y0:=zn hQ2 0
   have y1:=zn hQ2 1
   have y2:=zn hQ2 2
   have ES:=hide hQ2
   have HRR:=hide hrr
   have HB2:=hide hb2
   clear hQ2 hrr hb2
   go_wp2_with fail
   obtain⟨w9,hw9⟩:∃ w9,(((w2.setCell ⟨w.heap.size,0,none⟩ (.slice p1 es.length d1)).setCell ⟨w.heap.size,1,none⟩ (.slice p2 sts.length d2)).setCell ⟨w.heap.size,2,none⟩ (.slice p3 es.length d3))=w9:=⟨_,rfl⟩
   obtain⟨hr,hg9⟩:=z0c [.slice p1 es.length d1,.slice p2 sts.length d2,.slice p3 es.length d3] w2 _ 0 ES.out
   rw[show w2.setCells w.heap.size 0 [.slice p1 es.length d1,.slice p2 sts.length d2,.slice p3 es.length d3]=w9 from hw9] at hr hg9
   rw[hw9]
   clear q0 q1 q2
   have q0:w9.cell? ⟨w.heap.size,0,none⟩=some (.slice p1 es.length d1):=za hr 0 rfl
   have q1:w9.cell? ⟨w.heap.size,1,none⟩=some (.slice p2 sts.length d2):=za hr 1 rfl
   have q2:w9.cell? ⟨w.heap.size,2,none⟩=some (.slice p3 es.length d3):=za hr 2 rfl
   refine bodyPost_ret (v:=rmv (.slice p1 es.length d1) (.slice p2 sts.length d2) (.slice p3 es.length d3)) (by simp[results,Tryz.results65,go_sem,q0,q1,q2]) rfl ?_
   have hlow:Below w.heap.size wr w9:=(HB2.out.mono hsz).grown hg9 (Nat.le_trans hsz HB2.out.size) (fun k hk=>by cases hk;omega)
   exact⟨_,_,_,es,sts,rfl,(HRR.out.off hg9 ES.out).down hsz,⟨HI.out,KC.out,Ab.out (by omega),fun x hx=>by have:=Dw.out x hx;omega⟩,DJ.out.kept (hlow.mono hB) (hlow.block p hpw),z02 CL.out hlow⟩

end Go.Proofs.YtgebcpkpdbdfoaaGreat
