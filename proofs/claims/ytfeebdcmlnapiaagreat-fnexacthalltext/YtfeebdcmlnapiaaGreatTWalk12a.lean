/-
  Walks.
-/
import Derived.Test.YtfeebdcmlnapiaaGreatTWalk11b
import Derived.Test.YtfeebdcmlnapiaaGreatTVTab
open Go.Value renaming int->J
open Go.IntKind renaming i64->Y
set_option maxRecDepth 100000
set_option maxHeartbeats 8000000
set_option linter.unusedVariables false
set_option linter.unusedSimpArgs false
namespace Go.Proofs.YtfeebdcmlnapiaaGreat
open Go.RowKit P1 P5 P9 P11 P12 P14 P15 K
abbrev rmv (ve vs vg:Value):Value:=.agg #[ve,vs,vg]

def z2a (id:Int):List EvV→Nat→Int
 | [],_=>-1
 | e::r,j=>if e.id=id then (j:Int) else z2a id r (j+1)

def hasI (es:List EvV) (id:Int):Int:=z2a id es 0

theorem zic {es:List EvV} {j:Nat} {e:EvV} (id:Int) (h:es[j]? = some e):z2a id (es.drop j) j=if e.id=id then (j:Int) else z2a id (es.drop (j+1)) (j+1):=by
 obtain⟨hj,rfl⟩:=zGi.1 h
 rw[List.drop_eq_getElem_cons hj]
 rfl

theorem z6t {id:Int}:∀ (es:List EvV) (j:Nat),match zf es id with|none=>z2a id es j = -1|some e=>∃ k:Nat,z2a id es j=((j+k:Nat):Int)∧es[k]? = some e
 | [],j=>by simp[zf,z2a]
 | x::r,j=>by
  unfold zf z2a
  by_cases h:x.id=id
  ·rw[if_pos h,if_pos h]
   exact⟨0,by simp,rfl⟩
  ·rw[if_neg h,if_neg h]
   have ih:=z6t (id:=id) r (j+1)
   cases hf:zf r id with
   | none=>rw[hf] at ih;exact ih
   | some e =>
    rw[hf] at ih
    obtain⟨k,h1,h2⟩:=ih
    exact⟨k+1,by rw[h1];congr 1;omega,by simpa using h2⟩

theorem z7q {es:List EvV} {id:Int} (h:zf es id=none):hasI es id = -1:=by
 have:=z6t (id:=id) es 0
 rw[h] at this
 exact this

theorem z5g {es:List EvV} {id:Int} {e:EvV} (h:zf es id=some e):∃ k:Nat,hasI es id=(k:Int)∧es[k]? = some e:=by
 have:=z6t (id:=id) es 0
 rw[h] at this
 obtain⟨k,h1,h2⟩:=this
 exact⟨k,by rw[Nat.zero_add] at h1;exact h1,h2⟩

theorem z8z (oa:Zoa) (n cap:Nat) (es:List EvV) (vs vg:Value) (id:Int) (w:World) (hat:EvsAt w oa n cap es) :
  Calls Tryz.prog 71 #[rmv (.slice oa n cap) vs vg,J Y id] w fun r w'=>r=.returned (J Y (hasI es id))∧Bw w w':=by
 have hmx:=zNt hat.room hat.most
 unfold maxLen at hmx
 have HN:=ZZ hat.len
 have HAT:=ZZ hat
 obtain⟨W0,hW0⟩:∃ W0,w.alloc (.cells #[.slice oa n cap,vs,vg] 32)=W0:=⟨_,rfl⟩
 have hb0:Bw w W0:=by rw[← hW0];exact (Below.refl w.heap.size w).alloc zLe _
 have hR0:W0.heap[w.heap.size]? = some (.cells #[.slice oa n cap,vs,vg] 32 (0,0)):=by rw[← hW0];exact heap_alloc_new _ _
 have r0:=zb hR0 0 rfl
 have hlr:=ze hR0
 have HB0:=ZZ hb0
 have Au:=ZZ (hat.below hb0)
 have HW0:=ZZ hW0
 clear hat hR0 hW0 hb0
 go_enter Tryz.func71,Tryz.ntmps71
 go_wp2_with fail
 rw[HW0.o]
 go_loop [5] (fun i=>∃ (j:Nat),i=J Y (j:Int)∧j≤n∧z2a id (es.drop j) j=hasI es id) (fun i=>n - (intOf i).toNat)
 case atStart=>exact⟨0,rfl,Nat.zero_le _,rfl⟩
 case round =>
  obtain⟨j,rfl,hj,hrest⟩:=hrel
  by_cases hlt:j<n
  ·have j0:(j:Int)<(n:Int):=by omega
   obtain⟨e,b,q,xa,xc,ya,yc,he,hidx,hev⟩:=Au.o.get Tryz.underlying29 z2t j hlt
   obtain⟨c0,c1,c2,c3,c4,c5,c6,c7,c8⟩:=hev.cs
   rw[zic id he] at hrest
   clear hev he c1 c2 c3 c4 c5 c6 c7 c8
   by_cases hk:e.id=id
   ·have g:(e.id==id)=true:=by simpa using hk
    rw[if_pos hk] at hrest
    have HE:=ZZ hrest
    clear hrest hk
    go_wp2_with fail
    go_ret
    exact⟨by rw[← HE.o];rfl,HB0.o⟩
   ·have g:(e.id==id)=false:=by simpa using hk
    rw[if_neg hk] at hrest
    have HE:=ZZ hrest
    clear hrest hk
    go_wp2_with fail
    go_round
    case rel=>exact⟨j+1,by go_num,by omega,HE.o⟩
    case measure=>simp[intOf];omega
  ·have hjn:es.drop j=[]:=List.drop_eq_nil_of_le (by rw[HN.o];omega)
   rw[hjn] at hrest
   have HE:=ZZ (show (-1:Int)=hasI es id from hrest)
   clear hrest hjn
   go_wp2_with fail
   go_ret
   exact⟨by rw[← HE.o];rfl,HB0.o⟩

def z2c (es:List EvV) (m z:Int):Int:=match zf es z with|none=>m|some e=>if m<e.depth then e.depth else m

def z4o (es:List EvV) (prev:Zin) (m:Int):Int:=prev.foldl (z2c es) m

def z4a (es:List EvV) (prev:Zin):Int:=if 1000000<z4o es prev (-1) then 1000001 else z4o es prev (-1)+1

theorem zlx {es:List EvV} {zs:Zin} {j:Nat} {z:Int} (m:Int) (h:zs[j]? = some z):z4o es (zs.drop j) m=z4o es (zs.drop (j+1)) (z2c es m z):=by
 obtain⟨hj,rfl⟩:=zGi.1 h
 rw[List.drop_eq_getElem_cons hj]
 rfl

theorem zet {es:List EvV}:∀ (zs:Zin) (m:Int),m≤z4o es zs m
 | [],m=>Int.le_refl _
 | z::r,m=>by
  have h1:=zet (es:=es) r (z2c es m z)
  have h2:m≤z2c es m z:=by
   unfold z2c
   split
   ·exact Int.le_refl _
   ·split<;>omega
  exact Int.le_trans h2 h1

theorem zeu {es:List EvV} {m z:Int} (h:zf es z=none):z2c es m z=m:=by unfold z2c;rw[h]

theorem zg7 {es:List EvV} {m z:Int} {e:EvV} (h:zf es z=some e) (hd:m<e.depth):z2c es m z=e.depth:=by unfold z2c;rw[h];exact if_pos hd

theorem zid {es:List EvV} {m z:Int} {e:EvV} (h:zf es z=some e) (hd:¬ m<e.depth):z2c es m z=m:=by unfold z2c;rw[h];exact if_neg hd

theorem zbd (oa:Zoa) (n cap:Nat) (es:List EvV) (vs vg:Value) (oc:Zoa) (p cc:Nat) (prev:Zin) (w:World) (hat:EvsAt w oa n cap es) (hpt:IntsAt w oc p cc prev) :
  Calls Tryz.prog 72 #[rmv (.slice oa n cap) vs vg,.slice oc p cc] w fun r w'=>r=.returned (J Y (z4a es prev))∧Bw w w':=by
 have hmx:=zNt hpt.room hpt.most
 unfold maxLen at hmx
 have HN:=ZZ hat.len
 have Cn:=ZZ hpt.len
 have Dz:=ZZ hpt
 have HAT:=ZZ hat
 obtain⟨W0,hW0⟩:∃ W0,w.alloc (.cells #[.slice oa n cap,vs,vg] 32)=W0:=⟨_,rfl⟩
 have hb0:Bw w W0:=by rw[← hW0];exact (Below.refl w.heap.size w).alloc zLe _
 have hR0:W0.heap[w.heap.size]? = some (.cells #[.slice oa n cap,vs,vg] 32 (0,0)):=by rw[← hW0];exact heap_alloc_new _ _
 have Ad:=ZZ hR0
 have HB0:=ZZ hb0
 have HW0:=ZZ hW0
 have HH:=ZZ (fun (z:Int) w1 (h:EvsAt w1 oa n cap es)=>z8z oa n cap es vs vg z w1 h)
 obtain⟨D,hD⟩:∃ D,z4o es prev (-1)=D:=⟨_,rfl⟩
 have HD:=ZZ hD
 clear hat hR0 hW0 hb0 hpt hD
 go_enter Tryz.func72,Tryz.ntmps72
 go_wp2_with fail
 rw[HW0.o]
 go_loopw [5,6] (fun v i wr=>∃ (j:Nat) (M:Int),i=J Y (j:Int)∧v=J Y M∧j≤p∧z4o es (prev.drop j) M=D∧Bw W0 wr) (fun _ i _=>p - (intOf i).toNat)
 case atStart=>exact⟨0,-1,rfl,rfl,Nat.zero_le _,HD.o,zBr⟩
 case round =>
  obtain⟨j,M,rfl,rfl,hj,hrest,hbel⟩:=hrel
  have hsz:=hbel.size
  have hRr:=(hbel.block w.heap.size (ze Ad.o)).trans Ad.o
  have r0:=zb hRr 0 rfl
  have r1:=zb hRr 1 rfl
  have r2:=zb hRr 2 rfl
  have hlr:=ze hRr
  have hbW:Bw w wr:=zTr HB0.o hbel
  have A8:=ZZ (HAT.o.below hbW)
  clear hRr
  by_cases hlt:j<p
  ·have j0:(j:Int)<(p:Int):=by omega
   obtain⟨z,b,q,hz,hidx,hb,c0w,hwz⟩:=Dz.o.get Tryz.underlying60 z0f j hlt
   have c0:=(hbW.cell hb).trans c0w
   have hbr:=zLt hb hbW.size
   have Bf:=ZZ (HH.o z)
   rw[zlx M hz] at hrest
   have A7:=ZZ hrest
   clear hrest hz c0w
   cases hf:zf es z with
   | none =>
    have HE:=ZZ (show z4o es (prev.drop (j+1)) M=D by rw[← A7.o,zeu hf])
    rw[z7q hf] at Bf
    clear A7 hf
    go_wp2_with fail
    refine zn (F:=Bw wr) (by kernel_rfl) (by kernel_rfl) zBr.drew ?_
    have hne:Nonempty (InW (Bw wr)):=⟨⟨_,zBr⟩⟩
    have k0:=ciW r0
    have k1:=ciW r1
    have k2:=ciW r2
    have k3:=ciW c0
    repeat (go_big_quiet_step (first
     | (go_at_call 71;(with_reducible refine (Bf.o _ (A8.o.below (InW.h (F:=Bw wr) _))).mono ?_);rintro e' w2 ⟨rfl,hb2⟩;exact⟨rfl,iwW hb2,rfl⟩)))
    refine wpQuiet_nil ?_
    intro _ hw'
    obtain⟨nq,hw''⟩:=hw'
    subst hw''
    have hnq:=nq.h
    generalize nq.w=w3 at hnq ⊢
    have HB3:=ZZ (hbel.trans (hnq.mono hsz))
    have BX:=ZZ (A8.o.below hnq)
    have r03:=(hnq.cell hlr).trans r0
    have hlr3:=zLt hlr hnq.size
    clear hne k0 k1 k2 k3 hnq
    go_wp2_with fail
    go_roundw
    case rel=>exact⟨j+1,M,by go_num,rfl,by omega,HE.o,HB3.o⟩
    case measure=>simp[intOf];omega
   | some e =>
    obtain⟨kk,hk1,hk2⟩:=z5g hf
    rw[hk1] at Bf
    have hkn:kk<n:=by
     have:=(zGi.1 hk2).1
     rw[HN.o] at this
     exact this
    have hk0:(0:Int)≤(kk:Int):=by omega
    by_cases hd:M<e.depth
    ·have HE:=ZZ (show z4o es (prev.drop (j+1)) e.depth=D by rw[← A7.o,zg7 hf hd])
     clear A7 hf hk1
     go_wp2_with fail
     refine zn (F:=Bw wr) (by kernel_rfl) (by kernel_rfl) zBr.drew ?_
     have hne:Nonempty (InW (Bw wr)):=⟨⟨_,zBr⟩⟩
     have k0:=ciW r0
     have k1:=ciW r1
     have k2:=ciW r2
     have k3:=ciW c0
     repeat (go_big_quiet_step (first
      | (go_at_call 71;(with_reducible refine (Bf.o _ (A8.o.below (InW.h (F:=Bw wr) _))).mono ?_);rintro e' w2 ⟨rfl,hb2⟩;exact⟨rfl,iwW hb2,rfl⟩)))
     refine wpQuiet_nil ?_
     intro _ hw'
     obtain⟨nq,hw''⟩:=hw'
     subst hw''
     have hnq:=nq.h
     generalize nq.w=w3 at hnq ⊢
     have HB3:=ZZ (hbel.trans (hnq.mono hsz))
     have BX:=ZZ (A8.o.below hnq)
     have r03:=(hnq.cell hlr).trans r0
     have hlr3:=zLt hlr hnq.size
     clear hne k0 k1 k2 k3 hnq
     obtain⟨e2,b2,q2,xa,xc,ya,yc,he2,hidx2,hev2⟩:=BX.o.get Tryz.underlying29 z2t kk hkn
     rw[hk2] at he2
     cases he2
     obtain⟨c0',c1',c2',c3',c4',c5',c6',c7',c8'⟩:=hev2.cs
     clear hev2
     go_wp2_with fail
     go_roundw
     case rel=>exact⟨j+1,e.depth,by go_num,rfl,by omega,HE.o,HB3.o⟩
     case measure=>simp[intOf];omega
    ·have HE:=ZZ (show z4o es (prev.drop (j+1)) M=D by rw[← A7.o,zid hf hd])
     clear A7 hf hk1
     go_wp2_with fail
     refine zn (F:=Bw wr) (by kernel_rfl) (by kernel_rfl) zBr.drew ?_
     have hne:Nonempty (InW (Bw wr)):=⟨⟨_,zBr⟩⟩
     have k0:=ciW r0
     have k1:=ciW r1
     have k2:=ciW r2
     have k3:=ciW c0
     repeat (go_big_quiet_step (first
      | (go_at_call 71;(with_reducible refine (Bf.o _ (A8.o.below (InW.h (F:=Bw wr) _))).mono ?_);rintro e' w2 ⟨rfl,hb2⟩;exact⟨rfl,iwW hb2,rfl⟩)))
     refine wpQuiet_nil ?_
     intro _ hw'
     obtain⟨nq,hw''⟩:=hw'
     subst hw''
     have hnq:=nq.h
     generalize nq.w=w3 at hnq ⊢
     have HB3:=ZZ (hbel.trans (hnq.mono hsz))
     have BX:=ZZ (A8.o.below hnq)
     have r03:=(hnq.cell hlr).trans r0
     have hlr3:=zLt hlr hnq.size
     clear hne k0 k1 k2 k3 hnq
     obtain⟨e2,b2,q2,xa,xc,ya,yc,he2,hidx2,hev2⟩:=BX.o.get Tryz.underlying29 z2t kk hkn
     rw[hk2] at he2
     cases he2
     obtain⟨c0',c1',c2',c3',c4',c5',c6',c7',c8'⟩:=hev2.cs
     clear hev2
     go_wp2_with fail
     go_roundw
     case rel=>exact⟨j+1,M,by go_num,rfl,by omega,HE.o,HB3.o⟩
     case measure=>simp[intOf];omega
  ·have hjn:prev.drop j=[]:=List.drop_eq_nil_of_le (by rw[Cn.o];omega)
   rw[hjn] at hrest
   have hMD:M=D:=hrest
   subst hMD
   have hge:-1≤M:=by rw[← HD.o];exact zet prev (-1)
   have Co:=ZZ (show z4a es prev=if 1000000<M then 1000001 else M+1 by unfold z4a;rw[HD.o])
   clear hrest hjn
   by_cases hb:1000000<M
   ·rw[if_pos hb] at Co
    go_wp2_with fail
    go_ret
    exact⟨by rw[Co.o];rfl,hbW⟩
   ·rw[if_neg hb] at Co
    go_wp2_with fail
    go_ret
    exact⟨by rw[Co.o];rfl,hbW⟩

def z1o (e:EvV) (xl xp vp vs:Value) (t g:Bool):Array Value:=#[J Y e.id,J Y e.kind,J Y e.sender,J Y e.user,J Y e.member,xl,.string ⟨e.text.toArray⟩,xp,J Y e.depth,vp,vs,.bool t,.bool g]

structure StOf (w:World) (sn:Nat) (ss:Zis) (i:Nat) (vs:Value) (t:Bool):Prop where
 told:t=decide (i<sn)
 yes:i<sn→∃ s xa xc,ss[i]? = some s∧vs=.slice xa s.length xc∧ItemsAt w xa s.length xc s
 no:¬ i<sn→vs=.slice none 0 0

structure WebOk (w0 wr:World) (B bm:Nat) (T:Int→Option Value) (m:Nat) (D:DataW Value) (es:List EvV) (sn:Nat) (ss:Zis):Prop where
 tab:VTab wr bm T m D
 no:∀ k,zf es k=none→T k=none
 yes:∀ k e,zf es k=some e→∃ q i xa xc ya yc vs t,T k=some (.pointer (some ⟨q,0,none⟩))∧B≤q∧es[i]? = some e∧zf (es.take i) k=none∧wr.heap[q]? = some (.cells (z1o e (.slice xa e.levels.length xc) (.slice ya e.prev.length yc) (.slice none 0 0) vs t false) 76 (0,0))∧IntsAt w0 xa e.levels.length xc e.levels∧IntsAt w0 ya e.prev.length yc e.prev∧StOf w0 sn ss i vs t

theorem z3i (es:List EvV) (x:EvV) (k:Int):zf (es++[x]) k=match zf es k with|some e=>some e|none=>if x.id=k then some x else none:=by
 induction es with
 | nil=>simp[zf]
 | cons y r ih =>
  rw[List.cons_append]
  unfold zf
  split
  ·rfl
  ·exact ih

section
variable {w0 wr w2:World} {B bm m sn:Nat} {T:Int→Option Value} {D:DataW Value} {es:List EvV} {ss:Zis}

theorem WebOk.on (h:WebOk w0 wr B bm T m D es sn ss) (hb:Bw wr w2):WebOk w0 w2 B bm T m D es sn ss :=
 ⟨h.tab.below hb,h.no,fun k e he=>by
  obtain⟨q,i,xa,xc,ya,yc,vs,t,h1,h2,h3,h4,h5,h6⟩:=h.yes k e he
  exact⟨q,i,xa,xc,ya,yc,vs,t,h1,h2,h3,h4,(hb.block q (ze h5)).trans h5,h6⟩⟩

theorem zhg {e:EvV} {x:EvV} {i:Nat} (h:es[i]? = some e):(es++[x])[i]? = some e∧(es++[x]).take i=es.take i:=by
 have hi:=(zGi.1 h).1
 exact⟨by rw[List.getElem?_append_left hi];exact h,List.take_append_of_le_length (by omega)⟩

theorem WebOk.old (h:WebOk w0 wr B bm T m D es sn ss) {x y:EvV} (hx:zf es x.id=some y):WebOk w0 wr B bm T m D (es++[x]) sn ss:=by
 refine⟨h.tab,fun k hk=>?_,fun k e he=>?_⟩
 ·rw[z3i] at hk
  cases hf:zf es k with
  | some e=>rw[hf] at hk;cases hk
  | none=>exact h.no k hf
 ·rw[z3i] at he
  cases hf:zf es k with
  | some e' =>
   rw[hf] at he
   cases he
   obtain⟨q,i,xa,xc,ya,yc,vs,t,h1,h2,h3,h4,h5⟩:=h.yes k e hf
   obtain⟨a1,a2⟩:=zhg (x:=x) h3
   exact⟨q,i,xa,xc,ya,yc,vs,t,h1,h2,a1,by rw[a2];exact h4,h5⟩
  | none =>
   rw[hf] at he
   by_cases e2:x.id=k
   ·rw[e2,hf] at hx;cases hx
   ·simp[e2] at he

theorem WebOk.new (h:WebOk w0 wr B bm T m D es sn ss) {x:EvV} (hw:(Lit.int .i64 x.id).wf=true) (hx:zf es x.id=none) {xa:Zoa} {xc:Nat} {ya:Zoa} {yc:Nat} {vs:Value} {t:Bool} {q:Nat} (hB:B≤q) (hl:IntsAt w0 xa x.levels.length xc x.levels) (hp:IntsAt w0 ya x.prev.length yc x.prev) (hs:StOf w0 sn ss es.length vs t)
  (hq:wr.heap[q]? = some (.cells (z1o x (.slice xa x.levels.length xc) (.slice ya x.prev.length yc) (.slice none 0 0) vs t false) 76 (0,0))) (ho:w2.ownsMap Tryz.prog 3 z1z bm (m+1) (D.put (.int .i64 x.id) (.held (.pointer (some ⟨q,0,none⟩))))) (ht:wr.mapTurned w2 bm) :
  ∃ m',m'≤m+1∧WebOk w0 w2 B bm (updV T x.id (some (.pointer (some ⟨q,0,none⟩)))) m' (D.put (.int .i64 x.id) (.held (.pointer (some ⟨q,0,none⟩)))) (es++[x]) sn ss:=by
 have hg:=ht.grown
 have hst:=h.tab.store hw ho
 have hne:∀ {q:Nat} {cs:Array Value},wr.heap[q]? = some (.cells cs 76 (0,0))→w2.heap[q]? = some (.cells cs 76 (0,0)):=fun {q cs} hq=>by
  refine (hg.block q (ze hq) (fun e=>?_)).trans hq
  obtain⟨es',clock,hbm,_⟩:=h.tab.own
  cases e
  rw[hq] at hbm
  cases hbm
 refine⟨_,?_,hst,fun k hk=>?_,fun k e he=>?_⟩
 ·split<;>omega
 ·rw[z3i] at hk
  cases hf:zf es k with
  | some e=>rw[hf] at hk;cases hk
  | none =>
   rw[hf] at hk
   by_cases e2:x.id=k
   ·simp[e2] at hk
   ·rw[z0j _ _ (fun e=>e2 e.symm)];exact h.no k hf
 ·rw[z3i] at he
  cases hf:zf es k with
  | some e' =>
   rw[hf] at he
   cases he
   have e2:k≠x.id:=fun e2=>by rw[← e2,hf] at hx;cases hx
   obtain⟨q,i,xa,xc,ya,yc,vs,t,h1,h2,h3,h4,h5,h6⟩:=h.yes k e hf
   obtain⟨a1,a2⟩:=zhg (x:=x) h3
   exact⟨q,i,xa,xc,ya,yc,vs,t,by rw[z0j _ _ e2];exact h1,h2,a1,by rw[a2];exact h4,hne h5,h6⟩
  | none =>
   rw[hf] at he
   by_cases e2:x.id=k
   ·simp only[e2,↓reduceIte,Option.some.injEq] at he
    subst he
    subst e2
    exact⟨q,es.length,xa,xc,ya,yc,vs,t,z14 _ _ _,hB,by simp,by rw[List.take_left' rfl];exact hf,hne hq,hl,hp,hs⟩
   ·simp[e2] at he
end

theorem zie {es:List EvV} {j:Nat} {x:EvV} (h:es[j]? = some x):es.take (j+1)=es.take j++[x]:=by
 rw[List.take_add_one,h];rfl

def znf (oa:Zoa) (n cap:Nat) (es:List EvV) (sn:Nat) (ss:Zis) (w:World) (r:Ending) (w':World):Prop:=∃ bm T m D,r=.returned (.agg #[.slice oa n cap,.map (some bm)])∧m≤n∧w.heap.size≤bm∧WebOk w w' w.heap.size bm T m D es sn ss∧Bw w w'

theorem zjw (oa:Zoa) (n cap:Nat) (es:List EvV) (so:Zoa) (sn sc:Nat) (ss:Zis) (vg:Value) (hn20:n≤1048576) (hids:∀ e∈es,(Lit.int .i64 e.id).wf=true) (w:World) (hev:EvsAt w oa n cap es) (hst:StsAt w so sn sc ss) (hvg:∃ og ng cg,vg=.slice og ng cg) :
  Calls Tryz.prog 31 #[.agg #[.slice oa n cap,.slice so sn sc,vg]] w (znf oa n cap es sn ss w):=by
 obtain⟨og,ng,cg,rfl⟩:=hvg
 have hsm:=zNt hst.room hst.most
 unfold maxLen at hsm
 obtain⟨W0,hW0⟩:∃ W0,(w.alloc (.cells #[.slice oa n cap,.slice so sn sc,.slice og ng cg] 32)).alloc (.cells #[.slice none 0 0,.map none] 68)=W0:=⟨_,rfl⟩
 have hb0:Bw w W0:=by rw[← hW0];exact (zBa).alloc (by simp) _
 have hs0:W0.heap.size=w.heap.size+1+1:=by rw[← hW0];simp
 have hA0:W0.heap[w.heap.size]? = some (.cells #[.slice oa n cap,.slice so sn sc,.slice og ng cg] 32 (0,0)):=by
  rw[← hW0]
  exact ((zBa:Below (w.alloc (.cells #[.slice oa n cap,.slice so sn sc,.slice og ng cg] 32)).heap.size _ _).block w.heap.size (by simp)).trans (heap_alloc_new w _)
 have hR0:W0.heap[w.heap.size+1]? = some (.cells #[.slice none 0 0,.map none] 68 (0,0)):=by
  rw[← hW0]
  have:=heap_alloc_new (w.alloc (.cells #[.slice oa n cap,.slice so sn sc,.slice og ng cg] 32)) (.cells #[.slice none 0 0,.map none] 68)
  rw[World.size_alloc] at this
  exact this
 obtain⟨W1,hW1⟩:∃ W1,(W0.alloc (.map #[] 0)).alloc (.cells #[.slice oa n cap,.map (some W0.heap.size)] 68)=W1:=⟨_,rfl⟩
 have hmm:(Instr.makeMap 66 none).run Tryz.prog W0=.ok (.map (some W0.heap.size)) (W0.alloc (.map #[] 0)):=by
  simp[Instr.makeMap,Sem.run_bind,run_underlying Tryz.underlying66 W0,asInt,Result.andThen,newObj]
  try rfl
 have hb1:Bw W0 W1:=by rw[← hW1];exact (zBa).alloc (by simp) _
 have hT1:VTab W1 W0.heap.size (fun _=>none) 0 (.map []):=by
  rw[← hW1]
  exact (z8x W0).below (zBa)
 have hV1:W1.heap[W0.heap.size+1]? = some (.cells #[.slice oa n cap,.map (some W0.heap.size)] 68 (0,0)):=by
  rw[← hW1]
  have:=heap_alloc_new (W0.alloc (.map #[] 0)) (.cells #[.slice oa n cap,.map (some W0.heap.size)] 68)
  rw[World.size_alloc] at this
  exact this
 have r0:=zb hA0 0 rfl
 have HA1:=ZZ ((hb1.block _ (ze hA0)).trans hA0)
 have HR1:=ZZ ((hb1.block _ (ze hR0)).trans hR0)
 have EW:=ZZ hV1
 have HT1:=ZZ hT1
 have hbw1:Bw w W1:=zTr hb0 hb1
 have Df:=ZZ hbw1
 have HW0:=ZZ hW0
 have HW1:=ZZ hW1
 have A8:=ZZ hev
 have HST:=ZZ hst
 have Bj:=ZZ hids
 have HN:=ZZ hev.len
 have hlt1:=ze hV1
 have Ak:=ZZ hs0
 clear hs0 hW0 hW1 hb0 hA0 hR0 hb1 hT1 hV1 hbw1 hev hst hids
 go_enter Tryz.func31,Tryz.ntmps31
 go_upto_region 1 with fail
 rw[HW0.o]
 clear HW0
 go_upto_region 2 with fail
 rw[HW1.o]
 clear HW1 r0 hmm
 obtain⟨bm,hbm⟩:∃ bm,W0.heap.size=bm:=⟨_,rfl⟩
 rw[hbm] at EW HT1 hlt1 Ak
 simp only[hbm]
 have hblo:w.heap.size+1+1=bm:=Ak.o.symm
 clear hbm Ak
 obtain⟨b,hbd⟩:∃ b,w.heap.size=b:=⟨_,rfl⟩
 rw[hbd] at HA1 HR1 hblo
 have Jf:=ZZ hblo
 have Aw:=ZZ hbd
 have hbb1:b<W1.heap.size:=ze HA1.o
 have r1:=zb HA1.o 0 rfl
 have hWeb0:=ZZ (show WebOk w W1 b bm (fun _=>none) 0 (.map []) (es.take 0) sn ss from ⟨HT1.o,fun k _=>rfl,fun k e h=>by simp[zf] at h⟩)
 simp only[hbd]
 clear hbd hblo
 go_wp2_with fail
 go_loopw [16] (fun x wr=>∃ (j:Nat) (T:Int→Option Value) (m:Nat) (D:DataW Value),x=J Y (j:Int)∧j≤n∧m≤j∧WebOk w wr b bm T m D (es.take j) sn ss∧W1.grownBy wr (some bm)) (fun x _=>n - (intOf x).toNat)
 case atStart=>exact⟨0,_,_,_,rfl,Nat.zero_le _,Nat.le_refl _,hWeb0.o,⟨rfl,rfl,rfl,Nat.le_refl _,fun _ _ _=>rfl⟩⟩
 case round =>
  obtain⟨j,T,m,D,rfl,hj,hm,hW,hg⟩:=hrel
  have hbe:=Aw.o
  have hbl:=Jf.o
  have HW:=ZZ hW
  have HG:=ZZ hg
  have hszr:=hg.size
  have hbr:Bw w wr:=Df.o.grown hg Df.o.size (fun k hk=>by cases hk;omega)
  have Av:=ZZ hbr
  have hAr:=(hg.block b (ze HA1.o) (fun e=>by have:=zSi e;omega)).trans HA1.o
  have hVr:=(hg.block (bm+1) (ze EW.o) (fun e=>by have:=zSi e;omega)).trans EW.o
  have BB:=ZZ hAr
  have Cq:=ZZ hVr
  clear hW hg hbr hAr hVr hWeb0 r1 hbe
  by_cases hlt:j<n
  ·have j0:(j:Int)<(n:Int):=by omega
   obtain⟨x,bx,qx,xa,xc,ya,yc,hx,hidx,hev0⟩:=A8.o.get Tryz.underlying29 z2t j hlt
   have hev:=hev0.below Av.o
   have hwx:=Bj.o x (zMg hx)
   have Af:=ZZ (zie hx)
   obtain⟨c0,c1,c2,c3,c4,c5,c6,c7,c8⟩:=hev.cs
   have Dh:=ZZ hev0
   have Di:=ZZ hwx
   have hll:(es.take j).length=j:=by rw[List.length_take,HN.o];omega
   have DX:=ZZ hll
   obtain⟨Wa,hWa⟩:∃ Wa,wr.alloc (.cells (zk x.id x.kind x.sender x.user x.member x.depth (.slice xa x.levels.length xc) (.slice ya x.prev.length yc) x.text) 62)=Wa:=⟨_,rfl⟩
   have hba:Bw wr Wa:=by rw[← hWa];exact zBa
   have hEa:EB Wa wr.heap.size x.id x.kind x.sender x.user x.member x.depth (.slice xa x.levels.length xc) (.slice ya x.prev.length yc) x.text:=by rw[← hWa];exact EB.new _ _ _ _ _ _ _ _ _ _
   have DC:=ZZ hWa
   have Ex:=ZZ (HW.o.on hba)
   have Bh:=ZZ hba
   have hVa:=(hba.block _ (ze Cq.o)).trans Cq.o
   have v1:=zb hVa 1 rfl
   have hAa:=(hba.block _ (ze BB.o)).trans BB.o
   have ar1:=zb hAa 1 rfl
   have hlk:=Ex.o.tab.look Tryz.underlying66 (Tryz.zeroValue70 _) hwx
   have hsza:=hba.size
   have Cg:=ZZ hEa
   have DY:=ZZ hAa
   have EX:=ZZ hVa
   clear hx hev hev0 hll hba hEa hWa hAa hVa
   go_upto_region 5 with fail
   rw[DC.o]
   clear DC c0 c1 c2 c3 c4 c5 c6 c7 c8 hidx
   obtain⟨a0,a1,a2,a3,a4,a5,a6,a7,a8⟩:=Cg.o.ev
   have hla:=Cg.o.lt
   have hlb:b<Wa.heap.size:=by omega
   have hlv:bm+1<Wa.heap.size:=by omega
   cases hF:zf (es.take j) x.id with
   | some y =>
    obtain⟨q,i,ua,uc,va,vc,vs,t,h1,_⟩:=Ex.o.yes x.id y hF
    rw[h1] at hlk
    simp only[Option.getD_some,Option.isSome_some] at hlk
    have HO:=ZZ (Ex.o.old hF)
    clear h1 hF
    go_wp2_with fail
    go_roundw
    case rel=>exact⟨j+1,T,m,D,by go_num,by omega,by omega,by rw[Af.o];exact HO.o,z00 HG.o ((z0y Bh.o).but _)⟩
    case measure=>simp[intOf];omega
   | none =>
    have h1:=Ex.o.no x.id hF
    rw[h1] at hlk
    simp only[Option.getD_none,Option.isSome_none] at hlk
    have GM:=ZZ hF
    clear h1 hF
    by_cases hjs:j<sn
    ·have js0:(j:Int)<(sn:Int):=by omega
     obtain⟨s,bs,qs,sa,sc',hs,hidxs,hcs,hits⟩:=HST.o.get Tryz.underlying30 z5l j hjs
     obtain⟨Wk,hWk⟩:∃ Wk,Wa.alloc (.cells (z1o x (.slice xa x.levels.length xc) (.slice ya x.prev.length yc) (.slice none 0 0) (.slice sa s.length sc') true false) 76)=Wk:=⟨_,rfl⟩
     have hbk:Bw Wa Wk:=by rw[← hWk];exact zBa
     have hck:Wk.heap[Wa.heap.size]? = some (.cells (z1o x (.slice xa x.levels.length xc) (.slice ya x.prev.length yc) (.slice none 0 0) (.slice sa s.length sc') true false) 76 (0,0)):=by rw[← hWk];exact heap_alloc_new _ _
     have hc2:∀ o,(Wa.alloc o).cell? ⟨bs,qs,none⟩=some (.slice sa s.length sc'):=fun o=>by
      have h1:=((zTr Av.o Bh.o).cell (zw hcs)).trans hcs
      exact (((Below.refl Wa.heap.size Wa).alloc zLe o).cell (zw h1)).trans h1
     have CZ:=ZZ (show StOf w sn ss (es.take j).length (.slice sa s.length sc') true from ⟨by rw[DX.o];simp[hjs],fun _=>⟨s,sa,sc',by rw[DX.o];exact hs,rfl,hits⟩,fun h=>absurd (by rw[DX.o];exact hjs) h⟩)
     have Jg:=ZZ hWk
     have Cz:=ZZ (Ex.o.on hbk)
     have hown1:=Cz.o.tab.own
     have hkey:=keyI Di.o
     have e0k:=(hbk.cell hla).trans a0
     have v1k:=(hbk.cell (by have:=ze EX.o;exact this)).trans v1
     have Jh:=ZZ hck
     have BU:=ZZ hbk
     clear hs hits hWk hbk hck hcs
     go_upto_region 10 with fail
     try rw[show Wa.alloc (.cells #[J Y x.id,J Y x.kind,J Y x.sender,J Y x.user,J Y x.member,.slice xa x.levels.length xc,.string ⟨x.text.toArray⟩,.slice ya x.prev.length yc,J Y x.depth,.slice none 0 0,.slice sa s.length sc',.bool true,.bool false] 76)=Wk from Jg.o]
     go_wp2_with (at_mapUpdate;refine wpList_mapUpdate_in _ rfl _ _ _ 66 rfl 3 70 (Maps.int_keyed Tryz.underlying3) Tryz.underlying66 z1z bm m D rfl hown1 (by unfold maxLen;omega) _ _ (.int .i64 x.id) rfl rfl hkey (.held (.pointer (some ⟨Wa.heap.size,0,none⟩))) [] rfl ?_;intro w2 hown2 hturn2)
     obtain⟨m2,hm2,hW2⟩:=Cz.o.new Di.o GM.o (by omega) Dh.o.lev Dh.o.prv CZ.o Jh.o hown2 hturn2
     rw[← Af.o] at hW2
     have hG2:W1.grownBy w2 (some bm):=z00 (z00 HG.o ((z0y (Bh.o.trans (BU.o.mono hsza))).but _)) hturn2.grown
     have HW2:=ZZ hW2
     have HG2:=ZZ hG2
     clear hown2 hturn2 hW2 hG2 hown1
     go_wp2_with fail
     go_roundw
     case rel=>exact⟨j+1,_,m2,_,by go_num,by omega,by omega,HW2.o,HG2.o⟩
     case measure=>simp[intOf];omega
    ·have js0:¬ ((j:Int)<(sn:Int)):=by omega
     obtain⟨Wk,hWk⟩:∃ Wk,Wa.alloc (.cells (z1o x (.slice xa x.levels.length xc) (.slice ya x.prev.length yc) (.slice none 0 0) (.slice none 0 0) false false) 76)=Wk:=⟨_,rfl⟩
     have hbk:Bw Wa Wk:=by rw[← hWk];exact zBa
     have hck:Wk.heap[Wa.heap.size]? = some (.cells (z1o x (.slice xa x.levels.length xc) (.slice ya x.prev.length yc) (.slice none 0 0) (.slice none 0 0) false false) 76 (0,0)):=by rw[← hWk];exact heap_alloc_new _ _
     have CZ:=ZZ (show StOf w sn ss (es.take j).length (.slice none 0 0) false from ⟨by rw[DX.o];simp[hjs],fun h=>absurd (by rw[DX.o] at h;exact h) hjs,fun _=>rfl⟩)
     have Jg:=ZZ hWk
     have Cz:=ZZ (Ex.o.on hbk)
     have hown1:=Cz.o.tab.own
     have hkey:=keyI Di.o
     have e0k:=(hbk.cell hla).trans a0
     have v1k:=(hbk.cell (by have:=ze EX.o;exact this)).trans v1
     have Jh:=ZZ hck
     have BU:=ZZ hbk
     clear hWk hbk hck
     go_upto_region 10 with fail
     try rw[show Wa.alloc (.cells #[J Y x.id,J Y x.kind,J Y x.sender,J Y x.user,J Y x.member,.slice xa x.levels.length xc,.string ⟨x.text.toArray⟩,.slice ya x.prev.length yc,J Y x.depth,.slice none 0 0,.slice none 0 0,.bool false,.bool false] 76)=Wk from Jg.o]
     go_wp2_with (at_mapUpdate;refine wpList_mapUpdate_in _ rfl _ _ _ 66 rfl 3 70 (Maps.int_keyed Tryz.underlying3) Tryz.underlying66 z1z bm m D rfl hown1 (by unfold maxLen;omega) _ _ (.int .i64 x.id) rfl rfl hkey (.held (.pointer (some ⟨Wa.heap.size,0,none⟩))) [] rfl ?_;intro w2 hown2 hturn2)
     obtain⟨m2,hm2,hW2⟩:=Cz.o.new Di.o GM.o (by omega) Dh.o.lev Dh.o.prv CZ.o Jh.o hown2 hturn2
     rw[← Af.o] at hW2
     have hG2:W1.grownBy w2 (some bm):=z00 (z00 HG.o ((z0y (Bh.o.trans (BU.o.mono hsza))).but _)) hturn2.grown
     have HW2:=ZZ hW2
     have HG2:=ZZ hG2
     clear hown2 hturn2 hW2 hG2 hown1
     go_wp2_with fail
     go_roundw
     case rel=>exact⟨j+1,_,m2,_,by go_num,by omega,by omega,HW2.o,HG2.o⟩
     case measure=>simp[intOf];omega
  ·have hall:es.take j=es:=zTl (by rw[HN.o];omega)
   rw[hall] at HW
   have hRr:=(HG.o.block (b+1) (ze HR1.o) (fun e=>by have:=zSi e;omega)).trans HR1.o
   have v0:=zb Cq.o 0 rfl
   have v1:=zb Cq.o 1 rfl
   have u0:=zb hRr 0 rfl
   have u1:=zb hRr 1 rfl
   have y0:=zh hRr 0
   have y1:=zh hRr 1
   have HRR:=ZZ hRr
   clear hRr
   go_wp2_with fail
   obtain⟨w9,hw9⟩:∃ w9,((wr.setCell ⟨b+1,0,none⟩ (.slice oa n cap)).setCell ⟨b+1,1,none⟩ (.map (some bm)))=w9:=⟨_,rfl⟩
   obtain⟨hr,hg9⟩:=zx [.slice oa n cap,.map (some bm)] wr _ 0 HRR.o
   rw[show wr.setCells (b+1) 0 [.slice oa n cap,.map (some bm)]=w9 from hw9] at hr hg9
   rw[hw9]
   clear u0 u1
   have u0:w9.cell? ⟨b+1,0,none⟩=some (.slice oa n cap):=zb hr 0 rfl
   have u1:w9.cell? ⟨b+1,1,none⟩=some (.map (some bm)):=zb hr 1 rfl
   refine bodyPost_ret (v:=.agg #[.slice oa n cap,.map (some bm)]) (by simp[results,Tryz.results31,go_sem,u0,u1]) rfl ?_
   have hbe:=Aw.o
   have hWr:=HW.o
   refine⟨bm,T,m,D,rfl,by omega,by omega,⟨hWr.tab.kept hg9 (fun e=>by have:=zSi e;omega),hWr.no,fun k e he=>?_⟩,Av.o.grown hg9 Av.o.size (fun k hk=>by cases hk;omega)⟩
   obtain⟨q,i,ua,uc,va,vc,vs,t,h1,h2,h3,h4,h5,h6⟩:=hWr.yes k e he
   refine⟨q,i,ua,uc,va,vc,vs,t,h1,by omega,h3,h4,(hg9.block q (ze h5) (fun e2=>?_)).trans h5,h6⟩
   have e3:=zSi e2
   rw[e3,HRR.o] at h5
   cases h5

theorem zo5:(Tryz.prog.info? 70).map (fun i=>(i.zero,i.size,i.bytes))=some (some (.pointer none),1,8):=by kernel_rfl

theorem zjx:(Tryz.prog.info? 70).map (·.size)=some 1:=by kernel_rfl

theorem WebOk.ptr {w0 wr:World} {B bm m sn:Nat} {T:Int→Option Value} {D:DataW Value} {es:List EvV} {ss:Zis} (h:WebOk w0 wr B bm T m D es sn ss) {k:Int} {v:Value} (hv:T k=some v):∃ e,zf es k=some e:=by
 cases hf:zf es k with
 | some e=>exact⟨e,rfl⟩
 | none=>rw[h.no k hf] at hv;cases hv

abbrev z5z (vp:Value):Array Value:=z1o noEv (.slice none 0 0) (.slice none 0 0) vp (.slice none 0 0) false false

theorem z1p {w:World} {B:Nat} {e:TypeId} {k:Nat} {v:Value} {n:Nat} {xs:Zvs} (h:w.ownsRow B e k v n xs) {g:Nat} (hg:v.ownBlock=some g) {cs:Array Value} {e':TypeId} {fz:Nat × Nat} (hb:w.heap[g]? = some (.cells cs e' fz)) (hne:e'≠e):False:=by
 rcases h.2 with ⟨rfl,-⟩|⟨q,cap,cur,rfl,-,hq,-⟩
 ·cases hg
 ·cases hg
  rw[hq] at hb
  cases hb
  exact hne rfl

theorem own_drewN {w:World} {B:Nat} {e:TypeId} {k:Nat} {v:Value} {n:Nat} {xs:Zvs} {q:Nat} (h:w.ownsRow B e k v n xs):(w.drewN q).ownsRow B e k v n xs:=h

def zng (T:Int→Option Value) (prev:Zin) (w:World) (r:Ending) (w':World):Prop:=∃ kb vp,r=.returned (.tuple #[.pointer (some ⟨kb,0,none⟩),.bool (decide ((prev.filterMap T).length=prev.length))])∧w.heap.size≤kb∧w'.heap[kb]? = some (.cells (z5z vp) 76 (0,0))∧w'.ownsRow w.heap.size 70 1 vp (prev.filterMap T).length (prev.filterMap T)∧Below w.heap.size w w'

structure WebP (w:World) (bm:Nat) (T:Int→Option Value) (m:Nat) (D:DataW Value):Prop where
 tab:VTab w bm T m D
 ptr:∀ k v,T k=some v→∃ q,v=.pointer (some ⟨q,0,none⟩)

theorem WebOk.toP {w0 wr:World} {B bm m sn:Nat} {T:Int→Option Value} {D:DataW Value} {es:List EvV} {ss:Zis} (h:WebOk w0 wr B bm T m D es sn ss):WebP wr bm T m D :=
 ⟨h.tab,fun k v hv=>by
  obtain⟨e,he⟩:=h.ptr hv
  obtain⟨q,i,xa,xc,ya,yc,vs,t,h1,_⟩:=h.yes k e he
  rw[hv] at h1
  cases h1
  exact⟨q,rfl⟩⟩

theorem zg8 (bm:Nat) (T:Int→Option Value) (m:Nat) (D:DataW Value) (oa:Zoa) (n cap:Nat) (oc:Zoa) (p cc:Nat) (prev:Zin) (hp20:p≤1048576) (w:World) (hW:WebP w bm T m D) (hpt:IntsAt w oc p cc prev) :
  Calls Tryz.prog 81 #[.agg #[.slice oa n cap,.map (some bm)],.slice oc p cc] w (zng T prev w):=by

 obtain⟨W0,hW0⟩:∃ W0,(w.alloc (.cells #[.slice oa n cap,.map (some bm)] 68)).alloc (.cells (z5z (.slice none 0 0)) 76)=W0:=⟨_,rfl⟩
 have hb0:Below w.heap.size w W0:=by rw[← hW0];exact (zBa).alloc (by simp) _
 have hA0:W0.heap[w.heap.size]? = some (.cells #[.slice oa n cap,.map (some bm)] 68 (0,0)):=by
  rw[← hW0]
  exact ((zBa:Below (w.alloc (.cells #[.slice oa n cap,.map (some bm)] 68)).heap.size _ _).block w.heap.size (by simp)).trans (heap_alloc_new w _)
 have hK0:W0.heap[w.heap.size+1]? = some (.cells (z5z (.slice none 0 0)) 76 (0,0)):=by
  rw[← hW0]
  have:=heap_alloc_new (w.alloc (.cells #[.slice oa n cap,.map (some bm)] 68)) (.cells (z5z (.slice none 0 0)) 76)
  rw[World.size_alloc] at this
  exact this
 have HW:=ZZ hW
 have Dz:=ZZ hpt
 have Cn:=ZZ hpt.len
 have HB0:=ZZ hb0
 have Au:=ZZ hA0
 have Ey:=ZZ hK0
 have HW0:=ZZ hW0
 clear hW hpt hb0 hA0 hK0 hW0
 go_enter Tryz.func81,Tryz.ntmps81
 go_upto_region 2 with fail
 try rw[show (w.alloc (.cells #[.slice oa n cap,.map (some bm)] 68)).alloc (.cells #[J Y 0,J Y 0,J Y 0,J Y 0,J Y 0,.slice none 0 0,.string ⟨#[]⟩,.slice none 0 0,J Y 0,.slice none 0 0,.slice none 0 0,.bool false,.bool false] 76)=W0 from HW0.o]
 clear HW0
 obtain⟨b,hbd⟩:∃ b,w.heap.size=b:=⟨_,rfl⟩
 rw[hbd] at Au Ey
 simp only[hbd]
 have Aw:=ZZ hbd
 clear hbd
 go_wp2_with fail
 go_loopw [15] (fun x wr=>∃ (j:Nat) (vp:Value),x=J Y (j:Int)∧j≤p∧wr.heap[b]? = some (.cells #[.slice oa n cap,.map (some bm)] 68 (0,0))∧wr.heap[b+1]? = some (.cells (z5z vp) 76 (0,0))∧wr.ownsRow b 70 1 vp ((prev.take j).filterMap T).length ((prev.take j).filterMap T)∧Below b w wr) (fun x _=>p - (intOf x).toNat)
 case atStart=>exact⟨0,_,rfl,Nat.zero_le _,Au.o,Ey.o,World.ownsRow_nil _ _ _ _,by rw[← Aw.o];exact HB0.o⟩
 case round =>
  obtain⟨j,vp,rfl,hj,hA,hK,hR,hbel⟩:=hrel
  have HA:=ZZ hA
  have HK:=ZZ hK
  have HR:=ZZ hR
  have CB:=ZZ (show Below w.heap.size w wr from by rw[Aw.o];exact hbel)
  obtain⟨ov,cv,hvp⟩:=zi hR
  have hbl:b<wr.heap.size:=ze hA
  have hkl:b+1<wr.heap.size:=ze hK
  have k1:=zb hA 1 rfl
  have k9:wr.cell? ⟨b+1,9,none⟩=some vp:=zb hK 9 rfl
  have f9:=zh hK 9
  clear hA hK hR hbel
  by_cases hlt:j<p
  ·have j0:(j:Int)<(p:Int):=by omega
   obtain⟨z,bz,qz,hz,hidx,hbz,e0,hwz⟩:=(Dz.o.below CB.o).get Tryz.underlying60 z0f j hlt
   have hlk:=(HW.o.tab.below CB.o).look Tryz.underlying66 (Tryz.zeroValue70 _) hwz
   have Af:=ZZ (show prev.take (j+1)=prev.take j++[z] from by rw[List.take_add_one,hz];rfl)
   have hll:((prev.take j).filterMap T).length≤1048576:=by
    have h1:=List.length_filterMap_le T (prev.take j)
    rw[List.length_take] at h1
    omega
   clear hz
   cases hT:T z with
   | none =>
    rw[hT] at hlk
    simp only[Option.getD_none,Option.isSome_none] at hlk
    have HF:=ZZ (show (prev.take (j+1)).filterMap T=(prev.take j).filterMap T from by rw[Af.o,List.filterMap_append];simp[hT])
    clear hT
    go_wp2_with fail
    go_roundw
    case rel=>exact⟨j+1,vp,by go_num,by omega,HA.o,HK.o,by rw[HF.o];exact HR.o,by rw[← Aw.o];exact CB.o⟩
    case measure=>simp[intOf];omega
   | some v =>
    obtain⟨q,rfl⟩:=HW.o.ptr z v hT
    rw[hT] at hlk
    simp only[Option.getD_some,Option.isSome_some] at hlk
    have HF:=ZZ (show (prev.take (j+1)).filterMap T=(prev.take j).filterMap T++[.pointer (some ⟨q,0,none⟩)] from by rw[Af.o,List.filterMap_append];simp[hT])
    have hown:=HR.o
    subst hvp
    clear hT
    go_wp2_with (at_builtin;refine z1n (cs:=#[.pointer (some ⟨q,0,none⟩)]) rfl _ _ 73 rfl (by decide) Tryz.underlying73 zo5 rfl rfl hown rfl rfl (by simp[Value.oneCell']) (by omega) (by unfold maxLen;omega) (by omega) ?_;intro v5 w5 ho5 hg5 hl5;obtain⟨o5,c5,rfl⟩:=zi ho5;have hba:=(Below.refl wr.heap.size wr).alloc zLe (.cells #[.pointer (some ⟨q,0,none⟩)] 70);have hK5:=(hg5.block (b+1) (zLt hkl hba.size) (fun e=>z1p hown e.symm HK.o (by decide))).trans ((hba.block _ hkl).trans HK.o);have k59:=zb hK5 9 rfl;have f59:=zh hK5 9;have K6:=ZZ hK5;clear hK5)
    obtain⟨W6,hW6⟩:∃ W6,w5.setCell ⟨b+1,9,none⟩ (.slice o5 (((prev.take j).filterMap T).length+1) c5)=W6:=⟨_,rfl⟩
    obtain⟨hK6,hg6⟩:=zx [.slice o5 (((prev.take j).filterMap T).length+1) c5] w5 _ 9 K6.o
    rw[show w5.setCells (b+1) 9 [.slice o5 (((prev.take j).filterMap T).length+1) c5]=W6 from hW6] at hK6 hg6
    try rw[hW6]
    have hA6:W6.heap[b]? = some (.cells #[.slice oa n cap,.map (some bm)] 68 (0,0)):=(hg6.block b (by have:=hg5.size;have:=hba.size;omega) (fun e=>by have:=zSi e;omega)).trans ((hg5.block b (zLt hbl hba.size) (fun e=>z1p hown e.symm HA.o (by decide))).trans ((hba.block _ hbl).trans HA.o))
    have hR6:W6.ownsRow b 70 1 (.slice o5 (((prev.take j).filterMap T).length+1) c5) ((prev.take (j+1)).filterMap T).length ((prev.take (j+1)).filterMap T):=by
     rw[HF.o,List.length_append]
     refine ho5.kept hg6 (.inr (fun e=>z1p ho5 e K6.o (by decide)))
    have hB6:Below b w W6:=by
     have h1:=CB.o
     rw[Aw.o] at h1
     have h2:=(h1.alloc (by omega) (.cells #[.pointer (some ⟨q,0,none⟩)] 70)).grown hg5 (by simp;omega) (fun k hk=>(hown.lt k hk).1)
     exact h2.grown hg6 (by have:=hg5.size;have:=hba.size;omega) (fun k hk=>by cases hk;omega)
    have Dj:=ZZ hA6
    have Ch:=ZZ hK6
    have CE:=ZZ hR6
    have Az:=ZZ hB6
    clear hA6 hK6 hR6 hB6 hg6 hW6 ho5 hg5 hl5 hown
    go_roundw
    case rel=>exact⟨j+1,_,by go_num,by omega,Dj.o,Ch.o,CE.o,Az.o⟩
    case measure=>simp[intOf];omega
  ·have htk:prev.take j=prev:=zTl (by rw[Cn.o];omega)
   rw[htk] at HR hvp
   subst hvp
   have hle:=List.length_filterMap_le T prev
   rw[Cn.o] at hle
   have DZ:=ZZ (show decide ((prev.filterMap T).length=prev.length)=(((prev.filterMap T).length:Int)==(p:Int)) from by
    rw[Cn.o,Bool.eq_iff_iff]
    simp
    try omega)
   have k19:wr.cell? ⟨b+1,9,none⟩=some (.slice ov (prev.filterMap T).length cv):=zb HK.o 9 rfl
   clear htk k9
   go_wp2_with fail
   go_quiet (fail)
   go_wp2_with fail
   refine bodyPost_ret (v:=.tuple #[.pointer (some ⟨b+1,0,none⟩),.bool (((prev.filterMap T).length:Int)==(p:Int))]) (by simp[results,Tryz.results81,go_sem]) rfl ?_
   have hbe:=Aw.o
   refine⟨b+1,.slice ov (prev.filterMap T).length cv,by rw[DZ.o],by omega,?_,?_,?_⟩
   ·exact HK.o
   ·rw[hbe];exact own_drewN HR.o
   ·exact below_drewN CB.o _

def maxR (ds:Zin):Int:=ds.foldl (fun m d=>if m<d then d else m) (-1)

theorem zhh:∀ (ds:Zin) (m:Int),m≤ds.foldl (fun m d=>if m<d then d else m) m
 | [],m=>Int.le_refl _
 | d::r,m=>by
  rw[List.foldl_cons]
  refine Int.le_trans ?_ (zhh r _)
  split<;>omega

theorem zjy (ds:Zin) (d:Int):maxR (ds++[d])=if maxR ds<d then d else maxR ds:=by
 unfold maxR
 rw[List.foldl_append]
 rfl

def ze7 (ds:Zin):Int:=if 1000000<maxR ds then 1000001 else maxR ds+1

structure Deep (w:World) (ps:Zvs) (ds:Zin):Prop where
 len:ps.length=ds.length
 at_:∀ (i:Nat) (d:Int),ds[i]? = some d→∃ q,ps[i]? = some (.pointer (some ⟨q,0,none⟩))∧w.cell? ⟨q,8,none⟩=some (J Y d)

theorem zjz (kb B:Nat) (vp:Value) (ps:Zvs) (ds:Zin) (hl20:ds.length≤1048576) (w:World) (hK:w.heap[kb]? = some (.cells (z5z vp) 76 (0,0))) (hR:w.ownsRow B 70 1 vp ps.length ps) (hD:Deep w ps ds) :
  Calls Tryz.prog 82 #[.pointer (some ⟨kb,0,none⟩)] w fun r w'=>r=.returned (J Y (ze7 ds))∧w'=w:=by
 have hl:=hD.len
 obtain⟨ov,cv,rfl⟩:=zi hR
 have k9:w.cell? ⟨kb,9,none⟩=some (.slice ov ds.length cv):=by rw[← hl];exact zb hK 9 rfl
 have HR:=ZZ (show w.ownsRow B 70 1 (.slice ov ds.length cv) ds.length ps from by rw[← hl];exact hR)
 have HD:=ZZ hD
 clear hK hR hD hl
 go_enter Tryz.func82,Tryz.ntmps82
 go_wp2_with fail
 go_loop [3,11] (fun g x=>∃ (j:Nat),x=J Y (j:Int)∧j≤ds.length∧g=J Y (maxR (ds.take j))) (fun _ x=>ds.length - (intOf x).toNat)
 case atStart=>exact⟨0,rfl,Nat.zero_le _,rfl⟩
 case round =>
  obtain⟨j,rfl,hj,rfl⟩:=hrel
  by_cases hlt:j<ds.length
  ·have j0:(j:Int)<(ds.length:Int):=by omega
   obtain⟨d,hd⟩:∃ d,ds[j]? = some d:=⟨_,List.getElem?_eq_getElem hlt⟩
   obtain⟨q,hp,c8⟩:=HD.o.at_ j d hd
   obtain⟨g,hg⟩:∃ g,ov=some ⟨g,0,none⟩:=by
    rcases HR.o.2 with ⟨_,hn⟩|⟨g,cap,cur,hv,_⟩
    ·omega
    ·cases hv;exact⟨_,rfl⟩
   subst hg
   have hidx:∀ wx,(Instr.indexAt 73 (.slice (some ⟨g,0,none⟩) ds.length cv) (J Y (j:Int))).run Tryz.prog wx=.ok (.pointer (some ⟨g,j,none⟩)) wx:=fun wx=>by
    have:=run_indexAt_slice wx 73 70 1 Tryz.underlying73 zjx g 0 ds.length cv j hlt
    rwa [Nat.zero_add,Nat.mul_one] at this
   have cj:w.cell? ⟨g,j,none⟩=some (.pointer (some ⟨q,0,none⟩)):=by rw[HR.o.cellAt j (by have:=HR.o.1;omega)];exact hp
   have HM:=ZZ (show maxR (ds.take (j+1))=if maxR (ds.take j)<d then d else maxR (ds.take j) from by rw[List.take_add_one,hd];exact zjy _ _)
   generalize maxR (ds.take j)=M at HM ⊢
   clear hd hp
   rcases (show M<d∨M=d∨d<M by omega) with c|c|c
   ·have c2:¬ d<M:=by omega
    rw[if_pos c] at HM
    go_wp2_with fail
    go_round
    case rel=>exact⟨j+1,by go_num,by omega,by (rw[HM.o];first|done|(congr 1;omega))⟩
    case measure=>simp[intOf];omega
   ·subst c
    rw[if_neg (by omega)] at HM
    go_wp2_with fail
    go_round
    case rel=>exact⟨j+1,by go_num,by omega,by (rw[HM.o];first|done|(congr 1;omega))⟩
    case measure=>simp[intOf];omega
   ·have c2:¬ M<d:=by omega
    rw[if_neg c2] at HM
    go_wp2_with fail
    go_round
    case rel=>exact⟨j+1,by go_num,by omega,by (rw[HM.o];first|done|(congr 1;omega))⟩
    case measure=>simp[intOf];omega
  ·have htk:ds.take j=ds:=zTl (by omega)
   rw[htk]
   have HM:=ZZ (show ze7 ds=if 1000000<maxR ds then 1000001 else maxR ds+1 from rfl)
   have hge:-1≤maxR ds:=zhh ds (-1)
   clear htk
   generalize maxR ds=M at HM hge ⊢
   rcases (show M<1000000∨M=1000000∨1000000<M by omega) with c|c|c
   ·have c2:¬ 1000000<M:=by omega
    rw[if_neg c2] at HM
    go_wp2_with fail
    go_ret
    exact⟨by (rw[HM.o];first|done|rfl|(congr 2;omega)|(congr 1;omega)|(simp;omega)),rfl⟩
   ·subst c
    rw[if_neg (by omega)] at HM
    go_wp2_with fail
    go_ret
    exact⟨by (rw[HM.o];first|done|rfl|(congr 2;omega)|(congr 1;omega)|(simp;omega)),rfl⟩
   ·have c2:¬ M<1000000:=by omega
    rw[if_pos c] at HM
    go_wp2_with fail
    go_ret
    exact⟨by (rw[HM.o];first|done|rfl|(congr 2;omega)|(congr 1;omega)|(simp;omega)),rfl⟩

def depG (es:List EvV) (z:Int):Option Int:=(zf es z).map (·.depth)

theorem zd3 (es:List EvV):∀ (prev:Zin) (m:Int),z4o es prev m=(prev.filterMap (depG es)).foldl (fun m d=>if m<d then d else m) m
 | [],m=>rfl
 | z::r,m=>by
  have e1:z4o es (z::r) m=z4o es r (z2c es m z):=rfl
  rw[e1,zd3 es r]
  cases hf:zf es z with
  | none =>
   have h2:depG es z=none:=by unfold depG;rw[hf];rfl
   rw[List.filterMap_cons_none h2]
   unfold z2c
   rw[hf]
  | some e =>
   have h2:depG es z=some e.depth:=by unfold depG;rw[hf];rfl
   rw[List.filterMap_cons_some h2,List.foldl_cons]
   unfold z2c
   rw[hf]

theorem znh (es:List EvV) (prev:Zin):ze7 (prev.filterMap (depG es))=z4a es prev:=by
 unfold ze7 z4a
 rw[zd3]
 rfl

end Go.Proofs.YtfeebdcmlnapiaaGreat
