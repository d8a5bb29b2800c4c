/-
  Walks.
-/
import Derived.Test.YtfeebdcmlnapiaaGreatTWalk11zl
set_option maxRecDepth 100000
set_option maxHeartbeats 8000000
set_option linter.unusedVariables false
set_option linter.unusedSimpArgs false
namespace Go.Proofs.YtfeebdcmlnapiaaGreat
open Go.RowKit Go.Maps P1 P5 P9 P11 P12 P14 P15 P16 P17 K
structure zl7 (w0 w:World) (ps:Zvs) (ts:List (Option St)):Prop where
 len:ps.length=ts.length
 at_:∀ (i:Nat) (o:Option St),ts[i]? = some o→∃ q vs,ps[i]? = some (.pointer (some ⟨q,0,none⟩))∧w.cell? ⟨q,10,none⟩=some vs∧w.cell? ⟨q,11,none⟩=some (.bool o.isSome)∧∀ s,o=some s→∃ xa xc,vs=.slice xa s.length xc∧ItemsAt w0 xa s.length xc s

def z1s (ts:List (Option St)):Option (List St):=if ts.all Option.isSome then some (ts.filterMap id) else none

theorem zl8 {ts:List (Option St)} {j:Nat} {s:St} (h:ts[j]? = some (some s)):(ts.take (j+1)).filterMap id=(ts.take j).filterMap id++[s]:=by
 rw[List.take_add_one,h,List.filterMap_append]
 rfl

theorem zl9 {ts:List (Option St)} {j:Nat} {s:St} (hp:∀ o∈ts.take j,o.isSome=true) (h:ts[j]? = some (some s)):∀ o∈ts.take (j+1),o.isSome=true:=fun o ho=>by
 rw[List.take_add_one,h] at ho
 rcases List.mem_append.1 ho with ho|ho
 ·exact hp o ho
 ·simp at ho
  rw[ho]
  rfl

theorem zja {ts:List (Option St)} {j:Nat} (h:ts[j]? = some none):z1s ts=none:=by
 unfold z1s
 rw[if_neg]
 intro hh
 have:=List.all_eq_true.1 hh none (zMg h)
 cases this

theorem zgz {ts:List (Option St)} (h:∀ o∈ts,o.isSome=true):z1s ts=some (ts.filterMap id):=by
 unfold z1s
 rw[if_pos (List.all_eq_true.2 h)]

theorem zjb (w0:World) (oa:Zoa) (n cap:Nat) (es:List EvV) (bm kb B:Nat) (cs:Array Value) (vp:Value) (ps:Zvs) (ts:List (Option St)) (hE:zeb es) (hl16:ts.length≤65536) (hok:∀ s,some s∈ts→stOk s=true) (htl:∀ s,some s∈ts→Tells es s) (w:World) (hb0:Bw w0 w) (hev:EvsAt w oa n cap es)
  (h9:w.cell? ⟨kb,9,none⟩=some vp) (hR:w.ownsRow B 70 1 vp ps.length ps) (hD:zl7 w0 w ps ts) :
  Calls Tryz.prog 83 #[.agg #[.slice oa n cap,.map (some bm)],.pointer (some ⟨kb,0,none⟩)] w (zhm w ((z1s ts).map (P15.resolve es))):=by
 have hl:=hD.len
 obtain⟨ov,cv,rfl⟩:=zi hR
 obtain⟨W0,hW0,hb1,hA0⟩:=bxN w #[.slice oa n cap,.map (some bm)] 68
 have hk9:=zw h9
 have k9:W0.cell? ⟨kb,9,none⟩=some (.slice ov ts.length cv):=by rw[← hl];exact (hb1.cell hk9).trans h9
 have HR:=ZZ (show w.ownsRow B 70 1 (.slice ov ts.length cv) ts.length ps from by rw[← hl];exact hR)
 have HD:=ZZ hD
 have HB0:=ZZ hb0
 have HB1:=ZZ hb1
 have A8:=ZZ hev
 have HA:=ZZ (fun W (h:Bw W0 W)=>(h.block _ (ze hA0)).trans hA0)
 have HW0:=ZZ hW0
 have Ab:=ZZ hok
 have Ea:=ZZ htl
 have HE:=ZZ hE
 have Ak:=ZZ (show OutS W0.heap.size w0 W0 (.slice none 0 0) [] from ⟨⟨[],rfl,World.ownsRow_nil _ _ _ _,fun i v l h=>by simp at h⟩,zTr hb0 hb1,zNt hb0.size hb1.size,Nat.le_refl _⟩)
 clear hR hD hl hb0 hb1 hev hA0 hW0 hok htl hE h9
 go_enter Tryz.func83,Tryz.ntmps83
 go_upto_region 1 with fail
 rw[HW0.o]
 clear HW0
 go_wp2_with fail
 clear k9
 go_loopw [6,14] (fun v x wr=>∃ (j:Nat),x=.int .i64 (j:Int)∧j≤ts.length∧(∀ o∈ts.take j,o.isSome=true)∧OutS W0.heap.size w0 wr v ((ts.take j).filterMap id)∧Bw W0 wr) (fun _ x _=>ts.length - (intOf x).toNat)
 case atStart=>exact⟨0,rfl,Nat.zero_le _,fun o ho=>by simp at ho,Ak.o,zBr⟩
 case round =>
  obtain⟨j,rfl,hj,hsome,hS,hbel⟩:=hrel
  have J9:=ZZ hsome
  generalize hL:(ts.take j).filterMap id=L at hS
  have HL:=ZZ hL
  obtain⟨o6,c6,rfl⟩:=hS.form
  have HS:=ZZ hS
  have HB:=ZZ hbel
  have hll:L.length≤65536:=by
   rw[← hL]
   have h1:=List.length_filterMap_le id (ts.take j)
   rw[List.length_take] at h1
   omega
  clear hL hS hbel hsome Ak
  by_cases hlt:j<ts.length
  ·have j0:(j:Int)<(ts.length:Int):=by omega
   obtain⟨o,ho⟩:∃ o,ts[j]? = some o:=⟨_,List.getElem?_eq_getElem hlt⟩
   obtain⟨q,vs,hp,e10,e11,hst⟩:=HD.o.at_ j o ho
   obtain⟨g,hg⟩:∃ g,ov=some ⟨g,0,none⟩:=by
    rcases HR.o.2 with ⟨_,hn⟩|⟨g,cap,cur,hv,_⟩
    ·omega
    ·cases hv;exact⟨_,rfl⟩
   subst hg
   have hidx:∀ wx,(Instr.indexAt 73 (.slice (some ⟨g,0,none⟩) ts.length cv) (.int .i64 (j:Int))).run Tryz.prog wx=.ok (.pointer (some ⟨g,j,none⟩)) wx:=fun wx=>by
    have:=run_indexAt_slice wx 73 70 1 Tryz.underlying73 zjx g 0 ts.length cv j hlt
    rwa [Nat.zero_add,Nat.mul_one] at this
   have hbw:Bw w wr:=zTr HB1.o HB.o
   have cj0:w.cell? ⟨g,j,none⟩=some (.pointer (some ⟨q,0,none⟩)):=by rw[HR.o.cellAt j (by have:=HR.o.1;omega)];exact hp
   have cj:=(hbw.cell (zw cj0)).trans cj0
   have c10:=(hbw.cell (zw e10)).trans e10
   have c11:=(hbw.cell (zw e11)).trans e11
   have HO:=ZZ ho
   have HST:=ZZ hst
   clear ho hst hp cj0 e10 e11 hbw
   cases o with
   | none =>
    simp only[Option.isSome_none] at c11
    have HN:=ZZ (zja HO.o)
    go_wp2_with fail
    go_ret2
    exact⟨.slice none 0 0,by rw[HN.o];rfl,by rw[HN.o];exact World.ownsRow_nil _ _ _ _,zTr HB1.o HB.o⟩
   | some s =>
    simp only[Option.isSome_some] at c11
    obtain⟨xa,xc,rfl,hit⟩:=HST.o s rfl
    have HIT:=ZZ hit
    have HT1:=ZZ (zl8 HO.o)
    rw[HL.o] at HT1
    have HT2:=ZZ (zl9 J9.o HO.o)
    clear hit
    go_wp2_with (at_builtin;refine z9v rfl _ _ rfl HS.o HIT.o rfl rfl (by omega) ?_;intro v5 w5 hS5 hb5)
    have CL:=ZZ hS5
    rw[← HT1.o] at CL
    have BQ:=ZZ (HB.o.trans hb5)
    clear hS5 hb5
    go_roundw
    case rel=>exact⟨j+1,by go_num,by omega,HT2.o,CL.o,BQ.o⟩
    case measure=>simp[intOf];omega
  ·have htk:ts.take j=ts:=zTl (by omega)
   have hL:=HL.o
   have hSM:=J9.o
   rw[htk] at hL hSM
   have HN:=ZZ (show z1s ts=some L from by rw[zgz hSM,hL])
   have hmem:∀ s∈L,some s∈ts:=fun s hs=>by
    rw[← hL,List.mem_filterMap] at hs
    obtain⟨o,h1,h2⟩:=hs
    simp only[id] at h2
    rw[h2] at h1
    exact h1
   obtain⟨oS,cS,hv,hsts⟩:=HS.o.view
   cases hv
   have hbw:Bw w wr:=zTr HB1.o HB.o
   have CQ:=ZZ hbw
   have Jr:=ZZ (zc3 oa n cap es o6 L.length c6 L HE.o hll (fun s hs=>Ab.o s (hmem s hs)) (fun s hs=>Ea.o s (hmem s hs)) wr (A8.o.below hbw) hsts)
   have c0:=zb (HA.o wr HB.o) 0 rfl
   clear htk hL hSM hmem hsts hbw
   go_wp2_with (go_at_call 137;(with_reducible refine Jr.o.mono ?_);rintro e w7 ⟨v7,rfl,ho7,hb7⟩;obtain⟨o7,c7,rfl⟩:=zi ho7)
   go_ret2
   exact⟨_,by rw[HN.o];rfl,by rw[HN.o];exact zu ho7 CQ.o.size,zTr CQ.o hb7⟩

theorem z7f (id:Int) (x:EvV):∀ (es:List EvV) (k:Nat),z2a id (es++[x]) k=if (zf es id).isSome=true then z2a id es k else if x.id=id then ((k+es.length:Nat):Int) else -1
 | [],k=>by simp[z2a,zf]
 | y::r,k=>by
  have ih:=z7f id x r (k+1)
  rw[List.cons_append]
  by_cases e:y.id=id
  ·simp[z2a,zf,e]
  ·simp only[z2a,zf,e,↓reduceIte,List.length_cons]
   rw[ih,show k+1+r.length=k+(r.length+1) by omega]

theorem zla {es:List EvV} {sts:List St} {x y:EvV} {s:St} {k:Int} (hl:sts.length=es.length) (h:zf es k=some y):z1q (es++[x]) (sts++[s]) k=z1q es sts k:=by
 obtain⟨j,h1,h2⟩:=z5g h
 have h3:hasI (es++[x]) k=(j:Int):=by
  unfold hasI
  rw[z7f,h]
  exact h1
 have hj:j<sts.length:=by rw[hl];exact (zGi.1 h2).1
 unfold z1q
 rw[h1,h3,if_neg (by omega),if_neg (by omega),Int.toNat_natCast,List.getElem?_append_left hj]

theorem zlb {es:List EvV} {sts:List St} {x:EvV} {s:St} (hl:sts.length=es.length) (h:zf es x.id=none):z1q (es++[x]) (sts++[s]) x.id=some s:=by
 have h3:hasI (es++[x]) x.id=(es.length:Int):=by
  unfold hasI
  rw[z7f,h]
  simp
 unfold z1q
 rw[h3,if_neg (by omega),Int.toNat_natCast,← hl]
 simp

theorem zjc {es:List EvV} {sts:List St} {k:Int} (h:zf es k=none):z1q es sts k=none:=by
 unfold z1q
 rw[z7q h]
 rfl

theorem zdm {es:List EvV} {sts:List St} {k:Int} {s:St} (h:z1q es sts k=some s):s∈sts:=by
 unfold z1q at h
 split at h
 ·cases h
 ·exact zMg h

theorem zfo (s:St) (r:List (Option St)):z1s (some s::r)=(z1s r).map (s::·):=by
 unfold z1s
 simp only[List.all_cons,Option.isSome_some,Bool.true_and,List.filterMap_cons,id]
 split<;>rfl

theorem zfp (r:List (Option St)):z1s (none::r)=none:=by
 unfold z1s
 simp

theorem zc4 (es:List EvV) (sts:List St):∀ (prev:Zin) (acc:List St),z3f es sts prev acc=(z1s (prev.map (z1q es sts))).map (acc++·)
 | [],acc=>by simp[z3f,z1s]
 | z::r,acc=>by
  unfold z3f
  rw[List.map_cons]
  cases h:z1q es sts z with
  | none=>rw[zfp];rfl
  | some s =>
   simp only
   rw[zc4 es sts r,zfo,Option.map_map]
   congr 1
   funext l
   simp

theorem zc5 (es:List EvV) (sts:List St) (prev:Zin):z2y es sts prev=(z1s (prev.map (z1q es sts))).map (P15.resolve es):=by
 unfold z2y
 rw[zc4]
 simp

theorem zjd {es:List EvV} {sts:List St} {prev:Zin} {z:Int} (hz:z∈prev) (h:z1q es sts z=none):z2y es sts prev=none:=by
 rw[zc5]
 have:z1s (prev.map (z1q es sts))=none:=by
  unfold z1s
  rw[if_neg]
  intro hh
  have:=List.all_eq_true.1 hh (z1q es sts z) (List.mem_map.2 ⟨z,hz,rfl⟩)
  rw[h] at this
  cases this
 rw[this]
 rfl

theorem z9g {α β:Type} {T:α→Option β}:∀ {prev:List α},(prev.filterMap T).length=prev.length→∀ (i:Nat) (z:α),prev[i]? = some z→∃ v,T z=some v∧(prev.filterMap T)[i]? = some v
 | [],_,i,z,h=>by simp at h
 | x::r,hl,i,z,h=>by
  cases hx:T x with
  | none =>
   rw[List.filterMap_cons_none hx] at hl
   have:=List.length_filterMap_le T r
   rw[List.length_cons] at hl
   omega
  | some v =>
   rw[List.filterMap_cons_some hx] at hl ⊢
   cases i with
   | zero=>simp at h;subst h;exact⟨v,hx,rfl⟩
   | succ j =>
    simp only[List.getElem?_cons_succ] at h ⊢
    exact z9g (by simpa using hl) j z h

theorem z8s {α β:Type} {T:α→Option β}:∀ {prev:List α},(prev.filterMap T).length≠prev.length→∃ z∈prev,T z=none
 | [],h=>by simp at h
 | x::r,hl=>by
  cases hx:T x with
  | none=>exact⟨x,List.mem_cons_self,hx⟩
  | some v =>
   rw[List.filterMap_cons_some hx] at hl
   obtain⟨z,h1,h2⟩:=z8s (prev:=r) (T:=T) (by simpa using hl)
   exact⟨z,List.mem_cons_of_mem _ h1,h2⟩

structure TieOk (w:World) (B bm:Nat) (T:Int→Option Value) (m:Nat) (D:DataW Value) (es:List EvV) (sts:List St):Prop where
 tab:VTab w bm T m D
 no:∀ k,zf es k=none→T k=none
 yes:∀ k e,zf es k=some e→∃ q xl xp vp s xa xc g,T k=some (.pointer (some ⟨q,0,none⟩))∧z1q es sts k=some s∧w.heap[q]? = some (.cells (z1o e xl xp vp (.slice xa s.length xc) true g) 76 (0,0))∧w.ownsRow B 79 2 (.slice xa s.length xc) s.length (s.flatMap z02)

theorem zje {w:World} {B:Nat} {e:TypeId} {k:Nat} {v:Value} {n:Nat} {xs:Zvs} (h:w.ownsRow B e k v n xs) {g:Nat} {o:Obj} (hb:w.heap[g]? = some o) (hne:∀ a b c,o≠.cells a b c):v.ownBlock≠some g:=by
 intro hg
 rcases h.2 with ⟨rfl,-⟩|⟨q,cap,cur,rfl,-,hq,-⟩
 ·cases hg
 ·cases hg
  rw[hq] at hb
  cases hb
  exact hne _ _ _ rfl

section
variable {w w2:World} {B bm m:Nat} {T:Int→Option Value} {D:DataW Value} {es:List EvV} {sts:List St}

theorem TieOk.on (h:TieOk w B bm T m D es sts) (hb:Bw w w2):TieOk w2 B bm T m D es sts :=
 ⟨h.tab.below hb,h.no,fun k e he=>by
  obtain⟨q,xl,xp,vp,s,xa,xc,g,h1,h2,h3,h4⟩:=h.yes k e he
  exact⟨q,xl,xp,vp,s,xa,xc,g,h1,h2,(hb.block q (ze h3)).trans h3,own_below h4 hb⟩⟩

theorem TieOk.toP (h:TieOk w B bm T m D es sts):WebP w bm T m D :=
 ⟨h.tab,fun k v hv=>by
  cases hf:zf es k with
  | none=>rw[h.no k hf] at hv;cases hv
  | some e =>
   obtain⟨q,xl,xp,vp,s,xa,xc,g,h1,_⟩:=h.yes k e hf
   rw[hv] at h1
   cases h1
   exact⟨q,rfl⟩⟩

theorem TieOk.new (h:TieOk w B bm T m D es sts) (hl:sts.length=es.length) {x:EvV} (hw:(Lit.int .i64 x.id).wf=true) (hx:zf es x.id=none) {xl xp vp:Value} {s:St} {xa:Zoa} {xc:Nat} {g:Bool} {q:Nat}
  (hq:w.heap[q]? = some (.cells (z1o x xl xp vp (.slice xa s.length xc) true g) 76 (0,0))) (hs:w.ownsRow B 79 2 (.slice xa s.length xc) s.length (s.flatMap z02)) (ho:w2.ownsMap Tryz.prog 3 z1z bm (m+1) (D.put (.int .i64 x.id) (.held (.pointer (some ⟨q,0,none⟩))))) (ht:w.mapTurned w2 bm) :
  ∃ m',m'≤m+1∧TieOk w2 B bm (updV T x.id (some (.pointer (some ⟨q,0,none⟩)))) m' (D.put (.int .i64 x.id) (.held (.pointer (some ⟨q,0,none⟩)))) (es++[x]) (sts++[s]):=by
 have hg:=ht.grown
 have hst:=h.tab.store hw ho
 obtain⟨es',clock,hbm,_⟩:=h.tab.own
 have hne:∀ {q:Nat} {cs:Array Value},w.heap[q]? = some (.cells cs 76 (0,0))→w2.heap[q]? = some (.cells cs 76 (0,0)):=fun {q cs} hq=>by
  refine (hg.block q (ze hq) (fun e=>?_)).trans hq
  cases e
  rw[hq] at hbm
  cases hbm
 have hkp:∀ {v:Value} {n:Nat} {xs:Zvs},w.ownsRow B 79 2 v n xs→w2.ownsRow B 79 2 v n xs:=fun {v n xs} hr =>
  hr.kept hg (.inr (zje hr hbm (fun a b c=>by simp)))
 refine⟨_,?_,hst,fun k hk=>?_,fun k e he=>?_⟩
 ·split<;>omega
 ·rw[z3i] at hk
  cases hf:zf es k with
  | some e=>rw[hf] at hk;cases hk
  | none =>
   rw[hf] at hk
   by_cases e2:x.id=k
   ·simp[e2] at hk
   ·rw[z0j _ _ (fun e=>e2 e.symm)];exact h.no k hf
 ·rw[z3i] at he
  cases hf:zf es k with
  | some e' =>
   rw[hf] at he
   cases he
   have e2:k≠x.id:=fun e2=>by rw[← e2,hf] at hx;cases hx
   obtain⟨q,xl,xp,vp,s,xa,xc,g,h1,h2,h3,h4⟩:=h.yes k e hf
   exact⟨q,xl,xp,vp,s,xa,xc,g,by rw[z0j _ _ e2];exact h1,by rw[zla hl hf];exact h2,hne h3,hkp h4⟩
  | none =>
   rw[hf] at he
   by_cases e2:x.id=k
   ·simp only[e2,↓reduceIte,Option.some.injEq] at he
    subst he
    subst e2
    exact⟨q,xl,xp,vp,s,xa,xc,g,z14 _ _ _,zlb hl hf,hne hq,hkp hs⟩
   ·simp[e2] at he

theorem TieOk.deep (h:TieOk w B bm T m D es sts):∀ (prev:Zin),Deep w (prev.filterMap T) (prev.filterMap (depG es))
 | []=>⟨rfl,fun i d hd=>by simp at hd⟩
 | z::r=>by
  have ih:=h.deep r
  cases hf:zf es z with
  | none =>
   have h1:=h.no z hf
   have h2:depG es z=none:=by unfold depG;rw[hf];rfl
   rw[List.filterMap_cons_none h1,List.filterMap_cons_none h2]
   exact ih
  | some e =>
   obtain⟨q,xl,xp,vp,s,xa,xc,g,h1,_,h5,_⟩:=h.yes z e hf
   have h2:depG es z=some e.depth:=by unfold depG;rw[hf];rfl
   rw[List.filterMap_cons_some h1,List.filterMap_cons_some h2]
   refine⟨by simp[ih.len],fun j d hd=>?_⟩
   cases j with
   | zero =>
    simp only[List.getElem?_cons_zero,Option.some.injEq] at hd ⊢
    subst hd
    exact⟨q,rfl,zb h5 8 rfl⟩
   | succ j =>
    simp only[List.getElem?_cons_succ] at hd ⊢
    exact ih.at_ j d hd

theorem TieOk.tied (h:TieOk w B bm T m D es sts) {prev:Zin} (hl:(prev.filterMap T).length=prev.length):zl7 w w (prev.filterMap T) (prev.map (z1q es sts)):=by
 refine⟨by rw[hl,List.length_map],fun i o ho=>?_⟩
 rw[List.getElem?_map] at ho
 cases hz:prev[i]? with
 | none=>rw[hz] at ho;cases ho
 | some z =>
  rw[hz] at ho
  simp only[Option.map_some,Option.some.injEq] at ho
  subst ho
  obtain⟨v,h1,h2⟩:=z9g hl i z hz
  cases hf:zf es z with
  | none=>rw[h.no z hf] at h1;cases h1
  | some e =>
   obtain⟨q,xl,xp,vp,s,xa,xc,g,h3,h4,h5,h6⟩:=h.yes z e hf
   rw[h1] at h3
   cases h3
   obtain⟨_,_,he,hit⟩:=z08 h6
   cases he
   refine⟨q,_,h2,zb h5 10 rfl,?_,fun s' hs'=>?_⟩
   ·rw[h4];exact zb h5 11 rfl
   ·rw[h4] at hs'
    cases hs'
    exact⟨_,_,rfl,hit⟩

theorem TieOk.lack (h:TieOk w B bm T m D es sts) {prev:Zin} (hl:(prev.filterMap T).length≠prev.length):z2y es sts prev=none:=by
 obtain⟨z,h1,h2⟩:=z8s hl
 refine zjd h1 ?_
 cases hf:zf es z with
 | none=>exact zjc hf
 | some e =>
  obtain⟨q,xl,xp,vp,s,xa,xc,g,h3,_⟩:=h.yes z e hf
  rw[h2] at h3
  cases h3
end

theorem zn2 {es:List EvV} {sts:List St} (hI:RInv es sts) (hB:Built es sts):zeb es:=by
 refine⟨by have:=hI.len;omega,hI.fine,fun e he=>?_,fun e he=>?_,fun e he=>(hI.ids e he).1,hI.nod⟩
 ·have:=hI.ids e he
  exact z3k (by omega) (by omega)
 ·have h1:=(z8e hB).1 e he
  unfold evOk z11 at h1
  simp only[Bool.and_eq_true,decide_eq_true_eq] at h1
  exact h1.2.2.2.1

end Go.Proofs.YtfeebdcmlnapiaaGreat
