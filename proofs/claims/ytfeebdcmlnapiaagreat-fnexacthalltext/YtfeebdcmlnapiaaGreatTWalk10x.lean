/-
  Walks.
-/
import Derived.Test.YtfeebdcmlnapiaaGreatTRoom3
open Go.Value renaming int->J
open Go.IntKind renaming i64->Y
set_option maxRecDepth 1000000
set_option maxHeartbeats 8000000
set_option linter.unusedVariables false
set_option linter.unusedSimpArgs false
namespace Go.Proofs.YtfeebdcmlnapiaaGreat
open Go.RowKit P1 P5 P9 P11 P12 P14 P15 K
theorem za1 (b:Nat) (oa:Zoa) (n cap:Nat) (e:EvV) (xl xp:Value) (w:World) :
  Calls Tryz.prog 176 #[trv b oa n cap e xl xp] w fun r w'=>r=.returned (.bool false)∧Bw w w':=by
 obtain⟨W0,hW0⟩:∃ W0,w.alloc (.cells #[.map (some b),.slice oa n cap,J Y e.id,J Y e.kind,J Y e.sender,J Y e.user,J Y e.member,xl,.string ⟨e.text.toArray⟩,xp,J Y e.depth] 185)=W0:=⟨_,rfl⟩
 obtain⟨hb0,hR0⟩:=z1e hW0
 have HB0:=ZZ hb0
 have HW0:=ZZ hW0
 clear hR0 hb0 hW0
 go_enter Tryz.func176,Tryz.ntmps176
 go_wp2_with fail
 go_ret
 exact⟨rfl,by first|exact zBr|(rw[HW0.o];exact HB0.o)⟩

theorem zmw {w:World} {b m:Nat} {s:St} {D:DataW Unit} (h:IdTab w b (zm s) m D) (hm:m≤s.length):(((m:Int)==0))=s.isEmpty:=by
 cases s with
 | nil =>
  have:m=0:=by simpa using hm
  subst this
  rfl
 | cons x xs =>
  have hf:∃ i,zm (x::xs) x.1=some i:=by
   cases hc:zm (x::xs) x.1 with
   | some i=>exact⟨i,rfl⟩
   | none=>exact absurd hc (by simp[zm])
  obtain⟨i,hi⟩:=hf
  have hh:=(h.yes _ _ hi).1
  have hz:=h.size
  have:m≠0:=by
   rintro rfl
   obtain⟨es,clock,hb,F,hs,rfl⟩:=h.own
   simp_all [Maps.size,Maps.has]
  simp;omega

theorem zj6 (b:Nat) (oa:Zoa) (n cap:Nat) (es:List EvV) (s:St) (e:EvV) (xl xp:Value) (w:World) (hS:Scn w b oa n cap es s) :
  Calls Tryz.prog 175 #[trv b oa n cap e xl xp] w fun r w'=>r=.returned (.bool s.isEmpty)∧Bw w w':=by
 obtain⟨W0,hW0⟩:∃ W0,w.alloc (.cells #[.map (some b),.slice oa n cap,J Y e.id,J Y e.kind,J Y e.sender,J Y e.user,J Y e.member,xl,.string ⟨e.text.toArray⟩,xp,J Y e.depth] 185)=W0:=⟨_,rfl⟩
 obtain⟨hb0,hR0⟩:=z1e hW0
 have r0:W0.cell? ⟨w.heap.size,0,none⟩=some (.map (some b)):=zb hR0 0 rfl
 have r1:W0.cell? ⟨w.heap.size,1,none⟩=some (.slice oa n cap):=zb hR0 1 rfl
 obtain⟨D,m,hm,hT⟩:=(hS.on hb0).ids
 have hlen:(Builtin.len_ #[180] 3 #[.map (some b)]).run Tryz.prog W0=.ok (J Y (m:Int)) W0:=by
  have:=hT.own.len (t:=180) Tryz.underlying180 3
  rw[hT.size] at this
  exact this
 have HG:=ZZ (zmw hT hm)
 have HB0:=ZZ hb0
 have HW0:=ZZ hW0
 generalize s.isEmpty=q at HG ⊢
 have g1:=HG.o
 clear hR0 hb0 hW0 hS hT hm HG
 go_enter Tryz.func175,Tryz.ntmps175
 go_upto_region 1 with fail
 rw[HW0.o]
 clear HW0
 go_wp2_with fail
 go_ret
 exact⟨by first|rfl|(rw[← g1];rfl)|simp_all,HB0.o⟩

open Go.ChangeMaps (setBlock)
def numK:Value→Int
 | .int _ v=>v
 | _=>0

theorem zby (bm:Nat) (es:Array MapEntry) (clock:Nat) (w:World) (hb:w.heap[bm]? = some (.map es clock)) (hst:MapKept.Stamped es clock) (hv:∀ x∈es.toList,∃ k v,x.key=J Y k∧x.val=J Y v) :
  Calls Tryz.prog 235 #[.map (some bm)] w fun e w'=>e=.returned (.bool (es.toList.any fun x=>inR (numK x.key) 11 15))∧Bw w w':=by
 have hrg:=run_range_map (P:=Tryz.prog) w 180 3 3 bm es clock Tryz.underlying180 hb
 have hlt:bm<w.heap.size:=by
  rcases Nat.lt_or_ge bm w.heap.size with h|h
  ·exact h
  ·simp[Array.getElem?_eq_none h] at hb
 go_enter Tryz.func235,Tryz.ntmps235
 go_wp2
 go_loopw [] (fun w'=>∃ (seen:Array Nat),w'.heap[w.heap.size]? = some (.mapIter (some bm) clock seen clock)∧Bw w w'∧∀ x∈es.toList,seen.contains x.born=true→inR (numK x.key) 11 15=false) (fun w'=>(leftOf es (w'.iterSeen w.heap.size)).size)
 case atStart=>exact⟨#[],heap_alloc_new _ _,zBa,fun x _ h=>by simp at h⟩
 case round W =>
  obtain⟨seen,hr,hbW,hno⟩:=hrel
  have hb1:=(hbW.block bm hlt).trans hb
  have law:=run_next_at (P:=Tryz.prog) _ 0 w.heap.size bm clock clock seen es clock hr hb1 hst.1 zLe
  rcases law with ⟨h0,hrun⟩|⟨e,he,w1,hal,hrun⟩
  ·have hnx:∀ ty,(Instr.next (.pointer (some ⟨w.heap.size,0,none⟩)) false ty).run Tryz.prog _=_:=fun _=>hrun
   go_wp2
   go_ret
   have hf:(es.toList.any fun x=>inR (numK x.key) 11 15)=false:=by
    rw[List.any_eq_false]
    intro x hx
    have:=hno x hx (all_seen es seen h0 x hx)
    simpa using this
   rw[hf]
   exact⟨rfl,hbW⟩
  ·obtain⟨k,v,hkey,hval⟩:=hv e (mem_left he).1
   rw[hval,hkey] at hrun
   have hr1:w1.heap[w.heap.size]? = some (.mapIter (some bm) clock seen clock):=by rcases hal with rfl|rfl<;>exact hr
   have hset:=MapKept.heap_set (o':=.mapIter (some bm) clock (seen.push e.born) clock) hr1
   obtain⟨W2,hW2⟩:∃ W2,setBlock w1 w.heap.size (.mapIter (some bm) clock (seen.push e.born) clock)=W2:=⟨_,rfl⟩
   have hbW1:Bw w w1:=by rcases hal with rfl|rfl<;>exact⟨hbW.os,hbW.tape,hbW.output,hbW.size,hbW.block⟩
   have hbW2:Bw w W2:=by
    rw[← hW2]
    exact⟨hbW1.os,hbW1.tape,hbW1.output,by simpa [setBlock] using hbW1.size,fun i hi=>(hset.2 i (by omega)).trans (hbW1.block i hi)⟩
   have hr2:W2.heap[w.heap.size]? = some (.mapIter (some bm) clock (seen.push e.born) clock):=by rw[← hW2];exact hset.1
   rw[hW2] at hrun
   have hnx:∀ ty,(Instr.next (.pointer (some ⟨w.heap.size,0,none⟩)) false ty).run Tryz.prog _=_:=fun _=>hrun
   have hen:=run_entry_at (P:=Tryz.prog) W2 w.heap.size bm clock seen es clock e hr2 ((hbW2.block bm hlt).trans hb) (mem_left he).1 hst.2.1
   rw[hval,hkey] at hen
   have AX:=ZZ hr
   have HS2:=ZZ hr2
   clear hW2 hset
   have W2':=ZZ (fun w=>z7l k w)
   obtain⟨q,hq⟩:∃ q,inR k 11 15=q:=⟨_,rfl⟩
   rw[hq] at W2'
   cases q
   ·go_wp2_with (go_at_call 182;with_reducible refine (W2'.o _).mono ?_;rintro e' w' ⟨rfl,rfl⟩)
    go_roundw
    case rel =>
     refine⟨seen.push e.born,hr2,hbW2,fun x hx hc=>?_⟩
     rw[contains_push] at hc
     rcases Bool.or_eq_true _ _ ▸ hc with h1|h1
     ·exact hno x hx h1
     ·have:x=e:=born_inj hst.2.1 hx (mem_left he).1 (beq_iff_eq.1 h1)
      subst this
      rw[hkey]
      exact hq
    case measure =>
     simp only[World.iterSeen,AX.o,HS2.o]
     exact left_shrinks es seen e he
   ·go_wp2_with (go_at_call 182;with_reducible refine (W2'.o _).mono ?_;rintro e' w' ⟨rfl,rfl⟩)
    go_ret
    have ht:(es.toList.any fun x=>inR (numK x.key) 11 15)=true:=List.any_eq_true.2 ⟨e,(mem_left he).1,by rw[hkey];exact hq⟩
    rw[ht]
    exact⟨rfl,hbW2⟩

theorem zgv {s:Zii} {k:Int} (h:zm s k=none):∀ x∈s,x.1≠k:=by
 induction s with
 | nil=>simp
 | cons y r ih =>
  unfold zm at h
  split at h
  ·cases h
  ·rename_i hne
   intro x hx
   rcases List.mem_cons.1 hx with rfl|hx
   ·exact hne
   ·exact ih h x hx

theorem zbz (b:Nat) (s:St) (w:World) (h:IdsOk w b s) :
  Calls Tryz.prog 235 #[.map (some b)] w fun e w'=>e=.returned (.bool (s.any fun x=>inR x.1 11 15))∧Bw w w':=by
 obtain⟨D,m,hm,hT⟩:=h
 obtain⟨es,clock,hb,F,hs,hD⟩:=hT.own
 have hv:∀ x∈es.toList,∃ k v,x.key=J Y k∧x.val=J Y v:=by
  intro x hx
  obtain⟨y,hy⟩:=F.reads x hx
  obtain⟨z,hz,_⟩:=WideElems.rd_val hy
  obtain⟨k,hk,_,_⟩:=Maps.keyOf_int_inv Tryz.underlying3 (WideElems.rd_key hy)
  obtain⟨v,hv,_,_⟩:=plainElem_int_inv Tryz.underlying3 hz
  exact⟨k,v,hk,hv⟩
 have hhas:∀ k,Maps.has D (.int .i64 k)=es.toList.any (fun x=>numK x.key==k):=by
  intro k
  rw[hD,Bool.eq_iff_iff]
  constructor
  ·intro h
   obtain⟨p,hp,hpk⟩:=List.any_eq_true.1 h
   obtain⟨x,hx,rfl⟩:=List.mem_map.1 (mem_sorted.1 hp)
   obtain⟨y,hy⟩:=F.reads x hx
   obtain⟨k',hk',hl,_⟩:=Maps.keyOf_int_inv Tryz.underlying3 (WideElems.rd_key hy)
   have e1:=WideAt.sameKey_eq hpk
   rw[WideElems.rg_of hy,hl] at e1
   refine List.any_eq_true.2 ⟨x,hx,?_⟩
   rw[hk']
   cases e1
   simp[numK]
  ·intro h
   obtain⟨x,hx,hxk⟩:=List.any_eq_true.1 h
   obtain⟨y,hy⟩:=F.reads x hx
   obtain⟨k',hk',hl,_⟩:=Maps.keyOf_int_inv Tryz.underlying3 (WideElems.rd_key hy)
   rw[hk'] at hxk
   have e1:k'=k:=by simpa [numK] using hxk
   subst e1
   exact List.any_eq_true.2 ⟨_,mem_sorted.2 (List.mem_map.2 ⟨x,hx,rfl⟩),by rw[WideElems.rg_of hy,hl];exact WideAt.sameKey_self (z3v _)⟩
 have hany:(es.toList.any fun x=>inR (numK x.key) 11 15)=s.any fun x=>inR x.1 11 15:=by
  rw[Bool.eq_iff_iff]
  constructor
  ·intro h
   obtain⟨x,hx,hxk⟩:=List.any_eq_true.1 h
   have h1:Maps.has D (.int .i64 (numK x.key))=true:=by rw[hhas];exact List.any_eq_true.2 ⟨x,hx,by simp⟩
   cases hf:zm s (numK x.key) with
   | none=>rw[hT.no _ hf] at h1;cases h1
   | some i=>exact List.any_eq_true.2 ⟨_,z4l hf,hxk⟩
  ·intro h
   obtain⟨x,hx,hxk⟩:=List.any_eq_true.1 h
   cases hf:zm s x.1 with
   | none=>exact absurd rfl (zgv hf x hx)
   | some i =>
    have h1:=(hT.yes _ _ hf).1
    rw[hhas] at h1
    obtain⟨y,hy,hyk⟩:=List.any_eq_true.1 h1
    exact List.any_eq_true.2 ⟨y,hy,by rw[beq_iff_eq.1 hyk];exact hxk⟩
 rw[← hany]
 exact zby b es clock w hb F.stamped hv

theorem zfk (b:Nat) (oa:Zoa) (n cap:Nat) (es:List EvV) (s:St) (e:EvV) (xl xp:Value) (hse:inR e.sender 1 5=true) (w:World) (hS:Scn w b oa n cap es s) :
  Calls Tryz.prog 208 #[trv b oa n cap e xl xp] w fun r w'=>r=.returned (.bool ((z2m es s e.sender&&!(s.any fun x=>inR x.1 11 15))||((z09 es s e.sender==1)||(z09 es s e.sender==2))))∧Bw w w':=by
 obtain⟨W0,hW0⟩:∃ W0,w.alloc (.cells #[.map (some b),.slice oa n cap,J Y e.id,J Y e.kind,J Y e.sender,J Y e.user,J Y e.member,xl,.string ⟨e.text.toArray⟩,xp,J Y e.depth] 185)=W0:=⟨_,rfl⟩
 obtain⟨hb0,hR0⟩:=z1e hW0
 have hsr:-1000000≤e.sender∧e.sender≤1000000:=by simp[inR] at hse;omega
 have Ak:=ZZ (hS.on hb0)
 have r0:W0.cell? ⟨w.heap.size,0,none⟩=some (.map (some b)):=zb hR0 0 rfl
 have r1:W0.cell? ⟨w.heap.size,1,none⟩=some (.slice oa n cap):=zb hR0 1 rfl
 have r4:W0.cell? ⟨w.heap.size,4,none⟩=some (J Y e.sender):=zb hR0 4 rfl
 have r5:W0.cell? ⟨w.heap.size,5,none⟩=some (J Y e.user):=zb hR0 5 rfl
 have hlr:=ze hR0
 have HB0:=ZZ hb0
 have HW0:=ZZ hW0
 have HA:=ZZ (z9y b oa n cap es s e.sender W0 Ak.o)
 have HT:=ZZ (fun W (h:Bw W0 W)=>zbz b s W (Ak.o.on h).ids)
 have HL:=ZZ (fun W (h:Bw W0 W)=>z6d b oa n cap es s e.sender hsr W (Ak.o.on h))
 generalize z2m es s e.sender=jo at HA ⊢
 generalize (s.any fun x=>inR x.1 11 15)=tm at HT ⊢
 generalize ((z09 es s e.sender==1)||(z09 es s e.sender==2))=lv at HL ⊢
 clear hR0 hb0 hW0 hS
 go_enter Tryz.func208,Tryz.ntmps208
 go_upto_region 1 with fail
 rw[HW0.o]
 clear HW0
 cases jo
 ·go_wp2_with (first
   | (go_at_call 234;(with_reducible refine HA.o.mono ?_);rintro r w1 ⟨rfl,hb1⟩;have s0:=(hb1.cell hlr).trans r0;have s1:=(hb1.cell hlr).trans r1;have s4:=(hb1.cell hlr).trans r4;have Be:=ZZ (HL.o w1 hb1))
   | (go_at_call 236;(with_reducible refine Be.o.mono ?_);rintro r w2 ⟨rfl,hb2⟩))
  go_ret
  exact⟨by first|rfl|simp,HB0.o.trans ((zTr hb1 hb2).mono HB0.o.size)⟩
 ·cases tm
  ·go_wp2_with (first
    | (go_at_call 234;(with_reducible refine HA.o.mono ?_);rintro r w1 ⟨rfl,hb1⟩;have s0:=(hb1.cell hlr).trans r0;have s1:=(hb1.cell hlr).trans r1;have s4:=(hb1.cell hlr).trans r4;have HT1:=ZZ (HT.o w1 hb1))
    | (go_at_call 235;(with_reducible refine HT1.o.mono ?_);rintro r w2 ⟨rfl,hb2⟩))
   go_ret
   exact⟨by first|rfl|simp,HB0.o.trans ((zTr hb1 hb2).mono HB0.o.size)⟩
  ·go_wp2_with (first
    | (go_at_call 234;(with_reducible refine HA.o.mono ?_);rintro r w1 ⟨rfl,hb1⟩;have s0:=(hb1.cell hlr).trans r0;have s1:=(hb1.cell hlr).trans r1;have s4:=(hb1.cell hlr).trans r4;have HT1:=ZZ (HT.o w1 hb1))
    | (go_at_call 235;(with_reducible refine HT1.o.mono ?_);rintro r w2 ⟨rfl,hb2⟩;have hb12:=zTr hb1 hb2;have t0:=(hb12.cell hlr).trans r0;have t1:=(hb12.cell hlr).trans r1;have t4:=(hb12.cell hlr).trans r4;have Be:=ZZ (HL.o w2 hb12))
    | (go_at_call 236;(with_reducible refine Be.o.mono ?_);rintro r w3 ⟨rfl,hb3⟩))
   go_ret
   exact⟨by first|rfl|simp,HB0.o.trans ((zTr hb12 hb3).mono HB0.o.size)⟩

def z2o (es:List EvV) (s:St) (own sn:Int):Nat→Zin→Bool
 | _,[]=>true
 | k,l::r=>if (l != z06 es s ((k:Int)+1))&&(decide (own<l)||(decide (own≤z06 es s ((k:Int)+1))&&((k:Int)+1 != sn))) then false else z2o es s own sn (k+1) r

def z8q (es:List EvV) (s:St) (e:EvV):Bool:=(z09 es s e.sender==2)&&decide (50≤z06 es s e.sender)

def outP (es:List EvV) (s:St) (e:EvV):Bool:=z8q es s e&&decide (z06 es s e.user<z06 es s e.sender)

def zj7 (es:List EvV) (s:St) (e:EvV):Bool :=
 if (e.member==2)=true then ((z2m es s e.sender&&!(s.any fun x=>inR x.1 11 15))||((z09 es s e.sender==1)||(z09 es s e.sender==2)))
 else if (e.member==0)=true then ((z09 es s e.sender==1)||(z09 es s e.sender==2)) else false

def zfl (es:List EvV) (s:St) (e:EvV):Bool :=
 if (e.member==1)=true then ((z09 es s e.sender==2)&&(z09 es s e.user==0))
 else if (e.member==0)=true then (outP es s e&&((z09 es s e.user==1)||(z09 es s e.user==2)))
 else if (e.member==3)=true then (outP es s e&&(z09 es s e.user != 3)) else false

def ze9 (es:List EvV) (s:St) (e:EvV):Bool:=z8q es s e&&z2o es s (z06 es s e.sender) e.sender 0 e.levels

def zc0 (es:List EvV) (s:St) (e:EvV):Bool :=
 if (e.kind==1)=true then s.isEmpty
 else if ((scKn es s 1).2&&((scKn es s 1).1.kind==1))=false then false
 else if ((e.kind==2)&&(e.sender==e.user))=true then zj7 es s e
 else if (e.kind==2)=true then zfl es s e
 else if (e.kind==3)=true then ze9 es s e
 else if (e.kind==4)=true then z8q es s e else (z09 es s e.sender==2)

def z3c (es:List EvV) (s:St) (e:EvV):Bool:=evOk e&&zc0 es s e

theorem zaq {e:EvV} (h:evOk e=true):inR e.sender 1 5=true:=by
 simp only[evOk,zo,Bool.and_eq_true] at h
 exact h.1.2.1

theorem zl3 {e:EvV} (h:evOk e=true):0≤e.user∧e.user≤5:=by
 simp only[evOk,zo,Bool.and_eq_true] at h
 have h1:=h.1.2.2.1
 unfold z0i at h1
 split at h1
 ·simp[inR] at h1;omega
 ·simp at h1;omega

theorem zc1 {e:EvV} (h:evOk e=true) (hk:e.kind=2):inR e.user 1 5=true:=by
 simp only[evOk,zo,Bool.and_eq_true] at h
 have h1:=h.1.2.2.1
 unfold z0i at h1
 rw[if_pos hk] at h1
 simp only[Bool.and_eq_true] at h1
 exact h1.1

theorem zc2 (es:List EvV) (s:St) (own sn:Int):∀ (zs:Zin) (k:Nat),z2o es s own sn k zs=(List.range zs.length).all (fun i=>(zs.getD i 0==z06 es s ((k+i:Nat)+1))||(decide (zs.getD i 0≤own)&&(decide (z06 es s ((k+i:Nat)+1)<own)||((k+i:Nat)+1==sn))))
 | [],k=>rfl
 | z::r,k=>by
  unfold z2o
  rw[zc2 es s own sn r (k+1),List.length_cons,List.range_succ_eq_map,List.all_cons,List.all_map]
  have hf:((fun i=>((z::r).getD i 0==z06 es s ((k+i:Nat)+1))||(decide ((z::r).getD i 0≤own)&&(decide (z06 es s ((k+i:Nat)+1)<own)||((k+i:Nat)+1==sn)))) ∘ Nat.succ)=(fun i=>(r.getD i 0==z06 es s ((k+1+i:Nat)+1))||(decide (r.getD i 0≤own)&&(decide (z06 es s ((k+1+i:Nat)+1)<own)||((k+1+i:Nat)+1==sn)))):=by
   funext i
   simp only[Function.comp,List.getD_cons_succ]
   rw[show k+Nat.succ i=k+1+i by omega]
  rw[hf]
  simp only[List.getD_cons_zero,Nat.add_zero]
  generalize (List.range r.length).all _=q
  generalize hL:z06 es s ((k:Int)+1)=L
  by_cases h1:z=L
  ·simp[h1]
  ·by_cases h2:own<z
   ·simp[h1,h2];omega
   ·by_cases h3:own≤L
    ·by_cases h4:(k:Int)+1=sn
     ·simp[h1,h2,h3,h4];intro;omega
     ·simp[h1,h2,h3,h4];omega
    ·simp[h1,h2,h3];intro;omega

section
variable {es:List EvV} {s:St}

theorem Sane.kn (h:Sane es s) (k:Int):evKn es (stAt s k)=scKn es s k:=by
 have h1:=h.find k
 rw[za3,← h1]
 cases hf:zf es (stAt s k) with
 | none=>rw[z16 hf]
 | some c=>rw[z15 hf]

theorem Sane.allowed (h:Sane es s) (e:EvV):allowed es s e=z3c es s e:=by
 rw[zbl]
 unfold z3c
 cases hok:evOk e with
 | false=>rfl
 | true =>
  rw[Bool.true_and,Bool.true_and]
  have hsn:=zaq hok
  unfold zc0
  rw[h.kn 1]
  cases k1:(e.kind==1) with
  | true=>simp only[if_true];cases s<;>simp
  | false =>
   simp only[Bool.false_eq_true,↓reduceIte]
   cases ((scKn es s 1).2&&((scKn es s 1).1.kind==1)) with
   | false=>simp
   | true =>
    simp only[Bool.true_and,Bool.true_eq_false,↓reduceIte]
    cases k2:(e.kind==2) with
    | true =>
     simp only[Bool.true_and,↓reduceIte]
     have hus:=zc1 hok (by simpa using k2)
     unfold z5b
     by_cases hs:e.user=e.sender
     ·have hb:(e.sender==e.user)=true:=by simp[hs]
      simp only[hs,hb,↓reduceIte,BEq.rfl]
      unfold z6r zj7
      simp only[hs,h.mem hsn,h.find,h.bare]
      have hfirst:(match scEv es s 1 with
       | none=>false
       | some c=>decide (c.sender=e.sender)&&!(s.any fun x=>inR x.1 11 15))=(z2m es s e.sender&&!(s.any fun x=>inR x.1 11 15)):=by
       unfold z2m
       cases he:scEv es s 1 with
       | none=>rfl
       | some c =>
        have:=zma (h.key he).1
        simp[this]
      have HF:=hfirst
      generalize (z2m es s e.sender&&!(s.any fun x=>inR x.1 11 15))=ff at HF ⊢
      generalize z09 es s e.sender=mm
      simp only[beq_iff_eq]
      by_cases m2:e.member=2
      ·simp only[m2,↓reduceIte,z3z]
       rw[Bool.or_comm]
       congr 1
      ·simp only[m2,↓reduceIte,z3z]
     ·have hb:(e.sender==e.user)=false:=by simp;exact fun q=>hs q.symm
      simp only[hs,hb,↓reduceIte,Bool.false_eq_true]
      unfold zfl outP z8q
      simp only[h.mem hsn,h.mem hus,h.lev,beq_iff_eq]
      generalize z09 es s e.sender=ms
      generalize z09 es s e.user=mu
      generalize z06 es s e.sender=ls
      generalize z06 es s e.user=lu
      by_cases m1:e.member=1
      ·simp only[m1,↓reduceIte,z3z]
      ·by_cases m0:e.member=0
       ·simp only[m0,↓reduceIte,z3z,show ¬ ((0:Int)=1) from by decide]
        cases (ms==2)<;>cases (mu==1)<;>cases (mu==2)<;>cases (decide (50≤ls))<;>cases (decide (lu<ls))<;>rfl
       ·by_cases m3:e.member=3
        ·simp only[m3,↓reduceIte,z3z,decide_not,bne,show ¬ ((3:Int)=1) from by decide,show ¬ ((3:Int)=0) from by decide]
         cases (ms==2)<;>cases (mu==3)<;>cases (decide (50≤ls))<;>cases (decide (lu<ls))<;>rfl
        ·simp only[m1,m0,m3,↓reduceIte,Bool.and_false]
    | false =>
     simp only[Bool.false_and,Bool.false_eq_true,↓reduceIte]
     cases k3:(e.kind==3) with
     | true =>
      simp only[↓reduceIte]
      have h5:=z95 hok (by simpa using k3)
      unfold z6m ze9 z8q
      rw[zc2,h5,h.mem hsn,h.lev]
      simp only[z3z]
      congr 1
      simp only[z3y,h.lev,List.all_cons,List.all_nil,List.range,List.range.loop,Nat.zero_add,z3z]
      rfl
     | false =>
      simp only[Bool.false_eq_true,↓reduceIte,h.mem hsn,h.lev]
      rfl
end

theorem zl4 {es:List EvV} {s:St} {own sn:Int} {zs:Zin} {j:Nat} {z:Int} (h:zs[j]? = some z):z2o es s own sn j (zs.drop j)=if ((z != z06 es s ((j:Int)+1))&&(decide (own<z)||(decide (own≤z06 es s ((j:Int)+1))&&((j:Int)+1 != sn))))=true then false else z2o es s own sn (j+1) (zs.drop (j+1)):=by
 have hj:j<zs.length:=by
  rcases Nat.lt_or_ge j zs.length with q|q
  ·exact q
  ·rw[List.getElem?_eq_none q] at h;cases h
 have hz:zs[j]=z:=by rw[List.getElem?_eq_getElem hj] at h;exact zSi h
 rw[List.drop_eq_getElem_cons hj,hz]
 rfl

theorem zj8 (b:Nat) (oa:Zoa) (n cap:Nat) (es:List EvV) (s:St) (e:EvV) (xa:Zoa) (xc:Nat) (xp:Value) (hse:inR e.sender 1 5=true) (hl20:e.levels.length≤1048576) (w:World) (hS:Scn w b oa n cap es s) (hx:IntsAt w xa e.levels.length xc e.levels) :
  Calls Tryz.prog 179 #[trv b oa n cap e (.slice xa e.levels.length xc) xp] w fun r w'=>r=.returned (.bool (ze9 es s e))∧Bw w w':=by
 obtain⟨W0,hW0⟩:∃ W0,w.alloc (.cells #[.map (some b),.slice oa n cap,J Y e.id,J Y e.kind,J Y e.sender,J Y e.user,J Y e.member,(.slice xa e.levels.length xc),.string ⟨e.text.toArray⟩,xp,J Y e.depth] 185)=W0:=⟨_,rfl⟩
 obtain⟨hb0,hR0⟩:=z1e hW0
 have Ak:=ZZ (hS.on hb0)
 have HX0:=ZZ (hx.below hb0)
 have Ad:=ZZ hR0
 have hlr:=ze hR0
 have HB0:=ZZ hb0
 have HW0:=ZZ hW0
 have HA:=ZZ (z8f b oa n cap es s e (.slice xa e.levels.length xc) xp hse W0 Ak.o)
 have HL:=ZZ (fun W (h:Bw W0 W)=>z4c b oa n cap es s e.sender W (Ak.o.on h))
 have BG:=ZZ (fun (u:Int) W (h:Bw W0 W)=>z4c b oa n cap es s u W (Ak.o.on h))
 have hE:ze9 es s e=(((z09 es s e.sender==2)&&decide (50≤z06 es s e.sender))&&z2o es s (z06 es s e.sender) e.sender 0 e.levels):=rfl
 have J8:=ZZ (fun (j:Nat) (z:Int) (h:e.levels[j]? = some z)=>zl4 (es:=es) (s:=s) (own:=z06 es s e.sender) (sn:=e.sender) h)
 have Gv:=ZZ (show z2o es s (z06 es s e.sender) e.sender e.levels.length (e.levels.drop e.levels.length)=true by rw[List.drop_length];rfl)
 rw[hE]
 generalize ((z09 es s e.sender==2)&&decide (50≤z06 es s e.sender))=jo at HA ⊢
 generalize hlv:z06 es s e.sender=own at HL J8 Gv ⊢
 generalize hgo:z2o es s own e.sender 0 e.levels=q0 at ⊢
 have Lx:=ZZ (show z2o es s own e.sender 0 (e.levels.drop 0)=q0 from hgo)
 clear hR0 hb0 hW0 hS hx hE hlv hgo
 go_enter Tryz.func179,Tryz.ntmps179
 go_upto_region 1 with fail
 rw[HW0.o]
 clear HW0
 have r0:=zb Ad.o 0 rfl
 have r1:=zb Ad.o 1 rfl
 have r2:=zb Ad.o 2 rfl
 have r3:=zb Ad.o 3 rfl
 have r4:=zb Ad.o 4 rfl
 have r5:=zb Ad.o 5 rfl
 have r6:=zb Ad.o 6 rfl
 have r7:=zb Ad.o 7 rfl
 have r8:=zb Ad.o 8 rfl
 have r9:=zb Ad.o 9 rfl
 have r10:=zb Ad.o 10 rfl
 cases jo
 ·go_wp2_with (go_at_call 213;(with_reducible refine HA.o.mono ?_);rintro r w1 ⟨rfl,hb1⟩)
  go_ret
  exact⟨by simp,zTr HB0.o hb1⟩
 ·go_wp2_with (first
   | (go_at_call 213;(with_reducible refine HA.o.mono ?_);rintro r w1 ⟨rfl,hb1⟩;have s0:=(hb1.cell hlr).trans r0;have s1:=(hb1.cell hlr).trans r1;have s4:=(hb1.cell hlr).trans r4;have Be:=ZZ (HL.o w1 hb1))
   | (go_at_call 214;(with_reducible refine Be.o.mono ?_);rintro r w2 ⟨rfl,hb2⟩;have hb12:=zTr hb1 hb2;have t7:=(hb12.cell hlr).trans r7))
  have HB2:=ZZ hb12
  have HXB:=ZZ (HX0.o.below hb12)
  clear hb1 hb2 hb12 s0 s1 s4 Be t7 r1 r2 r3 r5 r6 r7 r8 r9 r10
  have hwb:=hlr
  go_loopw [22] (fun i wr=>∃ j:Nat,i=J Y (j:Int)∧j≤e.levels.length∧z2o es s own e.sender j (e.levels.drop j)=q0∧Bw W0 wr) (fun i _=>e.levels.length - (intOf i).toNat)
  case atStart=>exact⟨0,rfl,Nat.zero_le _,Lx.o,HB2.o⟩
  case round =>
   obtain⟨j,rfl,hj,hrest,hbr⟩:=hrel
   have Av:=ZZ hbr
   have A7:=ZZ hrest
   clear hbr hrest
   by_cases hlt:j<e.levels.length
   ·have j0:(j:Int)<(e.levels.length:Int):=by omega
    obtain⟨z,bz,q,hz,hidx,hbz,c0,hwf⟩:=(HX0.o.below Av.o).get Tryz.underlying60 z0f j hlt
    have hnx:=J8.o j z hz
    rw[A7.o] at hnx
    have AO:=ZZ hnx
    have hwr:IntKind.i64.wrap ((j:Int)+1)=(j:Int)+1:=by rw[IntKind.wrap_i64];omega
    have u0:=(Av.o.cell hlr).trans r0
    have u1:=Av.o.block w.heap.size hlr
    have v1:=zb (u1.trans Ad.o) 1 rfl
    have v4:=zb (u1.trans Ad.o) 4 rfl
    have Ca:=ZZ (BG.o ((j:Int)+1) wr Av.o)
    have hbz2:=Av.o.size
    generalize z06 es s ((j:Int)+1)=was at Ca AO
    clear hz hnx u1 A7 J8 BG
    by_cases g1:own<z
    ·cases g2:(z != was)
     ·have AJ:=ZZ (show z2o es s own e.sender (j+1) (e.levels.drop (j+1))=q0 by rw[AO.o,g2];rfl)
      clear AO
      go_wp2_with (go_at_call 214;(with_reducible refine Ca.o.mono ?_);rintro r w3 ⟨rfl,hb3⟩;have x4:=(hb3.cell (zLt hlr hbz2)).trans v4)
      go_roundw
      case rel=>exact⟨j+1,by go_num,by omega,AJ.o,Av.o.trans (hb3.mono hbz2)⟩
      case measure=>simp[intOf];omega
     ·have AJ:=ZZ (show q0=false by rw[AO.o,g2];simp[g1])
      clear AO
      go_wp2_with (go_at_call 214;(with_reducible refine Ca.o.mono ?_);rintro r w3 ⟨rfl,hb3⟩;have x4:=(hb3.cell (zLt hlr hbz2)).trans v4)
      go_ret
      exact⟨by rw[AJ.o];rfl,HB0.o.trans ((Av.o.trans (hb3.mono hbz2)).mono HB0.o.size)⟩
    ·by_cases g3:own≤was
     ·cases g4:((j:Int)+1 != e.sender)
      ·have AJ:=ZZ (show z2o es s own e.sender (j+1) (e.levels.drop (j+1))=q0 by rw[AO.o,g4];simp[g1])
       clear AO
       cases g2:(z != was)
       all_goals
        go_wp2_with (go_at_call 214;(with_reducible refine Ca.o.mono ?_);rintro r w3 ⟨rfl,hb3⟩;have x4:=(hb3.cell (zLt hlr hbz2)).trans v4)
        go_roundw
        case rel=>exact⟨j+1,by go_num,by omega,AJ.o,Av.o.trans (hb3.mono hbz2)⟩
        case measure=>simp[intOf];omega
      ·cases g2:(z != was)
       ·have AJ:=ZZ (show z2o es s own e.sender (j+1) (e.levels.drop (j+1))=q0 by rw[AO.o,g2];rfl)
        clear AO
        go_wp2_with (go_at_call 214;(with_reducible refine Ca.o.mono ?_);rintro r w3 ⟨rfl,hb3⟩;have x4:=(hb3.cell (zLt hlr hbz2)).trans v4)
        go_roundw
        case rel=>exact⟨j+1,by go_num,by omega,AJ.o,Av.o.trans (hb3.mono hbz2)⟩
        case measure=>simp[intOf];omega
       ·have AJ:=ZZ (show q0=false by rw[AO.o,g2,g4];simp[g3])
        clear AO
        go_wp2_with (go_at_call 214;(with_reducible refine Ca.o.mono ?_);rintro r w3 ⟨rfl,hb3⟩;have x4:=(hb3.cell (zLt hlr hbz2)).trans v4)
        go_ret
        exact⟨by rw[AJ.o];rfl,HB0.o.trans ((Av.o.trans (hb3.mono hbz2)).mono HB0.o.size)⟩
     ·have AJ:=ZZ (show z2o es s own e.sender (j+1) (e.levels.drop (j+1))=q0 by rw[AO.o];simp[g1,g3])
      clear AO
      cases g2:(z != was)
      all_goals
       go_wp2_with (go_at_call 214;(with_reducible refine Ca.o.mono ?_);rintro r w3 ⟨rfl,hb3⟩;have x4:=(hb3.cell (zLt hlr hbz2)).trans v4)
       go_roundw
       case rel=>exact⟨j+1,by go_num,by omega,AJ.o,Av.o.trans (hb3.mono hbz2)⟩
       case measure=>simp[intOf];omega
   ·have hje:j=e.levels.length:=by omega
    subst hje
    have HQ:=ZZ (show q0=true by rw[← A7.o];exact Gv.o)
    clear A7 J8 BG
    go_wp2_with fail
    go_ret
    exact⟨by rw[HQ.o];rfl,zTr HB0.o Av.o⟩

def za5 (e:EvV):Nat:=if (e.member==2)=true then 208 else if (e.member==0)=true then 209 else 176

def z8r (e:EvV):Nat:=if (e.member==1)=true then 210 else if (e.member==0)=true then 211 else if (e.member==3)=true then 212 else 176

def z3g (es:List EvV) (s:St) (e:EvV):Nat :=
 if (e.kind==1)=true then 175
 else if ((scKn es s 1).2&&((scKn es s 1).1.kind==1))=false then 176
 else if ((e.kind==2)&&(e.sender==e.user))=true then za5 e
 else if (e.kind==2)=true then z8r e
 else if (e.kind==3)=true then 179
 else if (e.kind==4)=true then 180 else 181

theorem zfm (b:Nat) (oa:Zoa) (n cap:Nat) (e:EvV) (xl xp:Value) (w:World) :
  Calls Tryz.prog 177 #[trv b oa n cap e xl xp] w fun r w'=>r=.returned (.func (.func (za5 e)) #[trv b oa n cap e xl xp] #[])∧Bw w w':=by
 obtain⟨W0,hW0⟩:∃ W0,w.alloc (.cells #[.map (some b),.slice oa n cap,J Y e.id,J Y e.kind,J Y e.sender,J Y e.user,J Y e.member,xl,.string ⟨e.text.toArray⟩,xp,J Y e.depth] 185)=W0:=⟨_,rfl⟩
 obtain⟨hb0,hR0⟩:=z1e hW0
 have hmf:∀ (fn:Fn) (first cap:Array Value) (w:World),(Instr.makeFunc fn first cap).run Tryz.prog w=.ok (.func fn first cap) w:=fun _ _ _ _=>rfl
 have r0:=zb hR0 0 rfl
 have r1:=zb hR0 1 rfl
 have r2:=zb hR0 2 rfl
 have r3:=zb hR0 3 rfl
 have r4:=zb hR0 4 rfl
 have r5:=zb hR0 5 rfl
 have r6:=zb hR0 6 rfl
 have r7:=zb hR0 7 rfl
 have r8:=zb hR0 8 rfl
 have r9:=zb hR0 9 rfl
 have r10:=zb hR0 10 rfl
 have hlr:=ze hR0
 have HB0:=ZZ hb0
 have HW0:=ZZ hW0
 clear hR0 hb0 hW0
 unfold za5
 cases m2:(e.member==2)
 case true =>
  go_enter Tryz.func177,Tryz.ntmps177
  go_upto_region 1 with fail
  rw[HW0.o]
  clear HW0
  go_wp2_with fail
  go_ret
  exact⟨by first|rfl|simp,HB0.o⟩
 case false =>
  cases m0:(e.member==0)
  case true =>
   go_enter Tryz.func177,Tryz.ntmps177
   go_upto_region 1 with fail
   rw[HW0.o]
   clear HW0
   go_wp2_with fail
   go_ret
   exact⟨by first|rfl|simp,HB0.o⟩
  case false =>
   go_enter Tryz.func177,Tryz.ntmps177
   go_upto_region 1 with fail
   rw[HW0.o]
   clear HW0
   go_wp2_with fail
   go_ret
   exact⟨by first|rfl|simp,HB0.o⟩

theorem ze4 (b:Nat) (oa:Zoa) (n cap:Nat) (e:EvV) (xl xp:Value) (w:World) :
  Calls Tryz.prog 178 #[trv b oa n cap e xl xp] w fun r w'=>r=.returned (.func (.func (z8r e)) #[trv b oa n cap e xl xp] #[])∧Bw w w':=by
 obtain⟨W0,hW0⟩:∃ W0,w.alloc (.cells #[.map (some b),.slice oa n cap,J Y e.id,J Y e.kind,J Y e.sender,J Y e.user,J Y e.member,xl,.string ⟨e.text.toArray⟩,xp,J Y e.depth] 185)=W0:=⟨_,rfl⟩
 obtain⟨hb0,hR0⟩:=z1e hW0
 have hmf:∀ (fn:Fn) (first cap:Array Value) (w:World),(Instr.makeFunc fn first cap).run Tryz.prog w=.ok (.func fn first cap) w:=fun _ _ _ _=>rfl
 have r0:=zb hR0 0 rfl
 have r1:=zb hR0 1 rfl
 have r2:=zb hR0 2 rfl
 have r3:=zb hR0 3 rfl
 have r4:=zb hR0 4 rfl
 have r5:=zb hR0 5 rfl
 have r6:=zb hR0 6 rfl
 have r7:=zb hR0 7 rfl
 have r8:=zb hR0 8 rfl
 have r9:=zb hR0 9 rfl
 have r10:=zb hR0 10 rfl
 have hlr:=ze hR0
 have HB0:=ZZ hb0
 have HW0:=ZZ hW0
 clear hR0 hb0 hW0
 unfold z8r
 cases m1:(e.member==1)
 case true =>
  go_enter Tryz.func178,Tryz.ntmps178
  go_upto_region 1 with fail
  rw[HW0.o]
  clear HW0
  go_wp2_with fail
  go_ret
  exact⟨by first|rfl|simp,HB0.o⟩
 case false =>
  cases m0:(e.member==0)
  case true =>
   go_enter Tryz.func178,Tryz.ntmps178
   go_upto_region 1 with fail
   rw[HW0.o]
   clear HW0
   go_wp2_with fail
   go_ret
   exact⟨by first|rfl|simp,HB0.o⟩
  case false =>
   cases m3:(e.member==3)
   case true =>
    go_enter Tryz.func178,Tryz.ntmps178
    go_upto_region 1 with fail
    rw[HW0.o]
    clear HW0
    go_wp2_with fail
    go_ret
    exact⟨by first|rfl|simp,HB0.o⟩
   case false =>
    go_enter Tryz.func178,Tryz.ntmps178
    go_upto_region 1 with fail
    rw[HW0.o]
    clear HW0
    go_wp2_with fail
    go_ret
    exact⟨by first|rfl|simp,HB0.o⟩

theorem zmx (b:Nat) (oa:Zoa) (n cap:Nat) (es:List EvV) (s:St) (e:EvV) (xl xp:Value) (w:World) (hS:Scn w b oa n cap es s) :
  Calls Tryz.prog 139 #[trv b oa n cap e xl xp] w fun r w'=>r=.returned (.func (.func (z3g es s e)) #[trv b oa n cap e xl xp] #[])∧Bw w w':=by
 obtain⟨W0,hW0⟩:∃ W0,w.alloc (.cells #[.map (some b),.slice oa n cap,J Y e.id,J Y e.kind,J Y e.sender,J Y e.user,J Y e.member,xl,.string ⟨e.text.toArray⟩,xp,J Y e.depth] 185)=W0:=⟨_,rfl⟩
 obtain⟨hb0,hR0⟩:=z1e hW0
 have hmf:∀ (fn:Fn) (first cap:Array Value) (w:World),(Instr.makeFunc fn first cap).run Tryz.prog w=.ok (.func fn first cap) w:=fun _ _ _ _=>rfl
 have r0:=zb hR0 0 rfl
 have r1:=zb hR0 1 rfl
 have r2:=zb hR0 2 rfl
 have r3:=zb hR0 3 rfl
 have r4:=zb hR0 4 rfl
 have r5:=zb hR0 5 rfl
 have r6:=zb hR0 6 rfl
 have r7:=zb hR0 7 rfl
 have r8:=zb hR0 8 rfl
 have r9:=zb hR0 9 rfl
 have r10:=zb hR0 10 rfl
 have hlr:=ze hR0
 have HB0:=ZZ hb0
 have HW0:=ZZ hW0
 have HC:=ZZ (z8n b oa n cap es s W0 (hS.on hb0))
 have AX:=ZZ (fun W=>zfm b oa n cap e xl xp W)
 have Bi:=ZZ (fun W=>ze4 b oa n cap e xl xp W)
 clear hR0 hb0 hW0
 unfold z3g
 generalize za5 e=fs at AX ⊢
 generalize z8r e=fo at Bi ⊢
 generalize ((scKn es s 1).2&&((scKn es s 1).1.kind==1))=ok at HC ⊢
 generalize (scKn es s 1).1=c at HC ⊢
 clear hS
 cases k1:(e.kind==1)
 case true =>
  cases ok
  all_goals
   go_enter Tryz.func139,Tryz.ntmps139
   go_upto_region 1 with fail
   rw[HW0.o]
   clear HW0
   go_wp2_with (go_at_call 174;(with_reducible refine HC.o.mono ?_);rintro r w1 ⟨xa,xc,ya,yc,rfl,hx,hy,hb1⟩;have hl1:w.heap.size<w1.heap.size:=zLt hlr hb1.size;have s0:=(hb1.cell hlr).trans r0;have s1:=(hb1.cell hlr).trans r1;have s2:=(hb1.cell hlr).trans r2;have s3:=(hb1.cell hlr).trans r3;have s4:=(hb1.cell hlr).trans r4;have s5:=(hb1.cell hlr).trans r5;have s6:=(hb1.cell hlr).trans r6;have s7:=(hb1.cell hlr).trans r7;have s8:=(hb1.cell hlr).trans r8;have s9:=(hb1.cell hlr).trans r9;have s10:=(hb1.cell hlr).trans r10)
   go_ret
   exact⟨by first|rfl|simp,zg (zTr HB0.o hb1) (.cells (zk c.id c.kind c.sender c.user c.member c.depth (.slice xa c.levels.length xc) (.slice ya c.prev.length yc) c.text) 62)⟩
 case false =>
  cases ok
  case false =>
   go_enter Tryz.func139,Tryz.ntmps139
   go_upto_region 1 with fail
   rw[HW0.o]
   clear HW0
   go_wp2_with (go_at_call 174;(with_reducible refine HC.o.mono ?_);rintro r w1 ⟨xa,xc,ya,yc,rfl,hx,hy,hb1⟩;have hl1:w.heap.size<w1.heap.size:=zLt hlr hb1.size;have s0:=(hb1.cell hlr).trans r0;have s1:=(hb1.cell hlr).trans r1;have s2:=(hb1.cell hlr).trans r2;have s3:=(hb1.cell hlr).trans r3;have s4:=(hb1.cell hlr).trans r4;have s5:=(hb1.cell hlr).trans r5;have s6:=(hb1.cell hlr).trans r6;have s7:=(hb1.cell hlr).trans r7;have s8:=(hb1.cell hlr).trans r8;have s9:=(hb1.cell hlr).trans r9;have s10:=(hb1.cell hlr).trans r10)
   go_ret
   exact⟨by first|rfl|simp,zg (zTr HB0.o hb1) (.cells (zk c.id c.kind c.sender c.user c.member c.depth (.slice xa c.levels.length xc) (.slice ya c.prev.length yc) c.text) 62)⟩
  case true =>
   cases k2:(e.kind==2)
   case true =>
    cases ks:(e.sender==e.user)
    case true =>
     go_enter Tryz.func139,Tryz.ntmps139
     go_upto_region 1 with fail
     rw[HW0.o]
     clear HW0
     go_wp2_with (first
      | (go_at_call 174;(with_reducible refine HC.o.mono ?_);rintro r w1 ⟨xa,xc,ya,yc,rfl,hx,hy,hb1⟩;have hl1:w.heap.size<w1.heap.size:=zLt hlr hb1.size;have s0:=(hb1.cell hlr).trans r0;have s1:=(hb1.cell hlr).trans r1;have s2:=(hb1.cell hlr).trans r2;have s3:=(hb1.cell hlr).trans r3;have s4:=(hb1.cell hlr).trans r4;have s5:=(hb1.cell hlr).trans r5;have s6:=(hb1.cell hlr).trans r6;have s7:=(hb1.cell hlr).trans r7;have s8:=(hb1.cell hlr).trans r8;have s9:=(hb1.cell hlr).trans r9;have s10:=(hb1.cell hlr).trans r10)
      | (go_at_call 177;(with_reducible refine (AX.o _).mono ?_);rintro r w2 ⟨rfl,hb2⟩))
     go_ret
     exact⟨by first|rfl|simp,(zg (zTr HB0.o hb1) (.cells (zk c.id c.kind c.sender c.user c.member c.depth (.slice xa c.levels.length xc) (.slice ya c.prev.length yc) c.text) 62)).trans (hb2.mono (by simp;have:=HB0.o.size;have:=hb1.size;omega))⟩
    case false =>
     go_enter Tryz.func139,Tryz.ntmps139
     go_upto_region 1 with fail
     rw[HW0.o]
     clear HW0
     go_wp2_with (first
      | (go_at_call 174;(with_reducible refine HC.o.mono ?_);rintro r w1 ⟨xa,xc,ya,yc,rfl,hx,hy,hb1⟩;have hl1:w.heap.size<w1.heap.size:=zLt hlr hb1.size;have s0:=(hb1.cell hlr).trans r0;have s1:=(hb1.cell hlr).trans r1;have s2:=(hb1.cell hlr).trans r2;have s3:=(hb1.cell hlr).trans r3;have s4:=(hb1.cell hlr).trans r4;have s5:=(hb1.cell hlr).trans r5;have s6:=(hb1.cell hlr).trans r6;have s7:=(hb1.cell hlr).trans r7;have s8:=(hb1.cell hlr).trans r8;have s9:=(hb1.cell hlr).trans r9;have s10:=(hb1.cell hlr).trans r10)
      | (go_at_call 178;(with_reducible refine (Bi.o _).mono ?_);rintro r w2 ⟨rfl,hb2⟩))
     go_ret
     exact⟨by first|rfl|simp,(zg (zTr HB0.o hb1) (.cells (zk c.id c.kind c.sender c.user c.member c.depth (.slice xa c.levels.length xc) (.slice ya c.prev.length yc) c.text) 62)).trans (hb2.mono (by simp;have:=HB0.o.size;have:=hb1.size;omega))⟩
   case false =>
    cases k3:(e.kind==3)
    case true =>
     go_enter Tryz.func139,Tryz.ntmps139
     go_upto_region 1 with fail
     rw[HW0.o]
     clear HW0
     go_wp2_with (go_at_call 174;(with_reducible refine HC.o.mono ?_);rintro r w1 ⟨xa,xc,ya,yc,rfl,hx,hy,hb1⟩;have hl1:w.heap.size<w1.heap.size:=zLt hlr hb1.size;have s0:=(hb1.cell hlr).trans r0;have s1:=(hb1.cell hlr).trans r1;have s2:=(hb1.cell hlr).trans r2;have s3:=(hb1.cell hlr).trans r3;have s4:=(hb1.cell hlr).trans r4;have s5:=(hb1.cell hlr).trans r5;have s6:=(hb1.cell hlr).trans r6;have s7:=(hb1.cell hlr).trans r7;have s8:=(hb1.cell hlr).trans r8;have s9:=(hb1.cell hlr).trans r9;have s10:=(hb1.cell hlr).trans r10)
     go_ret
     exact⟨by first|rfl|simp,zg (zTr HB0.o hb1) (.cells (zk c.id c.kind c.sender c.user c.member c.depth (.slice xa c.levels.length xc) (.slice ya c.prev.length yc) c.text) 62)⟩
    case false =>
     cases k4:(e.kind==4)
     case true =>
      go_enter Tryz.func139,Tryz.ntmps139
      go_upto_region 1 with fail
      rw[HW0.o]
      clear HW0
      go_wp2_with (go_at_call 174;(with_reducible refine HC.o.mono ?_);rintro r w1 ⟨xa,xc,ya,yc,rfl,hx,hy,hb1⟩;have hl1:w.heap.size<w1.heap.size:=zLt hlr hb1.size;have s0:=(hb1.cell hlr).trans r0;have s1:=(hb1.cell hlr).trans r1;have s2:=(hb1.cell hlr).trans r2;have s3:=(hb1.cell hlr).trans r3;have s4:=(hb1.cell hlr).trans r4;have s5:=(hb1.cell hlr).trans r5;have s6:=(hb1.cell hlr).trans r6;have s7:=(hb1.cell hlr).trans r7;have s8:=(hb1.cell hlr).trans r8;have s9:=(hb1.cell hlr).trans r9;have s10:=(hb1.cell hlr).trans r10)
      go_ret
      exact⟨by first|rfl|simp,zg (zTr HB0.o hb1) (.cells (zk c.id c.kind c.sender c.user c.member c.depth (.slice xa c.levels.length xc) (.slice ya c.prev.length yc) c.text) 62)⟩
     case false =>
      go_enter Tryz.func139,Tryz.ntmps139
      go_upto_region 1 with fail
      rw[HW0.o]
      clear HW0
      go_wp2_with (go_at_call 174;(with_reducible refine HC.o.mono ?_);rintro r w1 ⟨xa,xc,ya,yc,rfl,hx,hy,hb1⟩;have hl1:w.heap.size<w1.heap.size:=zLt hlr hb1.size;have s0:=(hb1.cell hlr).trans r0;have s1:=(hb1.cell hlr).trans r1;have s2:=(hb1.cell hlr).trans r2;have s3:=(hb1.cell hlr).trans r3;have s4:=(hb1.cell hlr).trans r4;have s5:=(hb1.cell hlr).trans r5;have s6:=(hb1.cell hlr).trans r6;have s7:=(hb1.cell hlr).trans r7;have s8:=(hb1.cell hlr).trans r8;have s9:=(hb1.cell hlr).trans r9;have s10:=(hb1.cell hlr).trans r10)
      go_ret
      exact⟨by first|rfl|simp,zg (zTr HB0.o hb1) (.cells (zk c.id c.kind c.sender c.user c.member c.depth (.slice xa c.levels.length xc) (.slice ya c.prev.length yc) c.text) 62)⟩

end Go.Proofs.YtfeebdcmlnapiaaGreat
