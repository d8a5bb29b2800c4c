/-
  Walks.
-/
import Derived.Test.YtfeebdcmlnapiaaGreatTHallA1
import Derived.Test.YtfeebdcmlnapiaaGreatTSame0
set_option maxRecDepth 100000
set_option linter.unusedVariables false
set_option linter.unusedSimpArgs false
namespace Go.Proofs.YtfeebdcmlnapiaaGreat
open Go.RowKit P1 P5 P9 P11 P12 P14 K
def y08 (s:SesV):Bool:=if s.kind=0 then decide (s.data.size=0) else decide (1≤s.kind)&&(decide (s.kind≤1000000)&&decide (s.data.size≤40))

def y02 (tok:Int) (s:SesV):Bool:=decide (tok+1≤s.term)&&(decide (s.term≤1000000)&&y08 s)

def y07 (tok:Int):List SesV→Bool
 | []=>true
 | s::r=>y02 tok s&&y07 s.term r

def y06 (ps:List SesV):Bool:=decide (ps.length≤3)&&y07 0 ps

def y00 (ps:List SesV) (j:Nat):Int:=match j with
 | 0=>0
 | i+1=>((ps[i]?).map (·.term)).getD 0

theorem y0w (ps:List SesV) {j:Nat} {s:SesV} (h:ps[j]? = some s):y07 (y00 ps j) (ps.drop j)=(y02 (y00 ps j) s&&y07 (y00 ps (j+1)) (ps.drop (j+1))):=by
 obtain⟨hj,rfl⟩:=zGi.1 h
 rw[List.drop_eq_getElem_cons hj]
 show (y02 (y00 ps j) ps[j]&&y07 ps[j].term _)=_
 have:y00 ps (j+1)=ps[j].term:=by simp[y00,h]
 rw[this]

theorem y1a (ps:List SesV) {j:Nat} (h:ps.length≤j) (t:Int):y07 t (ps.drop j)=true:=by
 rw[List.drop_eq_nil_of_le h]
 rfl

def ownP (x:EvV × Bool):Option Int:=if x.2=true∧x.1.id.tmod 2=0 then some x.1.id else none

def ownL (es:List EvV) (gs:List Bool):Zin:=(es.zip gs).filterMap ownP

def y01 (es:List EvV) (gs:List Bool) (j:Nat):Zin:=((es.zip gs).take j).filterMap ownP

theorem y0x {es:List EvV} {gs:List Bool} {j:Nat} {e:EvV} {g:Bool} (he:es[j]? = some e) (hg:gs[j]? = some g):y01 es gs (j+1)=y01 es gs j++(if g=true∧e.id.tmod 2=0 then [e.id] else []):=by
 unfold y01
 have hz:(es.zip gs)[j]? = some (e,g):=by
  rw[List.getElem?_zip_eq_some]
  exact⟨he,hg⟩
 rw[List.take_add_one,hz,List.filterMap_append]
 congr 1
 show List.filterMap ownP [(e,g)]=_
 by_cases h:g=true∧e.id.tmod 2=0
 ·rw[List.filterMap_cons_some (b:=e.id) (by unfold ownP;rw[if_pos h]),if_pos h];rfl
 ·rw[List.filterMap_cons_none (by unfold ownP;rw[if_neg h]),if_neg h];rfl

theorem y0k {es:List EvV} {gs:List Bool} {j:Nat} (h:es.length≤j):y01 es gs j=ownL es gs:=by
 unfold y01 ownL
 rw[zTl (by rw[List.length_zip];omega)]

theorem y1b (es:List EvV) (gs:List Bool) (j:Nat):(y01 es gs j).length≤j:=by
 unfold y01
 have h1:=List.length_filterMap_le ownP ((es.zip gs).take j)
 rw[List.length_take] at h1
 omega

theorem y1k (es:List EvV) (gs:List Bool):(ownL es gs).length≤es.length:=by
 unfold ownL
 have h1:=List.length_filterMap_le ownP (es.zip gs)
 rw[List.length_zip] at h1
 omega

theorem y1l {es:List EvV} (hw:∀ e∈es,(Lit.int .i64 e.id).wf=true) (gs:List Bool) (j:Nat):∀ z∈y01 es gs j,(Lit.int .i64 z).wf=true:=by
 intro z hz
 obtain⟨x,hx,h⟩:=List.mem_filterMap.1 hz
 have hx':=List.mem_of_mem_take hx
 have he:x.1∈es:=(List.of_mem_zip hx').1
 unfold ownP at h
 split at h
 ·cases h;exact hw _ he
 ·cases h

noncomputable def y0i (own:Zin) (k:Nat) (o:OutX):Bool:=(o.d==((k+1:Nat):Int))&&(eqB o.ids own&&(decide (0≤o.a)&&decide (o.a≤(own.length:Int))))

noncomputable def y0e (own:Zin) (k:Nat):List OutX→Bool
 | []=>true
 | o::r=>y0i own k o&&y0e own (k+1) r

noncomputable def y04 (es:List EvV) (gs:List Bool) (os:List OutX):Bool:=decide (os.length=2)&&y0e (ownL es gs) 0 os

theorem y0y (own:Zin) (os:List OutX) {j:Nat} {o:OutX} (h:os[j]? = some o):y0e own j (os.drop j)=(y0i own j o&&y0e own (j+1) (os.drop (j+1))):=by
 obtain⟨hj,rfl⟩:=zGi.1 h
 rw[List.drop_eq_getElem_cons hj]
 rfl

theorem y1c (own:Zin) (os:List OutX) {j:Nat} (h:os.length≤j) (k:Nat):y0e own k (os.drop j)=true:=by
 rw[List.drop_eq_nil_of_le h]
 rfl

theorem y1m {s:ByteArray} (h:s.size≠0):s.toList.isEmpty=false:=by
 cases hl:s.toList with
 | nil =>
  exfalso
  rw[Lib.toList_data] at hl
  apply h
  have h2:s.data.toList.length=0:=by rw[hl];rfl
  rw[Array.length_toList] at h2
  exact h2
 | cons a b=>rfl

theorem y2f (e:SesV) (w:World) :
  Calls Tryz.prog 94 #[sesv e] w fun r w'=>r=.returned (.bool (y08 e))∧Bw w w':=by
 obtain⟨t,k,s⟩:=e
 simp only[sesv,y08]
 have HB0:=ZZ ((Below.refl w.heap.size w).alloc zLe (.cells #[.int .i64 t,.int .i64 k,.string s] 86))
 by_cases hk:k=0
 ·subst hk
  rw[if_pos rfl]
  by_cases hs:s.size=0
  ·obtain rfl:s=⟨#[]⟩:=by
    obtain⟨d⟩:=s
    congr
    exact Array.eq_empty_of_size_eq_zero hs
   go_enter Tryz.func94,Tryz.ntmps94
   go_wp2_with fail
   go_ret
   exact⟨rfl,HB0.o⟩
  ·have q:=y1m hs
   rw[decide_eq_false hs]
   clear hs
   go_enter Tryz.func94,Tryz.ntmps94
   go_wp2_with fail
   go_ret
   exact⟨rfl,HB0.o⟩
 ·have q:(k==0)=false:=by simpa using hk
  rw[if_neg hk]
  rw[← Bool.and_assoc,show decide (s.size≤40)=decide ((s.size:Int)≤40) from decide_eq_decide.2 (by omega)]
  have HWI:=ZZ (fun w=>z6f k 1 1000000 w)
  clear hk
  generalize (decide (1≤k)&&decide (k≤1000000))=b at HWI ⊢
  cases b with
  | false =>
   go_enter Tryz.func94,Tryz.ntmps94
   go_wp2_with (go_at_call 93;(with_reducible refine (HWI.o _).mono ?_);rintro r w1 ⟨rfl,rfl⟩)
   go_ret
   exact⟨rfl,HB0.o⟩
  | true =>
   go_enter Tryz.func94,Tryz.ntmps94
   go_wp2_with (go_at_call 93;(with_reducible refine (HWI.o _).mono ?_);rintro r w1 ⟨rfl,rfl⟩)
   go_ret
   exact⟨rfl,HB0.o⟩

theorem y14 (pa:Zoa) (pn pc:Nat) (ps:List SesV) (v1 v2 v3 v4:Value) (hv:∃ o1 n1 c1 o2 n2 c2 o3 n3 c3 o4 n4 c4,v1=.slice o1 n1 c1∧v2=.slice o2 n2 c2∧v3=.slice o3 n3 c3∧v4=.slice o4 n4 c4) (hw:∀ f∈ps,y0c f) (w:World) (hps:y0d w pa pn pc ps) :
  Calls Tryz.prog 44 #[.agg #[.slice pa pn pc,v1,v2,v3,v4]] w fun r w'=>r=.returned (.bool (y06 ps))∧Bw w w':=by
 obtain⟨o1,n1,c1,o2,n2,c2,o3,n3,c3,o4,n4,c4,rfl,rfl,rfl,rfl⟩:=hv
 obtain⟨W0,hW0,hb0,hA0⟩:=bxN w #[.slice pa pn pc,.slice o1 n1 c1,.slice o2 n2 c2,.slice o3 n3 c3,.slice o4 n4 c4] 45
 have LK:=ZZ hps.len
 have HPS:=ZZ hps
 have LW:=ZZ hw
 have HW0:=ZZ hW0
 have HB0:=ZZ hb0
 have r0:=zb hA0 0 rfl
 clear hps hw hW0 hb0 hA0
 by_cases h3:3<pn
 ·have q3:(3:Int)<(pn:Int):=by omega
  have HF:=ZZ (show y06 ps=false by unfold y06;rw[decide_eq_false (by rw[LK.o];omega)];rfl)
  clear h3
  go_enter Tryz.func44,Tryz.ntmps44
  go_upto_region 1 with fail
  rw[HW0.o]
  clear HW0
  go_wp2_with fail
  go_ret
  exact⟨by rw[HF.o];rfl,HB0.o⟩
 ·have q3:¬ ((3:Int)<(pn:Int)):=by omega
  have Ak:=ZZ (show y06 ps=y07 (y00 ps 0) (ps.drop 0) by unfold y06;rw[decide_eq_true (by rw[LK.o];omega)];rfl)
  go_enter Tryz.func44,Tryz.ntmps44
  go_upto_region 1 with fail
  rw[HW0.o]
  clear HW0
  go_wp2_with fail
  clear r0
  go_loopw [3,13] (fun t x wr=>∃ (j:Nat),x=.int .i64 (j:Int)∧t=.int .i64 (y00 ps j)∧j≤pn∧0≤y00 ps j∧y00 ps j≤1000000∧y06 ps=y07 (y00 ps j) (ps.drop j)∧Bw w wr) (fun _ x _=>pn - (intOf x).toNat)
  case atStart=>exact⟨0,rfl,rfl,Nat.zero_le _,by simp[y00],by simp[y00],Ak.o,HB0.o⟩
  case round =>
   obtain⟨j,rfl,rfl,hj,ht0,ht1,hgo,hbel⟩:=hrel
   have HB:=ZZ hbel
   have Lx:=ZZ hgo
   clear hbel hgo Ak
   by_cases hlt:j<pn
   ·have j0:(j:Int)<(pn:Int):=by omega
    obtain⟨f,b,q,hf,hidx,hb,c0,c1,c2⟩:=(HPS.o.below HB.o).getS3 Tryz.underlying42 y0j j hlt
    have HST:=ZZ (Lx.o.trans (y0w ps hf))
    have Dr:=ZZ (show y00 ps (j+1)=f.term by simp[y00,hf])
    obtain⟨d1,d2,d3⟩:=LW.o f (zMg hf)
    obtain⟨Wa,hWa,hba,hEa⟩:=bxN wr #[.int .i64 f.term,.int .i64 f.kind,.string f.data] 86
    have DC:=ZZ hWa
    have Bh:=ZZ (zTr HB.o hba)
    have Cg:=ZZ hEa
    clear hf hba hEa hWa
    go_upto_region 7 with fail
    rw[DC.o]
    clear DC c0 c1 c2 hidx
    have a0:=zb Cg.o 0 rfl
    have a1:=zb Cg.o 1 rfl
    have a2:=zb Cg.o 2 rfl
    generalize y00 ps j=tk at *
    have HWI:=ZZ (fun w=>z6f f.term (tk+1) 1000000 w)
    have HLO:=ZZ (fun w=>(show Calls Tryz.prog 94 #[.agg #[.int .i64 f.term,.int .i64 f.kind,.string f.data]] w _ from y2f f w))
    have AX:=ZZ (show y02 tk f=((decide (tk+1≤f.term)&&decide (f.term≤1000000))&&y08 f) by unfold y02;rw[Bool.and_assoc])
    cases hwb:(decide (tk+1≤f.term)&&decide (f.term≤1000000)) with
    | false =>
     rw[hwb] at HWI AX
     have HF:=ZZ (show y06 ps=false by rw[HST.o,AX.o];rfl)
     clear hwb
     go_wp2_with (go_at_call 93;(with_reducible refine (HWI.o _).mono ?_);rintro r w1 ⟨rfl,rfl⟩)
     go_ret
     exact⟨by rw[HF.o];rfl,Bh.o⟩
    | true =>
     rw[hwb] at HWI AX
     have hwb2:=hwb
     simp only[Bool.and_eq_true,decide_eq_true_eq] at hwb2
     clear hwb
     cases hlo:y08 f with
     | false =>
      rw[hlo] at HLO AX
      have HF:=ZZ (show y06 ps=false by rw[HST.o,AX.o];rfl)
      clear hlo
      go_wp2_with (first
       | (go_at_call 93;(with_reducible refine (HWI.o _).mono ?_);rintro r w1 ⟨rfl,rfl⟩)
       | (go_at_call 94;(with_reducible refine (HLO.o _).mono ?_);rintro r w2 ⟨rfl,hb2⟩))
      go_ret
      exact⟨by rw[HF.o];rfl,zTr Bh.o hb2⟩
     | true =>
      rw[hlo] at HLO AX
      have HN:=ZZ (show y06 ps=y07 (y00 ps (j+1)) (ps.drop (j+1)) by rw[HST.o,AX.o];rfl)
      clear hlo
      go_wp2_with (first
       | (go_at_call 93;(with_reducible refine (HWI.o _).mono ?_);rintro r w1 ⟨rfl,rfl⟩)
       | (go_at_call 94;(with_reducible refine (HLO.o _).mono ?_);rintro r w2 ⟨rfl,hb2⟩;have b0:=(hb2.cell (ze Cg.o)).trans a0))
      have HB2:=ZZ (zTr Bh.o hb2)
      clear hb2
      go_roundw
      case rel=>exact⟨j+1,by go_num,by rw[Dr.o],by omega,by rw[Dr.o];omega,by rw[Dr.o];omega,HN.o,HB2.o⟩
      case measure=>simp[intOf];omega
   ·have j0:¬ ((j:Int)<(pn:Int)):=by omega
    have HF:=ZZ (show y06 ps=true by rw[Lx.o];exact y1a ps (by rw[LK.o];omega) _)
    go_wp2_with fail
    go_ret
    exact⟨by rw[HF.o];rfl,HB.o⟩

end Go.Proofs.YtfeebdcmlnapiaaGreat
