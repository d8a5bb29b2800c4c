/-
  Walks.
-/
import Derived.Test.YtfeebdcmlnapiaaGreatTWalk10e
import Derived.Lib.SlMapFilter
import Derived.Maps.Ext
import Derived.Test.YtfeebdcmlnapiaaGreatTOrd1
import Derived.Test.YtfeebdcmlnapiaaGreatTRoom3
open Go.Value renaming int->J
open Go.IntKind renaming i64->Y
set_option maxRecDepth 100000
set_option maxHeartbeats 8000000
set_option linter.unusedVariables false
set_option linter.unusedSimpArgs false
namespace Go.Proofs.YtfeebdcmlnapiaaGreat
open Go.RowKit Go.Maps P1 P5 P9 P11 P12 P14 K
theorem zk0 (b:Nat) (F:Int→Option Int) (m:Nat) (D:DataW Unit) (k i:Int) (hk:(Lit.int .i64 k).wf=true) (w:World) (h:IdTab w b F m D) :
  Calls Tryz.prog 203 #[.map (some b),J Y k,J Y i] w fun e w'=>e=.returned (.bool (!decide (F k=some i)))∧w'=w:=by
 have hlk:=h.look hk
 clear h
 cases hF:F k with
 | none =>
  rw[hF] at hlk
  simp only[Option.getD_none,Option.isSome_none] at hlk
  clear hF
  go_enter Tryz.func203,Tryz.ntmps203
  go_wp2_with fail
  go_ret
  exact⟨by simp,rfl⟩
 | some z =>
  rw[hF] at hlk
  simp only[Option.getD_some,Option.isSome_some] at hlk
  clear hF
  by_cases e:z=i
  ·have q:(z != i)=false:=by simp[e]
   have HE:=ZZ e
   clear e
   go_enter Tryz.func203,Tryz.ntmps203
   go_wp2_with fail
   go_ret
   exact⟨by simp[HE.o],rfl⟩
  ·have q:(z != i)=true:=by simp[e]
   have HE:=ZZ e
   clear e
   go_enter Tryz.func203,Tryz.ntmps203
   go_wp2_with fail
   go_ret
   exact⟨by simp[HE.o],rfl⟩

def pdL (F:Int→Option Int):Lit→DataW Unit→Bool
 | .int .i64 k,.lit (.int .i64 i)=>!decide (F k=some i)
 | _,_=>false

theorem zk1 (F:Int→Option Int) (k i:Int):pdL F (.int .i64 k) (.lit (.int .i64 i))=!decide (F k=some i):=rfl

theorem zbf (b n:Nat) (D:DataW Unit) (b2:Nat) (F2:Int→Option Int) (m2:Nat) (D2:DataW Unit) (hne:b2≠b) (w:World) (hown:w.ownsMap Tryz.prog 3 (plainElem Tryz.prog 3) b n D) (h2:IdTab w b2 F2 m2 D2) :
  Calls Tryz.prog 202 #[.map (some b),.func (.func 203) #[.map (some b2)] #[]] w fun e w'=>e=.returned (.tuple #[])∧w'.ownsMap Tryz.prog 3 (plainElem Tryz.prog 3) b n (Lib.deleteFuncD (pdL F2) D)∧w.grownBy w' (some b):=by
 have K:=Maps.int_keyed Tryz.underlying3
 obtain⟨es0,rfl,hap,hkeys⟩:=hown.entries K
 have H2:=ZZ h2
 have Bq:=ZZ hne
 clear h2 hne
 go_enter Tryz.func202,Tryz.ntmps202
 go_wp2_with (at_range;refine wpList_range_own _ rfl _ 180 rfl 3 3 K Tryz.underlying180 (plainElem Tryz.prog 3) b n _ rfl hown ?_;intro w0 hrg0 hg0 hs0)
 go_frame
 go_loopw [8] (fun _ wr=>∃ (left:Lit→Bool) (cnt:Nat),wr.ranges Tryz.prog 3 (plainElem Tryz.prog 3) b w.heap.size n (Fk (pdL F2) es0 left) left cnt∧w.grownBy wr (some b))
  (fun _ wr=>wr.rangeLeft b w.heap.size)
 case atStart=>exact⟨_,_,by rw[Fk_start hkeys];exact hrg0,hg0.but _⟩
 case round =>
  obtain⟨left,cnt,hrg,hgw⟩:=hrel
  go_wp2_with (at_next;refine wpList_next_ranges_ii _ rfl _ rfl 3 3 .i64 .i64 K Tryz.underlying3 Tryz.underlying3 b w.heap.size n _ _ _ rfl hrg ?_ ?_)
  ·intro _ hl0
   go_wp2_with fail
   go_end0
   exact⟨rfl,by rw[← Fk_end hl0];exact hrg.owns,hgw⟩
  ·intro x c w1 cnt1 hwx hwc hlx hat hrg1 hlt hg1 hs1 hen
   have hgw1:=hgw.andThen hg1 (fun j hj=>by cases hj;exact Or.inl zLe)
   have Cf:=ZZ (zk0 b2 F2 m2 D2 x c hwx w1 (H2.o.kept hgw1 (fun e=>Bq.o (zSi e))))
   have hbl:=hrg1.owns.lt
   have hrl:=hrg1.lt
   cases hp:(!decide (F2 x=some c))<;>rw[hp] at Cf
   ·go_wp2_with (go_at_call 203;(with_reducible refine Cf.o.mono ?_);rintro e w2 ⟨rfl,rfl⟩)
    go_roundw
    case rel=>exact⟨_,cnt1,by rw[← Fk_stays hap (z3v x) hlx (show pdL F2 (.int .i64 x) (.lit (.int .i64 c))=false from hp) hat];exact hrg1,hgw1⟩
    case measure=>rw[hrg1.left_eq,hrg.left_eq];exact hlt
   ·go_wp2_with (first
     | (go_at_call 203;(with_reducible refine Cf.o.mono ?_);rintro e w2 ⟨rfl,rfl⟩)
     | (at_delete;refine wpList_delete_ranges _ rfl _ _ 180 3 rfl 3 K Tryz.underlying180 (plainElem Tryz.prog 3) b w.heap.size n _ _ _ rfl hrg1 _ _ rfl (keyI hwx) ?_;intro w3 cnt3 hrg3 hle hturn;go_frame))
    rw[strike_twice] at hrg3
    go_roundw
    case rel=>exact⟨_,cnt3,by rw[← Fk_struck hap (z3v x) hlx (show pdL F2 (.int .i64 x) (.lit (.int .i64 c))=true from hp) hat];exact hrg3,hgw1.andThen hturn.grown (fun j hj=>by cases hj;exact Or.inr rfl)⟩
    case measure=>rw[hrg3.left_eq,hrg.left_eq];omega

open P15
def z7r (F F2:Int→Option Int) (k:Int):Option Int :=
 match F k with
 | some i=>if F2 k=some i then some i else none
 | none=>none

theorem IdTab.struck {w w':World} {b m n:Nat} {F F2:Int→Option Int} {D:DataW Unit} (h:IdTab w b F m D) (ho:w'.ownsMap Tryz.prog 3 (plainElem Tryz.prog 3) b n (Lib.deleteFuncD (pdL F2) D)) :
  ∃ m' D',m'≤m∧IdTab w' b (z7r F F2) m' D':=by
 obtain⟨es,rfl,hap,hkeys⟩:=h.own.entries (Maps.int_keyed Tryz.underlying3)
 have hsz:=h.size
 rw[Maps.size_eq] at hsz
 have hent:∀ {k i:Int},F k=some i→(Lit.int .i64 k,numD i)∈es:=fun {k i} hF=>by
  obtain⟨h1,h2⟩:=h.yes k i hF
  rw[Maps.has_eq] at h1
  obtain⟨p,hp,hs⟩:=List.any_eq_true.1 h1
  have e1:=WideAt.sameKey_eq hs
  obtain⟨p1,p2⟩:=p
  simp only at e1
  subst e1
  rw[WideAt.atKey_mem (numD 0) (z3v k) hap hp] at h2
  rw[← h2]
  exact hp
 refine⟨_,_,?_,zcs ho,rfl,fun k hk=>?_,fun k i hk=>?_,fun k i hk=>?_⟩
 ·show (es.filter _).length≤m
  have:=List.length_filter_le (fun p=>!pdL F2 p.1 p.2) es
  omega
 ·show (es.filter fun p=>!pdL F2 p.1 p.2).any (fun p=>p.1.sameKey (.int .i64 k))=false
  rw[Bool.eq_false_iff]
  intro hh
  obtain⟨p,hp,hs⟩:=List.any_eq_true.1 hh
  obtain⟨hp,hq⟩:=List.mem_filter.1 hp
  have e1:=WideAt.sameKey_eq hs
  obtain⟨p1,p2⟩:=p
  simp only at e1
  subst e1
  cases hF:F k with
  | none =>
   have:=h.no k hF
   rw[Maps.has_eq,Bool.eq_false_iff] at this
   exact this (List.any_eq_true.2 ⟨_,hp,hs⟩)
  | some i =>
   have e2:p2=numD i:=by
    have h3:=WideAt.atKey_mem (numD 0) (z3v k) hap hp
    have h4:=WideAt.atKey_mem (numD 0) (z3v k) hap (hent hF)
    exact h3.symm.trans h4
   subst e2
   simp only[z7r,hF] at hk
   have hq':pdL F2 (.int .i64 k) (numD i)=false:=by simpa using hq
   rw[zk1] at hq'
   simp only[Bool.not_eq_false',decide_eq_true_eq] at hq'
   rw[if_pos hq'] at hk
   cases hk
 ·cases hF:F k with
  | none=>simp[z7r,hF] at hk
  | some z =>
   simp only[z7r,hF] at hk
   split at hk
   ·rename_i h2
    cases hk
    have hm:(Lit.int .i64 k,numD i)∈es.filter (fun p=>!pdL F2 p.1 p.2):=List.mem_filter.2 ⟨hent hF,by show (!pdL F2 (.int .i64 k) (.lit (.int .i64 i)))=true;rw[zk1];simp[h2]⟩
    exact⟨List.any_eq_true.2 ⟨_,hm,WideAt.sameKey_self (z3v k)⟩,WideAt.atKey_mem (numD 0) (z3v k) (hap.filter _) hm⟩
   ·cases hk
 ·cases hF:F k with
  | none=>simp[z7r,hF] at hk
  | some z =>
   simp only[z7r,hF] at hk
   split at hk
   ·cases hk
    exact h.wide k i hF
   ·cases hk

def z4t (a:St) (r:List St) (k:Int):Option Int :=
 match zm a k with
 | some i=>if r.all (fun s=>decide (zm s k=some i)) then some i else none
 | none=>none

theorem zii (a:St):z4t a []=zm a:=by
 funext k
 unfold z4t
 cases zm a k<;>rfl

theorem zg9 (a:St) (r:List St) (s:St):z4t a (r++[s])=z7r (z4t a r) (zm s):=by
 funext k
 unfold z7r z4t
 cases zm a k with
 | none=>rfl
 | some i =>
  simp only[List.all_append,List.all_cons,List.all_nil,Bool.and_true,Bool.and_eq_true,decide_eq_true_eq]
  by_cases h1:r.all (fun s=>decide (zm s k=some i))=true
  ·simp only[h1,true_and,if_true]
  ·simp only[h1,false_and,if_false,if_neg h1]
   simp

theorem z4p {s:St} (hok:stOk s=true) {k i:Int}:zm s k=some i↔i≠0∧stAt s k=i:=by
 rw[z7h]
 cases hf:zm s k with
 | none =>
  simp only[Option.getD_none]
  constructor
  ·intro h;cases h
  ·rintro ⟨h1,h2⟩;exact absurd h2.symm h1
 | some z =>
  simp only[Option.getD_some,Option.some.injEq]
  constructor
  ·intro h
   subst h
   have hm:=z4l hf
   rw[z1g] at hok
   have:=(P14.stFrom_mem hok _ hm).2
   refine⟨fun e=>?_,rfl⟩
   simp only at e this
   rw[e] at this
   exact absurd this (by decide)
  ·exact fun h=>h.2

theorem zai {s:St} (hok:stOk s=true) {k i:Int}:zm s k=some i↔(k,i)∈s:=by
 refine⟨z4l,fun h=>?_⟩
 rw[z1g] at hok
 obtain⟨j,hj⟩:=List.getElem?_of_mem h
 exact z9o hok hj

theorem zga {a:St} {r:List St} (hok:∀ s∈a::r,stOk s=true):z4t a r=zm (agreed (a::r)):=by
 funext k
 apply Option.ext
 intro i
 rw[show (zm (agreed (a::r)) k=some i)↔_ from zai (z5i hok),z9q (by simp) hok]
 unfold z4t
 constructor
 ·intro h
  cases hf:zm a k with
  | none=>rw[hf] at h;cases h
  | some z =>
   rw[hf] at h
   simp only at h
   split at h
   ·rename_i hall
    cases h
    have h0:=(z4p (hok a List.mem_cons_self)).1 hf
    refine⟨h0.1,fun s hs=>?_⟩
    rcases List.mem_cons.1 hs with rfl|hs'
    ·exact h0.2
    ·have:=List.all_eq_true.1 hall s hs'
     exact ((z4p (hok s hs)).1 (by simpa using this)).2
   ·cases h
 ·rintro ⟨h0,h1⟩
  have hf:=(z4p (hok a List.mem_cons_self)).2 ⟨h0,h1 a List.mem_cons_self⟩
  rw[hf]
  simp only
  rw[if_pos]
  refine List.all_eq_true.2 (fun s hs=>?_)
  have:=(z4p (hok s (List.mem_cons_of_mem _ hs))).2 ⟨h0,h1 s (List.mem_cons_of_mem _ hs)⟩
  simpa using this

theorem z3j {s:St} (hok:stOk s=true):∀ y∈s,z3d y:=fun y hy=>by
 rw[z1g] at hok
 have h:=P14.stFrom_mem hok y hy
 have h1:=z1x h.1
 have h2:=h.2
 unfold inR at h2
 simp only[Bool.and_eq_true,decide_eq_true_eq] at h2
 exact⟨z3o (by omega) (by omega),z3o (by omega) (by omega)⟩

theorem z2l {s:St} (hok:stOk s=true):s.length≤8:=by
 rw[z1g] at hok
 exact z4g hok

theorem StsAt.tail {w:World} {oa:Zoa} {n cap:Nat} {a:St} {r:List St} (h:StsAt w oa n cap (a::r)) :
  ∃ ob cb,(∀ wx,(Instr.slice 30 (.slice oa n cap) (some (J Y 1)) none none).run Tryz.prog wx=.ok (.slice ob r.length cb) wx)∧StsAt w ob r.length cb r:=by
 have hn:=h.len
 simp only[List.length_cons] at hn
 have h2:=h.room
 have h3:=h.most
 have he:Tryz.prog.elem 30=74:=by kernel_rfl
 have hs:∀ wx:World,(sizeOf 74).run Tryz.prog wx=.ok 1 wx:=fun wx=>Tryz.sizeOf74 wx
 obtain⟨b,o,xa,xc,rfl,_⟩:=h.at_ 0 a rfl
 by_cases hcap:cap=1
 ·have hr:r=[]:=List.eq_nil_of_length_eq_zero (by omega)
  subst hr
  subst hcap
  simp only[List.length_nil] at hn
  subst hn
  refine⟨some ⟨b,o,none⟩,0,fun wx=>?_,⟨rfl,by simp,by unfold maxLen;omega,fun i s hi=>by simp at hi⟩⟩
  have:=run_slice_l (P:=Tryz.prog) wx 30 (some ⟨b,o,none⟩) (0+1) 1 (by rw[he];exact Tryz.underlying30) .i64 1 (by omega) (by omega)
  rw[he] at this
  simpa [hs,Result.andThen,sliced] using this
 ·subst hn
  refine⟨some ⟨b,o+1,none⟩,cap - 1,fun wx=>?_,⟨rfl,by omega,by omega,fun i s hi=>?_⟩⟩
  ·have:=run_slice_l (P:=Tryz.prog) wx 30 (some ⟨b,o,none⟩) (r.length+1) cap (by rw[he];exact Tryz.underlying30) .i64 1 (by omega) (by omega)
   rw[he] at this
   have hc1:¬ cap=1:=hcap
   simpa [hs,Result.andThen,sliced,hc1,Addr.add_mid] using this
  ·obtain⟨b',o',xa',xc',e1,h4,h5⟩:=h.at_ (i+1) s (by simpa using hi)
   cases e1
   exact⟨b,o+1,xa',xc',rfl,by rw[show o+1+i=o+(i+1) from by omega];exact h4,h5⟩

theorem z5r:(Tryz.prog.info? 74).map (·.size)=some 1:=by kernel_rfl

theorem z8j (oa:Zoa) (n cap:Nat) (ss:List St) (hn20:n≤1048576) (hok:∀ s∈ss,stOk s=true) (w:World) (hat:StsAt w oa n cap ss) :
  Calls Tryz.prog 170 #[.slice oa n cap] w (z5e w (agreed ss)):=by
 have hn:=hat.len
 cases ss with
 | nil =>
  simp only[List.length_nil] at hn
  subst hn
  have HO:=ZZ (World.ownsRow_made (w:=w) (e:=79) (size:=2) #[] 0 zLe (by decide) rfl)
  have HB:=ZZ ((Below.refl w.heap.size w).alloc zLe (.cells #[] 79))
  clear hat hok
  go_enter Tryz.func170,Tryz.ntmps170
  go_wp2_with fail
  go_ret
  exact⟨_,rfl,HO.o,HB.o⟩
 | cons a r =>
  have hoka:=hok a List.mem_cons_self
  obtain⟨b0,o0,xa,xc,hoa,hc0,hit0⟩:=hat.at_ 0 a rfl
  have hid0:∀ wx,(Instr.indexAt 30 (.slice oa n cap) (J Y 0)).run Tryz.prog wx=.ok (.pointer (some ⟨b0,o0,none⟩)) wx:=fun wx=>by
   have:=run_indexAt_slice wx 30 74 1 Tryz.underlying30 z5r b0 o0 n cap 0 (by rw[← hn];simp)
   rw[hoa]
   simpa using this
  have Dk:=ZZ (z4j xa a.length xc a (by have:=z2l hoka;omega) w hit0 (z3j hoka))
  obtain⟨ob,cb,hsl,hr⟩:=hat.tail
  have HR:=ZZ hr
  have Ab:=ZZ hok
  have hc0':w.cell? ⟨b0,o0,none⟩=some (.slice xa a.length xc):=by simpa using hc0
  have hnz:¬ ((n:Int)=0):=by rw[← hn];simp;omega
  have hrl:r.length≤1048576:=by simp only[List.length_cons] at hn;omega
  have ha8:=z2l hoka
  clear hat hok hr hit0 hoka hc0 hoa
  go_enter Tryz.func170,Tryz.ntmps170
  go_upto_region 4 with (go_at_call 143;(with_reducible refine Dk.o.mono ?_);rintro e w1 ⟨rfl,hk1,hb1⟩)
  have BV:=ZZ hk1
  have HB1:=ZZ hb1
  obtain⟨b,hbd⟩:∃ b,w.heap.size=b:=⟨_,rfl⟩
  rw[hbd] at BV
  simp only[hbd]
  have Aw:=ZZ hbd
  clear hk1 hb1 hbd Dk hc0'
  go_wp2_with fail
  go_loopw [17] (fun x wr=>∃ (j:Nat) (m:Nat) (D:DataW Unit),x=J Y (j:Int)∧j≤r.length∧m≤8∧IdTab wr b (z4t a (r.take j)) m D∧Bw w wr) (fun x _=>r.length - (intOf x).toNat)
  case atStart =>
   obtain⟨D,m,hm,h⟩:=BV.o
   exact⟨0,m,D,rfl,Nat.zero_le _,by omega,by rw[List.take_zero,zii];exact h,HB1.o⟩
  case round =>
   obtain⟨j,m,D,rfl,hj,hm,hT,hbel⟩:=hrel
   have HT:=ZZ hT
   have HB:=ZZ hbel
   clear hT hbel BV HB1
   by_cases hlt:j<r.length
   ·have j0:(j:Int)<(r.length:Int):=by omega
    obtain⟨s,bs,qs,ya,yc,hs,hidx,hcs,hits⟩:=(HR.o.below HB.o).get Tryz.underlying30 z5r j hlt
    have hoks:=Ab.o s (List.mem_cons_of_mem _ (zMg hs))
    have K9:=ZZ (z4j ya s.length yc s (by have:=z2l hoks;omega) wr hits (z3j hoks))
    have HS:=ZZ hs
    clear hits hs hoks
    go_wp2_with (first
     | (go_at_call 143;(with_reducible refine K9.o.mono ?_);rintro e w2 ⟨rfl,hk2,hb2⟩;obtain⟨D2,m2,hm2,hT2⟩:=hk2;have hT1:=HT.o.below hb2;have hlb:=HT.o.lt;have Ka:=ZZ (zbf b m D wr.heap.size (zm s) m2 D2 (by omega) w2 hT1.own hT2))
     | (go_at_call 202;(with_reducible refine Ka.o.mono ?_);rintro e w3 ⟨rfl,ho3,hg3⟩))
    obtain⟨m3,D3,hm3,hT3⟩:=hT1.struck ho3
    have HN:=ZZ (show IdTab w3 b (z4t a (r.take (j+1))) m3 D3 from by
     rw[List.take_add_one,HS.o]
     show IdTab w3 b (z4t a (r.take j++[s])) m3 D3
     rw[zg9]
     exact hT3)
    have HB3:=ZZ (show Bw w w3 from (zTr HB.o hb2).grown hg3 (by have:=HB.o.size;have:=hb2.size;omega) (fun q hq=>by cases hq;rw[Aw.o];exact Nat.le_refl _))
    clear hT1 hT2 hT3 ho3 hg3 hb2 Ka K9
    go_roundw
    case rel=>exact⟨j+1,m3,D3,by go_num,by omega,by omega,HN.o,HB3.o⟩
    case measure=>simp[intOf];omega
   ·have hjr:j=r.length:=by omega
    subst hjr
    have hT:=HT.o
    rw[zTl zLe,zga Ab.o] at hT
    have hst:=z5i Ab.o
    rw[z1g] at hst
    have Ba:=ZZ (zew (agreed (a::r)) hst wr b m D hT (by omega))
    clear hT hst
    go_wp2_with (go_at_call 144;(with_reducible refine Ba.o.mono ?_);rintro e w4 ⟨v,rfl,ho4,hb4⟩;obtain⟨o4,c4,rfl⟩:=zi ho4)
    go_ret
    exact⟨_,rfl,zu ho4 HB.o.size,zTr HB.o hb4⟩

theorem zgb {w:World} {b m:Nat} {F:Int→Option Int} {D:DataW Unit} (h:IdTab w b F m D) {L:Zin} (hL:L.Pairwise (·<·)) (hm:∀ k,k∈L↔(F k).isSome=true) {ks:Zin} (hk:ks.Perm (intKeys D)):ks.mergeSort (fun x y=>decide (x≤y))=L:=by
 have hc:CollectedI D (fun _=>false) L:=by
  refine⟨hL.imp (fun h=>by omega),fun x=>?_⟩
  rw[hm]
  cases hf:F x with
  | none=>rw[h.no x hf];simp
  | some i=>rw[(h.yes x i hf).1];simp
 have hp:=hc.perm h.own (Maps.int_keyed Tryz.underlying3) Tryz.underlying3 (fun _=>rfl)
 have e1:ks.mergeSort (fun x y=>decide (x≤y))=L.mergeSort (fun x y=>decide (x≤y)):=mergeSort_of_perm_i (hk.trans hp.symm)
 rw[e1]
 refine List.mergeSort_of_pairwise (hL.imp (fun h=>?_))
 simp only[decide_eq_true_eq]
 omega

def KeysOut (A F:Int→Option Int) (L:Zii):Prop:=∀ k,(F k).isSome=true↔(∃ x∈L,x.1=k)∧A k=none

theorem KeysOut.nil (A:Int→Option Int):KeysOut A (zm []) []:=fun k=>by simp[zm]

theorem KeysOut.had {A F:Int→Option Int} {L:Zii} (h:KeysOut A F L) {x:Int × Int} {i:Int} (hx:A x.1=some i):KeysOut A F (L++[x]):=fun k=>by
 rw[h k]
 constructor
 ·rintro ⟨⟨y,h1,h2⟩,h3⟩
  exact⟨⟨y,List.mem_append_left _ h1,h2⟩,h3⟩
 ·rintro ⟨⟨y,h1,h2⟩,h3⟩
  rcases List.mem_append.1 h1 with h1|h1
  ·exact⟨⟨y,h1,h2⟩,h3⟩
  ·simp only[List.mem_singleton] at h1
   subst h1
   rw[← h2,hx] at h3
   cases h3

theorem KeysOut.new {A F:Int→Option Int} {L:Zii} (h:KeysOut A F L) {x:Int × Int} (i:Int) (hx:A x.1=none):KeysOut A (updI F x.1 (some i)) (L++[x]):=fun k=>by
 by_cases e:k=x.1
 ·subst e
  rw[show updI F x.1 (some i) x.1=some i from by simp[updI]]
  exact⟨fun _=>⟨⟨x,by simp,rfl⟩,hx⟩,fun _=>rfl⟩
 ·rw[show updI F x.1 (some i) k=F k from by simp[updI,e],h k]
  constructor
  ·rintro ⟨⟨y,h1,h2⟩,h3⟩
   exact⟨⟨y,List.mem_append_left _ h1,h2⟩,h3⟩
  ·rintro ⟨⟨y,h1,h2⟩,h3⟩
   rcases List.mem_append.1 h1 with h1|h1
   ·exact⟨⟨y,h1,h2⟩,h3⟩
   ·simp only[List.mem_singleton] at h1
    subst h1
    exact absurd h2.symm e

theorem zk2 {ss:List St} (hok:∀ s∈ss,stOk s=true) {F:Int→Option Int} (h:KeysOut (zm (agreed ss)) F ss.flatten) (k:Int):k∈clash ss↔(F k).isSome=true:=by
 rw[h k]
 cases ss with
 | nil=>simp[clash,keysOf,z1c,z4r]
 | cons a r =>
  rw[zk7 (by simp) hok]
  have e1:(∃ s∈a::r,∃ x∈s,x.1=k)↔∃ x∈(a::r).flatten,x.1=k:=by
   constructor
   ·rintro ⟨s,h1,x,h2,h3⟩
    exact⟨x,List.mem_flatten.2 ⟨s,h1,h2⟩,h3⟩
   ·rintro ⟨x,h1,h3⟩
    obtain⟨s,h1,h2⟩:=List.mem_flatten.1 h1
    exact⟨s,h1,x,h2,h3⟩
  have e2:(¬ ∃ i,(k,i)∈agreed (a::r))↔zm (agreed (a::r)) k=none:=by
   constructor
   ·intro h
    cases hf:zm (agreed (a::r)) k with
    | none=>rfl
    | some i=>exact absurd ⟨i,z4l hf⟩ h
   ·rintro h ⟨i,hi⟩
    rw[(zai (z5i hok)).2 hi] at h
    cases h
  rw[e1,e2]

theorem zij {ss:List St} {j:Nat} {s:St} (h:ss[j]? = some s):(ss.take (j+1)).flatten=(ss.take j).flatten++s:=by
 rw[List.take_add_one,h,List.flatten_append]
 simp

structure ClSt (w wr:World) (bA bC:Nat) (A:Int→Option Int) (mA:Nat) (DA:DataW Unit) (L:Zii) (q:Nat):Prop where
 tab:∃ m F D,m≤q∧IdTab wr bC F m D∧KeysOut A F L
 had:IdTab wr bA A mA DA
 bel:Bw w wr

theorem ClSt.on {w wr wr':World} {bA bC:Nat} {A:Int→Option Int} {mA:Nat} {DA:DataW Unit} {L:Zii} {q:Nat} (h:ClSt w wr bA bC A mA DA L q) (hb:Bw wr wr'):ClSt w wr' bA bC A mA DA L q:=by
 obtain⟨⟨m,F,D,h1,h2,h3⟩,h4,h5⟩:=h
 exact⟨⟨m,F,D,h1,h2.below hb,h3⟩,h4.below hb,zTr h5 hb⟩

theorem ClSt.le {w wr:World} {bA bC:Nat} {A:Int→Option Int} {mA:Nat} {DA:DataW Unit} {L:Zii} {q q':Nat} (h:ClSt w wr bA bC A mA DA L q) (hq:q≤q'):ClSt w wr bA bC A mA DA L q':=by
 obtain⟨⟨m,F,D,h1,h2,h3⟩,h4,h5⟩:=h
 exact⟨⟨m,F,D,zNt h1 hq,h2,h3⟩,h4,h5⟩

theorem zly {L:Zii} {s:St} {i:Nat} {x:Int × Int} (h:s[i]? = some x):L++s.take (i+1)=L++s.take i++[x]:=by
 rw[List.take_add_one,h,List.append_assoc]
 rfl

theorem zdu (oa:Zoa) (n cap:Nat) (ss:List St) (hn20:n≤1048576) (hok:∀ s∈ss,stOk s=true) (w:World) (hat:StsAt w oa n cap ss) :
  Calls Tryz.prog 206 #[.slice oa n cap] w (z5c w (clash ss)):=by
 have hn:=hat.len
 have D5:=ZZ (z8j oa n cap ss hn20 hok w hat)
 have hag:=z5i hok
 have KP:=ZZ hag
 have ha8:=z2l hag
 have Ab:=ZZ hok
 have HAT:=ZZ hat
 have HN:=ZZ hn
 have hmm:∀ W:World,(Instr.makeMap 180 none).run Tryz.prog W=.ok (.map (some W.heap.size)) (W.alloc (.map #[] 0)):=fun W=>by
  simp[Instr.makeMap,Sem.run_bind,run_underlying Tryz.underlying180 W,asInt,Result.andThen,newObj]
  try rfl
 clear hat hok hag hn
 go_enter Tryz.func206,Tryz.ntmps206
 go_upto_region 2 with (first
  | (go_at_call 170;(with_reducible refine D5.o.mono ?_);rintro e w1 ⟨v1,rfl,ho1,hb1⟩;obtain⟨o1,c1,rfl,hit1⟩:=z08 ho1;have Dk:=ZZ (z4j o1 (agreed ss).length c1 (agreed ss) (by omega) w1 hit1 (z3j KP.o)))
  | (go_at_call 143;(with_reducible refine Dk.o.mono ?_);rintro e w2 ⟨rfl,hk2,hb2⟩))
 obtain⟨DA,mA,hmA,hTA⟩:=hk2
 have hTA2:=hTA.lt
 have Bo:=ZZ (show ClSt w (w2.alloc (.map #[] 0)) w1.heap.size w2.heap.size (zm (agreed ss)) mA DA (ss.take 0).flatten (8 * 0) from
  ⟨⟨0,_,_,Nat.zero_le _,zct w2,by simpa using KeysOut.nil _⟩,hTA.below (zBa),(zTr hb1 hb2).alloc (by have:=hb1.size;have:=hb2.size;omega) _⟩)
 have hbC:w.heap.size≤w2.heap.size:=zNt hb1.size hb2.size
 clear ho1 hit1 hb1 hb2 Dk D5 hTA
 go_upto_region 3 with fail
 generalize w1.heap.size=bA at *
 generalize w2.heap.size=bC at *
 clear hmm
 generalize w2.alloc (.map #[] 0)=W3 at *
 go_wp2_with fail
 go_loopw [17] (fun x wr=>∃ (j:Nat),x=J Y (j:Int)∧j≤n∧ClSt w wr bA bC (zm (agreed ss)) mA DA (ss.take j).flatten (8 * j)) (fun x _=>n - (intOf x).toNat)
 case atStart=>exact⟨0,rfl,Nat.zero_le _,Bo.o⟩
 case round =>
  obtain⟨j,rfl,hj,hcl⟩:=hrel
  have HC:=ZZ hcl
  clear hcl Bo
  by_cases hlt:j<n
  ·have j0:(j:Int)<(n:Int):=by omega
   obtain⟨s,bs,qs,ya,yc,hs,hidx,hcs0,hits⟩:=HAT.o.get Tryz.underlying30 z5r j hlt
   have hcs:=(HC.o.bel.cell (zw hcs0)).trans hcs0
   have hoks:=Ab.o s (zMg hs)
   have hs8:=z2l hoks
   have Dx:=ZZ (z3j hoks)
   have HIT:=ZZ hits
   have DD:=ZZ (zij hs)
   clear hits hs hoks hcs0
   go_wp2_with fail
   clear hcs hidx
   go_loopw [23] (fun y wi=>∃ (i:Nat),y=J Y (i:Int)∧i≤s.length∧ClSt w wi bA bC (zm (agreed ss)) mA DA ((ss.take j).flatten++s.take i) (8 * j+i)) (fun y _=>s.length - (intOf y).toNat)
   case atStart=>exact⟨0,rfl,Nat.zero_le _,by simpa using HC.o⟩
   case round =>
    obtain⟨i,rfl,hi,hcl⟩:=hrel
    have EC:=ZZ hcl
    clear hcl HC
    by_cases hli:i<s.length
    ·have i0:(i:Int)<(s.length:Int):=by omega
     obtain⟨x,bx,qx,hx,hidi,hbx,c0,c1⟩:=(HIT.o.below EC.o.bel).get Tryz.underlying74 z1i i hli
     have hwx:=Dx.o x (zMg hx)
     have Aa:=ZZ (zly (L:=(ss.take j).flatten) hx)
     have hba:=(Below.refl wr.heap.size wr).alloc zLe (.cells #[J Y x.1,J Y x.2] 79)
     obtain⟨⟨m,F,D,hm,hT,hK⟩,hTA,hbel⟩:=EC.o.on hba
     have hlk:=hTA.look hwx.1
     have hkey:=keyI hwx.1
     have hval:=plainElem_int (H:=Unit) Tryz.underlying3 hwx.2
     have HW:=ZZ hwx
     have HK:=ZZ hK
     have Ev:=ZZ hTA
     have HB:=ZZ hbel
     have HT:=ZZ hT
     have hne:bC≠bA:=by omega
     have hszC:w.heap.size≤(wr.alloc (.cells #[J Y x.1,J Y x.2] 79)).heap.size:=hbel.size
     clear hba hK hTA hbel hwx hx
     cases hF:zm (agreed ss) x.1 with
     | some z =>
      rw[hF] at hlk
      simp only[Option.getD_some,Option.isSome_some] at hlk
      have BA:=ZZ (show ClSt w _ bA bC (zm (agreed ss)) mA DA ((ss.take j).flatten++s.take (i+1)) (8 * j+(i+1)) from by
       rw[Aa.o]
       exact⟨⟨m,F,D,by omega,HT.o,HK.o.had hF⟩,Ev.o,HB.o⟩)
      clear hT hF
      go_wp2_with fail
      go_roundw
      case rel=>exact⟨i+1,by go_num,by omega,BA.o⟩
      case measure=>simp[intOf];omega
     | none =>
      rw[hF] at hlk
      simp only[Option.getD_none,Option.isSome_none] at hlk
      have hown1:=hT.own
      clear hT
      go_wp2_with (at_mapUpdate;refine wpList_mapUpdate_in _ rfl _ _ _ 180 rfl 3 3 (Maps.int_keyed Tryz.underlying3) Tryz.underlying180 (plainElem Tryz.prog 3) bC m D rfl hown1 (by unfold maxLen;omega) _ _ (.int .i64 x.1) rfl rfl hkey (numD x.2) [] hval ?_;intro w7 hown2 hturn2)
      have h3:=HT.o.store HW.o.1 HW.o.2 hown2
      have BA:=ZZ (show ClSt w w7 bA bC (zm (agreed ss)) mA DA ((ss.take j).flatten++s.take (i+1)) (8 * j+(i+1)) from by
       rw[Aa.o]
       exact⟨⟨_,_,_,by split<;>omega,h3,HK.o.new x.2 hF⟩,Ev.o.kept hturn2.grown (fun e=>hne (zSi e).symm),HB.o.grown hturn2.grown hszC (fun k hk=>by cases hk;exact hbC)⟩)
      clear h3 hown2 hturn2 hown1
      go_wp2_with fail
      go_roundw
      case rel=>exact⟨i+1,by go_num,by omega,BA.o⟩
      case measure=>simp[intOf];omega
    ·have hil:i=s.length:=by omega
     subst hil
     have BA:=ZZ (show ClSt w _ bA bC (zm (agreed ss)) mA DA (ss.take (j+1)).flatten (8 * (j+1)) from by
      have h1:=EC.o.le (q':=8 * (j+1)) (by omega)
      rw[zTl zLe,← DD.o] at h1
      exact h1)
     go_wp2_with fail
     go_roundw
     case rel=>exact⟨j+1,by go_num,by omega,BA.o⟩
     case measure=>simp[intOf];omega
  ·have hjn:ss.take j=ss:=zTl (by rw[HN.o];omega)
   have hC:=HC.o
   rw[hjn] at hC
   obtain⟨⟨m,F,D,hm,hT,hK⟩,hTA,hbel⟩:=hC
   have hsort:=Tryz.sortedKeysI184 bC m D (plainElem Tryz.prog 3) _ hT.own (by rw[hT.size];unfold maxLen;omega) (by rw[hT.size];omega)
   have CZ:=ZZ hsort
   have HT:=ZZ hT
   have HK:=ZZ hK
   have HB:=ZZ hbel
   clear hsort hT hK hTA hbel HC hjn
   go_wp2_with fail
   refine (callsIn_wide.1 (Tryz.mapsKeysI184 _ _)).mono ?_
   rintro e w5 ⟨rfl,rfl⟩
   go_wp2_with fail
   refine (callsIn_wide.1 CZ.o).mono ?_
   rintro e w6 ⟨v,ks,rfl,hperm,hkeys,hb6⟩
   have hsn:=zgb HT.o (zm1 ss) (zk2 Ab.o HK.o) hperm
   have hnl:ks.length=(clash ss).length:=by
    have h1:=congrArg List.length hsn
    simpa using h1
   rw[hsn,hnl] at hkeys
   obtain⟨o6,c6,rfl⟩:=zi hkeys
   have hs6:=HB.o.size
   have hB1:Bw w (wr.alloc (.cells #[.map (some bC)] 180)):=HB.o.alloc hs6 _
   have HB2:=ZZ (hB1.trans (hb6.mono (by simp;omega)))
   have Ag:=ZZ (zu hkeys (show w.heap.size≤_ by simp;omega))
   clear hkeys hb6 hB1 hperm hsn
   go_wp2_with fail
   go_ret
   exact⟨_,rfl,Ag.o,HB2.o⟩

theorem zo6 {α:Type}:∀ {l:List α},l.length=2→∃ a b,l=[a,b]
 | [a,b],_=>⟨a,b,rfl⟩
 | [],h=>by simp at h
 | [_],h=>by simp at h
 | _::_::_::_,h=>by simp at h

theorem zni (a b c d:Int) (w:World):(binOp .neq 79 (.agg #[J Y a,J Y b]) (.agg #[J Y c,J Y d])).run Tryz.prog w=.ok (.bool (!(a==c&&b==d))) w:=by
 have hf:Tryz.prog.underlying 79=some (.struct (Tryz.prog.fieldsOf 79)):=by kernel_rfl
 have hp:Tryz.prog.stoodInHeld 79=false:=by kernel_rfl
 have hl : (Tryz.prog.fieldsOf 79).toList.map (fun f => (f.name == "_", f.type, f.offset)) = [(false, 3, 0), (false, 3, 1)] := by kernel_rfl
 rw[run_neq_struct,run_equalIn_struct w 9999 _ _ _ hf hp]
 generalize (Tryz.prog.fieldsOf 79).toList=fs at hl
 obtain⟨f,g,rfl⟩:=zo6 (show fs.length=2 by have:=congrArg List.length hl;simpa using this)
 simp only[List.map_cons,List.map_nil,List.cons.injEq,Prod.mk.injEq,and_true,beq_eq_false_iff_ne,ne_eq] at hl
 obtain⟨⟨h1,h2,h3⟩,⟨h4,h5,h6⟩⟩:=hl
 have hI:=fun (x y:Int) (w:World)=>run_equalIn_int (P:=Tryz.prog) w 9998 3 .i64 .i64 x y Tryz.underlying3
 cases hac:(a==c)<;>cases hbd:(b==d)<;>simp[Op.eqFields,h1,h2,h3,h4,h5,h6,part,hI,hac,hbd,Result.andThen,Tryz.sizeOf3]

theorem take_same {s t:Zii} {j:Nat} {x:Int × Int} (h:s.take j=t.take j) (h1:s[j]? = some x) (h2:t[j]? = some x):s.take (j+1)=t.take (j+1):=by
 rw[List.take_add_one,List.take_add_one,h,h1,h2]

theorem zce (oa:Zoa) (n cap:Nat) (s:St) (ob:Zoa) (m cb:Nat) (t:St) (hn20:n≤1048576) (w:World) (hs:ItemsAt w oa n cap s) (ht:ItemsAt w ob m cb t) :
  Calls Tryz.prog 33 #[.slice oa n cap,.slice ob m cb] w fun e w'=>e=.returned (.bool (decide (s=t)))∧Bw w w':=by
 have hsl:=hs.len
 have htl:=ht.len
 by_cases hnm:n=m
 ·subst hnm
  have HS:=ZZ hs
  have HT:=ZZ ht
  have Dc:=ZZ hsl
  have Ea:=ZZ htl
  clear hs ht hsl htl
  go_enter Tryz.func33,Tryz.ntmps33
  go_wp2_with fail
  go_loopw [13] (fun x wr=>∃ (j q:Nat),x=J Y (j:Int)∧j≤n∧s.take j=t.take j∧wr=w.drewN q) (fun x _=>n - (intOf x).toNat)
  case atStart=>exact⟨0,0,rfl,Nat.zero_le _,by simp,rfl⟩
  case round =>
   obtain⟨j,q,rfl,hj,htk,rfl⟩:=hrel
   have Af:=ZZ htk
   clear htk
   by_cases hlt:j<n
   ·have j0:(j:Int)<(n:Int):=by omega
    obtain⟨x,bx,qx,hx,hidx,hbx,c0,c1⟩:=HS.o.get Tryz.underlying74 z1i j hlt
    obtain⟨y,bY,qy,hy,hidy,hby,d0,d1⟩:=HT.o.get Tryz.underlying74 z1i j hlt
    have HX:=ZZ hx
    have HY:=ZZ hy
    have hne:=fun W=>zni x.1 x.2 y.1 y.2 W
    clear hx hy
    by_cases e:x=y
    ·have q2:(x.1==y.1&&x.2==y.2)=true:=by rw[e];simp
     have HE:=ZZ e
     rw[q2] at hne
     clear e q2
     go_wp2_with fail
     go_quiet (fail)
     go_wp2_with fail
     go_roundw
     case rel=>exact⟨j+1,q+nq,by go_num,by omega,take_same Af.o HX.o (by rw[HE.o];exact HY.o),by simp⟩
     case measure=>simp[intOf];omega
    ·have q2:(x.1==y.1&&x.2==y.2)=false:=by
      rw[Bool.eq_false_iff]
      intro h
      simp only[Bool.and_eq_true,beq_iff_eq] at h
      exact e (Prod.ext h.1 h.2)
     have HE:=ZZ e
     rw[q2] at hne
     clear e q2
     go_wp2_with fail
     go_quiet (fail)
     go_wp2_with fail
     go_ret
     refine⟨?_,below_drewN (below_drewN zBr _) _⟩
     rw[decide_eq_false (fun h=>HE.o (by
      have h1:=HX.o
      rw[h,HY.o] at h1
      exact (zSi h1).symm))]
     rfl
   ·have hst:s=t:=by
     have h1:=Af.o
     rwa [zTl (by rw[Dc.o];omega),zTl (by rw[Ea.o];omega)] at h1
    have HST:=ZZ hst
    clear hst
    go_wp2_with fail
    go_ret
    exact⟨by rw[decide_eq_true HST.o];rfl,below_drewN zBr _⟩
 ·have Bq:=ZZ (show s≠t from fun h=>hnm (by rw[← hsl,← htl,h]))
  have h1:=zNt ht.room ht.most
  unfold maxLen at h1
  have q2:((n:Int) != (m:Int))=true:=by rw[bne_iff_ne];omega
  clear hs ht hsl htl hnm
  go_enter Tryz.func33,Tryz.ntmps33
  go_wp2_with fail
  go_ret
  exact⟨by rw[decide_eq_false Bq.o];rfl,zBr⟩

theorem zlz {a:St} {ss:List St} {j:Nat} {s:St} (h:∀ t∈ss.take j,t=a) (hs:ss[j]? = some s) (e:s=a):∀ t∈ss.take (j+1),t=a:=fun t ht=>by
 rw[List.take_add_one,hs] at ht
 rcases List.mem_append.1 ht with ht|ht
 ·exact h t ht
 ·simp at ht
  rw[ht]
  exact e

theorem zex (oa:Zoa) (n cap:Nat) (a:St) (r:List St) (hn20:n≤1048576) (hok:∀ s∈a::r,stOk s=true) (w:World) (hat:StsAt w oa n cap (a::r)) :
  Calls Tryz.prog 169 #[.slice oa n cap] w fun e w'=>e=.returned (.bool (decide (∀ s∈a::r,s=a)))∧Bw w w':=by
 have hn:=hat.len
 have h0:0<n:=by rw[← hn];simp
 obtain⟨a',b0,q0,xa,xc,ha',hid0,hc00,hit0⟩:=hat.get Tryz.underlying30 z5r 0 h0
 simp only[List.getElem?_cons_zero,Option.some.injEq] at ha'
 subst ha'
 have hid0':∀ wx,(Instr.indexAt 30 (.slice oa n cap) (J Y 0)).run Tryz.prog wx=.ok (.pointer (some ⟨b0,q0,none⟩)) wx:=fun wx=>by simpa using hid0 wx
 have HAT:=ZZ hat
 have HI0:=ZZ hit0
 have Bo:=ZZ hc00
 have HN:=ZZ hn
 have Ab:=ZZ hok
 clear hat hit0 hc00 hn hok hid0
 go_enter Tryz.func169,Tryz.ntmps169
 go_wp2_with fail
 go_loopw [7] (fun x wr=>∃ (j:Nat),x=J Y (j:Int)∧j≤n∧(∀ t∈(a::r).take j,t=a)∧Bw w wr) (fun x _=>n - (intOf x).toNat)
 case atStart=>exact⟨0,rfl,Nat.zero_le _,by simp,zBr⟩
 case round =>
  obtain⟨j,rfl,hj,hall,hbel⟩:=hrel
  have AU:=ZZ hall
  have HB:=ZZ hbel
  clear hall hbel
  by_cases hlt:j<n
  ·have j0:(j:Int)<(n:Int):=by omega
   obtain⟨s,bs,qs,ya,yc,hs,hidx,hcs,hits⟩:=(HAT.o.below HB.o).get Tryz.underlying30 z5r j hlt
   have c00:=(HB.o.cell (zw Bo.o)).trans Bo.o
   have hs8:=z2l (Ab.o s (zMg hs))
   have Ci:=ZZ (zce ya s.length yc s xa a.length xc a (by omega) wr hits (HI0.o.below HB.o))
   have HS:=ZZ hs
   clear hits hs
   by_cases e:s=a
   ·rw[decide_eq_true e] at Ci
    have BA:=ZZ (zlz AU.o HS.o e)
    clear e
    go_wp2_with (go_at_call 33;(with_reducible refine Ci.o.mono ?_);rintro e w2 ⟨rfl,hb2⟩)
    have hb3:=zTr HB.o hb2
    go_roundw
    case rel=>exact⟨j+1,by go_num,by omega,BA.o,hb3⟩
    case measure=>simp[intOf];omega
   ·rw[decide_eq_false e] at Ci
    have BA:=ZZ (show ¬ ∀ t∈a::r,t=a from fun h=>e (h s (zMg HS.o)))
    clear e
    go_wp2_with (go_at_call 33;(with_reducible refine Ci.o.mono ?_);rintro e w2 ⟨rfl,hb2⟩)
    have hb3:=zTr HB.o hb2
    go_ret
    exact⟨by rw[decide_eq_false BA.o];rfl,hb3⟩
  ·have hal:∀ t∈a::r,t=a:=by
    have h1:=AU.o
    rwa [zTl (by rw[HN.o];omega)] at h1
   have BA:=ZZ hal
   clear hal
   go_wp2_with fail
   go_ret
   exact⟨by rw[decide_eq_true BA.o];rfl,HB.o⟩

theorem zhi {s:St} (hok:stOk s=true):∀ (ks:Zin),(ks.map (fun k=>stAt s k)).filter (fun i=>!decide (i=0))=ks.filterMap (zm s)
 | []=>rfl
 | k::r=>by
  have ih:=zhi hok r
  rw[List.map_cons]
  cases hf:zm s k with
  | none =>
   have e:stAt s k=0:=by rw[z7h,hf];rfl
   rw[List.filterMap_cons_none hf,← ih,e]
   rfl
  | some i =>
   obtain⟨h1,h2⟩:=(z4p hok).1 hf
   rw[List.filterMap_cons_some hf,← ih,h2,List.filter_cons_of_pos (by simpa using h1)]

theorem zm0 {ss:List St} {ks:Zin} {j:Nat} {s:St} (hok:stOk s=true) (h:ss[j]? = some s):z0g (ss.take (j+1)) ks=z0g (ss.take j) ks++ks.filterMap (zm s):=by
 unfold z0g
 rw[List.take_add_one,h,List.flatMap_append,← zhi hok ks]
 simp

theorem zhj (ss:List St) (ks:Zin):(z0g ss ks).length≤ss.length * ks.length:=by
 induction ss with
 | nil=>simp[z0g]
 | cons a r ih =>
  have e:z0g (a::r) ks=(ks.map (fun k=>stAt a k)).filter (fun i=>!decide (i=0))++z0g r ks:=rfl
  rw[e,List.length_append,List.length_cons,Nat.add_mul]
  have h1:=List.length_filter_le (fun i=>!decide (i=0)) (ks.map (fun k=>stAt a k))
  rw[List.length_map] at h1
  omega

theorem zgc {w:World} {base:Nat} {e:TypeId} {k:Nat} {v:Value} {n:Nat} {xs:Zvs} {b m:Nat} {F:Int→Option Int} {D:DataW Unit} (ho:w.ownsRow base e k v n xs) (ht:IdTab w b F m D):some b≠v.ownBlock:=fun h=>by
 obtain⟨es,clock,hb,_⟩:=ht.own
 rcases ho.2 with ⟨rfl,-⟩|⟨g,cap,cur,rfl,h1,h2,_⟩
 ·cases h
 ·cases h
  rw[hb] at h2
  cases h2

theorem zey (ss:List St):(clash ss).length≤16:=zNt (List.length_filter_le _ _) (z4k ss)

theorem zoi (ss:List St):∀ z∈clash ss,(Lit.int .i64 z).wf=true:=fun z hz=>by
 have h:=z5f (List.mem_filter.1 hz).1
 exact z3o (by omega) (by omega)

abbrev IntRow (w:World) (B:Nat) (v:Value) (L:Zin):Prop:=w.ownsRow B 3 1 v L.length (L.map z03)

theorem IntRow.next {w:World} {B:Nat} {v:Value} {L:Zin} {z:Int} (h:w.ownsRow B 3 1 v (L.length+1) (L.map z03++[J Y z])):IntRow w B v (L++[z]):=by
 unfold IntRow
 rw[List.length_append,List.map_append]
 exact h

theorem zbg (oa:Zoa) (n cap:Nat) (ss:List St) (hn20:n≤1048576) (hok:∀ s∈ss,stOk s=true) (w:World) (hat:StsAt w oa n cap ss) :
  Calls Tryz.prog 172 #[.slice oa n cap] w (z5c w (z0g ss (clash ss))):=by
 have hn:=hat.len
 have Bz:=ZZ (zdu oa n cap ss hn20 hok w hat)
 have Ab:=ZZ hok
 have HAT:=ZZ hat
 have HN:=ZZ hn
 have hk16:=zey ss
 have CF:=ZZ (zoi ss)
 generalize clash ss=ks at *
 clear hat hok hn
 go_enter Tryz.func172,Tryz.ntmps172
 go_upto_region 3 with (go_at_call 206;(with_reducible refine Bz.o.mono ?_);rintro e w1 ⟨v1,rfl,ho1,hb1⟩;obtain⟨o1,c1,rfl,hki⟩:=z0d ho1 CF.o)
 have HB1:=ZZ hb1
 have Jj:=ZZ (HAT.o.below hb1)
 have GL:=ZZ hki
 obtain⟨B,hBd⟩:∃ B,w1.heap.size=B:=⟨_,rfl⟩
 have Aw:=ZZ hBd
 clear ho1 hb1 hki Bz HAT hBd
 go_wp2_with fail
 go_loopw [3,16] (fun v x wr=>∃ (j:Nat),x=J Y (j:Int)∧j≤n∧IntRow wr w1.heap.size v (z0g (ss.take j) ks)∧Bw w1 wr) (fun _ x _=>n - (intOf x).toNat)
 case atStart=>exact⟨0,rfl,Nat.zero_le _,World.ownsRow_nil _ _ _ _,zBr⟩
 case round =>
  obtain⟨j,rfl,hj,hrow,hbel⟩:=hrel
  generalize hL0:z0g (ss.take j) ks=L0 at hrow
  have DI:=ZZ hL0
  clear hL0
  obtain⟨o3,c3,rfl⟩:=zi hrow
  have HR:=ZZ hrow
  have HB:=ZZ hbel
  clear hrow hbel
  by_cases hlt:j<n
  ·have j0:(j:Int)<(n:Int):=by omega
   obtain⟨s,bs,qs,ya,yc,hs,hidx,hcs,hits⟩:=(Jj.o.below HB.o).get Tryz.underlying30 z5r j hlt
   have hoks:=Ab.o s (zMg hs)
   have hs8:=z2l hoks
   have Kb:=ZZ (z4j ya s.length yc s (by omega) wr hits (z3j hoks))
   have DD:=ZZ (zm0 (ks:=ks) hoks hs)
   rw[DI.o] at DD
   have hlen:L0.length≤16 * j:=by
    rw[← DI.o]
    have h1:=zhj (ss.take j) ks
    have h2:(ss.take j).length≤j:=List.length_take_le _ _
    have h3:(ss.take j).length * ks.length≤j * 16:=Nat.mul_le_mul h2 hk16
    omega
   clear hits hs hoks
   go_upto_region 7 with (go_at_call 143;(with_reducible refine Kb.o.mono ?_);rintro e w2 ⟨rfl,hk2,hb2⟩)
   obtain⟨D2,m2,hm2,hT2⟩:=hk2
   have HR2:=ZZ (own_below HR.o hb2)
   have HB2:=ZZ (zTr HB.o hb2)
   have HT2:=ZZ hT2
   generalize wr.heap.size=b2 at *
   clear hT2 hb2 Kb hcs hidx HR HB
   go_wp2_with fail
   go_loopw [3,24] (fun v y wr=>∃ (i:Nat),y=J Y (i:Int)∧i≤ks.length∧IntRow wr w1.heap.size v (L0++(ks.take i).filterMap (zm s))∧IdTab wr b2 (zm s) m2 D2∧Bw w1 wr) (fun _ y _=>ks.length - (intOf y).toNat)
   case atStart=>exact⟨0,rfl,Nat.zero_le _,by simpa using HR2.o,HT2.o,HB2.o⟩
   case round =>
    obtain⟨i,rfl,hi,hrow,hT,hbel⟩:=hrel
    generalize hL1:L0++(ks.take i).filterMap (zm s)=L1 at hrow
    have Be:=ZZ hL1
    clear hL1
    obtain⟨o4,c4,rfl⟩:=zi hrow
    have HR:=ZZ hrow
    have HB:=ZZ hbel
    have HT:=ZZ hT
    clear hrow hbel hT HR2 HB2 HT2
    by_cases hli:i<ks.length
    ·have i0:(i:Int)<(ks.length:Int):=by omega
     obtain⟨k,bk,qk,hk,hidk,hbk,ck,hwk⟩:=(GL.o.below HB.o).get Tryz.underlying60 z0f i hli
     have hlk:=HT.o.look hwk
     have Af:=ZZ (show ks.take (i+1)=ks.take i++[k] from by rw[List.take_add_one,hk];rfl)
     have hl2:L1.length≤16 * j+16:=by
      rw[← Be.o,List.length_append]
      have h1:=List.length_filterMap_le (zm s) (ks.take i)
      rw[List.length_take] at h1
      omega
     clear hk
     cases hF:zm s k with
     | none =>
      rw[hF] at hlk
      simp only[Option.getD_none,Option.isSome_none] at hlk
      have HF:=ZZ (show (ks.take (i+1)).filterMap (zm s)=(ks.take i).filterMap (zm s) from by rw[Af.o,List.filterMap_append];simp[hF])
      clear hF
      go_wp2_with fail
      go_roundw
      case rel=>exact⟨i+1,by go_num,by omega,by rw[HF.o,Be.o];exact HR.o,HT.o,HB.o⟩
      case measure=>simp[intOf];omega
     | some z =>
      rw[hF] at hlk
      simp only[Option.getD_some,Option.isSome_some] at hlk
      have HF:=ZZ (show L0++(ks.take (i+1)).filterMap (zm s)=L1++[z] from by rw[← Be.o,Af.o,List.filterMap_append,List.append_assoc];simp[hF])
      have hown:=HR.o
      have hszB:=HB.o.size
      clear hF
      go_wp2_with (at_builtin;refine z1n (cs:=#[J Y z]) rfl _ _ 60 rfl (by decide) Tryz.underlying60 z1u rfl rfl hown rfl rfl (by simp[Value.oneCell']) hszB (by unfold maxLen;omega) (by omega) ?_;intro v5 w5 ho5 hg5 hl5;obtain⟨o5,c5,rfl⟩:=zi ho5)
      have BM:=ZZ (IntRow.next ho5)
      rw[← HF.o] at BM
      have Dl:=ZZ ((HT.o.below (zBa)).kept hg5 (zgc hown HT.o))
      have BQ:=ZZ ((HB.o.alloc hszB (.cells #[J Y z] 3)).grown hg5 (by simp;omega) (fun q hq=>(hown.lt q hq).1))
      clear ho5 hg5 hl5 hown
      go_roundw
      case rel=>exact⟨i+1,by go_num,by omega,BM.o,Dl.o,BQ.o⟩
      case measure=>simp[intOf];omega
    ·have BA:=ZZ (show IntRow wr w1.heap.size (.slice o4 _ c4) (z0g (ss.take (j+1)) ks) from by
      rw[DD.o,show L0++ks.filterMap (zm s)=L1 from by rw[← Be.o,show ks.take i=ks from zTl (by omega)]]
      exact HR.o)
     go_wp2_with fail
     go_roundw
     case rel=>exact⟨j+1,by go_num,by omega,BA.o,HB.o⟩
     case measure=>simp[intOf];omega
  ·have HE:=ZZ (show z0g ss ks=L0 from by rw[← DI.o,show ss.take j=ss from zTl (by rw[HN.o];omega)])
   have hR:=HR.o
   go_wp2_with fail
   go_ret
   refine⟨.slice o3 L0.length c3,rfl,?_,zTr HB1.o HB.o⟩
   rw[HE.o]
   exact zu hR HB1.o.size

end Go.Proofs.YtfeebdcmlnapiaaGreat
