/-
  Walks.
-/
import Derived.Test.YtfeebdcmlnapiaaGreatTRoomW1
open Go.Value renaming int->J
open Go.IntKind renaming i64->Y
set_option maxHeartbeats 4000000
set_option linter.unusedVariables false
set_option linter.unusedSimpArgs false
namespace Go.Proofs.YtfeebdcmlnapiaaGreat
open Go.RowKit Go.Deep Go.ChangeShapes Go.WideShapes P1 P9 K
structure SesV where
 term:Int
 kind:Int
 data:ByteArray

def sesv (e:SesV):Value:=.agg #[J Y e.term,J Y e.kind,.string e.data]

def y03 (e:SesV):Zvs:=[J Y e.term,J Y e.kind,.string e.data]

def y0c (e:SesV):Prop:=e.data.size≤maxLen∧(Lit.int .i64 e.term).wf=true∧(Lit.int .i64 e.kind).wf=true

section
variable {H:Type} {enc:TypeId × Value→H} {P:Program} {w:World} {base:Nat} {spare:Nat→Bool} {held:Bool}

theorem y1i {e tS tI:TypeId} {f0 f1 f2:Field} {fuel:Nat} {cs:Zvs} {x:DataW H × List MemPlace} (he:P.underlying e=some (.struct #[f0,f1,f2]))
  (hS:P.underlying tS=some .string) (hI:P.underlying tI=some (.int .i64)) (t0:f0.type=tI) (t1:f1.type=tI) (t2:f2.type=tS) (o0:f0.offset=0) (o1:f1.offset=1) (o2:f2.offset=2)
  (ce:P.cellsOf e=3) (cS:P.cellsOf tS=1) (cI:P.cellsOf tI=1) (h:DataW.trod enc P w base spare held fuel e cs=some x) :
  ∃ f:SesV,cs=y03 f∧y0c f:=by
 obtain⟨xs,n,_,_,hlen,hxl,hf⟩:=DataW.trod_struct he h
 rw[ce] at hlen
 match xs,hxl,cs,hlen with
 | [y0,y1,y2],_,[v0,v1,v2],_ =>
  have g0:=hf 0 f0 rfl
  have g1:=hf 1 f1 rfl
  have g2:=hf 2 f2 rfl
  simp[o0,o1,o2,t0,t1,t2,cS,cI] at g0 g1 g2
  obtain⟨k0,e0,_,m0⟩:=DataW.trod_int hI g0
  obtain⟨k1,e1,_,m1⟩:=DataW.trod_int hI g1
  obtain⟨s2,e2,_,m2⟩:=DataW.trod_string hS g2
  cases e0;cases e1;cases e2
  exact⟨⟨k0,k1,s2⟩,rfl,m2,m0,m1⟩
end

def szSs (e:SesV) (left:Int):Int:=if left - e.data.size<0 then -1 else left - e.data.size

theorem y1d (e:SesV) (left:Int) (h0:0≤left) (h1:left≤1048576) (hd:e.data.size≤maxLen) (w:World) :
  Calls Tryz.prog 89 #[sesv e,J Y left] w fun r w'=>r=.returned (J Y (szSs e left))∧Bw w w':=by
 obtain⟨t,k,s⟩:=e
 simp only[sesv,szSs] at *
 unfold maxLen at hd
 have HB0:=ZZ ((Below.refl w.heap.size w).alloc zLe (.cells #[J Y t,J Y k,.string s] 141))
 by_cases c:left - s.size<0
 ·rw[if_pos c]
  go_enter Tryz.func89,Tryz.ntmps89
  go_wp2_with fail
  go_ret
  exact⟨rfl,HB0.o⟩
 ·rw[if_neg c]
  go_enter Tryz.func89,Tryz.ntmps89
  go_wp2_with fail
  go_ret
  exact⟨rfl,HB0.o⟩

theorem y1e (e:SesV) (w:World) :
  Calls Tryz.prog 91 #[sesv e] w fun r w'=>r=.returned (sesv e)∧Bw w w':=by
 obtain⟨t,k,s⟩:=e
 simp only[sesv]
 have HB0:=ZZ ((Below.refl w.heap.size w).alloc zLe (.cells #[J Y t,J Y k,.string s] 141))
 go_enter Tryz.func91,Tryz.ntmps91
 go_wp2_with fail
 refine bodyPost_ret (v:=.agg #[J Y t,J Y k,.string s]) (by simp[results,Tryz.results91,go_sem]) rfl ⟨rfl,?_⟩
 exact ((HB0.o.alloc (by simp) _).alloc (by simp;omega) _)

theorem y1f (e:SesV) (w:World) :
  Calls Tryz.prog 97 #[sesv e,sesv e] w fun r w'=>r=.returned (.bool true)∧Bw w w':=by
 obtain⟨t,k,s⟩:=e
 simp only[sesv]
 go_enter Tryz.func97,Tryz.ntmps97
 go_wp2_with fail
 all_goals first|go_quiet (fail)|skip
 go_wp2_with fail
 go_ret
 exact⟨rfl,(zBa).alloc (by simp) _⟩

theorem y0j:(Tryz.prog.info? 86).map (·.size)=some 3:=by kernel_rfl

theorem y2t:(Tryz.prog.info? 86).map (fun i=>(i.zero,i.size,i.bytes))=some (some (.agg #[J Y 0,J Y 0,.string ⟨#[]⟩]),3,32):=by kernel_rfl

theorem y1x:(Tryz.prog.info? 141).map (·.size)=some 3:=by kernel_rfl

theorem y09 (e:SesV):(y03 e).length=3:=rfl

abbrev y0d (w:World) (oa:Zoa) (n cap:Nat) (es:List SesV):Prop:=RowsAt 3 y03 w oa n cap es

theorem RowsAt.getS3 {w:World} {oa:Zoa} {n cap:Nat} {es:List SesV} (h:y0d w oa n cap es) {P:Program} {t e:TypeId} (ht:P.underlying t=some (.slice e)) (hi:(P.info? e).map (·.size)=some 3) (i:Nat) (hin:i<n) :
  ∃ f b q,es[i]? = some f∧(∀ wx,(Instr.indexAt t (.slice oa n cap) (J Y (i:Int))).run P wx=.ok (.pointer (some ⟨b,q,none⟩)) wx)∧b<w.heap.size ∧
   w.cell? ⟨b,q,none⟩=some (J Y f.term)∧w.cell? ⟨b,q+1,none⟩=some (J Y f.kind)∧w.cell? ⟨b,q+2,none⟩=some (.string f.data):=by
 obtain⟨f,b,q,hf,hx,hb,hc⟩:=h.get ht hi y09 (by omega) i hin
 exact⟨f,b,q,hf,hx,hb,hc 0 _ rfl,hc 1 _ rfl,hc 2 _ rfl⟩

def y0f:List SesV→Int→Int
 | [],left=>left
 | f::r,left=>if szSs f left<0 then -1 else y0f r (szSs f left)

def y0l (es:List SesV) (left:Int):Int:=if left - es.length<0 then -1 else y0f es (left - es.length)

theorem y0n (f:SesV) (r:List SesV) (left:Int):y0f (f::r) left=if szSs f left<0 then -1 else y0f r (szSs f left):=rfl

theorem y1y (e:SesV) (left:Int) (h:0≤left):szSs e left≤left:=by
 unfold szSs
 split<;>omega

theorem y2i {e:SesV} {left:Int} (h:0≤szSs e left) (hl:left≤1048576):e.data.size≤1048576:=by
 unfold szSs at h
 split at h<;>omega

theorem y0o:∀ (es:List SesV) (left:Int),left≤1048576→0≤left→0≤y0f es left→y0f es left≤left∧∀ f∈es,f.data.size≤1048576
 | [],left,_,_,h=>⟨Int.le_refl _,fun f hf=>by simp at hf⟩
 | a::r,left,h1,h0,h=>by
  rw[y0n] at h ⊢
  by_cases c:szSs a left<0
  ·rw[if_pos c] at h;omega
  ·rw[if_neg c] at h ⊢
   have hl:=y1y a left h0
   have ih:=y0o r (szSs a left) (by omega) (by omega) h
   refine⟨by omega,fun f hf=>?_⟩
   rcases List.mem_cons.1 hf with rfl|hf
   ·exact y2i (by omega) h1
   ·exact ih.2 f hf

theorem y1z {es:List SesV} {left:Int} (h1:left≤1048576) (h0:0≤left) (h:0≤y0l es left):y0l es left≤left∧es.length≤1048576∧∀ f∈es,f.data.size≤1048576:=by
 unfold y0l at h ⊢
 by_cases c:left - es.length<0
 ·rw[if_pos c] at h;omega
 ·rw[if_neg c] at h ⊢
  have:=y0o es _ (by omega) (by omega) h
  exact⟨by omega,by omega,this.2⟩

theorem y11 (oa:Zoa) (n cap:Nat) (es:List SesV) (left:Int) (h0:0≤left) (h1:left≤1048576) (w:World) (hat:y0d w oa n cap es) (hw:∀ f∈es,y0c f) :
  Calls Tryz.prog 37 #[.slice oa n cap,J Y left] w fun e w'=>e=.returned (J Y (y0l es left))∧Bw w w':=by
 have hn:=hat.len
 have hc:=hat.room
 have hm:=hat.most
 unfold maxLen at hm
 unfold y0l
 rw[hn]
 by_cases c1:left - n<0
 ·have g1:decide (left - (n:Int)<0)=true:=by simpa using c1
  rw[if_pos c1]
  go_enter Tryz.func37,Tryz.ntmps37
  go_wp2_with fail
  go_ret
  exact⟨rfl,zBr⟩
 ·have g1:decide (left - (n:Int)<0)=false:=by simpa using c1
  rw[if_neg c1]
  have HN:=ZZ hn
  have HAT:=ZZ hat
  have HW:=ZZ hw
  clear hn hat hw
  go_enter Tryz.func37,Tryz.ntmps37
  go_wp2_with fail
  go_loopw [5,1] (fun i l wr=>∃ (j:Nat) (x:Int),i=J Y (j:Int)∧l=J Y x∧j≤n∧0≤x∧x≤1048576∧y0f (es.drop j) x=y0f es (left - n)∧Bw w wr) (fun i _ _=>n - (intOf i).toNat)
  case atStart=>exact⟨0,left - n,rfl,rfl,Nat.zero_le _,by omega,by omega,by simp,zBr⟩
  case round =>
   obtain⟨j,x,rfl,rfl,hj,hx0,hx1,hrest,hbel⟩:=hrel
   by_cases hlt:j<n
   ·have j0:(j:Int)<(n:Int):=by omega
    obtain⟨f,b,q,hf,hidx,hb,c0,c1',c2⟩:=(HAT.o.below hbel).getS3 Tryz.underlying36 y1x j hlt
    have hwf:=HW.o f (zMg hf)
    have hSZ:=ZZ (y1d f x hx0 hx1 hwf.1)
    unfold sesv at hSZ
    have hd:es.drop j=f::es.drop (j+1):=by
     rw[List.drop_eq_getElem_cons (by rw[HN.o];exact hlt)]
     congr 1
     rw[List.getElem?_eq_getElem (by rw[HN.o];exact hlt)] at hf
     exact zSi hf
    rw[hd,y0n] at hrest
    have HR:=ZZ hrest
    clear hrest hd
    by_cases c2:szSs f x<0
    ·have g2:decide (szSs f x<0)=true:=by simpa using c2
     have HR2:=HR.o
     rw[if_pos c2] at HR2
     have HR2:=ZZ HR2
     go_wp2_with (go_at_call 89;refine (hSZ.o _).mono ?_;rintro e w2 ⟨rfl,hb2⟩)
     go_ret
     exact⟨by rw[← HR2.o];rfl,zTr hbel hb2⟩
    ·have g2:decide (szSs f x<0)=false:=by simpa using c2
     have HR2:=HR.o
     rw[if_neg c2] at HR2
     have HR2:=ZZ HR2
     have hle:=y1y f x hx0
     go_wp2_with (go_at_call 89;refine (hSZ.o _).mono ?_;rintro e w2 ⟨rfl,hb2⟩)
     go_roundw
     case rel=>exact⟨j+1,szSs f x,by go_num,rfl,by omega,by omega,by omega,HR2.o,zTr hbel hb2⟩
     case measure=>simp[intOf];omega
   ·have hjn:j=n:=by omega
    have HR:=ZZ hrest
    go_wp2_with fail
    go_ret
    refine⟨?_,hbel⟩
    rw[← HR.o,hjn,← HN.o,List.drop_length]
    rfl

theorem y2j {w:World} {base:Nat} {e:TypeId} {g n cap:Nat} {ys:List SesV} (h:w.ownsRow base e 3 (.slice (some ⟨g,0,none⟩) n cap) n (ys.flatMap y03)) (j:Nat) (hj:j<ys.length) (f:SesV) :
  (((w.setCell ⟨g,j * 3,none⟩ (J Y f.term)).setCell ⟨g,j * 3+1,none⟩ (J Y f.kind)).setCell ⟨g,j * 3+2,none⟩ (.string f.data)).ownsRow base e 3 (.slice (some ⟨g,0,none⟩) n cap) n ((ys.set j f).flatMap y03) ∧
   w.grownBy (((w.setCell ⟨g,j * 3,none⟩ (J Y f.term)).setCell ⟨g,j * 3+1,none⟩ (J Y f.kind)).setCell ⟨g,j * 3+2,none⟩ (.string f.data)) (some g):=by
 have h2:=z4h (y03 f) w (j * 3) (ys.flatMap y03) h
 rw[z5v y09 ys j f hj] at h2
 exact h2

theorem y19 {w:World} {base:Nat} {e:TypeId} {v:Value} {n:Nat} {ys:List SesV} (h:w.ownsRow base e 3 v n (ys.flatMap y03)):ys.length=n:=by
 have:=h.1
 rw[z3b y03 3 y09] at this
 omega

theorem y12 (oa:Zoa) (n cap:Nat) (es:List SesV) (hn20:n≤1048576) (w:World) (hat:y0d w oa n cap es) :
  Calls Tryz.prog 42 #[.slice oa n cap] w fun e w'=>∃ g,e=.returned (.slice (some ⟨g,0,none⟩) n n)∧w'.ownsRow w.heap.size 86 3 (.slice (some ⟨g,0,none⟩) n n) n (es.flatMap y03)∧Bw w w':=by
 have hn:=hat.len
 have hc:=hat.room
 have hm:=hat.most
 unfold maxLen at hm
 obtain⟨i0,hi,hz0,hz1,hz2⟩:=info_parts y2t
 obtain⟨W0,hmk,hown0,hgr0⟩:=run_make_full (P:=Tryz.prog) w w.heap.size 42 86 i0 _ 3 Tryz.underlying42 hi hz0 hz1 .i64 .i64 n (by rw[hz2];omega) (by unfold maxLen;omega) zLe
 rw[y18 (k:=3) (cf:=y03) ⟨0,0,⟨#[]⟩⟩ _ (by rfl) n y09 (by omega)] at hown0
 have HOWN:=ZZ hown0
 have DV:=ZZ hgr0
 have HN:=ZZ hn
 have HAT:=ZZ hat
 clear hown0 hgr0 hn hat hi hz0 hz1 hz2
 go_enter Tryz.func42,Tryz.ntmps42
 go_wp2_with fail
 go_loopw [4] (fun i wr=>∃ (j:Nat) (ys:List SesV),i=J Y (j:Int)∧j≤n∧(∀ k,k<j→ys[k]? = es[k]?)∧wr.ownsRow w.heap.size 86 3 (.slice (some ⟨w.heap.size,0,none⟩) n n) n (ys.flatMap y03)∧Bw w wr) (fun i _=>n - (intOf i).toNat)
 case atStart=>exact⟨0,_,rfl,Nat.zero_le _,fun k hk=>absurd hk (Nat.not_lt_zero _),HOWN.o,zBr.grown DV.o zLe (fun k hk=>by cases hk)⟩
 case round =>
  obtain⟨j,ys,rfl,hj,hfill,hown,hbel⟩:=hrel
  by_cases hlt:j<n
  ·have j0:(j:Int)<(n:Int):=by omega
   obtain⟨f,b,q,hf,hidx,hb,c0,c1',c2⟩:=(HAT.o.below hbel).getS3 Tryz.underlying36 y1x j hlt
   have hidx2:∀ wx,(Instr.indexAt 42 (.slice (some ⟨w.heap.size,0,none⟩) n n) (J Y (j:Int))).run Tryz.prog wx=.ok (.pointer (some ⟨w.heap.size,j * 3,none⟩)) wx:=fun wx=>by
    have:=run_indexAt_slice wx 42 86 3 Tryz.underlying42 y0j w.heap.size 0 n n j hlt
    rwa [Nat.zero_add] at this
   have hTO:=ZZ (y1e f)
   unfold sesv at hTO
   have HF:=ZZ hf
   have BK:=ZZ hfill
   have HYL:=ZZ (y19 hown)
   have HO:=ZZ hown
   have hsz:=hbel.size
   clear hf hfill hown
   go_wp2_with (go_at_call 91;refine (hTO.o _).mono ?_;rintro e w2 ⟨rfl,hb2⟩;have ho2:=own_below HO.o hb2;obtain⟨⟨y0,z0⟩,⟨y1,z1⟩,⟨y2,z2⟩⟩:=y17 ho2 j hlt;have f0:=ho2.frozenAt (j * 3);have f1:=ho2.frozenAt (j * 3+1);have f2:=ho2.frozenAt (j * 3+2);have Ag:=ZZ ho2;clear ho2)
   have hst:=y2j Ag.o j (by rw[HYL.o];exact hlt) f
   have hb3:=(hbel.trans (hb2.mono hsz)).grown hst.2 (zNt hsz hb2.size) (fun k hk=>by cases hk;exact Nat.le_refl _)
   go_roundw
   case rel =>
    refine⟨j+1,_,by go_num,by omega,?_,hst.1,hb3⟩
    intro k hk
    by_cases e:k=j
    ·subst e
     rw[List.getElem?_set_self (by rw[HYL.o];exact hlt),HF.o]
    ·rw[List.getElem?_set_ne (by omega)]
     exact BK.o k (by omega)
   case measure=>simp[intOf];omega
  ·have hjn:j=n:=by omega
   subst hjn
   have HE:=ZZ (show ys=es by
    apply List.ext_getElem?
    intro k
    by_cases hk:k<j
    ·exact hfill k hk
    ·rw[List.getElem?_eq_none (by rw[y19 hown];omega),List.getElem?_eq_none (by rw[HN.o];omega)])
   have HO:=ZZ hown
   clear hown hfill
   go_wp2_with fail
   go_ret
   refine⟨w.heap.size,rfl,?_,hbel⟩
   rw[← HE.o]
   exact HO.o

theorem y0v (oa:Zoa) (n cap:Nat) (ob:Zoa) (cap':Nat) (es:List SesV) (hn20:n≤1048576) (w:World) (hat:y0d w oa n cap es) (hbt:y0d w ob n cap' es) :
  Calls Tryz.prog 46 #[.slice oa n cap,.slice ob n cap'] w fun e w'=>e=.returned (.bool true)∧Bw w w':=by
 have HAT:=ZZ hat
 have AA:=ZZ hbt
 clear hat hbt
 go_enter Tryz.func46,Tryz.ntmps46
 go_wp2_with fail
 go_loopw [5] (fun i wr=>∃ (j:Nat),i=J Y (j:Int)∧j≤n∧Bw w wr) (fun i _=>n - (intOf i).toNat)
 case atStart=>exact⟨0,rfl,Nat.zero_le _,zBr⟩
 case round =>
  obtain⟨j,rfl,hj,hbel⟩:=hrel
  by_cases hlt:j<n
  ·have j0:(j:Int)<(n:Int):=by omega
   obtain⟨f,b,q,hf,hidx,hb,c0,c1,c2⟩:=(HAT.o.below hbel).getS3 Tryz.underlying42 y0j j hlt
   obtain⟨f',b',q',hf',hidx',hb',c0',c1',c2'⟩:=(AA.o.below hbel).getS3 Tryz.underlying42 y0j j hlt
   rw[hf] at hf'
   cases hf'
   have hEQ:=ZZ (y1f f)
   unfold sesv at hEQ
   have hsz:=hbel.size
   clear hf
   go_wp2_with fail
   refine zn (F:=Bw wr) (by kernel_rfl) (by kernel_rfl) zBr.drew ?_
   have hne:Nonempty (InW (Bw wr)):=⟨⟨_,zBr⟩⟩
   have k0:=ciW c0
   have k1:=ciW c1
   have k2:=ciW c2
   have k3:∀ m:InW (Bw wr),m.w.cell? ⟨b',q',none⟩=some (J Y f.term):=fun m=>(m.h.cell hb').trans c0'
   have k4:∀ m:InW (Bw wr),m.w.cell? ⟨b',q'+1,none⟩=some (J Y f.kind):=fun m=>(m.h.cell hb').trans c1'
   have k5:∀ m:InW (Bw wr),m.w.cell? ⟨b',q'+2,none⟩=some (.string f.data):=fun m=>(m.h.cell hb').trans c2'
   repeat (go_big_quiet_step (first|(go_at_call 97;refine (hEQ.o _).mono ?_;rintro e w2 ⟨rfl,hb2⟩;exact⟨rfl,iwW hb2,rfl⟩)))
   refine wpQuiet_nil ?_
   intro _ hw'
   obtain⟨nq,hw''⟩:=hw'
   subst hw''
   have hb3:=hbel.trans (nq.h.mono hsz)
   generalize nq.w=w2 at hb3 ⊢
   clear hne k0 k1 k2 k3 k4 k5
   go_wp2_with fail
   go_roundw
   case rel=>exact⟨j+1,by go_num,by omega,hb3⟩
   case measure=>simp[intOf];omega
  ·have hjn:j=n:=by omega
   go_wp2_with fail
   go_ret
   exact⟨rfl,hbel⟩

section
variable {H:Type} {enc:TypeId × Value→H} {P:Program} {w:World} {base:Nat} {spare:Nat→Bool} {held:Bool}

theorem y2k {t e tS tI:TypeId} {f0 f1 f2:Field} {fuel:Nat} {cs:Zvs} {x:DataW H × List MemPlace} (ht:P.underlying t=some (.slice e)) (he:P.underlying e=some (.struct #[f0,f1,f2]))
  (hS:P.underlying tS=some .string) (hI:P.underlying tI=some (.int .i64)) (t0:f0.type=tI) (t1:f1.type=tI) (t2:f2.type=tS) (o0:f0.offset=0) (o1:f1.offset=1) (o2:f2.offset=2)
  (ce:P.cellsOf e=3) (cS:P.cellsOf tS=1) (cI:P.cellsOf tI=1) (h:DataW.trod enc P w base (fun _=>true) held fuel t cs=some x) :
  cs=[.slice none 0 0]∨∃ (a:Addr) (len cap:Nat) (F:Nat→SesV),cs=[.slice (some a) len cap]∧len≤cap∧cap≤maxLen ∧
   ∀ i,i<len→(∀ j,j<3→w.cell? (a.add (i * 3+j))=(y03 (F i))[j]?)∧y0c (F i):=by
 rcases open_slice ht h with h0|⟨a,len,cap,m,n,D,Pl,rfl,hb,hl,hm,hmm,_,hx⟩
 ·exact Or.inl h0.1
 ·right
  have each:∀ i,i<len→∃ f:SesV,(∀ j,j<3→w.cell? (a.add (i * 3+j))=(y03 f)[j]?)∧y0c f:=by
   intro i hi
   obtain⟨cs',h1,h2⟩:=hx i (by rw[hmm];simp;omega)
   rw[ce] at h1
   obtain⟨_,_,hcell⟩:=World.cells?_some h1
   obtain⟨f,rfl,b1⟩:=y1i he hS hI t0 t1 t2 o0 o1 o2 ce cS cI h2
   exact⟨f,fun j hj=>by rw[← add_add];exact hcell j hj,b1⟩
  have:Inhabited SesV:=⟨⟨0,0,⟨#[]⟩⟩⟩
  obtain⟨F,hF⟩:=choose_lt each
  exact⟨a,len,cap,F,rfl,hl,hm,hF⟩

theorem y1j {a:Addr} {len cap:Nat} {F:Nat→SesV} (hl:len≤cap) (hm:cap≤maxLen)
  (h:∀ i,i<len→(∀ j,j<3→w.cell? (a.add (i * 3+j))=(y03 (F i))[j]?)∧y0c (F i)) :
  y0d w (some a) len cap ((List.range len).map F)∧∀ f∈(List.range len).map F,y0c f:=by
 refine⟨⟨by simp,hl,hm,fun i f hf=>?_⟩,fun f hf=>?_⟩
 ·have hi:i<len:=by simpa using (zGi.1 hf).1
  have hfe:F i=f:=by simpa [hi] using hf
  subst hfe
  have hsp:a.spot=none:=by
   have h1:=(h 0 (by omega)).1 0 (by omega)
   have h2:w.cell? a=some (J Y (F 0).term):=by simpa [Addr.add,y03] using h1
   exact cell_spot h2
  obtain⟨b,o,s⟩:=a
  simp only at hsp
  subst hsp
  refine⟨b,o,rfl,fun j u hu=>?_⟩
  have hj:j<3:=by simpa [y03] using (zGi.1 hu).1
  have h1:=(h i hi).1 j hj
  rw[Addr.add_mid,hu] at h1
  rw[Nat.add_assoc]
  exact h1
 ·obtain⟨i,hi,rfl⟩:=List.mem_map.1 hf
  exact (h i (by simpa using hi)).2

end

open P5 P11 P12 P14
structure OutX where
 d:Int
 a:Int
 ids:Zin

structure OutR where
 d:Int
 a:Int
 oa:Zoa
 n:Nat
 cap:Nat

def y0b (r:OutR):Zvs:=[J Y r.d,J Y r.a,.slice r.oa r.n r.cap]

theorem y0a (r:OutR):(y0b r).length=3:=rfl

abbrev outv (d a:Int) (v:Value):Value:=.agg #[J Y d,J Y a,v]

structure OutIs (w:World) (r:OutR) (x:OutX):Prop where
 d:r.d=x.d
 a:r.a=x.a
 n:r.n=x.ids.length
 at_:IntsAt w r.oa r.n r.cap x.ids

theorem OutIs.below {w w':World} {r:OutR} {x:OutX} (h:OutIs w r x) (hb:Bw w w'):OutIs w' r x:=⟨h.d,h.a,h.n,h.at_.below hb⟩

structure OutsAt (w:World) (oa:Zoa) (n cap:Nat) (os:List OutX):Prop where
 len:os.length=n
 row:∃ rs:List OutR,RowsAt 3 y0b w oa n cap rs∧∀ (i:Nat) (r:OutR) (x:OutX),rs[i]? = some r→os[i]? = some x→OutIs w r x

theorem OutsAt.below {w w':World} {oa:Zoa} {n cap:Nat} {os:List OutX} (h:OutsAt w oa n cap os) (hb:Bw w w'):OutsAt w' oa n cap os:=by
 obtain⟨rs,h1,h2⟩:=h.row
 exact⟨h.len,rs,h1.below hb,fun i r x hr hx=>(h2 i r x hr hx).below hb⟩

theorem OutsAt.room {w:World} {oa:Zoa} {n cap:Nat} {os:List OutX} (h:OutsAt w oa n cap os):n≤cap∧cap≤maxLen:=by
 obtain⟨rs,h1,_⟩:=h.row
 exact⟨h1.room,h1.most⟩

theorem y0p:(Tryz.prog.info? 90).map (·.size)=some 3:=by kernel_rfl

theorem y2z:(Tryz.prog.info? 90).map (fun i=>(i.zero,i.size,i.bytes))=some (some (.agg #[J Y 0,J Y 0,.slice none 0 0]),3,40):=by kernel_rfl

theorem y2l:(Tryz.prog.info? 143).map (·.size)=some 3:=by kernel_rfl

theorem OutsAt.get {w:World} {oa:Zoa} {n cap:Nat} {os:List OutX} (h:OutsAt w oa n cap os) {P:Program} {t e:TypeId} (ht:P.underlying t=some (.slice e)) (hi:(P.info? e).map (·.size)=some 3) (i:Nat) (hin:i<n) :
  ∃ x xa xc b q,os[i]? = some x∧(∀ wx,(Instr.indexAt t (.slice oa n cap) (J Y (i:Int))).run P wx=.ok (.pointer (some ⟨b,q,none⟩)) wx)∧b<w.heap.size∧w.cell? ⟨b,q,none⟩=some (J Y x.d)∧w.cell? ⟨b,q+1,none⟩=some (J Y x.a)∧w.cell? ⟨b,q+2,none⟩=some (.slice xa x.ids.length xc)∧IntsAt w xa x.ids.length xc x.ids:=by
 obtain⟨rs,h1,h2⟩:=h.row
 obtain⟨r,b,q,hr,hidx,hb,hc⟩:=h1.get ht hi y0a (by omega) i hin
 obtain⟨x,hx⟩:∃ x,os[i]? = some x:=⟨_,List.getElem?_eq_getElem (by rw[h.len];exact hin)⟩
 have his:=h2 i r x hr hx
 have c0:=hc 0 _ rfl
 have c1:=hc 1 _ rfl
 have c2:=hc 2 _ rfl
 have hat:=his.at_
 rw[his.n] at c2 hat
 rw[his.d] at c0
 rw[his.a] at c1
 exact⟨x,r.oa,r.cap,b,q,hx,hidx,hb,c0,c1,c2,hat⟩

def idW (os:List OutX):Nat:=(os.map fun x=>x.ids.length).sum

theorem y2u {os:List OutX} {j:Nat} {s:OutX} (h:os[j]? = some s):idW (os.take (j+1))=idW (os.take j)+s.ids.length:=by
 unfold idW
 rw[List.take_add_one,h]
 simp

theorem y0r:∀ {os:List OutX} {s:OutX},s∈os→s.ids.length≤idW os
 | x::r,s,h=>by
  unfold idW
  rw[List.map_cons,List.sum_cons]
  rcases List.mem_cons.1 h with rfl|h
  ·omega
  ·have:=y0r h
   unfold idW at this
   omega

theorem y2m (d a:Int) (oa:Zoa) (n cap:Nat) (hn:n≤maxLen) (left:Int) (h0:0≤left) (h1:left≤1048576) (w:World) :
  Calls Tryz.prog 90 #[outv d a (.slice oa n cap),J Y left] w fun e w'=>e=.returned (J Y (if left - n<0 then -1 else left - n))∧Bw w w':=by
 have HS:=ZZ (fun w=>zb5 oa n cap hn left h0 h1 w)
 have HB0:=ZZ ((Below.refl w.heap.size w).alloc zLe (.cells #[J Y d,J Y a,.slice oa n cap] 143))
 by_cases c:left - n<0
 ·rw[if_pos c] at HS ⊢
  go_enter Tryz.func90,Tryz.ntmps90
  go_wp2_with (go_at_call 120;refine (HS.o _).mono ?_;rintro e w1 ⟨rfl,rfl⟩)
  go_ret
  exact⟨rfl,HB0.o⟩
 ·rw[if_neg c] at HS ⊢
  generalize left - (n:Int)=y at HS c ⊢
  go_enter Tryz.func90,Tryz.ntmps90
  go_wp2_with (go_at_call 120;refine (HS.o _).mono ?_;rintro e w1 ⟨rfl,rfl⟩)
  go_ret
  exact⟨rfl,HB0.o⟩

def SzO (w:World) (os:List OutX) (left:Int) (e:Ending) (w':World):Prop:=∃ z:Int,e=.returned (J Y z)∧z≤left∧(0≤z→z+(idW os:Int)+(os.length:Int)=left)∧Bw w w'

theorem y26 (oa:Zoa) (n cap:Nat) (os:List OutX) (left:Int) (h0:0≤left) (h1:left≤1048576) (w:World) (hat:OutsAt w oa n cap os) :
  Calls Tryz.prog 38 #[.slice oa n cap,J Y left] w (SzO w os left):=by
 have hn:=hat.len
 have hmx:=zNt hat.room.1 hat.room.2
 unfold maxLen at hmx
 by_cases c1:left - n<0
 ·go_enter Tryz.func38,Tryz.ntmps38
  go_wp2_with fail
  go_ret
  exact⟨-1,rfl,by omega,fun h=>by omega,zBr⟩
 ·have HN:=ZZ hn
  have HAT:=ZZ hat
  clear hn hat
  go_enter Tryz.func38,Tryz.ntmps38
  go_wp2_with fail
  go_loopw [5,1] (fun i l wr=>∃ (j:Nat) (x:Int),i=J Y (j:Int)∧l=J Y x∧j≤n∧0≤x∧x≤left∧x+(idW (os.take j):Int)+(n:Int)=left∧Bw w wr) (fun i _ _=>n - (intOf i).toNat)
  case atStart=>exact⟨0,left - n,rfl,rfl,Nat.zero_le _,by omega,by omega,by simp[idW],zBr⟩
  case round =>
   obtain⟨j,x,rfl,rfl,hj,hx0,hx1,hsum,hbel⟩:=hrel
   have CY:=ZZ hsum
   have hsz:=hbel.size
   clear hsum
   by_cases hlt:j<n
   ·have j0:(j:Int)<(n:Int):=by omega
    obtain⟨s,xa,xc,b,q,hs,hidx,hb,k0,k1,k2,hits⟩:=(HAT.o.below hbel).get Tryz.underlying37 y2l j hlt
    have HC:=ZZ (fun w=>y2m s.d s.a xa s.ids.length xc (zNt hits.room hits.most) x hx0 (by omega) w)
    have HT:=ZZ (y2u hs)
    have hsl:=zNt hits.room hits.most
    unfold maxLen at hsl
    clear hits hs
    by_cases c2:x - s.ids.length<0
    ·rw[if_pos c2] at HC
     go_wp2_with fail
     refine (HC.o _).mono ?_
     rintro e' w2 ⟨rfl,hb2⟩
     go_wp2_with fail
     go_ret
     exact⟨-1,rfl,by omega,fun h=>by omega,hbel.trans (hb2.mono hsz)⟩
    ·rw[if_neg c2] at HC
     have HS2:=ZZ (show x - (s.ids.length:Int)+(idW (os.take (j+1)):Int)+(n:Int)=left by
      have:=CY.o
      rw[HT.o]
      omega)
     have hx2:0≤x - (s.ids.length:Int):=by omega
     have hx3:x - (s.ids.length:Int)≤left:=by omega
     generalize x - (s.ids.length:Int)=y at HC HS2 hx2 hx3
     have g2:¬ y<0:=by omega
     clear HT c2
     go_wp2_with fail
     refine (HC.o _).mono ?_
     rintro e' w2 ⟨rfl,hb2⟩
     have hb3:=hbel.trans (hb2.mono hsz)
     clear hb2
     go_wp2_with fail
     go_roundw
     case rel=>exact⟨j+1,y,by go_num,rfl,by omega,hx2,hx3,HS2.o,hb3⟩
     case measure=>simp[intOf];omega
   ·have HE:=ZZ (show os.take j=os from zTl (by rw[HN.o];omega))
    go_wp2_with fail
    go_ret
    refine⟨x,rfl,hx1,fun _=>?_,hbel⟩
    have:=CY.o
    rw[HE.o] at this
    rw[HN.o]
    exact this

def y2y (w:World) (d a:Int) (n:Nat) (zs:Zin) (e:Ending) (w':World):Prop :=
 ∃ g,e=.returned (outv d a (.slice (some ⟨g,0,none⟩) n n))∧w'.ownsRow w.heap.size 3 1 (.slice (some ⟨g,0,none⟩) n n) n (zs.map z03)∧Bw w w'

theorem y2n (d a:Int) (oa:Zoa) (n cap:Nat) (zs:Zin) (hn20:n≤1048576) (w:World) (hat:IntsAt w oa n cap zs) :
  Calls Tryz.prog 92 #[outv d a (.slice oa n cap)] w fun e w'=>y2y w d a n zs e w':=by
 have hb1:=(((Below.refl w.heap.size w).alloc zLe (.cells #[J Y d,J Y a,.slice oa n cap] 143)).alloc (by simp) (.cells #[J Y 0,J Y 0,.slice none 0 0] 90)).alloc (by simp;omega) (.cells #[J Y d,J Y a,.slice none 0 0] 90)
 have Ba:=ZZ (zb2 oa n cap zs hn20 _ (hat.below hb1))
 have HB1:=ZZ hb1
 clear hat hb1
 go_enter Tryz.func92,Tryz.ntmps92
 go_wp2_with fail
 refine Ba.o.mono ?_
 rintro e w2 ⟨g,rfl,hown,hb2⟩
 have k0:=hb2.cell (p:=⟨w.heap.size+1+1,0,none⟩) (by simp)
 have k1:=hb2.cell (p:=⟨w.heap.size+1+1,1,none⟩) (by simp)
 have k2:=hb2.cell (p:=⟨w.heap.size+1+1,2,none⟩) (by simp)
 have q2:=hb2.frozen (p:=⟨w.heap.size+1+1,2,none⟩) (by simp)
 have r0:=hb2.cell (p:=⟨w.heap.size+1,0,none⟩) (by simp)
 have r1:=hb2.cell (p:=⟨w.heap.size+1,1,none⟩) (by simp)
 have r2:=hb2.cell (p:=⟨w.heap.size+1,2,none⟩) (by simp)
 have t0:=hb2.frozen (p:=⟨w.heap.size+1,0,none⟩) (by simp)
 have t1:=hb2.frozen (p:=⟨w.heap.size+1,1,none⟩) (by simp)
 have t2:=hb2.frozen (p:=⟨w.heap.size+1,2,none⟩) (by simp)
 have HO:=ZZ hown
 have HB2:=ZZ hb2
 clear hown hb2
 go_wp2_with fail
 refine bodyPost_ret (v:=outv d a (.slice (some ⟨g,0,none⟩) n n)) (by simp[results,Tryz.results92,go_sem,k0,k1,k2,q2,r0,r1,r2,t0,t1,t2]) rfl ⟨g,rfl,?_,?_⟩
 ·refine zu (base:=w.heap.size+1+1+1) ?_ (by omega)
  have:=HO.o
  simp at this
  repeat (refine z3x ?_ (by simp<;>omega) _)
  exact this
 ·repeat (refine Below.setCell ?_ (by simp<;>omega) _)
  exact HB1.o.trans (HB2.o.mono (by simp;omega))

theorem y2a (d a:Int) (oa:Zoa) (n cap:Nat) (ob:Zoa) (cap':Nat) (zs:Zin) (hn20:n≤1048576) (w:World) (hat:IntsAt w oa n cap zs) (hbt:IntsAt w ob n cap' zs) :
  Calls Tryz.prog 98 #[outv d a (.slice oa n cap),outv d a (.slice ob n cap')] w fun e w'=>e=.returned (.bool true)∧Bw w w':=by
 have hb0:=((Below.refl w.heap.size w).alloc zLe (.cells #[J Y d,J Y a,.slice oa n cap] 90)).alloc (by simp) (.cells #[J Y d,J Y a,.slice ob n cap'] 90)
 have HE:=ZZ (za8 oa n cap ob cap' zs hn20 _ (hat.below hb0) (hbt.below hb0))
 have HB0:=ZZ hb0
 clear hat hbt hb0
 go_enter Tryz.func98,Tryz.ntmps98
 go_wp2_with fail
 refine HE.o.mono ?_
 rintro e w1 ⟨rfl,hb1⟩
 go_wp2_with fail
 go_ret
 exact⟨rfl,HB0.o.trans (hb1.mono (by simp;omega))⟩

structure OutSh (w:World) (lo hi g:Nat) (os:List OutX) (k:Nat) (rs:List OutR):Prop where
 len:rs.length=os.length
 own:w.ownsRow lo 90 3 (.slice (some ⟨g,0,none⟩) os.length os.length) os.length (rs.flatMap y0b)
 top:g<hi
 each:∀ i x,i<k→os[i]? = some x→∃ q,rs[i]? = some ⟨x.d,x.a,some ⟨q,0,none⟩,x.ids.length,x.ids.length⟩∧q<hi∧w.ownsRow lo 3 1 (.slice (some ⟨q,0,none⟩) x.ids.length x.ids.length) x.ids.length (x.ids.map z03)

theorem OutSh.on {w w':World} {lo hi hi' g k:Nat} {os:List OutX} {rs:List OutR} (h:OutSh w lo hi g os k rs) (hb:Bw w w') (hh:hi≤hi'):OutSh w' lo hi' g os k rs :=
 ⟨h.len,own_below h.own hb,zLt h.top hh,fun i s hi hs=>by
  obtain⟨q,q1,q2,q3⟩:=h.each i s hi hs
  exact⟨q,q1,zLt q2 hh,own_below q3 hb⟩⟩

theorem y2v {w:World} {base:Nat} {e:TypeId} {g n cap:Nat} {ys:List OutR} (h:w.ownsRow base e 3 (.slice (some ⟨g,0,none⟩) n cap) n (ys.flatMap y0b)) (j:Nat) (hj:j<ys.length) (f:OutR) :
  (((w.setCell ⟨g,j * 3,none⟩ (J Y f.d)).setCell ⟨g,j * 3+1,none⟩ (J Y f.a)).setCell ⟨g,j * 3+2,none⟩ (.slice f.oa f.n f.cap)).ownsRow base e 3 (.slice (some ⟨g,0,none⟩) n cap) n ((ys.set j f).flatMap y0b) ∧
   w.grownBy (((w.setCell ⟨g,j * 3,none⟩ (J Y f.d)).setCell ⟨g,j * 3+1,none⟩ (J Y f.a)).setCell ⟨g,j * 3+2,none⟩ (.slice f.oa f.n f.cap)) (some g):=by
 have h2:=z4h (y0b f) w (j * 3) (ys.flatMap y0b) h
 rw[z5v y0a ys j f hj] at h2
 exact h2

theorem OutSh.outs {w:World} {lo hi g:Nat} {os:List OutX} {rs:List OutR} (h:OutSh w lo hi g os os.length rs) (hf:∀ x∈os,∀ z∈x.ids,(Lit.int .i64 z).wf=true):OutsAt w (some ⟨g,0,none⟩) os.length os.length os:=by
 obtain⟨oa,cap,he,hat⟩:=y0m y0a (by omega) h.own
 cases he
 refine⟨rfl,rs,hat,fun i r x hr hx=>?_⟩
 have hi:=(zGi.1 hx).1
 obtain⟨q,q1,q2,q3⟩:=h.each i x hi hx
 rw[hr] at q1
 cases q1
 obtain⟨oa',c',e,hia⟩:=z0d q3 (hf x (zMg hx))
 cases e
 exact⟨rfl,rfl,rfl,hia⟩

def y33 (w:World) (os:List OutX) (e:Ending) (w':World):Prop:=∃ g rs,e=.returned (.slice (some ⟨g,0,none⟩) os.length os.length)∧OutSh w' w.heap.size w'.heap.size g os os.length rs∧Bw w w'

theorem y2b (oa:Zoa) (n cap:Nat) (os:List OutX) (hn20:os.length≤1048576) (hs20:idW os≤1048576) (w:World) (hat:OutsAt w oa n cap os) :
  Calls Tryz.prog 43 #[.slice oa n cap] w (y33 w os):=by
 have hn:=hat.len
 subst hn
 obtain⟨i0,hi,hz0,hz1,hz2⟩:=info_parts y2z
 obtain⟨W0,hmk,hown0,hgr0⟩:=run_make_full (P:=Tryz.prog) w w.heap.size 43 90 i0 _ 3 Tryz.underlying43 hi hz0 hz1 .i64 .i64 os.length (by rw[hz2];omega) (by unfold maxLen;omega) zLe
 rw[y18 (k:=3) (cf:=y0b) ⟨0,0,none,0,0⟩ _ (by rfl) os.length y0a (by omega)] at hown0
 have hb0:Bw w W0:=zBr.grown hgr0 zLe (fun k hk=>by cases hk)
 have HB0:=ZZ hb0
 have HOWN:=ZZ hown0
 have HAT:=ZZ hat
 have Er:=ZZ hs20
 clear hown0 hgr0 hat hi hz0 hz1 hz2 hb0
 go_enter Tryz.func43,Tryz.ntmps43
 go_wp2_with fail
 go_loopw [4] (fun i wr=>∃ (j:Nat) (rs:List OutR),i=J Y (j:Int)∧j≤os.length∧OutSh wr w.heap.size wr.heap.size w.heap.size os j rs∧Bw w wr) (fun i _=>os.length - (intOf i).toNat)
 case atStart=>exact⟨0,_,rfl,Nat.zero_le _,⟨by simp,HOWN.o,(HOWN.o.lt _ rfl).2,fun i s hi=>by omega⟩,HB0.o⟩
 case round =>
  obtain⟨j,rs,rfl,hj,hsh,hbel⟩:=hrel
  by_cases hlt:j<os.length
  ·have j0:(j:Int)<(os.length:Int):=by omega
   obtain⟨s,xa,xc,b,q,hs,hidx,hb,k0,k1,k2,hits⟩:=(HAT.o.below hbel).get Tryz.underlying37 y2l j hlt
   have hsl:s.ids.length≤1048576:=zNt (y0r (zMg hs)) Er.o
   have HC:=ZZ (y2n s.d s.a xa s.ids.length xc s.ids hsl wr hits)
   unfold y2y at HC
   have hidx2:∀ wx,(Instr.indexAt 43 (.slice (some ⟨w.heap.size,0,none⟩) os.length os.length) (J Y (j:Int))).run Tryz.prog wx=.ok (.pointer (some ⟨w.heap.size,j * 3,none⟩)) wx:=fun wx=>by
    have:=run_indexAt_slice wx 43 90 3 Tryz.underlying43 y0p w.heap.size 0 os.length os.length j hlt
    rwa [Nat.zero_add] at this
   have Cu:=ZZ hsh
   have HS:=ZZ hs
   have hsz:=hbel.size
   clear hsh hs hits
   go_wp2_with (go_at_call 92;(with_reducible refine HC.o.mono ?_);rintro e' w2 ⟨g2,rfl,ho2,hb2⟩;have hsh2:=Cu.o.on hb2 zLe;have ho3:=hsh2.own;obtain⟨⟨y0,z0⟩,⟨y1,z1⟩,⟨y2,z2⟩⟩:=y17 ho3 j hlt;have f0:=ho3.frozenAt (j * 3);have f1:=ho3.frozenAt (j * 3+1);have f2:=ho3.frozenAt (j * 3+2);have Dw:=ZZ hsh2;have Ag:=ZZ ho2;have HB2:=ZZ hb2;clear hsh2 ho2 hb2 ho3)
   have hst:=y2v Dw.o.own j (by rw[Dw.o.len];exact hlt) ⟨s.d,s.a,some ⟨g2,0,none⟩,s.ids.length,s.ids.length⟩
   simp only at hst
   obtain⟨w3,hw3⟩:∃ w3,(((w2.setCell ⟨w.heap.size,j * 3,none⟩ (J Y s.d)).setCell ⟨w.heap.size,j * 3+1,none⟩ (J Y s.a)).setCell ⟨w.heap.size,j * 3+2,none⟩ (.slice (some ⟨g2,0,none⟩) s.ids.length s.ids.length))=w3:=⟨_,rfl⟩
   rw[hw3] at hst ⊢
   have hg2:=Ag.o.lt g2 rfl
   have hszz:=HB2.o.size
   have hs3:=hst.2.size
   have hb3:Bw w w3:=(hbel.trans (HB2.o.mono hsz)).grown hst.2 (zNt hsz hszz) (fun k hk=>by cases hk;exact Nat.le_refl _)
   have hsh3:OutSh w3 w.heap.size w3.heap.size w.heap.size os (j+1) (rs.set j ⟨s.d,s.a,some ⟨g2,0,none⟩,s.ids.length,s.ids.length⟩):=by
    refine⟨by rw[List.length_set];exact Dw.o.len,hst.1,?_,fun i t hi ht=>?_⟩
    ·have:=Dw.o.top
     omega
    ·by_cases e:i=j
     ·subst e
      rw[HS.o] at ht
      cases ht
      refine⟨g2,by rw[List.getElem?_set_self (by rw[Dw.o.len];exact hlt)],by omega,?_⟩
      exact (zu Ag.o hsz).kept hst.2 (.inr (fun e=>by have e1:g2=w.heap.size:=zSi e;have:=Cu.o.top;omega))
     ·obtain⟨q,q1,q2,q3⟩:=Dw.o.each i t (by omega) ht
      refine⟨q,by rw[List.getElem?_set_ne (Ne.symm e)];exact q1,by omega,q3.kept hst.2 (.inr (fun e=>z7k q3 Dw.o.own (by decide) _ e rfl))⟩
   clear hst hw3 z0 z1 z2 f0 f1 f2
   go_roundw
   case rel=>exact⟨j+1,_,by go_num,by omega,hsh3,hb3⟩
   case measure=>simp[intOf];omega
  ·have hjn:j=os.length:=by omega
   subst hjn
   have Cu:=ZZ hsh
   clear hsh
   go_wp2_with fail
   go_ret
   exact⟨w.heap.size,rs,rfl,Cu.o,hbel⟩

theorem y1q (oa:Zoa) (n cap:Nat) (os:List OutX) (ob:Zoa) (cap':Nat) (hn20:n≤1048576) (hs20:idW os≤1048576) (w:World) (hat:OutsAt w oa n cap os) (hbt:OutsAt w ob n cap' os) :
  Calls Tryz.prog 47 #[.slice oa n cap,.slice ob n cap'] w fun e w'=>e=.returned (.bool true)∧Bw w w':=by
 have HAT:=ZZ hat
 have AA:=ZZ hbt
 have Er:=ZZ hs20
 clear hat hbt hs20
 go_enter Tryz.func47,Tryz.ntmps47
 go_wp2_with fail
 go_loopw [5] (fun i wr=>∃ (j:Nat),i=J Y (j:Int)∧j≤n∧Bw w wr) (fun i _=>n - (intOf i).toNat)
 case atStart=>exact⟨0,rfl,Nat.zero_le _,zBr⟩
 case round =>
  obtain⟨j,rfl,hj,hbel⟩:=hrel
  have hsz:=hbel.size
  by_cases hlt:j<n
  ·have j0:(j:Int)<(n:Int):=by omega
   obtain⟨s,xa,xc,b,q,hs,hidx,hb,c0,c1,c2,hit⟩:=(HAT.o.below hbel).get Tryz.underlying43 y0p j hlt
   obtain⟨s',xa',xc',b',q',hs',hidx',hb',c0',c1',c2',hit'⟩:=(AA.o.below hbel).get Tryz.underlying43 y0p j hlt
   have hee:s=s':=by rw[hs] at hs';exact zSi hs'
   subst hee
   have hsl:s.ids.length≤1048576:=zNt (y0r (zMg hs)) Er.o
   have HC:=ZZ (fun (w2:World) (hb2:Bw wr w2)=>y2a s.d s.a xa s.ids.length xc xa' xc' s.ids hsl w2 (hit.below hb2) (hit'.below hb2))
   clear hs hs' hit hit'
   go_wp2_with fail
   refine zn (F:=Bw wr) (by kernel_rfl) (by kernel_rfl) zBr.drew ?_
   have hne:Nonempty (InW (Bw wr)):=⟨⟨_,zBr⟩⟩
   have m0:=ciW c0
   have m1:=ciW c1
   have m2:=ciW c2
   have n0:∀ m:InW (Bw wr),m.w.cell? ⟨b',q',none⟩=some (J Y s.d):=fun m=>(m.h.cell hb').trans c0'
   have n1:∀ m:InW (Bw wr),m.w.cell? ⟨b',q'+1,none⟩=some (J Y s.a):=fun m=>(m.h.cell hb').trans c1'
   have n2:∀ m:InW (Bw wr),m.w.cell? ⟨b',q'+2,none⟩=some (.slice xa' s.ids.length xc'):=fun m=>(m.h.cell hb').trans c2'
   repeat (go_big_quiet_step (first|(go_at_call 98;refine (HC.o _ (InW.h _)).mono ?_;rintro e' w2 ⟨rfl,hb2⟩;exact⟨rfl,iwW hb2,rfl⟩)))
   refine wpQuiet_nil ?_
   intro _ hw'
   obtain⟨nq,hw''⟩:=hw'
   subst hw''
   have hb3:=hbel.trans (nq.h.mono hsz)
   generalize nq.w=w2 at hb3 ⊢
   clear hne m0 m1 m2 n0 n1 n2 c0 c1 c2 c0' c1' c2'
   go_wp2_with fail
   go_roundw
   case rel=>exact⟨j+1,by go_num,by omega,hb3⟩
   case measure=>simp[intOf];omega
  ·have hjn:j=n:=by omega
   go_wp2_with fail
   go_ret
   exact⟨rfl,hbel⟩

end Go.Proofs.YtfeebdcmlnapiaaGreat
