/-
  Walks.
-/
import Derived.Test.YtfeebdcmlnapiaaGreatTText1
import Derived.Test.YtfeebdcmlnapiaaGreatTHok5
open Go.Value renaming int->J
open Go.IntKind renaming i64->Y
set_option maxRecDepth 100000
set_option maxHeartbeats 8000000
set_option linter.unusedVariables false
set_option linter.unusedSimpArgs false
namespace Go.Proofs.YtfeebdcmlnapiaaGreat
open Go.RowKit P1 P9 P11 P12 P18 K
theorem y48 {e:EvV} (h:P12.EvIn e):(evB e).length≤1000:=by
 have hv:∀ z:Int,(varZ z).length≤10:=y36
 have h1:=hv e.id
 have h2:=y4m h
 have h3:=y3b e.prev.length
 have h4:=y3q e.prev
 have h5:=hv e.depth
 have h6:=h.prevs
 unfold evB
 simp only[List.length_append]
 omega

theorem y5y {a b:Int} (h0:0≤a∧a≤1000000000) (h1:0≤b∧b≤1000000000):∀ y∈[a,b],(Lit.int .i64 y).wf=true∧[a,b].length≤4:=by
 intro y hy
 simp at hy
 refine⟨?_,by simp⟩
 rcases hy with rfl|rfl<;>exact z3o (by omega) (by omega)

open P5 P14 P15 P16 P17
def sesB (s:SesV):Zbs:=[s.term,s.kind].flatMap varZ++y3a (bl s.data)

def evtB (e:EvV):Zbs:=y3a (evB e)

def outB (o:OutX):Zbs:=[o.a].flatMap varZ

def y3n (ps:List SesV) (es:List EvV) (os:List OutX):Zbs:=((([(ps.length:Int)].flatMap varZ++ps.flatMap sesB)++[(es.length:Int)].flatMap varZ)++es.flatMap evtB)++os.flatMap outB

noncomputable def y3d (ps:List SesV) (es:List EvV) (ss:Zis) (gs:List Bool) (os:List OutX):Option (Zbs):=if y05 ps es ss gs os=true∧(y3n ps es os).length≤20000 then some (y3n ps es os) else none

theorem y4x {α:Type} {f:α→Zbs} {c:Nat}:∀ {l:List α},(∀ x∈l,(f x).length≤c)→(l.flatMap f).length≤l.length * c
 | [],_=>by simp
 | x::r,h=>by
  have h1:=h x List.mem_cons_self
  have h2:=y4x (l:=r) (fun y hy=>h y (List.mem_cons_of_mem _ hy))
  rw[List.flatMap_cons,List.length_append,List.length_cons,Nat.add_mul]
  omega

theorem y3r {α:Type} {f:α→Zbs} {c:Nat} {l:List α} (h:∀ x∈l,(f x).length≤c) (j:Nat):((l.take j).flatMap f).length≤l.length * c:=by
 have h1:=y4x (l:=l.take j) (fun x hx=>h x (List.mem_of_mem_take hx))
 have h2:(l.take j).length≤l.length:=by rw[List.length_take];omega
 exact zNt h1 (Nat.mul_le_mul_right _ h2)

theorem y3s {α:Type} {f:α→Zbs} {l:List α} {j:Nat} {x:α} (h:l[j]? = some x):(l.take (j+1)).flatMap f=(l.take j).flatMap f++f x:=by
 rw[List.take_add_one,h,List.flatMap_append]
 simp

theorem y56:∀ (r:List EvV) (d:List EvV) (s:List St) (g:List Bool) {x:List St × List Bool},rmGo d s g r=some x→∀ e∈r,evOk e=true
 | [],_,_,_,_,_,e,he=>by simp at he
 | y::r,d,s,g,x,h,e,he=>by
  unfold rmGo at h
  split at h
  ·rename_i hok
   rcases List.mem_cons.1 he with rfl|he
   ·exact (z4b hok).1
   ·exact y56 r _ _ _ h e he
  ·cases h

theorem y5g {es:List EvV} {ss:Zis} {gs:List Bool} (h:z0x es ss gs=true):es.length≤40∧∀ e∈es,evOk e=true:=by
 unfold z0x at h
 rw[Bool.and_eq_true,decide_eq_true_eq] at h
 refine⟨h.1,?_⟩
 have h2:=h.2
 cases hr:rmGo [] [] [] es with
 | none=>rw[hr] at h2;cases h2
 | some x=>exact y56 es [] [] [] hr

structure y4q (s:SesV):Prop where
 term:1≤s.term∧s.term≤1000000
 kind:0≤s.kind∧s.kind≤1000000
 data:s.data.size≤40

theorem y4y:∀ (ps:List SesV) (t:Int),0≤t→y07 t ps=true→∀ s∈ps,y4q s
 | [],_,_,_,s,hs=>by simp at hs
 | x::r,t,ht,h,s,hs=>by
  unfold y07 y02 at h
  simp only[Bool.and_eq_true,decide_eq_true_eq] at h
  obtain⟨⟨h1,h2,h3⟩,h4⟩:=h
  rcases List.mem_cons.1 hs with rfl|hs
  ·have h5:(0≤s.kind∧s.kind≤1000000)∧s.data.size≤40:=by
    unfold y08 at h3
    split at h3
    ·simp only[decide_eq_true_eq] at h3
     exact⟨⟨by omega,by omega⟩,by omega⟩
    ·simp only[Bool.and_eq_true,decide_eq_true_eq] at h3
     exact⟨⟨by omega,by omega⟩,by omega⟩
   exact⟨⟨by omega,h2⟩,h5.1,h5.2⟩
  ·exact y4y r x.term (by omega) h4 s hs

theorem y4z (own:Zin):∀ (os:List OutX) (k:Nat),y0e own k os=true→∀ o∈os,0≤o.a∧o.a≤(own.length:Int)
 | [],_,_,o,ho=>by simp at ho
 | x::r,k,h,o,ho=>by
  unfold y0e y0i at h
  simp only[Bool.and_eq_true,decide_eq_true_eq] at h
  rcases List.mem_cons.1 ho with rfl|ho
  ·exact h.1.2.2
  ·exact y4z own r (k+1) h.2 o ho

structure y60 (ps:List SesV) (es:List EvV) (ss:Zis) (gs:List Bool) (os:List OutX):Prop where
 pl:ps.length≤3
 p:∀ s∈ps,y4q s
 el:es.length≤40
 e:∀ e∈es,evOk e=true
 ol:os.length=2
 o:∀ o∈os,0≤o.a∧o.a≤40

theorem y50 {ps:List SesV} {es:List EvV} {ss:Zis} {gs:List Bool} {os:List OutX} (h:y05 ps es ss gs os=true):y60 ps es ss gs os:=by
 unfold y05 y06 y04 at h
 simp only[Bool.and_eq_true,decide_eq_true_eq] at h
 obtain⟨⟨h1,h2⟩,h3,h4,h5⟩:=h
 obtain⟨h6,h7⟩:=y5g h3
 refine⟨h1,y4y ps 0 (by omega) h2,h6,h7,h4,fun o ho=>?_⟩
 have h8:=y4z _ os 0 h5 o ho
 have h9:=y1k es gs
 omega

theorem y57 {s:SesV} (h:y4q s):(sesB s).length≤80:=by
 have h1:=y36 s.term
 have h2:=y36 s.kind
 have h3:=(y3g (bl s.data)).1
 have h4:(bl s.data).length=s.data.size:=by unfold bl;rw[Array.length_toList];rfl
 have h5:=h.data
 unfold sesB
 simp only[List.length_append,List.flatMap_cons,List.flatMap_nil,List.length_nil]
 omega

theorem y58 {e:EvV} (h:evOk e=true):(evtB e).length≤1020:=by
 have h1:=y48 (zhb h)
 have h2:=(y3g (evB e)).1
 unfold evtB
 omega

theorem y59 (o:OutX):(outB o).length≤10:=by
 have h1:=y36 o.a
 unfold outB
 simp
 exact h1

theorem y5e (s:ByteArray):(⟨(bl s).toArray⟩:ByteArray)=s:=by
 obtain⟨d⟩:=s
 unfold bl
 simp

theorem y4r (W0:World) (g:Nat) (l:Zbs) (id kd sn us mb dp:Int) (oa:Zoa) (n cl:Nat) (tx:Zbs) (ob:Zoa) (m cp:Nat) (zl zp:Zin) (he:evOk (⟨id,kd,sn,us,mb,zl,tx,zp,dp⟩:EvV)=true) (hx:tx.length≤1048576) (hl:l.length≤500000) (w:World) (hT:Tw W0.heap.size g l w) (hb:Below W0.heap.size W0 w) (hat:IntsAt W0 oa n cl zl) (hbt:IntsAt W0 ob m cp zp) :
  Calls Tryz.prog 102 #[.pointer (some ⟨g,0,none⟩),z3e id kd sn us mb dp (.slice oa n cl) (.slice ob m cp) tx] w fun e w'=>e=.returned (.tuple #[])∧Tw W0.heap.size g (l++y3a (evB (⟨id,kd,sn,us,mb,zl,tx,zp,dp⟩:EvV))) w'∧TwFr W0.heap.size g w w':=by
 have HET:=ZZ (fun w hat hbt=>y4c id kd sn us mb dp oa n cl tx ob m cp zl zp hx w hat hbt)
 rw[y4a he] at HET
 have hln:=y48 (zhb he)
 have HF0:=ZZ (TwFr.low (g:=g) hT.bsz ((Below.refl w.heap.size w).alloc zLe (.cells #[J Y id,J Y kd,J Y sn,J Y us,J Y mb,.slice oa n cl,.string ⟨tx.toArray⟩,.slice ob m cp,J Y dp] 62)))
 have HT0:=ZZ (hT.alloc (.cells #[J Y id,J Y kd,J Y sn,J Y us,J Y mb,.slice oa n cl,.string ⟨tx.toArray⟩,.slice ob m cp,J Y dp] 62))
 have HB0:=ZZ (hb.alloc hb.size (.cells #[J Y id,J Y kd,J Y sn,J Y us,J Y mb,.slice oa n cl,.string ⟨tx.toArray⟩,.slice ob m cp,J Y dp] 62))
 have HAT:=ZZ hat
 have AA:=ZZ hbt
 clear hat hbt hT hb he hx
 generalize evB (⟨id,kd,sn,us,mb,zl,tx,zp,dp⟩:EvV)=k at HET hln ⊢
 go_enter Tryz.func102,Tryz.ntmps102
 go_wp2_with fail
 generalize w.alloc (.cells #[J Y id,J Y kd,J Y sn,J Y us,J Y mb,.slice oa n cl,.string ⟨tx.toArray⟩,.slice ob m cp,J Y dp] 62)=x0 at HT0 HB0 HF0 ⊢
 refine (HET.o _ (HAT.o.below HB0.o) (AA.o.below HB0.o)).mono ?_
 rintro e x1 ⟨rfl,hb1⟩
 have HT1:=ZZ (HT0.o.on hb1)
 have Aa:=ZZ (HF0.o.trans (TwFr.low HT0.o.bsz hb1))
 clear hb1 HT0 HB0 HF0
 go_wp2_with fail
 refine (y4f W0.heap.size g l k (by omega) (by omega) _ HT1.o).mono ?_
 rintro e x2 ⟨rfl,hT2,hF2⟩
 have Aj:=ZZ (Aa.o.trans hF2)
 go_wp2_with fail
 refine bodyPost_end (results_none rfl _ _ _) rfl ?_
 exact⟨rfl,hT2,Aj.o⟩

theorem y5k (W0:World) (g:Nat) (pa:Zoa) (pn pc:Nat) (oa:Zoa) (n cap:Nat) (so:Zoa) (sn sc:Nat) (go:Zoa) (gn gc:Nat) (qa:Zoa) (qn qc:Nat) (ps:List SesV) (es:List EvV) (ss:Zis) (gs:List Bool) (os:List OutX) (hok:y05 ps es ss gs os=true) (hA:HallAt W0 pa pn pc oa n cap so sn sc go gn gc qa qn qc ps es ss gs os) (w:World) (hT:Tw W0.heap.size g [] w) (hb:Below W0.heap.size W0 w) :
  Calls Tryz.prog 51 #[.pointer (some ⟨g,0,none⟩),y0g pa pn pc oa n cap so sn sc go gn gc qa qn qc] w fun e w'=>e=.returned (.tuple #[])∧Tw W0.heap.size g (y3n ps es os) w'∧Below W0.heap.size W0 w':=by
 have Jw:=ZZ (y50 hok)
 have hpl:=hA.p.len
 have hel:=hA.e.len
 have hol:=hA.o.len
 have hp3:=Jw.o.pl
 have he40:=Jw.o.el
 have ho2:=Jw.o.ol
 rw[hpl] at hp3
 rw[hel] at he40
 rw[hol] at ho2
 have LK:=ZZ hpl
 have CS:=ZZ hel
 have HOL:=ZZ hol
 have Ew:=ZZ hA
 have HZ1:=ZZ (show ∀ z∈[(pn:Int)],0≤z∧z≤1000000000 by intro z hz;simp at hz;subst hz;omega)
 have HZ2:=ZZ (show ∀ z∈[(n:Int)],0≤z∧z≤1000000000 by intro z hz;simp at hz;subst hz;omega)
 have HWF1:=ZZ (y3i (z:=(pn:Int)) (by omega) (by omega))
 have HWF2:=ZZ (y3i (z:=(n:Int)) (by omega) (by omega))
 have HM1:=ZZ (show ∀ j,([(pn:Int)].flatMap varZ++(ps.take j).flatMap sesB).length≤1000 from fun j=>by have h1:=y36 (pn:Int);have h2:=y3r (f:=sesB) (c:=80) (l:=ps) (fun s hs=>y57 (Jw.o.p s hs)) j;rw[LK.o] at h2;simp only[List.length_append,List.flatMap_cons,List.flatMap_nil,List.append_nil];omega)
 have HM3:=ZZ (show ∀ (M:Zbs) j,M.length≤2000→(M++(es.take j).flatMap evtB).length≤100000 from fun M j hM=>by have h2:=y3r (f:=evtB) (c:=1020) (l:=es) (fun e he=>y58 (Jw.o.e e he)) j;rw[CS.o] at h2;rw[List.length_append];omega)
 have HM5:=ZZ (show ∀ (M:Zbs) j,M.length≤100000→(M++(os.take j).flatMap outB).length≤200000 from fun M j hM=>by have h2:=y3r (f:=outB) (c:=10) (l:=os) (fun o _=>y59 o) j;rw[HOL.o] at h2;rw[List.length_append];omega)
 have HPI:=ZZ (show ∀ s∈ps,y4q s from Jw.o.p)
 have HEI:=ZZ (show ∀ e∈es,evOk e=true from Jw.o.e)
 have HOI:=ZZ (show ∀ o∈os,0≤o.a∧o.a≤40 from Jw.o.o)
 have Ah:=ZZ (show y3n ps es os=((([(pn:Int)].flatMap varZ++ps.flatMap sesB)++[(n:Int)].flatMap varZ)++es.flatMap evtB)++os.flatMap outB by unfold y3n;rw[LK.o,CS.o])
 have hbh:w.heap.size≠g:=by have:=hT.glt;omega
 have HX0:=ZZ (XS.new w #[.slice pa pn pc,.slice oa n cap,.slice so sn sc,.slice go gn gc,.slice qa qn qc] 45)
 have HT0:=ZZ (hT.alloc (.cells #[.slice pa pn pc,.slice oa n cap,.slice so sn sc,.slice go gn gc,.slice qa qn qc] 45))
 have HB0:=ZZ (hb.alloc hb.size (.cells #[.slice pa pn pc,.slice oa n cap,.slice so sn sc,.slice go gn gc,.slice qa qn qc] 45))
 have hq2:qn≤2:=by omega
 clear hT hb hA hok hpl hel hol Jw ho2
 obtain⟨L,hL⟩:∃ L,y3n ps es os=L:=⟨_,rfl⟩
 rw[hL]
 rw[hL] at Ah
 clear hL
 go_enter Tryz.func51,Tryz.ntmps51
 go_wp2_with fail
 generalize w.alloc (.cells #[.slice pa pn pc,.slice oa n cap,.slice so sn sc,.slice go gn gc,.slice qa qn qc] 45)=x0 at HX0 HT0 HB0 ⊢
 generalize w.heap.size=bh at HX0 hbh ⊢
 have Bq:=ZZ hbh
 have HNH:=ZZ hbh
 clear hbh
 refine wp_region_held_drew (S:=XS bh #[.slice pa pn pc,.slice oa n cap,.slice so sn sc,.slice go gn gc,.slice qa qn qc] 45) (by kernel_rfl) HX0.o.drew (fun hHeld=>?_)
 refine tkW 0 rfl (v:=?_) (Or.inl ⟨by rfl,?_⟩) ?_;rotate_left
 ·(intro wz hSw;have z0:=XS.cell hSw 0 rfl;clear hSw;go_simp;first|done|with_reducible rfl)
 refine tkW 1 rfl (v:=?_) (Or.inl ⟨by rfl,?_⟩) ?_;rotate_left
 ·(intro wz hSw;have z0:=XS.cell hSw 0 rfl;clear hSw;go_simp;first|done|with_reducible rfl)
 refine tkW 2 rfl (v:=?_) (Or.inl ⟨by rfl,?_⟩) ?_;rotate_left
 ·(intro wz hSw;have z0:=XS.cell hSw 0 rfl;clear hSw;go_simp;first|done|with_reducible rfl)
 refine tkW 3 rfl (v:=?_) (Or.inl ⟨by rfl,?_⟩) ?_;rotate_left
 ·(intro wz hSw;have z0:=XS.cell hSw 0 rfl;clear hSw;go_simp;first|done|with_reducible rfl)
 refine tkW 4 rfl (v:=?_) (Or.inl ⟨by rfl,?_⟩) ?_;rotate_left
 ·(intro wz hSw;have z0:=XS.cell hSw 0 rfl;clear hSw;go_simp;first|done|with_reducible rfl)
 refine tkW 5 rfl (v:=?_) (Or.inl ⟨by rfl,?_⟩) ?_;rotate_left
 ·(intro wz hSw;have z0:=XS.cell hSw 0 rfl;clear hSw;go_simp;first|done|with_reducible rfl)
 refine wpAnyH_ready (rs:=[6]) (by kernel_rfl) (by simp) ?_
 refine AllReadyH.cons rfl (fun K hK=>?_) AllReadyH.nil
 rw[if_pos (by rfl)]
 go_simp
 refine hK.out _ _ ?_ (fun hHeld=>?_)
 ·first|exact XS.alloc hHeld _|exact (XS.alloc HX0.o _).drew
 clear hK K
 refine wpAnyH_ready (rs:=[7]) (by kernel_rfl) (by simp) ?_
 refine AllReadyH.cons rfl (fun K hK=>?_) AllReadyH.nil
 rw[if_pos (by rfl)]
 go_simp
 go_at_call 100
 refine (y3p W0.heap.size g [] (some ⟨x0.heap.size,0,none⟩) 1 1 [(pn:Int)] (by omega) HZ1.o (by simp) _ (by first|exact (HT0.o.alloc _).drew|exact HT0.o.drew.alloc _|exact HT0.o.drew) (by first|exact y3c (zs:=[(pn:Int)]) (G:=x0.heap.size) (by first|rfl|simp) rfl HWF1.o|exact y3l (zs:=[(pn:Int)]) (G:=x0.heap.size) (by first|rfl|simp) rfl HWF1.o)).mono ?_
 rintro r x1 ⟨rfl,hT,hF⟩
 have hF2:TwFr W0.heap.size g x0 x1:=(TwFr.low HT0.o.bsz (by first|exact (zBa).drew|exact zBr.drew.alloc (by simp) _|exact zBr.drew)).trans hF
 try go_simp
 refine hK.out _ _ ?_ (fun hHeld=>?_)
 ·exact XS.tw HX0.o hF2 Bq.o (by decide)
 clear hK K
 try simp only[Act.put,List.getElem_toArray,List.getElem_cons_zero,List.getElem_cons_succ,List.setIfInBounds_toArray,List.set_cons_zero,List.set_cons_succ]
 refine wpAnyH_done (by kernel_rfl) ?_ _
 have HT1:=ZZ hT
 have HB1:=ZZ (HB0.o.trans hF2.bel)
 have HX1:=ZZ hHeld
 have Aa:=ZZ hF2
 clear hT hF hF2 hHeld HT0 HB0 HX0
 rw[List.nil_append] at HT1
 clear Aa
 have h0:=HX1.o.cell 0 rfl
 go_wp2_with fail
 clear h0 HZ1 HWF1
 go_loopw [21] (fun x wr=>∃ (j:Nat),x=J Y (j:Int)∧j≤pn∧Tw W0.heap.size g ([(pn:Int)].flatMap varZ++(ps.take j).flatMap sesB) wr∧XS bh #[.slice pa pn pc,.slice oa n cap,.slice so sn sc,.slice go gn gc,.slice qa qn qc] 45 wr∧Below W0.heap.size W0 wr) (fun x _=>pn - (intOf x).toNat)
 case atStart=>exact⟨0,rfl,Nat.zero_le _,by simpa using HT1.o,HX1.o,HB1.o⟩
 case round =>
  obtain⟨j,rfl,hj,hT,hX,hB⟩:=hrel
  have HT:=ZZ hT
  have HX:=ZZ hX
  have HB:=ZZ hB
  clear hT hX hB HT1 HX1 HB1
  have hml:=HM1.o j
  by_cases hlt:j<pn
  ·have j0:(j:Int)<(pn:Int):=by omega
   obtain⟨f,bf,qf,hf,hidx,hbf,c0,c1,c2⟩:=(Ew.o.below HB.o).p.getS3 Tryz.underlying42 y0j j hlt
   have Ce:=ZZ (show [(pn:Int)].flatMap varZ++(ps.take (j+1)).flatMap sesB=([(pn:Int)].flatMap varZ++(ps.take j).flatMap sesB)++sesB f by rw[y3s hf,List.append_assoc])
   have hin:=HPI.o f (zMg hf)
   have d1:=hin.term
   have d2:=hin.kind
   have d3:=hin.data
   have HZ3:=ZZ (show ∀ z∈[f.term,f.kind],0≤z∧z≤1000000000 by intro z hz;simp at hz;rcases hz with rfl|rfl<;>omega)
   have HWF3:=ZZ (y5y (a:=f.term) (b:=f.kind) (by omega) (by omega))
   have hv1:=y36 f.term
   have hv2:=y36 f.kind
   have hdl:(bl f.data).length≤40:=by unfold bl;rw[Array.length_toList];exact d3
   rw[← y5e f.data] at c2
   have HSB:=ZZ (show sesB f=[f.term,f.kind].flatMap varZ++y3a (bl f.data) from rfl)
   rw[HSB.o] at Ce
   clear hf HSB hin
   generalize [(pn:Int)].flatMap varZ++(ps.take j).flatMap sesB=M at HT Ce hml
   generalize bl f.data=dt at c2 Ce hdl
   have hl2:(M++[f.term,f.kind].flatMap varZ).length≤2000:=by simp;omega
   generalize f.term=ft at *
   generalize f.kind=fk at *
   have Ak:=ZZ (XS.new wr #[J Y ft,J Y fk,.string ⟨dt.toArray⟩] 86)
   have HV0:=ZZ (HT.o.alloc (.cells #[J Y ft,J Y fk,.string ⟨dt.toArray⟩] 86))
   have HW0:=ZZ (HB.o.alloc HB.o.size (.cells #[J Y ft,J Y fk,.string ⟨dt.toArray⟩] 86))
   have HH0:=ZZ (HX.o.alloc (.cells #[J Y ft,J Y fk,.string ⟨dt.toArray⟩] 86))
   have hne:wr.heap.size≠g:=by have:=HT.o.glt;omega
   go_upto_region 5 with fail
   generalize wr.alloc (.cells #[J Y ft,J Y fk,.string ⟨dt.toArray⟩] 86)=x0 at Ak HV0 HW0 HH0 ⊢
   generalize wr.heap.size=be at Ak hne ⊢
   clear HT HX HB c0 c1 c2 hidx Bq
   have Bq:=ZZ hne
   have HT0:=HV0
   have HX0:=Ak
   have HB0:=HW0
   clear HV0 Ak HW0
   refine wp_region_held_drew (S:=XS be #[J Y ft,J Y fk,.string ⟨dt.toArray⟩] 86) (by kernel_rfl) HX0.o.drew (fun hHeld=>?_)
   refine tkW 0 rfl (v:=?_) (Or.inl ⟨by rfl,?_⟩) ?_;rotate_left
   ·(intro wz hSw;have z0:=XS.cell hSw 0 rfl;have z1:=XS.cell hSw 1 rfl;clear hSw;go_simp;first|done|with_reducible rfl)
   refine tkW 1 rfl (v:=?_) (Or.inl ⟨by rfl,?_⟩) ?_;rotate_left
   ·(intro wz hSw;have z0:=XS.cell hSw 0 rfl;have z1:=XS.cell hSw 1 rfl;clear hSw;go_simp;first|done|with_reducible rfl)
   refine tkW 2 rfl (v:=?_) (Or.inl ⟨by rfl,?_⟩) ?_;rotate_left
   ·(intro wz hSw;have z0:=XS.cell hSw 0 rfl;have z1:=XS.cell hSw 1 rfl;clear hSw;go_simp;first|done|with_reducible rfl)
   refine tkW 3 rfl (v:=?_) (Or.inl ⟨by rfl,?_⟩) ?_;rotate_left
   ·(intro wz hSw;have z0:=XS.cell hSw 0 rfl;have z1:=XS.cell hSw 1 rfl;clear hSw;go_simp;first|done|with_reducible rfl)
   refine tkW 4 rfl (v:=?_) (Or.inl ⟨by rfl,?_⟩) ?_;rotate_left
   ·(intro wz hSw;have z0:=XS.cell hSw 0 rfl;have z1:=XS.cell hSw 1 rfl;clear hSw;go_simp;first|done|with_reducible rfl)
   refine tkW 5 rfl (v:=?_) (Or.inl ⟨by rfl,?_⟩) ?_;rotate_left
   ·(intro wz hSw;have z0:=XS.cell hSw 0 rfl;have z1:=XS.cell hSw 1 rfl;clear hSw;go_simp;first|done|with_reducible rfl)
   refine tkW 6 rfl (v:=?_) (Or.inl ⟨by rfl,?_⟩) ?_;rotate_left
   ·(intro wz hSw;have z0:=XS.cell hSw 0 rfl;have z1:=XS.cell hSw 1 rfl;clear hSw;go_simp;first|done|with_reducible rfl)
   refine wpAnyH_ready (rs:=[7]) (by kernel_rfl) (by simp) ?_
   refine AllReadyH.cons rfl (fun K hK=>?_) AllReadyH.nil
   rw[if_pos (by rfl)]
   go_simp
   refine hK.out _ _ ?_ (fun hHeld=>?_)
   ·first|exact XS.alloc hHeld _|exact (XS.alloc HX0.o _).drew
   clear hK K
   refine wpAnyH_ready (rs:=[8]) (by kernel_rfl) (by simp) ?_
   refine AllReadyH.cons rfl (fun K hK=>?_) AllReadyH.nil
   rw[if_pos (by rfl)]
   go_simp
   go_at_call 100
   refine (y3p W0.heap.size g M (some ⟨x0.heap.size,0,none⟩) 2 2 [ft,fk] (by omega) HZ3.o (by omega) _ (by first|exact (HT0.o.alloc _).drew|exact HT0.o.drew.alloc _|exact HT0.o.drew) (by first|exact y3c (zs:=[ft,fk]) (G:=x0.heap.size) (by first|rfl|simp) rfl HWF3.o|exact y3l (zs:=[ft,fk]) (G:=x0.heap.size) (by first|rfl|simp) rfl HWF3.o)).mono ?_
   rintro r x1 ⟨rfl,hT,hF⟩
   have hF2:TwFr W0.heap.size g x0 x1:=(TwFr.low HT0.o.bsz (by first|exact (zBa).drew|exact zBr.drew.alloc (by simp) _|exact zBr.drew)).trans hF
   try go_simp
   refine hK.out _ _ ?_ (fun hHeld=>?_)
   ·exact XS.tw HX0.o hF2 Bq.o (by decide)
   clear hK K
   try simp only[Act.put,List.getElem_toArray,List.getElem_cons_zero,List.getElem_cons_succ,List.setIfInBounds_toArray,List.set_cons_zero,List.set_cons_succ]
   refine wpAnyH_done (by kernel_rfl) ?_ _
   have HT1:=ZZ hT
   have HB1:=ZZ (HB0.o.trans hF2.bel)
   have HX1:=ZZ hHeld
   have Aa:=ZZ hF2
   clear hT hF hF2 hHeld HT0 HB0 HX0
   go_wp2_with fail
   generalize hM2:M++[ft,fk].flatMap varZ=M2 at HT1 Ce hl2
   refine wp_region_held_drew (S:=XS be #[J Y ft,J Y fk,.string ⟨dt.toArray⟩] 86) (by kernel_rfl) HX1.o.drew (fun hHeld=>?_)
   refine tkW 0 rfl (v:=?_) (Or.inl ⟨by rfl,?_⟩) ?_;rotate_left
   ·(intro wz hSw;have z2:=XS.cell hSw 2 rfl;clear hSw;go_simp;first|done|with_reducible rfl)
   refine tkW 1 rfl (v:=?_) (Or.inl ⟨by rfl,?_⟩) ?_;rotate_left
   ·(intro wz hSw;have z2:=XS.cell hSw 2 rfl;clear hSw;go_simp;first|done|with_reducible rfl)
   refine tkW 2 rfl (v:=?_) (Or.inl ⟨by rfl,?_⟩) ?_;rotate_left
   ·(intro wz hSw;have z2:=XS.cell hSw 2 rfl;clear hSw;go_simp;first|done|with_reducible rfl)
   refine tkW 3 rfl (v:=?_) (Or.inl ⟨by rfl,?_⟩) ?_;rotate_left
   ·(intro wz hSw;have z2:=XS.cell hSw 2 rfl;clear hSw;go_simp;first|done|with_reducible rfl)
   refine tkW 4 rfl (v:=?_) (Or.inl ⟨by rfl,?_⟩) ?_;rotate_left
   ·(intro wz hSw;have z2:=XS.cell hSw 2 rfl;clear hSw;go_simp;first|done|with_reducible rfl)
   refine wpAnyH_ready (rs:=[5]) (by kernel_rfl) (by simp) ?_
   refine AllReadyH.cons rfl (fun K hK=>?_) AllReadyH.nil
   rw[if_pos (by rfl)]
   go_simp
   go_at_call 101
   refine (y4f W0.heap.size g M2 dt (by omega) (by omega) _ (by first|exact (HT1.o.alloc _).drew|exact HT1.o.drew.alloc _|exact HT1.o.drew)).mono ?_
   rintro r x2 ⟨rfl,hT,hF⟩
   have hF2:TwFr W0.heap.size g x1 x2:=(TwFr.low HT1.o.bsz (by first|exact (zBa).drew|exact zBr.drew.alloc (by simp) _|exact zBr.drew)).trans hF
   try go_simp
   refine hK.out _ _ ?_ (fun hHeld=>?_)
   ·exact XS.tw HX1.o hF2 Bq.o (by decide)
   clear hK K
   try simp only[Act.put,List.getElem_toArray,List.getElem_cons_zero,List.getElem_cons_succ,List.setIfInBounds_toArray,List.set_cons_zero,List.set_cons_succ]
   refine wpAnyH_done (by kernel_rfl) ?_ _
   have HT2:=ZZ hT
   have HB2:=ZZ (HB1.o.trans hF2.bel)
   have HX2:=ZZ hHeld
   have Aj:=ZZ hF2
   clear hT hF hF2 hHeld HT1 HB1 HX1
   have L8:=ZZ ((HH0.o.tw Aa.o HNH.o (by decide)).tw Aj.o HNH.o (by decide))
   go_wp2_with fail
   go_roundw
   case rel=>exact⟨j+1,by go_num,by omega,by rw[Ce.o,← List.append_assoc,hM2];exact HT2.o,L8.o,HB2.o⟩
   case measure=>simp[intOf];omega
  ·have j0:¬ ((j:Int)<(pn:Int)):=by omega
   have htk:ps.take j=ps:=zTl (by rw[LK.o];omega)
   rw[htk] at HT hml
   generalize [(pn:Int)].flatMap varZ++ps.flatMap sesB=M at HT hml Ah
   have hvn:=y36 (n:Int)
   have hl2:(M++[(n:Int)].flatMap varZ).length≤2000:=by simp;omega
   go_wp2_with fail
   have HT0:=HT
   have HX0:=HX
   have HB0:=HB
   clear HT HX HB
   rename World=>x0
   refine wp_region_held_drew (S:=XS bh #[.slice pa pn pc,.slice oa n cap,.slice so sn sc,.slice go gn gc,.slice qa qn qc] 45) (by kernel_rfl) HX0.o.drew (fun hHeld=>?_)
   refine tkW 0 rfl (v:=?_) (Or.inl ⟨by rfl,?_⟩) ?_;rotate_left
   ·(intro wz hSw;have z1:=XS.cell hSw 1 rfl;clear hSw;go_simp;first|done|with_reducible rfl)
   refine tkW 1 rfl (v:=?_) (Or.inl ⟨by rfl,?_⟩) ?_;rotate_left
   ·(intro wz hSw;have z1:=XS.cell hSw 1 rfl;clear hSw;go_simp;first|done|with_reducible rfl)
   refine tkW 2 rfl (v:=?_) (Or.inl ⟨by rfl,?_⟩) ?_;rotate_left
   ·(intro wz hSw;have z1:=XS.cell hSw 1 rfl;clear hSw;go_simp;first|done|with_reducible rfl)
   refine tkW 3 rfl (v:=?_) (Or.inl ⟨by rfl,?_⟩) ?_;rotate_left
   ·(intro wz hSw;have z1:=XS.cell hSw 1 rfl;clear hSw;go_simp;first|done|with_reducible rfl)
   refine tkW 4 rfl (v:=?_) (Or.inl ⟨by rfl,?_⟩) ?_;rotate_left
   ·(intro wz hSw;have z1:=XS.cell hSw 1 rfl;clear hSw;go_simp;first|done|with_reducible rfl)
   refine tkW 5 rfl (v:=?_) (Or.inl ⟨by rfl,?_⟩) ?_;rotate_left
   ·(intro wz hSw;have z1:=XS.cell hSw 1 rfl;clear hSw;go_simp;first|done|with_reducible rfl)
   refine tkW 6 rfl (v:=?_) (Or.inl ⟨by rfl,?_⟩) ?_;rotate_left
   ·(intro wz hSw;have z1:=XS.cell hSw 1 rfl;clear hSw;go_simp;first|done|with_reducible rfl)
   refine wpAnyH_ready (rs:=[7]) (by kernel_rfl) (by simp) ?_
   refine AllReadyH.cons rfl (fun K hK=>?_) AllReadyH.nil
   rw[if_pos (by rfl)]
   go_simp
   refine hK.out _ _ ?_ (fun hHeld=>?_)
   ·first|exact XS.alloc hHeld _|exact (XS.alloc HX0.o _).drew
   clear hK K
   refine wpAnyH_ready (rs:=[8]) (by kernel_rfl) (by simp) ?_
   refine AllReadyH.cons rfl (fun K hK=>?_) AllReadyH.nil
   rw[if_pos (by rfl)]
   go_simp
   go_at_call 100
   refine (y3p W0.heap.size g M (some ⟨x0.heap.size,0,none⟩) 1 1 [(n:Int)] (by omega) HZ2.o (by omega) _ (by first|exact (HT0.o.alloc _).drew|exact HT0.o.drew.alloc _|exact HT0.o.drew) (by first|exact y3c (zs:=[(n:Int)]) (G:=x0.heap.size) (by first|rfl|simp) rfl HWF2.o|exact y3l (zs:=[(n:Int)]) (G:=x0.heap.size) (by first|rfl|simp) rfl HWF2.o)).mono ?_
   rintro r x1 ⟨rfl,hT,hF⟩
   have hF2:TwFr W0.heap.size g x0 x1:=(TwFr.low HT0.o.bsz (by first|exact (zBa).drew|exact zBr.drew.alloc (by simp) _|exact zBr.drew)).trans hF
   try go_simp
   refine hK.out _ _ ?_ (fun hHeld=>?_)
   ·exact XS.tw HX0.o hF2 Bq.o (by decide)
   clear hK K
   try simp only[Act.put,List.getElem_toArray,List.getElem_cons_zero,List.getElem_cons_succ,List.setIfInBounds_toArray,List.set_cons_zero,List.set_cons_succ]
   refine wpAnyH_done (by kernel_rfl) ?_ _
   have HT1:=ZZ hT
   have HB1:=ZZ (HB0.o.trans hF2.bel)
   have HX1:=ZZ hHeld
   have Aa:=ZZ hF2
   clear hT hF hF2 hHeld HT0 HB0 HX0
   generalize M++[(n:Int)].flatMap varZ=M2 at HT1 hl2 Ah
   have h1:=HX1.o.cell 1 rfl
   go_wp2_with fail
   clear h1 Aa
   go_loopw [54] (fun x wr=>∃ (j:Nat),x=J Y (j:Int)∧j≤n∧Tw W0.heap.size g (M2++(es.take j).flatMap evtB) wr∧XS bh #[.slice pa pn pc,.slice oa n cap,.slice so sn sc,.slice go gn gc,.slice qa qn qc] 45 wr∧Below W0.heap.size W0 wr) (fun x _=>n - (intOf x).toNat)
   case atStart=>exact⟨0,rfl,Nat.zero_le _,by simpa using HT1.o,HX1.o,HB1.o⟩
   case round =>
    obtain⟨j,rfl,hj,hT,hX,hB⟩:=hrel
    have HT:=ZZ hT
    have HX:=ZZ hX
    have HB:=ZZ hB
    clear hT hX hB HT1 HX1 HB1
    have hml:=HM3.o M2 j hl2
    by_cases hlt:j<n
    ·have j0:(j:Int)<(n:Int):=by omega
     obtain⟨x,bx,qx,xa,xc,ya,yc,hx,hidx,hev0⟩:=Ew.o.e.get Tryz.underlying29 z2t j hlt
     have hev:=hev0.below HB.o
     obtain⟨c0,c1,c2,c3,c4,c5,c6,c7,c8⟩:=hev.cs
     have Ce:=ZZ (show M2++(es.take (j+1)).flatMap evtB=(M2++(es.take j).flatMap evtB)++evtB x by rw[y3s hx,List.append_assoc])
     have hok:=HEI.o x (zMg hx)
     have htx:=(zhb hok).text
     obtain⟨Wa,hWa⟩:∃ Wa,wr.alloc (.cells (zk x.id x.kind x.sender x.user x.member x.depth (.slice xa x.levels.length xc) (.slice ya x.prev.length yc) x.text) 62)=Wa:=⟨_,rfl⟩
     have hba:Below wr.heap.size wr Wa:=by rw[← hWa];exact zBa
     have hEa:EB Wa wr.heap.size x.id x.kind x.sender x.user x.member x.depth (.slice xa x.levels.length xc) (.slice ya x.prev.length yc) x.text:=by rw[← hWa];exact EB.new _ _ _ _ _ _ _ _ _ _
     have DC:=ZZ hWa
     have Ev:=ZZ (HT.o.on hba)
     have HXA:=ZZ (HX.o.on hba)
     have Bh:=ZZ (zTr HB.o hba)
     obtain⟨a0,a1,a2,a3,a4,a5,a6,a7,a8⟩:=hEa.ev
     have Gb:=ZZ (y4r W0 g (M2++(es.take j).flatMap evtB) x.id x.kind x.sender x.user x.member x.depth xa x.levels.length xc x.text ya x.prev.length yc x.levels x.prev hok (by omega) (by omega) Wa Ev.o Bh.o hev0.lev hev0.prv)
     clear hx hev hev0 hba hEa hWa hok htx HT HX HB
     go_upto_region 12 with fail
     rw[DC.o]
     clear DC c0 c1 c2 c3 c4 c5 c6 c7 c8 hidx
     go_wp2_with (go_at_call 102;refine Gb.o.mono ?_;rintro r w2 ⟨rfl,hT2,hF2⟩)
     have HT2:=ZZ hT2
     have HX2:=ZZ (HXA.o.tw hF2 HNH.o (by decide))
     have HB2:=ZZ (Bh.o.trans hF2.bel)
     clear hT2 hF2 Ev HXA Bh Gb
     go_roundw
     case rel=>exact⟨j+1,by go_num,by omega,by rw[Ce.o];exact HT2.o,HX2.o,HB2.o⟩
     case measure=>simp[intOf];omega
    ·have j0:¬ ((j:Int)<(n:Int)):=by omega
     have htk:es.take j=es:=zTl (by rw[CS.o];omega)
     rw[htk] at HT hml
     generalize M2++es.flatMap evtB=M3 at HT hml Ah
     have h2:=HX.o.cell 4 rfl
     go_wp2_with fail
     clear h2
     go_loopw [65] (fun x wr=>∃ (j:Nat),x=J Y (j:Int)∧j≤qn∧Tw W0.heap.size g (M3++(os.take j).flatMap outB) wr∧XS bh #[.slice pa pn pc,.slice oa n cap,.slice so sn sc,.slice go gn gc,.slice qa qn qc] 45 wr∧Below W0.heap.size W0 wr) (fun x _=>qn - (intOf x).toNat)
     case atStart=>exact⟨0,rfl,Nat.zero_le _,by simpa using HT.o,HX.o,HB.o⟩
     case round =>
      obtain⟨j,rfl,hj,hT,hX,hB⟩:=hrel
      clear HT HX HB
      have HT:=ZZ hT
      have HX:=ZZ hX
      have HB:=ZZ hB
      clear hT hX hB
      have hml5:=HM5.o M3 j hml
      by_cases hlt:j<qn
      ·have j0:(j:Int)<(qn:Int):=by omega
       obtain⟨x,xa,xc,bx,qx,hx,hidx,hbx,c0,c1,c2,hit⟩:=(Ew.o.below HB.o).o.get Tryz.underlying43 y0p j hlt
       have Ce:=ZZ (show M3++(os.take (j+1)).flatMap outB=(M3++(os.take j).flatMap outB)++[x.a].flatMap varZ by rw[y3s hx,List.append_assoc];rfl)
       have hin:=HOI.o x (zMg hx)
       have HZ3:=ZZ (show ∀ z∈[x.a],0≤z∧z≤1000000000 by intro z hz;simp at hz;subst hz;omega)
       have HWF3:=ZZ (y3i (z:=x.a) (by omega) (by omega))
       have Ak:=ZZ (XS.new wr #[J Y x.d,J Y x.a,.slice xa x.ids.length xc] 90)
       have HV0:=ZZ (HT.o.alloc (.cells #[J Y x.d,J Y x.a,.slice xa x.ids.length xc] 90))
       have HW0:=ZZ (HB.o.alloc HB.o.size (.cells #[J Y x.d,J Y x.a,.slice xa x.ids.length xc] 90))
       have HH0:=ZZ (HX.o.alloc (.cells #[J Y x.d,J Y x.a,.slice xa x.ids.length xc] 90))
       have hne:wr.heap.size≠g:=by have:=HT.o.glt;omega
       clear hx hit
       go_upto_region 17 with fail
       generalize wr.alloc (.cells #[J Y x.d,J Y x.a,.slice xa x.ids.length xc] 90)=x0 at Ak HV0 HW0 HH0 ⊢
       generalize wr.heap.size=be at Ak hne ⊢
       clear HT HX HB c0 c1 c2 hidx Bq
       have Bq:=ZZ hne
       have HT0:=HV0
       have HX0:=Ak
       have HB0:=HW0
       clear HV0 Ak HW0
       refine wp_region_held_drew (S:=XS be #[J Y x.d,J Y x.a,.slice xa x.ids.length xc] 90) (by kernel_rfl) HX0.o.drew (fun hHeld=>?_)
       refine tkW 0 rfl (v:=?_) (Or.inl ⟨by rfl,?_⟩) ?_;rotate_left
       ·(intro wz hSw;have z1:=XS.cell hSw 1 rfl;clear hSw;go_simp;first|done|with_reducible rfl)
       refine tkW 1 rfl (v:=?_) (Or.inl ⟨by rfl,?_⟩) ?_;rotate_left
       ·(intro wz hSw;have z1:=XS.cell hSw 1 rfl;clear hSw;go_simp;first|done|with_reducible rfl)
       refine tkW 2 rfl (v:=?_) (Or.inl ⟨by rfl,?_⟩) ?_;rotate_left
       ·(intro wz hSw;have z1:=XS.cell hSw 1 rfl;clear hSw;go_simp;first|done|with_reducible rfl)
       refine tkW 3 rfl (v:=?_) (Or.inl ⟨by rfl,?_⟩) ?_;rotate_left
       ·(intro wz hSw;have z1:=XS.cell hSw 1 rfl;clear hSw;go_simp;first|done|with_reducible rfl)
       refine tkW 4 rfl (v:=?_) (Or.inl ⟨by rfl,?_⟩) ?_;rotate_left
       ·(intro wz hSw;have z1:=XS.cell hSw 1 rfl;clear hSw;go_simp;first|done|with_reducible rfl)
       refine wpAnyH_ready (rs:=[5]) (by kernel_rfl) (by simp) ?_
       refine AllReadyH.cons rfl (fun K hK=>?_) AllReadyH.nil
       rw[if_pos (by rfl)]
       go_simp
       refine hK.out _ _ ?_ (fun hHeld=>?_)
       ·first|exact XS.alloc hHeld _|exact (XS.alloc HX0.o _).drew
       clear hK K
       refine wpAnyH_ready (rs:=[6]) (by kernel_rfl) (by simp) ?_
       refine AllReadyH.cons rfl (fun K hK=>?_) AllReadyH.nil
       rw[if_pos (by rfl)]
       go_simp
       go_at_call 100
       refine (y3p W0.heap.size g (M3++(os.take j).flatMap outB) (some ⟨x0.heap.size,0,none⟩) 1 1 [x.a] (by omega) HZ3.o (by omega) _ (by first|exact (HT0.o.alloc _).drew|exact HT0.o.drew.alloc _|exact HT0.o.drew) (by first|exact y3c (zs:=[x.a]) (G:=x0.heap.size) (by first|rfl|simp) rfl HWF3.o|exact y3l (zs:=[x.a]) (G:=x0.heap.size) (by first|rfl|simp) rfl HWF3.o)).mono ?_
       rintro r x1 ⟨rfl,hT,hF⟩
       have hF2:TwFr W0.heap.size g x0 x1:=(TwFr.low HT0.o.bsz (by first|exact (zBa).drew|exact zBr.drew.alloc (by simp) _|exact zBr.drew)).trans hF
       try go_simp
       refine hK.out _ _ ?_ (fun hHeld=>?_)
       ·exact XS.tw HX0.o hF2 Bq.o (by decide)
       clear hK K
       try simp only[Act.put,List.getElem_toArray,List.getElem_cons_zero,List.getElem_cons_succ,List.setIfInBounds_toArray,List.set_cons_zero,List.set_cons_succ]
       refine wpAnyH_done (by kernel_rfl) ?_ _
       have HT1:=ZZ hT
       have HB1:=ZZ (HB0.o.trans hF2.bel)
       have HX1:=ZZ hHeld
       have Aa:=ZZ hF2
       clear hT hF hF2 hHeld HT0 HB0 HX0
       have L8:=ZZ (HH0.o.tw Aa.o HNH.o (by decide))
       go_wp2_with fail
       go_roundw
       case rel=>exact⟨j+1,by go_num,by omega,by rw[Ce.o];exact HT1.o,L8.o,HB1.o⟩
       case measure=>simp[intOf];omega
      ·have j0:¬ ((j:Int)<(qn:Int)):=by omega
       have htk:os.take j=os:=zTl (by rw[HOL.o];omega)
       rw[htk] at HT
       go_wp2_with fail
       refine bodyPost_end (results_none rfl _ _ _) rfl ?_
       exact⟨rfl,by rw[Ah.o];exact HT.o,HB.o⟩

theorem y4i (pa:Zoa) (pn pc:Nat) (oa:Zoa) (n cap:Nat) (so:Zoa) (sn sc:Nat) (go:Zoa) (gn gc:Nat) (qa:Zoa) (qn qc:Nat) (ps:List SesV) (es:List EvV) (ss:Zis) (gs:List Bool) (os:List OutX) (hfe:FineE es) (hwd:y0h ps es ss os) (hob:∀ x∈os,x.ids.length≤1048576) (w:World) (h:HallAt w pa pn pc oa n cap so sn sc go gn gc qa qn qc ps es ss gs os) :
  Calls Tryz.prog 18 #[y0g pa pn pc oa n cap so sn sc go gn gc qa qn qc] w fun e w'=>e=.returned (etV (y3d ps es ss gs os))∧Below w.heap.size w w':=by
 obtain⟨W0,hW0,hb0,hA0⟩:=bxN w #[.slice pa pn pc,.slice oa n cap,.slice so sn sc,.slice go gn gc,.slice qa qn qc] 45
 have Ab:=ZZ (y15 pa pn pc oa n cap so sn sc go gn gc qa qn qc ps es ss gs os hfe hwd hob W0 (h.below hb0))
 have HAT:=ZZ (h.below hb0)
 have HA:=ZZ (fun (W:World) (hb:Below W0.heap.size W0 W)=>(hb.block _ (ze hA0)).trans hA0)
 have HW0:=ZZ hW0
 have HB0:=ZZ hb0
 have r0:=zb hA0 0 rfl
 have r1:=zb hA0 1 rfl
 have r2:=zb hA0 2 rfl
 have r3:=zb hA0 3 rfl
 have r4:=zb hA0 4 rfl
 clear h hfe hwd hob hb0 hA0 hW0
 cases hok:y05 ps es ss gs os with
 | false =>
  rw[hok] at Ab
  have HF:=ZZ (show y3d ps es ss gs os=none by unfold y3d;rw[if_neg (by rw[hok];simp)])
  clear hok
  go_enter Tryz.func18,Tryz.ntmps18
  go_upto_region 1 with fail
  rw[HW0.o]
  clear HW0
  go_wp2_with (go_at_call 15;(refine Ab.o.mono ?_);rintro r w1 ⟨rfl,hb1⟩)
  go_ret2
  exact⟨by rw[HF.o];rfl,zTr HB0.o hb1⟩
 | true =>
  rw[hok] at Ab
  have HWR:=ZZ (fun (W1:World) (hb1:Below W0.heap.size W0 W1) (g:Nat) (w:World) (hT:Tw W1.heap.size g [] w) (hb:Below W1.heap.size W1 w)=>y5k W1 g pa pn pc oa n cap so sn sc go gn gc qa qn qc ps es ss gs os hok (HAT.o.below hb1) w hT hb)
  have EP:=ZZ (show y3d ps es ss gs os=if (y3n ps es os).length≤20000 then some (y3n ps es os) else none by unfold y3d;rw[hok];simp)
  generalize y3n ps es os=L at HWR EP
  clear hok
  go_enter Tryz.func18,Tryz.ntmps18
  go_upto_region 1 with fail
  rw[HW0.o]
  clear HW0
  go_upto_region 3 with (go_at_call 15;(refine Ab.o.mono ?_);rintro r w1 ⟨rfl,hb1⟩)
  have HB1:=ZZ hb1
  clear hb1 r0 r1 r2 r3 r4 Ab
  have HT2:=ZZ (Tw.new w1)
  have HB2:=ZZ ((Below.refl w1.heap.size w1).alloc zLe (.cells #[.slice none 0 0] 104))
  have hA2:=HA.o _ (zTr HB1.o HB2.o)
  have r0:=zb hA2 0 rfl
  have r1:=zb hA2 1 rfl
  have r2:=zb hA2 2 rfl
  have r3:=zb hA2 3 rfl
  have r4:=zb hA2 4 rfl
  clear hA2
  go_upto_region 4 with fail
  generalize w1.alloc (.cells #[.slice none 0 0] 104)=x2 at HT2 HB2 r0 r1 r2 r3 r4 ⊢
  go_upto_region 5 with (go_at_call 51;(refine (HWR.o w1 HB1.o _ x2 HT2.o HB2.o).mono ?_);rintro r x3 ⟨rfl,hT3,hb3⟩)
  have HT3:=ZZ hT3
  have HB3:=ZZ (zTr HB1.o hb3)
  clear hT3 hb3 r0 r1 r2 r3 r4
  by_cases hl:L.length≤20000
  ·have q:¬ ((20000:Int)<(L.length:Int)):=by omega
   have HF:=ZZ (show y3d ps es ss gs os=some L by rw[EP.o,if_pos hl])
   clear hl
   go_wp2_with (go_at_call 52;(refine (y46 _ _ L _ HT3.o).mono ?_);rintro r x4 ⟨rfl,rfl⟩)
   go_ret2
   exact⟨by rw[HF.o];rfl,zTr HB0.o HB3.o⟩
  ·have q:(20000:Int)<(L.length:Int):=by omega
   have HF:=ZZ (show y3d ps es ss gs os=none by rw[EP.o,if_neg hl])
   clear hl
   go_wp2_with (go_at_call 52;(refine (y46 _ _ L _ HT3.o).mono ?_);rintro r x4 ⟨rfl,rfl⟩)
   go_ret2
   exact⟨by rw[HF.o];rfl,zTr HB0.o HB3.o⟩

end Go.Proofs.YtfeebdcmlnapiaaGreat
