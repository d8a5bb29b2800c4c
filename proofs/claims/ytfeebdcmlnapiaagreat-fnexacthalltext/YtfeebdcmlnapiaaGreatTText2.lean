/-
  Walks.
-/
import Derived.Test.YtfeebdcmlnapiaaGreatTText1
import Derived.Test.YtfeebdcmlnapiaaGreatTComm1
import Derived.Test.YtfeebdcmlnapiaaGreatTEv2
import Derived.Test.YtfeebdcmlnapiaaGreatTWalk9b
import Derived.Test.YtfeebdcmlnapiaaGreatTSame1
import Derived.Test.YtfeebdcmlnapiaaGreatTEv4
import Derived.Test.YtfeebdcmlnapiaaGreatTHok5
set_option linter.unusedVariables false
set_option linter.unusedSimpArgs false
namespace Go.Proofs.YtfeebdcmlnapiaaGreat
open Go.RowKit P1 P9 P11 P12 P18 K

theorem y48 {e:EvV} (h:EvIn e):(evB e).length≤1000:=by
 have hv:∀ z:Int,(varZ z).length≤10:=y36
 have h1:=hv e.id
 have h2:=y4m h
 have h3:=y3b e.prev.length
 have h4:=y3q e.prev
 have h5:=hv e.depth
 have h6:=h.prevs
 unfold evB
 simp only[List.length_append]
 omega

theorem y5y {a b:Int} (h0:0≤a∧a≤1000000000) (h1:0≤b∧b≤1000000000):∀ y∈[a,b],(Lit.int .i64 y).wf=true∧[a,b].length≤4:=by
 intro y hy
 simp at hy
 refine⟨?_,by simp⟩
 rcases hy with rfl|rfl<;>exact z3o (by omega) (by omega)

end Go.Proofs.YtfeebdcmlnapiaaGreat

namespace Go.Proofs.YtfeebdcmlnapiaaGreat
open Go.RowKit P1 P5 P9 P11 P12 P14 P15 P16 P17 P18 K

def sesB (s:SesV):List UInt8:=[s.term,s.kind].flatMap varZ++y3a (bl s.data)

def evtB (e:EvV):List UInt8:=y3a (evB e)

def outB (o:OutX):List UInt8:=[o.a].flatMap varZ

def y3n (ps:List SesV) (es:List EvV) (os:List OutX):List UInt8:=((([(ps.length:Int)].flatMap varZ++ps.flatMap sesB)++[(es.length:Int)].flatMap varZ)++es.flatMap evtB)++os.flatMap outB

noncomputable def y3d (ps:List SesV) (es:List EvV) (ss:List (List (Int × Int))) (gs:List Bool) (os:List OutX):Option (List UInt8):=if y05 ps es ss gs os=true∧(y3n ps es os).length≤20000 then some (y3n ps es os) else none

theorem y4x {α:Type} {f:α→List UInt8} {c:Nat}:∀ {l:List α},(∀ x∈l,(f x).length≤c)→(l.flatMap f).length≤l.length * c
 | [],_=>by simp
 | x::r,h=>by
  have h1:=h x List.mem_cons_self
  have h2:=y4x (l:=r) (fun y hy=>h y (List.mem_cons_of_mem _ hy))
  rw[List.flatMap_cons,List.length_append,List.length_cons,Nat.add_mul]
  omega

theorem y3r {α:Type} {f:α→List UInt8} {c:Nat} {l:List α} (h:∀ x∈l,(f x).length≤c) (j:Nat):((l.take j).flatMap f).length≤l.length * c:=by
 have h1:=y4x (l:=l.take j) (fun x hx=>h x (List.mem_of_mem_take hx))
 have h2:(l.take j).length≤l.length:=by rw[List.length_take];omega
 exact Nat.le_trans h1 (Nat.mul_le_mul_right _ h2)

theorem y3s {α:Type} {f:α→List UInt8} {l:List α} {j:Nat} {x:α} (h:l[j]? = some x):(l.take (j+1)).flatMap f=(l.take j).flatMap f++f x:=by
 rw[List.take_add_one,h,List.flatMap_append]
 simp

theorem y56:∀ (r:List EvV) (d:List EvV) (s:List St) (g:List Bool) {x:List St × List Bool},rmGo d s g r=some x→∀ e∈r,evOk e=true
 | [],_,_,_,_,_,e,he=>by simp at he
 | y::r,d,s,g,x,h,e,he=>by
  unfold rmGo at h
  split at h
  ·rename_i hok
   rcases List.mem_cons.1 he with rfl|he
   ·exact (z4b hok).1
   ·exact y56 r _ _ _ h e he
  ·cases h

theorem y5g {es:List EvV} {ss:List (List (Int × Int))} {gs:List Bool} (h:z0x es ss gs=true):es.length≤40∧∀ e∈es,evOk e=true:=by
 unfold z0x at h
 rw[Bool.and_eq_true,decide_eq_true_eq] at h
 refine⟨h.1,?_⟩
 have h2:=h.2
 cases hr:rmGo [] [] [] es with
 | none=>rw[hr] at h2;cases h2
 | some x=>exact y56 es [] [] [] hr

structure y4q (s:SesV):Prop where
 term:1≤s.term∧s.term≤1000000
 kind:0≤s.kind∧s.kind≤1000000
 data:s.data.size≤40

theorem y4y:∀ (ps:List SesV) (t:Int),0≤t→y07 t ps=true→∀ s∈ps,y4q s
 | [],_,_,_,s,hs=>by simp at hs
 | x::r,t,ht,h,s,hs=>by
  unfold y07 y02 at h
  simp only[Bool.and_eq_true,decide_eq_true_eq] at h
  obtain⟨⟨h1,h2,h3⟩,h4⟩:=h
  rcases List.mem_cons.1 hs with rfl|hs
  ·have h5:(0≤s.kind∧s.kind≤1000000)∧s.data.size≤40:=by
    unfold y08 at h3
    split at h3
    ·simp only[decide_eq_true_eq] at h3
     exact⟨⟨by omega,by omega⟩,by omega⟩
    ·simp only[Bool.and_eq_true,decide_eq_true_eq] at h3
     exact⟨⟨by omega,by omega⟩,by omega⟩
   exact⟨⟨by omega,h2⟩,h5.1,h5.2⟩
  ·exact y4y r x.term (by omega) h4 s hs

theorem y4z (own:List Int):∀ (os:List OutX) (k:Nat),y0e own k os=true→∀ o∈os,0≤o.a∧o.a≤(own.length:Int)
 | [],_,_,o,ho=>by simp at ho
 | x::r,k,h,o,ho=>by
  unfold y0e y0i at h
  simp only[Bool.and_eq_true,decide_eq_true_eq] at h
  rcases List.mem_cons.1 ho with rfl|ho
  ·exact h.1.2.2
  ·exact y4z own r (k+1) h.2 o ho

structure y60 (ps:List SesV) (es:List EvV) (ss:List (List (Int × Int))) (gs:List Bool) (os:List OutX):Prop where
 pl:ps.length≤3
 p:∀ s∈ps,y4q s
 el:es.length≤40
 e:∀ e∈es,evOk e=true
 ol:os.length=2
 o:∀ o∈os,0≤o.a∧o.a≤40

theorem y50 {ps:List SesV} {es:List EvV} {ss:List (List (Int × Int))} {gs:List Bool} {os:List OutX} (h:y05 ps es ss gs os=true):y60 ps es ss gs os:=by
 unfold y05 y06 y04 at h
 simp only[Bool.and_eq_true,decide_eq_true_eq] at h
 obtain⟨⟨h1,h2⟩,h3,h4,h5⟩:=h
 obtain⟨h6,h7⟩:=y5g h3
 refine⟨h1,y4y ps 0 (by omega) h2,h6,h7,h4,fun o ho=>?_⟩
 have h8:=y4z _ os 0 h5 o ho
 have h9:=y1k es gs
 omega

theorem y57 {s:SesV} (h:y4q s):(sesB s).length≤80:=by
 have h1:=y36 s.term
 have h2:=y36 s.kind
 have h3:=(y3g (bl s.data)).1
 have h4:(bl s.data).length=s.data.size:=by unfold bl;rw[Array.length_toList];rfl
 have h5:=h.data
 unfold sesB
 simp only[List.length_append,List.flatMap_cons,List.flatMap_nil,List.length_nil]
 omega

theorem y58 {e:EvV} (h:evOk e=true):(evtB e).length≤1020:=by
 have h1:=y48 (zhb h)
 have h2:=(y3g (evB e)).1
 unfold evtB
 omega

theorem y59 (o:OutX):(outB o).length≤10:=by
 have h1:=y36 o.a
 unfold outB
 simp
 exact h1

theorem y5e (s:ByteArray):(⟨(bl s).toArray⟩:ByteArray)=s:=by
 obtain⟨d⟩:=s
 unfold bl
 simp

end Go.Proofs.YtfeebdcmlnapiaaGreat

namespace Go.Proofs.YtfeebdcmlnapiaaGreat
open Go.RowKit P1 P5 P9 P11 P12 P14 P15 P16 P17 P18 K

set_option maxRecDepth 100000 in
set_option maxHeartbeats 2000000 in
theorem y4r (W0:World) (g:Nat) (l:List UInt8) (id kd sn us mb dp:Int) (oa:Option Addr) (n cl:Nat) (tx:List UInt8) (ob:Option Addr) (m cp:Nat) (zl zp:List Int) (he:evOk (⟨id,kd,sn,us,mb,zl,tx,zp,dp⟩:EvV)=true) (hx:tx.length≤1048576) (hl:l.length≤500000) (w:World) (hT:Tw W0.heap.size g l w) (hb:Below W0.heap.size W0 w) (hat:IntsAt W0 oa n cl zl) (hbt:IntsAt W0 ob m cp zp) :
  Calls Tryz.prog 102 #[.pointer (some ⟨g,0,none⟩),z3e id kd sn us mb dp (.slice oa n cl) (.slice ob m cp) tx] w fun e w'=>e=.returned (.tuple #[])∧Tw W0.heap.size g (l++y3a (evB (⟨id,kd,sn,us,mb,zl,tx,zp,dp⟩:EvV))) w'∧TwFr W0.heap.size g w w':=by
 have HET:=hide (fun w hat hbt=>y4c id kd sn us mb dp oa n cl tx ob m cp zl zp hx w hat hbt)
 rw[y4a he] at HET
 have hln:=y48 (zhb he)
 have HF0:=hide (TwFr.low (g:=g) hT.bsz ((Below.refl w.heap.size w).alloc (Nat.le_refl _) (.cells #[.int .i64 id,.int .i64 kd,.int .i64 sn,.int .i64 us,.int .i64 mb,.slice oa n cl,.string ⟨tx.toArray⟩,.slice ob m cp,.int .i64 dp] 62)))
 have HT0:=hide (hT.alloc (.cells #[.int .i64 id,.int .i64 kd,.int .i64 sn,.int .i64 us,.int .i64 mb,.slice oa n cl,.string ⟨tx.toArray⟩,.slice ob m cp,.int .i64 dp] 62))
 have HB0:=hide (hb.alloc hb.size (.cells #[.int .i64 id,.int .i64 kd,.int .i64 sn,.int .i64 us,.int .i64 mb,.slice oa n cl,.string ⟨tx.toArray⟩,.slice ob m cp,.int .i64 dp] 62))
 have HAT:=hide hat
 have AA:=hide hbt
 clear hat hbt hT hb he hx
 generalize evB (⟨id,kd,sn,us,mb,zl,tx,zp,dp⟩:EvV)=k at HET hln ⊢
 go_enter Tryz.func102,Tryz.ntmps102
 go_wp2_with fail
 generalize w.alloc (.cells #[.int .i64 id,.int .i64 kd,.int .i64 sn,.int .i64 us,.int .i64 mb,.slice oa n cl,.string ⟨tx.toArray⟩,.slice ob m cp,.int .i64 dp] 62)=x0 at HT0 HB0 HF0 ⊢
 refine (HET.out _ (HAT.out.below HB0.out) (AA.out.below HB0.out)).mono ?_
 rintro e x1 ⟨rfl,hb1⟩
 have HT1:=hide (HT0.out.on hb1)
 have Aa:=hide (HF0.out.trans (TwFr.low HT0.out.bsz hb1))
 clear hb1 HT0 HB0 HF0
 go_wp2_with fail
 refine (y4f W0.heap.size g l k (by omega) (by omega) _ HT1.out).mono ?_
 rintro e x2 ⟨rfl,hT2,hF2⟩
 have Aj:=hide (Aa.out.trans hF2)
 go_wp2_with fail
 refine bodyPost_end (results_none rfl _ _ _) rfl ?_
 exact⟨rfl,hT2,Aj.out⟩

set_option maxRecDepth 100000 in
set_option maxHeartbeats 8000000 in
theorem y5k (W0:World) (g:Nat) (pa:Option Addr) (pn pc:Nat) (oa:Option Addr) (n cap:Nat) (so:Option Addr) (sn sc:Nat) (go:Option Addr) (gn gc:Nat) (qa:Option Addr) (qn qc:Nat) (ps:List SesV) (es:List EvV) (ss:List (List (Int × Int))) (gs:List Bool) (os:List OutX) (hok:y05 ps es ss gs os=true) (hA:HallAt W0 pa pn pc oa n cap so sn sc go gn gc qa qn qc ps es ss gs os) (w:World) (hT:Tw W0.heap.size g [] w) (hb:Below W0.heap.size W0 w) :
  Calls Tryz.prog 51 #[.pointer (some ⟨g,0,none⟩),y0g pa pn pc oa n cap so sn sc go gn gc qa qn qc] w fun e w'=>e=.returned (.tuple #[])∧Tw W0.heap.size g (y3n ps es os) w'∧Below W0.heap.size W0 w':=by
 have Jw:=hide (y50 hok)
 have hpl:=hA.p.len
 have hel:=hA.e.len
 have hol:=hA.o.len
 have hp3:=Jw.out.pl
 have he40:=Jw.out.el
 have ho2:=Jw.out.ol
 rw[hpl] at hp3
 rw[hel] at he40
 rw[hol] at ho2
 have LK:=hide hpl
 have CS:=hide hel
 have HOL:=hide hol
 have Ew:=hide hA
 have HZ1:=hide (show ∀ z∈[(pn:Int)],0≤z∧z≤1000000000 by intro z hz;simp at hz;subst hz;omega)
 have HZ2:=hide (show ∀ z∈[(n:Int)],0≤z∧z≤1000000000 by intro z hz;simp at hz;subst hz;omega)
 have HWF1:=hide (y3i (z:=(pn:Int)) (by omega) (by omega))
 have HWF2:=hide (y3i (z:=(n:Int)) (by omega) (by omega))
 have HM1:=hide (show ∀ j,([(pn:Int)].flatMap varZ++(ps.take j).flatMap sesB).length≤1000 from fun j=>by have h1:=y36 (pn:Int);have h2:=y3r (f:=sesB) (c:=80) (l:=ps) (fun s hs=>y57 (Jw.out.p s hs)) j;rw[LK.out] at h2;simp only[List.length_append,List.flatMap_cons,List.flatMap_nil,List.append_nil];omega)
 have HM3:=hide (show ∀ (M:List UInt8) j,M.length≤2000→(M++(es.take j).flatMap evtB).length≤100000 from fun M j hM=>by have h2:=y3r (f:=evtB) (c:=1020) (l:=es) (fun e he=>y58 (Jw.out.e e he)) j;rw[CS.out] at h2;rw[List.length_append];omega)
 have HM5:=hide (show ∀ (M:List UInt8) j,M.length≤100000→(M++(os.take j).flatMap outB).length≤200000 from fun M j hM=>by have h2:=y3r (f:=outB) (c:=10) (l:=os) (fun o _=>y59 o) j;rw[HOL.out] at h2;rw[List.length_append];omega)
 have HPI:=hide (show ∀ s∈ps,y4q s from Jw.out.p)
 have HEI:=hide (show ∀ e∈es,evOk e=true from Jw.out.e)
 have HOI:=hide (show ∀ o∈os,0≤o.a∧o.a≤40 from Jw.out.o)
 have Ah:=hide (show y3n ps es os=((([(pn:Int)].flatMap varZ++ps.flatMap sesB)++[(n:Int)].flatMap varZ)++es.flatMap evtB)++os.flatMap outB by unfold y3n;rw[LK.out,CS.out])
 have hbh:w.heap.size≠g:=by have:=hT.glt;omega
 have HX0:=hide (XS.new w #[.slice pa pn pc,.slice oa n cap,.slice so sn sc,.slice go gn gc,.slice qa qn qc] 45)
 have HT0:=hide (hT.alloc (.cells #[.slice pa pn pc,.slice oa n cap,.slice so sn sc,.slice go gn gc,.slice qa qn qc] 45))
 have HB0:=hide (hb.alloc hb.size (.cells #[.slice pa pn pc,.slice oa n cap,.slice so sn sc,.slice go gn gc,.slice qa qn qc] 45))
 have hq2:qn≤2:=by omega
 clear hT hb hA hok hpl hel hol Jw ho2
 obtain⟨L,hL⟩:∃ L,y3n ps es os=L:=⟨_,rfl⟩
 rw[hL]
 rw[hL] at Ah
 clear hL
 go_enter Tryz.func51,Tryz.ntmps51
 go_wp2_with fail
 generalize w.alloc (.cells #[.slice pa pn pc,.slice oa n cap,.slice so sn sc,.slice go gn gc,.slice qa qn qc] 45)=x0 at HX0 HT0 HB0 ⊢
 generalize w.heap.size=bh at HX0 hbh ⊢
 have Bq:=hide hbh
 have HNH:=hide hbh
 clear hbh
 refine wp_region_held_drew (S:=XS bh #[.slice pa pn pc,.slice oa n cap,.slice so sn sc,.slice go gn gc,.slice qa qn qc] 45) (by kernel_rfl) HX0.out.drew (fun hHeld=>?_)
 refine tkW 0 rfl (v:=?_) (Or.inl ⟨by rfl,?_⟩) ?_;rotate_left
 ·(intro wz hSw;have z0:=XS.cell hSw 0 rfl;clear hSw;go_simp;first|done|with_reducible rfl)
 refine tkW 1 rfl (v:=?_) (Or.inl ⟨by rfl,?_⟩) ?_;rotate_left
 ·(intro wz hSw;have z0:=XS.cell hSw 0 rfl;clear hSw;go_simp;first|done|with_reducible rfl)
 refine tkW 2 rfl (v:=?_) (Or.inl ⟨by rfl,?_⟩) ?_;rotate_left
 ·(intro wz hSw;have z0:=XS.cell hSw 0 rfl;clear hSw;go_simp;first|done|with_reducible rfl)
 refine tkW 3 rfl (v:=?_) (Or.inl ⟨by rfl,?_⟩) ?_;rotate_left
 ·(intro wz hSw;have z0:=XS.cell hSw 0 rfl;clear hSw;go_simp;first|done|with_reducible rfl)
 refine tkW 4 rfl (v:=?_) (Or.inl ⟨by rfl,?_⟩) ?_;rotate_left
 ·(intro wz hSw;have z0:=XS.cell hSw 0 rfl;clear hSw;go_simp;first|done|with_reducible rfl)
 refine tkW 5 rfl (v:=?_) (Or.inl ⟨by rfl,?_⟩) ?_;rotate_left
 ·(intro wz hSw;have z0:=XS.cell hSw 0 rfl;clear hSw;go_simp;first|done|with_reducible rfl)
 refine wpAnyH_ready (rs:=[6]) (by kernel_rfl) (by simp) ?_
 refine AllReadyH.cons rfl (fun K hK=>?_) AllReadyH.nil
 rw[if_pos (by rfl)]
 go_simp
 refine hK.out _ _ ?_ (fun hHeld=>?_)
 ·first|exact XS.alloc hHeld _|exact (XS.alloc HX0.out _).drew
 clear hK K
 refine wpAnyH_ready (rs:=[7]) (by kernel_rfl) (by simp) ?_
 refine AllReadyH.cons rfl (fun K hK=>?_) AllReadyH.nil
 rw[if_pos (by rfl)]
 go_simp
 go_at_call 100
 refine (y3p W0.heap.size g [] (some ⟨x0.heap.size,0,none⟩) 1 1 [(pn:Int)] (by omega) HZ1.out (by simp) _ (by first|exact (HT0.out.alloc _).drew|exact HT0.out.drew.alloc _|exact HT0.out.drew) (by first|exact y3c (zs:=[(pn:Int)]) (G:=x0.heap.size) (by first|rfl|simp) rfl HWF1.out|exact y3l (zs:=[(pn:Int)]) (G:=x0.heap.size) (by first|rfl|simp) rfl HWF1.out)).mono ?_
 rintro r x1 ⟨rfl,hT,hF⟩
 have hF2:TwFr W0.heap.size g x0 x1:=(TwFr.low HT0.out.bsz (by first|exact ((Below.refl _ _).alloc (Nat.le_refl _) _).drew|exact (Below.refl _ _).drew.alloc (by simp) _|exact (Below.refl _ _).drew)).trans hF
 try go_simp
 refine hK.out _ _ ?_ (fun hHeld=>?_)
 ·exact XS.tw HX0.out hF2 Bq.out (by decide)
 clear hK K
 try simp only[Act.put,List.getElem_toArray,List.getElem_cons_zero,List.getElem_cons_succ,List.setIfInBounds_toArray,List.set_cons_zero,List.set_cons_succ]
 refine wpAnyH_done (by kernel_rfl) ?_ _
 have HT1:=hide hT
 have HB1:=hide (HB0.out.trans hF2.bel)
 have HX1:=hide hHeld
 have Aa:=hide hF2
 clear hT hF hF2 hHeld HT0 HB0 HX0
 rw[List.nil_append] at HT1
 clear Aa
 have h0:=HX1.out.cell 0 rfl
 go_wp2_with fail
 clear h0 HZ1 HWF1
 go_loopw [21] (fun x wr=>∃ (j:Nat),x=.int .i64 (j:Int)∧j≤pn∧Tw W0.heap.size g ([(pn:Int)].flatMap varZ++(ps.take j).flatMap sesB) wr∧XS bh #[.slice pa pn pc,.slice oa n cap,.slice so sn sc,.slice go gn gc,.slice qa qn qc] 45 wr∧Below W0.heap.size W0 wr) (fun x _=>pn - (intOf x).toNat)
 case atStart=>exact⟨0,rfl,Nat.zero_le _,by simpa using HT1.out,HX1.out,HB1.out⟩
 case round =>
  obtain⟨j,rfl,hj,hT,hX,hB⟩:=hrel
  have HT:=hide hT
  have HX:=hide hX
  have HB:=hide hB
  clear hT hX hB HT1 HX1 HB1
  have hml:=HM1.out j
  by_cases hlt:j<pn
  ·have j0:(j:Int)<(pn:Int):=by omega
   obtain⟨f,bf,qf,hf,hidx,hbf,c0,c1,c2⟩:=(Ew.out.below HB.out).p.getS3 Tryz.underlying42 y0j j hlt
   have Ce:=hide (show [(pn:Int)].flatMap varZ++(ps.take (j+1)).flatMap sesB=([(pn:Int)].flatMap varZ++(ps.take j).flatMap sesB)++sesB f by rw[y3s hf,List.append_assoc])
   have hin:=HPI.out f (List.mem_of_getElem? hf)
   have d1:=hin.term
   have d2:=hin.kind
   have d3:=hin.data
   have HZ3:=hide (show ∀ z∈[f.term,f.kind],0≤z∧z≤1000000000 by intro z hz;simp at hz;rcases hz with rfl|rfl<;>omega)
   have HWF3:=hide (y5y (a:=f.term) (b:=f.kind) (by omega) (by omega))
   have hv1:=y36 f.term
   have hv2:=y36 f.kind
   have hdl:(bl f.data).length≤40:=by unfold bl;rw[Array.length_toList];exact d3
   rw[← y5e f.data] at c2
   have HSB:=hide (show sesB f=[f.term,f.kind].flatMap varZ++y3a (bl f.data) from rfl)
   rw[HSB.out] at Ce
   clear hf HSB hin
   generalize [(pn:Int)].flatMap varZ++(ps.take j).flatMap sesB=M at HT Ce hml
   generalize bl f.data=dt at c2 Ce hdl
   have hl2:(M++[f.term,f.kind].flatMap varZ).length≤2000:=by simp;omega
   generalize f.term=ft at *
   generalize f.kind=fk at *
   have Ak:=hide (XS.new wr #[.int .i64 ft,.int .i64 fk,.string ⟨dt.toArray⟩] 86)
   have HV0:=hide (HT.out.alloc (.cells #[.int .i64 ft,.int .i64 fk,.string ⟨dt.toArray⟩] 86))
   have HW0:=hide (HB.out.alloc HB.out.size (.cells #[.int .i64 ft,.int .i64 fk,.string ⟨dt.toArray⟩] 86))
   have HH0:=hide (HX.out.alloc (.cells #[.int .i64 ft,.int .i64 fk,.string ⟨dt.toArray⟩] 86))
   have hne:wr.heap.size≠g:=by have:=HT.out.glt;omega
   go_upto_region 5 with fail
   generalize wr.alloc (.cells #[.int .i64 ft,.int .i64 fk,.string ⟨dt.toArray⟩] 86)=x0 at Ak HV0 HW0 HH0 ⊢
   generalize wr.heap.size=be at Ak hne ⊢
   clear HT HX HB c0 c1 c2 hidx Bq
   have Bq:=hide hne
   have HT0:=HV0
   have HX0:=Ak
   have HB0:=HW0
   clear HV0 Ak HW0
   refine wp_region_held_drew (S:=XS be #[.int .i64 ft,.int .i64 fk,.string ⟨dt.toArray⟩] 86) (by kernel_rfl) HX0.out.drew (fun hHeld=>?_)
   refine tkW 0 rfl (v:=?_) (Or.inl ⟨by rfl,?_⟩) ?_;rotate_left
   ·(intro wz hSw;have z0:=XS.cell hSw 0 rfl;have z1:=XS.cell hSw 1 rfl;clear hSw;go_simp;first|done|with_reducible rfl)
   refine tkW 1 rfl (v:=?_) (Or.inl ⟨by rfl,?_⟩) ?_;rotate_left
   ·(intro wz hSw;have z0:=XS.cell hSw 0 rfl;have z1:=XS.cell hSw 1 rfl;clear hSw;go_simp;first|done|with_reducible rfl)
   refine tkW 2 rfl (v:=?_) (Or.inl ⟨by rfl,?_⟩) ?_;rotate_left
   ·(intro wz hSw;have z0:=XS.cell hSw 0 rfl;have z1:=XS.cell hSw 1 rfl;clear hSw;go_simp;first|done|with_reducible rfl)
   refine tkW 3 rfl (v:=?_) (Or.inl ⟨by rfl,?_⟩) ?_;rotate_left
   ·(intro wz hSw;have z0:=XS.cell hSw 0 rfl;have z1:=XS.cell hSw 1 rfl;clear hSw;go_simp;first|done|with_reducible rfl)
   refine tkW 4 rfl (v:=?_) (Or.inl ⟨by rfl,?_⟩) ?_;rotate_left
   ·(intro wz hSw;have z0:=XS.cell hSw 0 rfl;have z1:=XS.cell hSw 1 rfl;clear hSw;go_simp;first|done|with_reducible rfl)
   refine tkW 5 rfl (v:=?_) (Or.inl ⟨by rfl,?_⟩) ?_;rotate_left
   ·(intro wz hSw;have z0:=XS.cell hSw 0 rfl;have z1:=XS.cell hSw 1 rfl;clear hSw;go_simp;first|done|with_reducible rfl)
   refine tkW 6 rfl (v:=?_) (Or.inl ⟨by rfl,?_⟩) ?_;rotate_left
   ·(intro wz hSw;have z0:=XS.cell hSw 0 rfl;have z1:=XS.cell hSw 1 rfl;clear hSw;go_simp;first|done|with_reducible rfl)
   refine wpAnyH_ready (rs:=[7]) (by kernel_rfl) (by simp) ?_
   refine AllReadyH.cons rfl (fun K hK=>?_) AllReadyH.nil
   rw[if_pos (by rfl)]
   go_simp
   refine hK.out _ _ ?_ (fun hHeld=>?_)
   ·first|exact XS.alloc hHeld _|exact (XS.alloc HX0.out _).drew
   clear hK K
   refine wpAnyH_ready (rs:=[8]) (by kernel_rfl) (by simp) ?_
   refine AllReadyH.cons rfl (fun K hK=>?_) AllReadyH.nil
   rw[if_pos (by rfl)]
   go_simp
   go_at_call 100
   refine (y3p W0.heap.size g M (some ⟨x0.heap.size,0,none⟩) 2 2 [ft,fk] (by omega) HZ3.out (by omega) _ (by first|exact (HT0.out.alloc _).drew|exact HT0.out.drew.alloc _|exact HT0.out.drew) (by first|exact y3c (zs:=[ft,fk]) (G:=x0.heap.size) (by first|rfl|simp) rfl HWF3.out|exact y3l (zs:=[ft,fk]) (G:=x0.heap.size) (by first|rfl|simp) rfl HWF3.out)).mono ?_
   rintro r x1 ⟨rfl,hT,hF⟩
   have hF2:TwFr W0.heap.size g x0 x1:=(TwFr.low HT0.out.bsz (by first|exact ((Below.refl _ _).alloc (Nat.le_refl _) _).drew|exact (Below.refl _ _).drew.alloc (by simp) _|exact (Below.refl _ _).drew)).trans hF
   try go_simp
   refine hK.out _ _ ?_ (fun hHeld=>?_)
   ·exact XS.tw HX0.out hF2 Bq.out (by decide)
   clear hK K
   try simp only[Act.put,List.getElem_toArray,List.getElem_cons_zero,List.getElem_cons_succ,List.setIfInBounds_toArray,List.set_cons_zero,List.set_cons_succ]
   refine wpAnyH_done (by kernel_rfl) ?_ _
   have HT1:=hide hT
   have HB1:=hide (HB0.out.trans hF2.bel)
   have HX1:=hide hHeld
   have Aa:=hide hF2
   clear hT hF hF2 hHeld HT0 HB0 HX0
   go_wp2_with fail
   generalize hM2:M++[ft,fk].flatMap varZ=M2 at HT1 Ce hl2
   refine wp_region_held_drew (S:=XS be #[.int .i64 ft,.int .i64 fk,.string ⟨dt.toArray⟩] 86) (by kernel_rfl) HX1.out.drew (fun hHeld=>?_)
   refine tkW 0 rfl (v:=?_) (Or.inl ⟨by rfl,?_⟩) ?_;rotate_left
   ·(intro wz hSw;have z2:=XS.cell hSw 2 rfl;clear hSw;go_simp;first|done|with_reducible rfl)
   refine tkW 1 rfl (v:=?_) (Or.inl ⟨by rfl,?_⟩) ?_;rotate_left
   ·(intro wz hSw;have z2:=XS.cell hSw 2 rfl;clear hSw;go_simp;first|done|with_reducible rfl)
   refine tkW 2 rfl (v:=?_) (Or.inl ⟨by rfl,?_⟩) ?_;rotate_left
   ·(intro wz hSw;have z2:=XS.cell hSw 2 rfl;clear hSw;go_simp;first|done|with_reducible rfl)
   refine tkW 3 rfl (v:=?_) (Or.inl ⟨by rfl,?_⟩) ?_;rotate_left
   ·(intro wz hSw;have z2:=XS.cell hSw 2 rfl;clear hSw;go_simp;first|done|with_reducible rfl)
   refine tkW 4 rfl (v:=?_) (Or.inl ⟨by rfl,?_⟩) ?_;rotate_left
   ·(intro wz hSw;have z2:=XS.cell hSw 2 rfl;clear hSw;go_simp;first|done|with_reducible rfl)
   refine wpAnyH_ready (rs:=[5]) (by kernel_rfl) (by simp) ?_
   refine AllReadyH.cons rfl (fun K hK=>?_) AllReadyH.nil
   rw[if_pos (by rfl)]
   go_simp
   go_at_call 101
   refine (y4f W0.heap.size g M2 dt (by omega) (by omega) _ (by first|exact (HT1.out.alloc _).drew|exact HT1.out.drew.alloc _|exact HT1.out.drew)).mono ?_
   rintro r x2 ⟨rfl,hT,hF⟩
   have hF2:TwFr W0.heap.size g x1 x2:=(TwFr.low HT1.out.bsz (by first|exact ((Below.refl _ _).alloc (Nat.le_refl _) _).drew|exact (Below.refl _ _).drew.alloc (by simp) _|exact (Below.refl _ _).drew)).trans hF
   try go_simp
   refine hK.out _ _ ?_ (fun hHeld=>?_)
   ·exact XS.tw HX1.out hF2 Bq.out (by decide)
   clear hK K
   try simp only[Act.put,List.getElem_toArray,List.getElem_cons_zero,List.getElem_cons_succ,List.setIfInBounds_toArray,List.set_cons_zero,List.set_cons_succ]
   refine wpAnyH_done (by kernel_rfl) ?_ _
   have HT2:=hide hT
   have HB2:=hide (HB1.out.trans hF2.bel)
   have HX2:=hide hHeld
   have Aj:=hide hF2
   clear hT hF hF2 hHeld HT1 HB1 HX1
   have L8:=hide ((HH0.out.tw Aa.out HNH.out (by decide)).tw Aj.out HNH.out (by decide))
   go_wp2_with fail
   go_roundw
   case rel=>exact⟨j+1,by go_num,by omega,by rw[Ce.out,← List.append_assoc,hM2];exact HT2.out,L8.out,HB2.out⟩
   case measure=>simp[intOf];omega
  ·have j0:¬ ((j:Int)<(pn:Int)):=by omega
   have htk:ps.take j=ps:=List.take_of_length_le (by rw[LK.out];omega)
   rw[htk] at HT hml
   generalize [(pn:Int)].flatMap varZ++ps.flatMap sesB=M at HT hml Ah
   have hvn:=y36 (n:Int)
   have hl2:(M++[(n:Int)].flatMap varZ).length≤2000:=by simp;omega
   go_wp2_with fail
   have HT0:=HT
   have HX0:=HX
   have HB0:=HB
   clear HT HX HB
   rename World=>x0
   refine wp_region_held_drew (S:=XS bh #[.slice pa pn pc,.slice oa n cap,.slice so sn sc,.slice go gn gc,.slice qa qn qc] 45) (by kernel_rfl) HX0.out.drew (fun hHeld=>?_)
   refine tkW 0 rfl (v:=?_) (Or.inl ⟨by rfl,?_⟩) ?_;rotate_left
   ·(intro wz hSw;have z1:=XS.cell hSw 1 rfl;clear hSw;go_simp;first|done|with_reducible rfl)
   refine tkW 1 rfl (v:=?_) (Or.inl ⟨by rfl,?_⟩) ?_;rotate_left
   ·(intro wz hSw;have z1:=XS.cell hSw 1 rfl;clear hSw;go_simp;first|done|with_reducible rfl)
   refine tkW 2 rfl (v:=?_) (Or.inl ⟨by rfl,?_⟩) ?_;rotate_left
   ·(intro wz hSw;have z1:=XS.cell hSw 1 rfl;clear hSw;go_simp;first|done|with_reducible rfl)
   refine tkW 3 rfl (v:=?_) (Or.inl ⟨by rfl,?_⟩) ?_;rotate_left
   ·(intro wz hSw;have z1:=XS.cell hSw 1 rfl;clear hSw;go_simp;first|done|with_reducible rfl)
   refine tkW 4 rfl (v:=?_) (Or.inl ⟨by rfl,?_⟩) ?_;rotate_left
   ·(intro wz hSw;have z1:=XS.cell hSw 1 rfl;clear hSw;go_simp;first|done|with_reducible rfl)
   refine tkW 5 rfl (v:=?_) (Or.inl ⟨by rfl,?_⟩) ?_;rotate_left
   ·(intro wz hSw;have z1:=XS.cell hSw 1 rfl;clear hSw;go_simp;first|done|with_reducible rfl)
   refine tkW 6 rfl (v:=?_) (Or.inl ⟨by rfl,?_⟩) ?_;rotate_left
   ·(intro wz hSw;have z1:=XS.cell hSw 1 rfl;clear hSw;go_simp;first|done|with_reducible rfl)
   refine wpAnyH_ready (rs:=[7]) (by kernel_rfl) (by simp) ?_
   refine AllReadyH.cons rfl (fun K hK=>?_) AllReadyH.nil
   rw[if_pos (by rfl)]
   go_simp
   refine hK.out _ _ ?_ (fun hHeld=>?_)
   ·first|exact XS.alloc hHeld _|exact (XS.alloc HX0.out _).drew
   clear hK K
   refine wpAnyH_ready (rs:=[8]) (by kernel_rfl) (by simp) ?_
   refine AllReadyH.cons rfl (fun K hK=>?_) AllReadyH.nil
   rw[if_pos (by rfl)]
   go_simp
   go_at_call 100
   refine (y3p W0.heap.size g M (some ⟨x0.heap.size,0,none⟩) 1 1 [(n:Int)] (by omega) HZ2.out (by omega) _ (by first|exact (HT0.out.alloc _).drew|exact HT0.out.drew.alloc _|exact HT0.out.drew) (by first|exact y3c (zs:=[(n:Int)]) (G:=x0.heap.size) (by first|rfl|simp) rfl HWF2.out|exact y3l (zs:=[(n:Int)]) (G:=x0.heap.size) (by first|rfl|simp) rfl HWF2.out)).mono ?_
   rintro r x1 ⟨rfl,hT,hF⟩
   have hF2:TwFr W0.heap.size g x0 x1:=(TwFr.low HT0.out.bsz (by first|exact ((Below.refl _ _).alloc (Nat.le_refl _) _).drew|exact (Below.refl _ _).drew.alloc (by simp) _|exact (Below.refl _ _).drew)).trans hF
   try go_simp
   refine hK.out _ _ ?_ (fun hHeld=>?_)
   ·exact XS.tw HX0.out hF2 Bq.out (by decide)
   clear hK K
   try simp only[Act.put,List.getElem_toArray,List.getElem_cons_zero,List.getElem_cons_succ,List.setIfInBounds_toArray,List.set_cons_zero,List.set_cons_succ]
   refine wpAnyH_done (by kernel_rfl) ?_ _
   have HT1:=hide hT
   have HB1:=hide (HB0.out.trans hF2.bel)
   have HX1:=hide hHeld
   have Aa:=hide hF2
   clear hT hF hF2 hHeld HT0 HB0 HX0
   generalize M++[(n:Int)].flatMap varZ=M2 at HT1 hl2 Ah
   have h1:=HX1.out.cell 1 rfl
   go_wp2_with fail
   clear h1 Aa
   go_loopw [54] (fun x wr=>∃ (j:Nat),x=.int .i64 (j:Int)∧j≤n∧Tw W0.heap.size g (M2++(es.take j).flatMap evtB) wr∧XS bh #[.slice pa pn pc,.slice oa n cap,.slice so sn sc,.slice go gn gc,.slice qa qn qc] 45 wr∧Below W0.heap.size W0 wr) (fun x _=>n - (intOf x).toNat)
   case atStart=>exact⟨0,rfl,Nat.zero_le _,by simpa using HT1.out,HX1.out,HB1.out⟩
   case round =>
    obtain⟨j,rfl,hj,hT,hX,hB⟩:=hrel
    have HT:=hide hT
    have HX:=hide hX
    have HB:=hide hB
    clear hT hX hB HT1 HX1 HB1
    have hml:=HM3.out M2 j hl2
    by_cases hlt:j<n
    ·have j0:(j:Int)<(n:Int):=by omega
     obtain⟨x,bx,qx,xa,xc,ya,yc,hx,hidx,hev0⟩:=Ew.out.e.get Tryz.underlying29 z2t j hlt
     have hev:=hev0.below HB.out
     obtain⟨c0,c1,c2,c3,c4,c5,c6,c7,c8⟩:=hev.cs
     have Ce:=hide (show M2++(es.take (j+1)).flatMap evtB=(M2++(es.take j).flatMap evtB)++evtB x by rw[y3s hx,List.append_assoc])
     have hok:=HEI.out x (List.mem_of_getElem? hx)
     have htx:=(zhb hok).text
     obtain⟨Wa,hWa⟩:∃ Wa,wr.alloc (.cells (zk x.id x.kind x.sender x.user x.member x.depth (.slice xa x.levels.length xc) (.slice ya x.prev.length yc) x.text) 62)=Wa:=⟨_,rfl⟩
     have hba:Below wr.heap.size wr Wa:=by rw[← hWa];exact (Below.refl _ _).alloc (Nat.le_refl _) _
     have hEa:EB Wa wr.heap.size x.id x.kind x.sender x.user x.member x.depth (.slice xa x.levels.length xc) (.slice ya x.prev.length yc) x.text:=by rw[← hWa];exact EB.new _ _ _ _ _ _ _ _ _ _
     have DC:=hide hWa
     have Ev:=hide (HT.out.on hba)
     have HXA:=hide (HX.out.on hba)
     have Bh:=hide (HB.out.trans (hba.mono HB.out.size))
     obtain⟨a0,a1,a2,a3,a4,a5,a6,a7,a8⟩:=hEa.ev
     have Gb:=hide (y4r W0 g (M2++(es.take j).flatMap evtB) x.id x.kind x.sender x.user x.member x.depth xa x.levels.length xc x.text ya x.prev.length yc x.levels x.prev hok (by omega) (by omega) Wa Ev.out Bh.out hev0.lev hev0.prv)
     clear hx hev hev0 hba hEa hWa hok htx HT HX HB
     go_upto_region 12 with fail
     rw[DC.out]
     clear DC c0 c1 c2 c3 c4 c5 c6 c7 c8 hidx
     go_wp2_with (go_at_call 102;refine Gb.out.mono ?_;rintro r w2 ⟨rfl,hT2,hF2⟩)
     have HT2:=hide hT2
     have HX2:=hide (HXA.out.tw hF2 HNH.out (by decide))
     have HB2:=hide (Bh.out.trans hF2.bel)
     clear hT2 hF2 Ev HXA Bh Gb
     go_roundw
     case rel=>exact⟨j+1,by go_num,by omega,by rw[Ce.out];exact HT2.out,HX2.out,HB2.out⟩
     case measure=>simp[intOf];omega
    ·have j0:¬ ((j:Int)<(n:Int)):=by omega
     have htk:es.take j=es:=List.take_of_length_le (by rw[CS.out];omega)
     rw[htk] at HT hml
     generalize M2++es.flatMap evtB=M3 at HT hml Ah
     have h2:=HX.out.cell 4 rfl
     go_wp2_with fail
     clear h2
     go_loopw [65] (fun x wr=>∃ (j:Nat),x=.int .i64 (j:Int)∧j≤qn∧Tw W0.heap.size g (M3++(os.take j).flatMap outB) wr∧XS bh #[.slice pa pn pc,.slice oa n cap,.slice so sn sc,.slice go gn gc,.slice qa qn qc] 45 wr∧Below W0.heap.size W0 wr) (fun x _=>qn - (intOf x).toNat)
     case atStart=>exact⟨0,rfl,Nat.zero_le _,by simpa using HT.out,HX.out,HB.out⟩
     case round =>
      obtain⟨j,rfl,hj,hT,hX,hB⟩:=hrel
      clear HT HX HB
      have HT:=hide hT
      have HX:=hide hX
      have HB:=hide hB
      clear hT hX hB
      have hml5:=HM5.out M3 j hml
      by_cases hlt:j<qn
      ·have j0:(j:Int)<(qn:Int):=by omega
       obtain⟨x,xa,xc,bx,qx,hx,hidx,hbx,c0,c1,c2,hit⟩:=(Ew.out.below HB.out).o.get Tryz.underlying43 y0p j hlt
       have Ce:=hide (show M3++(os.take (j+1)).flatMap outB=(M3++(os.take j).flatMap outB)++[x.a].flatMap varZ by rw[y3s hx,List.append_assoc];rfl)
       have hin:=HOI.out x (List.mem_of_getElem? hx)
       have HZ3:=hide (show ∀ z∈[x.a],0≤z∧z≤1000000000 by intro z hz;simp at hz;subst hz;omega)
       have HWF3:=hide (y3i (z:=x.a) (by omega) (by omega))
       have Ak:=hide (XS.new wr #[.int .i64 x.d,.int .i64 x.a,.slice xa x.ids.length xc] 90)
       have HV0:=hide (HT.out.alloc (.cells #[.int .i64 x.d,.int .i64 x.a,.slice xa x.ids.length xc] 90))
       have HW0:=hide (HB.out.alloc HB.out.size (.cells #[.int .i64 x.d,.int .i64 x.a,.slice xa x.ids.length xc] 90))
       have HH0:=hide (HX.out.alloc (.cells #[.int .i64 x.d,.int .i64 x.a,.slice xa x.ids.length xc] 90))
       have hne:wr.heap.size≠g:=by have:=HT.out.glt;omega
       clear hx hit
       go_upto_region 17 with fail
       generalize wr.alloc (.cells #[.int .i64 x.d,.int .i64 x.a,.slice xa x.ids.length xc] 90)=x0 at Ak HV0 HW0 HH0 ⊢
       generalize wr.heap.size=be at Ak hne ⊢
       clear HT HX HB c0 c1 c2 hidx Bq
       have Bq:=hide hne
       have HT0:=HV0
       have HX0:=Ak
       have HB0:=HW0
       clear HV0 Ak HW0
       refine wp_region_held_drew (S:=XS be #[.int .i64 x.d,.int .i64 x.a,.slice xa x.ids.length xc] 90) (by kernel_rfl) HX0.out.drew (fun hHeld=>?_)
       refine tkW 0 rfl (v:=?_) (Or.inl ⟨by rfl,?_⟩) ?_;rotate_left
       ·(intro wz hSw;have z1:=XS.cell hSw 1 rfl;clear hSw;go_simp;first|done|with_reducible rfl)
       refine tkW 1 rfl (v:=?_) (Or.inl ⟨by rfl,?_⟩) ?_;rotate_left
       ·(intro wz hSw;have z1:=XS.cell hSw 1 rfl;clear hSw;go_simp;first|done|with_reducible rfl)
       refine tkW 2 rfl (v:=?_) (Or.inl ⟨by rfl,?_⟩) ?_;rotate_left
       ·(intro wz hSw;have z1:=XS.cell hSw 1 rfl;clear hSw;go_simp;first|done|with_reducible rfl)
       refine tkW 3 rfl (v:=?_) (Or.inl ⟨by rfl,?_⟩) ?_;rotate_left
       ·(intro wz hSw;have z1:=XS.cell hSw 1 rfl;clear hSw;go_simp;first|done|with_reducible rfl)
       refine tkW 4 rfl (v:=?_) (Or.inl ⟨by rfl,?_⟩) ?_;rotate_left
       ·(intro wz hSw;have z1:=XS.cell hSw 1 rfl;clear hSw;go_simp;first|done|with_reducible rfl)
       refine wpAnyH_ready (rs:=[5]) (by kernel_rfl) (by simp) ?_
       refine AllReadyH.cons rfl (fun K hK=>?_) AllReadyH.nil
       rw[if_pos (by rfl)]
       go_simp
       refine hK.out _ _ ?_ (fun hHeld=>?_)
       ·first|exact XS.alloc hHeld _|exact (XS.alloc HX0.out _).drew
       clear hK K
       refine wpAnyH_ready (rs:=[6]) (by kernel_rfl) (by simp) ?_
       refine AllReadyH.cons rfl (fun K hK=>?_) AllReadyH.nil
       rw[if_pos (by rfl)]
       go_simp
       go_at_call 100
       refine (y3p W0.heap.size g (M3++(os.take j).flatMap outB) (some ⟨x0.heap.size,0,none⟩) 1 1 [x.a] (by omega) HZ3.out (by omega) _ (by first|exact (HT0.out.alloc _).drew|exact HT0.out.drew.alloc _|exact HT0.out.drew) (by first|exact y3c (zs:=[x.a]) (G:=x0.heap.size) (by first|rfl|simp) rfl HWF3.out|exact y3l (zs:=[x.a]) (G:=x0.heap.size) (by first|rfl|simp) rfl HWF3.out)).mono ?_
       rintro r x1 ⟨rfl,hT,hF⟩
       have hF2:TwFr W0.heap.size g x0 x1:=(TwFr.low HT0.out.bsz (by first|exact ((Below.refl _ _).alloc (Nat.le_refl _) _).drew|exact (Below.refl _ _).drew.alloc (by simp) _|exact (Below.refl _ _).drew)).trans hF
       try go_simp
       refine hK.out _ _ ?_ (fun hHeld=>?_)
       ·exact XS.tw HX0.out hF2 Bq.out (by decide)
       clear hK K
       try simp only[Act.put,List.getElem_toArray,List.getElem_cons_zero,List.getElem_cons_succ,List.setIfInBounds_toArray,List.set_cons_zero,List.set_cons_succ]
       refine wpAnyH_done (by kernel_rfl) ?_ _
       have HT1:=hide hT
       have HB1:=hide (HB0.out.trans hF2.bel)
       have HX1:=hide hHeld
       have Aa:=hide hF2
       clear hT hF hF2 hHeld HT0 HB0 HX0
       have L8:=hide (HH0.out.tw Aa.out HNH.out (by decide))
       go_wp2_with fail
       go_roundw
       case rel=>exact⟨j+1,by go_num,by omega,by rw[Ce.out];exact HT1.out,L8.out,HB1.out⟩
       case measure=>simp[intOf];omega
      ·have j0:¬ ((j:Int)<(qn:Int)):=by omega
       have htk:os.take j=os:=List.take_of_length_le (by rw[HOL.out];omega)
       rw[htk] at HT
       go_wp2_with fail
       refine bodyPost_end (results_none rfl _ _ _) rfl ?_
       exact⟨rfl,by rw[Ah.out];exact HT.out,HB.out⟩

set_option maxRecDepth 100000 in
set_option maxHeartbeats 4000000 in
theorem y4i (pa:Option Addr) (pn pc:Nat) (oa:Option Addr) (n cap:Nat) (so:Option Addr) (sn sc:Nat) (go:Option Addr) (gn gc:Nat) (qa:Option Addr) (qn qc:Nat) (ps:List SesV) (es:List EvV) (ss:List (List (Int × Int))) (gs:List Bool) (os:List OutX) (hfe:FineE es) (hwd:y0h ps es ss os) (hob:∀ x∈os,x.ids.length≤1048576) (w:World) (h:HallAt w pa pn pc oa n cap so sn sc go gn gc qa qn qc ps es ss gs os) :
  Calls Tryz.prog 18 #[y0g pa pn pc oa n cap so sn sc go gn gc qa qn qc] w fun e w'=>e=.returned (etV (y3d ps es ss gs os))∧Below w.heap.size w w':=by
 obtain⟨W0,hW0,hb0,hA0⟩:=bxN w #[.slice pa pn pc,.slice oa n cap,.slice so sn sc,.slice go gn gc,.slice qa qn qc] 45
 have Ab:=hide (y15 pa pn pc oa n cap so sn sc go gn gc qa qn qc ps es ss gs os hfe hwd hob W0 (h.below hb0))
 have HAT:=hide (h.below hb0)
 have HA:=hide (fun (W:World) (hb:Below W0.heap.size W0 W)=>(hb.block _ (ze hA0)).trans hA0)
 have HW0:=hide hW0
 have HB0:=hide hb0
 have r0:=zb hA0 0 rfl
 have r1:=zb hA0 1 rfl
 have r2:=zb hA0 2 rfl
 have r3:=zb hA0 3 rfl
 have r4:=zb hA0 4 rfl
 clear h hfe hwd hob hb0 hA0 hW0
 cases hok:y05 ps es ss gs os with
 | false =>
  rw[hok] at Ab
  have HF:=hide (show y3d ps es ss gs os=none by unfold y3d;rw[if_neg (by rw[hok];simp)])
  clear hok
  go_enter Tryz.func18,Tryz.ntmps18
  go_upto_region 1 with fail
  rw[HW0.out]
  clear HW0
  go_wp2_with (go_at_call 15;(refine Ab.out.mono ?_);rintro r w1 ⟨rfl,hb1⟩)
  go_ret2
  exact⟨by rw[HF.out];rfl,HB0.out.trans (hb1.mono HB0.out.size)⟩
 | true =>
  rw[hok] at Ab
  have HWR:=hide (fun (W1:World) (hb1:Below W0.heap.size W0 W1) (g:Nat) (w:World) (hT:Tw W1.heap.size g [] w) (hb:Below W1.heap.size W1 w)=>y5k W1 g pa pn pc oa n cap so sn sc go gn gc qa qn qc ps es ss gs os hok (HAT.out.below hb1) w hT hb)
  have EP:=hide (show y3d ps es ss gs os=if (y3n ps es os).length≤20000 then some (y3n ps es os) else none by unfold y3d;rw[hok];simp)
  generalize y3n ps es os=L at HWR EP
  clear hok
  go_enter Tryz.func18,Tryz.ntmps18
  go_upto_region 1 with fail
  rw[HW0.out]
  clear HW0
  go_upto_region 3 with (go_at_call 15;(refine Ab.out.mono ?_);rintro r w1 ⟨rfl,hb1⟩)
  have HB1:=hide hb1
  clear hb1 r0 r1 r2 r3 r4 Ab
  have HT2:=hide (Tw.new w1)
  have HB2:=hide ((Below.refl w1.heap.size w1).alloc (Nat.le_refl _) (.cells #[.slice none 0 0] 104))
  have hA2:=HA.out _ (HB1.out.trans (HB2.out.mono HB1.out.size))
  have r0:=zb hA2 0 rfl
  have r1:=zb hA2 1 rfl
  have r2:=zb hA2 2 rfl
  have r3:=zb hA2 3 rfl
  have r4:=zb hA2 4 rfl
  clear hA2
  go_upto_region 4 with fail
  generalize w1.alloc (.cells #[.slice none 0 0] 104)=x2 at HT2 HB2 r0 r1 r2 r3 r4 ⊢
  go_upto_region 5 with (go_at_call 51;(refine (HWR.out w1 HB1.out _ x2 HT2.out HB2.out).mono ?_);rintro r x3 ⟨rfl,hT3,hb3⟩)
  have HT3:=hide hT3
  have HB3:=hide (HB1.out.trans (hb3.mono HB1.out.size))
  clear hT3 hb3 r0 r1 r2 r3 r4
  by_cases hl:L.length≤20000
  ·have q:¬ ((20000:Int)<(L.length:Int)):=by omega
   have HF:=hide (show y3d ps es ss gs os=some L by rw[EP.out,if_pos hl])
   clear hl
   go_wp2_with (go_at_call 52;(refine (y46 _ _ L _ HT3.out).mono ?_);rintro r x4 ⟨rfl,rfl⟩)
   go_ret2
   exact⟨by rw[HF.out];rfl,HB0.out.trans (HB3.out.mono HB0.out.size)⟩
  ·have q:(20000:Int)<(L.length:Int):=by omega
   have HF:=hide (show y3d ps es ss gs os=none by rw[EP.out,if_neg hl])
   clear hl
   go_wp2_with (go_at_call 52;(refine (y46 _ _ L _ HT3.out).mono ?_);rintro r x4 ⟨rfl,rfl⟩)
   go_ret2
   exact⟨by rw[HF.out];rfl,HB0.out.trans (HB3.out.mono HB0.out.size)⟩

end Go.Proofs.YtfeebdcmlnapiaaGreat
