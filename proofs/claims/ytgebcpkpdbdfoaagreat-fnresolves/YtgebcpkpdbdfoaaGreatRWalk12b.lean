/-
  Walks.
-/
import Derived.Test.YtgebcpkpdbdfoaaGreatRWalk12a
import Derived.Test.YtgebcpkpdbdfoaaGreatRWalk11k
import Derived.Test.YtgebcpkpdbdfoaaGreatRWalk11i
set_option linter.unusedVariables false
set_option linter.unusedSimpArgs false
namespace Go.Proofs.YtgebcpkpdbdfoaaGreat
open Go.RowKit P5 P9 P12 P14 P15 K

theorem zmi:(Tryz.prog.info? 28).map (fun i=>(i.zero,i.size,i.bytes))=some (some (.slice none 0 0),1,24):=by kernel_rfl

structure OutS (B:Nat) (w wr:World) (va:Value) (ls:List St):Prop where
 rows:∃ vs:List Value,vs.length=ls.length∧wr.ownsRow B 28 1 va ls.length vs∧∀ (i:Nat) (v:Value) (l:St),vs[i]? = some v→ls[i]? = some l→∃ xa xc,v=.slice xa l.length xc∧ItemsAt w xa l.length xc l
 bel:Below w.heap.size w wr
 base:w.heap.size≤B
 up:B≤wr.heap.size

theorem OutS.new {w W0:World} (hb:Below w.heap.size w W0):OutS W0.heap.size w (W0.alloc (.cells #[] 28)) (.slice (some ⟨W0.heap.size,0,none⟩) 0 0) [] :=
 ⟨⟨[],rfl,World.ownsRow_made (w:=W0) #[] 0 (Nat.le_refl _) (by decide) rfl,fun i v l h=>by simp at h⟩,hb.trans (((Below.refl W0.heap.size W0).alloc (Nat.le_refl _) _).mono hb.size),hb.size,by simp⟩

theorem OutS.below {B:Nat} {w wr w2:World} {va:Value} {ls:List St} (h:OutS B w wr va ls) (hb:Below wr.heap.size wr w2):OutS B w w2 va ls:=by
 obtain⟨⟨vs,h1,h2,h3⟩,h4,h5,h6⟩:=h
 exact⟨⟨vs,h1,own_below h2 hb,h3⟩,h4.trans (hb.mono h4.size),h5,Nat.le_trans h6 hb.size⟩

theorem OutS.form {B:Nat} {w wr:World} {va:Value} {ls:List St} (h:OutS B w wr va ls):∃ oa cap,va=.slice oa ls.length cap:=by
 obtain⟨⟨vs,_,h2,_⟩,_⟩:=h
 exact zb h2

theorem zeo {W0:World} {ops:Array Oper} {rest:List Oper} {o:Oper} {a:Act} {Q:Exit→Act→World→Prop} (hgd:o.guard=none) (s x:Operand)
  (ho:o.op=.call { callee:=.builtin .append,args:=#[s,x],argTypes:=#[25,25] })
  {B:Nat} {w:World} {va:Value} {ls:List St} (h:OutS B w W0 va ls) {l:St} {xa:Option Addr} {xc:Nat} (hi:ItemsAt w xa l.length xc l)
  (hs:a.eval s=va) (hx:a.eval x=.slice (some ⟨W0.heap.size,0,none⟩) 1 1) (hl:ls.length+1≤10000000)
  (hK:∀ va' w',OutS B w w' va' (ls++[l])→Below B W0 w'→wpList Tryz.prog ops Q rest (a.put o.dst va') w'):wpList Tryz.prog ops Q (o::rest) a (W0.alloc (.cells #[.slice xa l.length xc] 28)):=by
 obtain⟨⟨vs,h1,h2,h3⟩,h4,h5,h6⟩:=h
 refine z1s (cs:=#[.slice xa l.length xc]) hgd s x 25 ho (by decide) Tryz.underlying25 zmi rfl hs h2 hx rfl (by simp[Value.oneCell']) h6 (by unfold maxLen;omega) (by omega) ?_
 intro va' w' hown hg hloc
 have hbB:Below B W0 w':=((Below.refl B W0).alloc h6 _).grown hg (by simp;omega) (fun q hq=>(h2.lt q hq).1)
 refine hK va' w' ⟨⟨vs++[.slice xa l.length xc],by simp[h1],by rw[z05];exact hown,fun i v' l' hv' hl'=>?_⟩,h4.trans (hbB.mono h5),h5,Nat.le_trans h6 hbB.size⟩ hbB
 rcases Nat.lt_or_ge i ls.length with hi'|hi'
 ·rw[List.getElem?_append_left (by omega)] at hv' hl'
  exact h3 i v' l' hv' hl'
 ·have hie:i=ls.length:=by
   have:=(List.getElem?_eq_some_iff.1 hl').1
   simp at this
   omega
  subst hie
  rw[List.getElem?_append_right (Nat.le_refl _)] at hl'
  rw[← h1,List.getElem?_append_right (Nat.le_refl _)] at hv'
  simp at hl' hv'
  subst hl'
  subst hv'
  exact⟨xa,xc,rfl,hi⟩

theorem OutS.view {B:Nat} {w wr:World} {va:Value} {ls:List St} (h:OutS B w wr va ls):∃ oa cap,va=.slice oa ls.length cap∧StsAt wr oa ls.length cap ls:=by
 obtain⟨⟨vs,h1,h2,h3⟩,h4,h5,h6⟩:=h
 rcases h2.2 with ⟨rfl,hn⟩|⟨g,cap,cur,rfl,hb,hg,hnc,hcm,hcs,htake⟩
 ·have hls:ls=[]:=List.eq_nil_of_length_eq_zero hn
  subst hls
  exact⟨none,0,rfl,zi9 wr⟩
 ·refine⟨some ⟨g,0,none⟩,cap,rfl,⟨rfl,hnc,hcm,fun i l hl=>?_⟩⟩
  have hi:i<ls.length:=(List.getElem?_eq_some_iff.1 hl).1
  obtain⟨v,hv⟩:∃ v,vs[i]? = some v:=⟨_,List.getElem?_eq_getElem (by omega)⟩
  obtain⟨xa,xc,rfl,hia⟩:=h3 i v l hv hl
  refine⟨g,0,xa,xc,rfl,?_,hia.below h4⟩
  rw[Nat.zero_add,h2.cellAt i (by omega)]
  exact hv

def zbf (es:List EvV) (sts:List St) (z:Int):Option St:=if hasI es z<0 then none else sts[(hasI es z).toNat]?

def z4n (es:List EvV) (sts:List St):List Int→List St→Option (List St)
 | [],acc=>some acc
 | z::r,acc=>match zbf es sts z with|none=>none|some s=>z4n es sts r (acc++[s])

def z2r (es:List EvV) (sts:List St) (prev:List Int):Option St:=(z4n es sts prev []).map (P15.resolve es)

theorem zkc {es:List EvV} {sts acc:List St} {zs:List Int} {j:Nat} {z:Int} (h:zs[j]? = some z):z4n es sts (zs.drop j) acc=match zbf es sts z with|none=>none|some s=>z4n es sts (zs.drop (j+1)) (acc++[s]):=by
 obtain⟨hj,rfl⟩:=List.getElem?_eq_some_iff.1 h
 rw[List.drop_eq_getElem_cons hj]
 rfl

theorem zlr (es:List EvV) (z:Int):-1≤hasI es z:=by
 cases h:zi es z with
 | none=>rw[zd1 h];decide
 | some e =>
  obtain⟨k,h1,_⟩:=z9r h
  omega

def zls (w:World) (o:Option St) (r:Ending) (w':World):Prop:=∃ v,r=.returned (.tuple #[v,.bool o.isSome])∧w'.ownsRow w.heap.size 36 2 v (o.getD []).length ((o.getD []).flatMap z06)∧Below w.heap.size w w'

set_option maxRecDepth 100000 in
set_option maxHeartbeats 8000000 in
theorem z9i (oa:Option Addr) (n cap:Nat) (es:List EvV) (so:Option Addr) (sn sc:Nat) (sts:List St) (vg:Value) (oc:Option Addr) (p cc:Nat) (prev:List Int) (hn20:n≤1048576) (hp16:p≤65536) (hfine:FineE es) (hsn:∀ s∈sts,s.length≤1048576) (hwf:∀ s∈sts,∀ x∈s,(Lit.int .i64 x.2).wf=true) (w:World) (hat:EvsAt w oa n cap es) (hst:StsAt w so sn sc sts) (hpt:IntsAt w oc p cc prev) :
  Calls Tryz.prog 87 #[rmv (.slice oa n cap) (.slice so sn sc) vg,.slice oc p cc] w (zls w (z2r es sts prev)):=by
 have HN:=hide hat.len
 have Kv:=hide hst.len
 have hsmx:=Nat.le_trans hst.room hst.most
 unfold maxLen at hsmx
 have EM:=hide hpt.len
 have Gt:=hide hpt
 have HAT:=hide hat
 have HST:=hide hst
 obtain⟨W0,hW0⟩:∃ W0,w.alloc (.cells #[.slice oa n cap,.slice so sn sc,vg] 41)=W0:=⟨_,rfl⟩
 have hb0:Below w.heap.size w W0:=by rw[← hW0];exact (Below.refl w.heap.size w).alloc (Nat.le_refl _) _
 have hR0:W0.heap[w.heap.size]? = some (.cells #[.slice oa n cap,.slice so sn sc,vg] 41 (0,0)):=by rw[← hW0];exact heap_alloc_new _ _
 have hs0:W0.heap.size=w.heap.size+1:=by rw[← hW0];simp
 have Al:=hide hR0
 have HB0:=hide hb0
 have HW0:=hide hW0
 have AO:=hide (show OutS W0.heap.size w (W0.alloc (.cells #[] 28)) (.slice (some ⟨w.heap.size+1,0,none⟩) 0 0) [] from by have h:=OutS.new hb0;rw[hs0] at h ⊢;exact h)
 have BN:=hide (show Below W0.heap.size W0 (W0.alloc (.cells #[] 28)) from (Below.refl _ _).alloc (Nat.le_refl _) _)
 have HH:=hide (fun (z:Int) w1 (h:EvsAt w1 oa n cap es)=>z90 oa n cap es (.slice so sn sc) vg z w1 h)
 obtain⟨D,hD⟩:∃ D,z4n es sts prev []=D:=⟨_,rfl⟩
 have HD:=hide hD
 have Cm:=hide (show z2r es sts prev=D.map (P15.resolve es) by unfold z2r;rw[hD])
 clear hat hR0 hW0 hb0 hpt hD hst
 go_enter Tryz.func87,Tryz.ntmps87
 go_wp2_with fail
 rw[HW0.out]
 go_loopw [6,7] (fun v i wr=>∃ (j:Nat) (oo:Option Addr) (m co:Nat) (acc:List St),i=.int .i64 (j:Int)∧v=.slice oo m co∧j≤p∧acc.length≤j∧(∀ s∈acc,s∈sts)∧z4n es sts (prev.drop j) acc=D∧OutS W0.heap.size w wr (.slice oo m co) acc∧Below W0.heap.size W0 wr) (fun _ i _=>p - (intOf i).toNat)
 case atStart=>exact⟨0,_,_,_,[],rfl,rfl,Nat.zero_le _,Nat.le_refl _,fun s hs=>by simp at hs,HD.out,AO.out,BN.out⟩
 case round =>
  obtain⟨j,oo,m,co,acc,rfl,rfl,hj,hal,hmem,hrest,hS,hbel⟩:=hrel
  have HS:=hide hS
  have hm:m=acc.length:=by
   obtain⟨_,_,e⟩:=hS.form
   injection e
  subst hm
  have hsz:=hbel.size
  have hRr:=(hbel.block w.heap.size (zf Al.out)).trans Al.out
  have r0:=za hRr 0 rfl
  have r1:=za hRr 1 rfl
  have r2:=za hRr 2 rfl
  have hlr:=zf hRr
  have hbW:=hS.bel
  have Af:=hide (HAT.out.below hbW)
  have G6:=hide hmem
  clear hRr hS AO HD hmem
  by_cases hlt:j<p
  ·have j0:(j:Int)<(p:Int):=by omega
   obtain⟨z,b,q,hz,hidx,hb,c0w,hwz⟩:=Gt.out.get Tryz.underlying32 z0m j hlt
   have c0:=(hbW.cell hb).trans c0w
   have hbr:=Nat.lt_of_lt_of_le hb hbW.size
   have BM:=hide (HH.out z)
   rw[zkc hz] at hrest
   have A9:=hide hrest
   have hge:=zlr es z
   have G7:=hide (show zbf es sts z=if hasI es z<0 then none else sts[(hasI es z).toNat]? from rfl)
   clear hrest hz c0w
   generalize hasI es z=hk at BM G7 hge
   by_cases hneg:hk<0
   ·have HE:=hide (show D=none by rw[← A9.out,G7.out,if_pos hneg])
    clear A9
    go_wp2_with fail
    refine zy (F:=Bw wr) (by kernel_rfl) (by kernel_rfl) (Below.refl _ _).drew ?_
    have hne:Nonempty (InW (Bw wr)):=⟨⟨_,Below.refl _ _⟩⟩
    have k0:∀ m:InW (Bw wr),m.w.cell? ⟨w.heap.size,0,none⟩=some (.slice oa n cap):=fun m=>(m.h.cell hlr).trans r0
    have k1:∀ m:InW (Bw wr),m.w.cell? ⟨w.heap.size,1,none⟩=some (.slice so sn sc):=fun m=>(m.h.cell hlr).trans r1
    have k2:∀ m:InW (Bw wr),m.w.cell? ⟨w.heap.size,2,none⟩=some vg:=fun m=>(m.h.cell hlr).trans r2
    have k3:∀ m:InW (Bw wr),m.w.cell? ⟨b,q,none⟩=some (.int .i64 z):=fun m=>(m.h.cell hbr).trans c0
    repeat (go_big_quiet_step (first
     | (go_at_call 126;(with_reducible refine (BM.out _ (Af.out.below (InW.h (F:=Bw wr) _))).mono ?_);rintro e' w2 ⟨rfl,hb2⟩;exact⟨rfl,⟨w2,Below.trans (InW.h _) (hb2.mono (Below.size (InW.h (F:=Bw wr) ‹_›)))⟩,rfl⟩)))
    refine wpQuiet_nil ?_
    intro _ hw'
    obtain⟨nq,hw''⟩:=hw'
    subst hw''
    have hnq:=nq.h
    generalize nq.w=w3 at hnq ⊢
    have AR:=hide (HS.out.below hnq)
    have r03:=(hnq.cell hlr).trans r0
    have r13:=(hnq.cell hlr).trans r1
    have hlr3:=Nat.lt_of_lt_of_le hlr hnq.size
    clear hne k0 k1 k2 k3
    have Ea:=hide (show (w3.alloc (.cells #[] 36)).ownsRow w3.heap.size 36 2 (.slice (some ⟨w3.heap.size,0,none⟩) 0 0) 0 [] from World.ownsRow_made (w:=w3) #[] 0 (Nat.le_refl _) (by decide) rfl)
    have HB3:=hide (hbW.trans (hnq.mono hbW.size))
    go_wp2_with fail
    refine bodyPost_ret (v:=.tuple #[.slice (some ⟨w3.heap.size,0,none⟩) 0 0,.bool false]) (by simp[results,Tryz.results87,go_sem]) rfl ?_
    exact⟨_,by rw[Cm.out,HE.out];rfl,by rw[Cm.out,HE.out];exact zq Ea.out HB3.out.size,HB3.out.trans (((Below.refl w3.heap.size w3).alloc (Nat.le_refl _) _).mono HB3.out.size)⟩
   ·obtain⟨kn,rfl⟩:∃ kn:Nat,hk=(kn:Int):=⟨hk.toNat,by omega⟩
    have hk0:¬ ((kn:Int)<0):=hneg
    rw[if_neg hneg] at G7
    by_cases hks:kn<sn
    ·have hki:¬ ((sn:Int)≤(kn:Int)):=by omega
     obtain⟨s,b2,q2,xa,xc,hs,hidx2,c2w,hiaw⟩:=HST.out.get Tryz.underlying25 z3y kn hks
     have HE:=hide (show z4n es sts (prev.drop (j+1)) (acc++[s])=D by rw[← A9.out,G7.out];show _=(match sts[kn]? with|none=>none|some s=>z4n es sts (prev.drop (j+1)) (acc++[s]));rw[hs])
     have hsm:=List.mem_of_getElem? hs
     have hb2:=z0d c2w
     clear A9 hs G7
     go_wp2_with fail
     refine zy (F:=Bw wr) (by kernel_rfl) (by kernel_rfl) (Below.refl _ _).drew ?_
     have hne:Nonempty (InW (Bw wr)):=⟨⟨_,Below.refl _ _⟩⟩
     have k0:∀ m:InW (Bw wr),m.w.cell? ⟨w.heap.size,0,none⟩=some (.slice oa n cap):=fun m=>(m.h.cell hlr).trans r0
     have k1:∀ m:InW (Bw wr),m.w.cell? ⟨w.heap.size,1,none⟩=some (.slice so sn sc):=fun m=>(m.h.cell hlr).trans r1
     have k2:∀ m:InW (Bw wr),m.w.cell? ⟨w.heap.size,2,none⟩=some vg:=fun m=>(m.h.cell hlr).trans r2
     have k3:∀ m:InW (Bw wr),m.w.cell? ⟨b,q,none⟩=some (.int .i64 z):=fun m=>(m.h.cell hbr).trans c0
     repeat (go_big_quiet_step (first
      | (go_at_call 126;(with_reducible refine (BM.out _ (Af.out.below (InW.h (F:=Bw wr) _))).mono ?_);rintro e' w2 ⟨rfl,hb2⟩;exact⟨rfl,⟨w2,Below.trans (InW.h _) (hb2.mono (Below.size (InW.h (F:=Bw wr) ‹_›)))⟩,rfl⟩)))
     refine wpQuiet_nil ?_
     intro _ hw'
     obtain⟨nq,hw''⟩:=hw'
     subst hw''
     have hnq:=nq.h
     generalize nq.w=w3 at hnq ⊢
     have AR:=hide (HS.out.below hnq)
     have r03:=(hnq.cell hlr).trans r0
     have r13:=(hnq.cell hlr).trans r1
     have hlr3:=Nat.lt_of_lt_of_le hlr hnq.size
     clear hne k0 k1 k2 k3
     have c23:=((hbW.trans (hnq.mono hbW.size)).cell hb2).trans c2w
     have hb23:=Nat.lt_of_lt_of_le hb2 (hbW.trans (hnq.mono hbW.size)).size
     have hS3:=AR.out
     have hB3:=hbel.trans (hnq.mono hsz)
     have hal1:acc.length+1≤10000000:=by omega
     go_wp2_with (at_builtin;refine zeo rfl _ _ rfl hS3 hiaw rfl rfl hal1 ?_;intro va w5 hS5 hB5;obtain⟨o5,c5,rfl⟩:=hS5.form)
     have EQ:=hide (show OutS W0.heap.size w w5 (.slice o5 (acc.length+1) c5) (acc++[s]) by have h:=hS5;rw[z05] at h;exact h)
     have CP:=hide (hB3.trans hB5)
     clear hS5 hB5
     go_roundw
     case rel=>exact⟨j+1,_,_,_,acc++[s],by go_num,rfl,by omega,by rw[z05];omega,fun y hy=>by
      rcases List.mem_append.1 hy with hy|hy
      ·exact G6.out y hy
      ·simp at hy;subst hy;exact hsm,HE.out,EQ.out,CP.out⟩
     case measure=>simp[intOf];omega
    ·have hki:(sn:Int)≤(kn:Int):=by omega
     have HE:=hide (show D=none by
      rw[← A9.out,G7.out]
      show (match sts[kn]? with|none=>none|some s=>z4n es sts (prev.drop (j+1)) (acc++[s]))=none
      rw[List.getElem?_eq_none (by rw[Kv.out];omega)])
     clear A9 G7
     go_wp2_with fail
     refine zy (F:=Bw wr) (by kernel_rfl) (by kernel_rfl) (Below.refl _ _).drew ?_
     have hne:Nonempty (InW (Bw wr)):=⟨⟨_,Below.refl _ _⟩⟩
     have k0:∀ m:InW (Bw wr),m.w.cell? ⟨w.heap.size,0,none⟩=some (.slice oa n cap):=fun m=>(m.h.cell hlr).trans r0
     have k1:∀ m:InW (Bw wr),m.w.cell? ⟨w.heap.size,1,none⟩=some (.slice so sn sc):=fun m=>(m.h.cell hlr).trans r1
     have k2:∀ m:InW (Bw wr),m.w.cell? ⟨w.heap.size,2,none⟩=some vg:=fun m=>(m.h.cell hlr).trans r2
     have k3:∀ m:InW (Bw wr),m.w.cell? ⟨b,q,none⟩=some (.int .i64 z):=fun m=>(m.h.cell hbr).trans c0
     repeat (go_big_quiet_step (first
      | (go_at_call 126;(with_reducible refine (BM.out _ (Af.out.below (InW.h (F:=Bw wr) _))).mono ?_);rintro e' w2 ⟨rfl,hb2⟩;exact⟨rfl,⟨w2,Below.trans (InW.h _) (hb2.mono (Below.size (InW.h (F:=Bw wr) ‹_›)))⟩,rfl⟩)))
     refine wpQuiet_nil ?_
     intro _ hw'
     obtain⟨nq,hw''⟩:=hw'
     subst hw''
     have hnq:=nq.h
     generalize nq.w=w3 at hnq ⊢
     have AR:=hide (HS.out.below hnq)
     have r03:=(hnq.cell hlr).trans r0
     have r13:=(hnq.cell hlr).trans r1
     have hlr3:=Nat.lt_of_lt_of_le hlr hnq.size
     clear hne k0 k1 k2 k3
     have Ea:=hide (show (w3.alloc (.cells #[] 36)).ownsRow w3.heap.size 36 2 (.slice (some ⟨w3.heap.size,0,none⟩) 0 0) 0 [] from World.ownsRow_made (w:=w3) #[] 0 (Nat.le_refl _) (by decide) rfl)
     have HB3:=hide (hbW.trans (hnq.mono hbW.size))
     go_wp2_with fail
     refine bodyPost_ret (v:=.tuple #[.slice (some ⟨w3.heap.size,0,none⟩) 0 0,.bool false]) (by simp[results,Tryz.results87,go_sem]) rfl ?_
     exact⟨_,by rw[Cm.out,HE.out];rfl,by rw[Cm.out,HE.out];exact zq Ea.out HB3.out.size,HB3.out.trans (((Below.refl w3.heap.size w3).alloc (Nat.le_refl _) _).mono HB3.out.size)⟩
  ·have hjn:prev.drop j=[]:=List.drop_eq_nil_of_le (by rw[EM.out];omega)
   rw[hjn] at hrest
   have hDA:D=some acc:=hrest.symm
   subst hDA
   obtain⟨_,_,he,hv⟩:=HS.out.view
   cases he
   have Aq:=hide (zbe oa n cap es oo acc.length co acc hn20 (by omega) hfine (fun s hs=>hsn s (G6.out s hs)) (fun s hs=>hwf s (G6.out s hs)) wr Af.out hv)
   clear hrest hjn hv
   go_wp2_with (go_at_call 13;(with_reducible refine Aq.out.mono ?_);rintro r w5 ⟨v5,rfl,ho5,hb5⟩;obtain⟨o5,c5,rfl⟩:=zb ho5)
   have Cj:=hide (zq ho5 hbW.size)
   have CP:=hide (hbW.trans (hb5.mono hbW.size))
   clear ho5 hb5
   refine bodyPost_ret (v:=.tuple #[.slice o5 (P15.resolve es acc).length c5,.bool true]) (by simp[results,Tryz.results87,go_sem]) rfl ?_
   exact⟨_,by rw[Cm.out];rfl,by rw[Cm.out];exact Cj.out,CP.out⟩

end Go.Proofs.YtgebcpkpdbdfoaaGreat

namespace Go.Proofs.YtgebcpkpdbdfoaaGreat
open Go.RowKit P5 P9 P12 P14 P15 K

def z5o (es:List EvV) (id:Int):Bool:=es.any (fun e=>inL e.prev id)

def z4w (es:List EvV):List EvV→List Int→List Int
 | [],L=>L
 | e::r,L=>z4w es r (if z5o es e.id then L else addI L e.id)

def z7h (es:List EvV):List Int:=z4w es es []

theorem zir {es l:List EvV} {L:List Int} {j:Nat} {e:EvV} (h:l[j]? = some e):z4w es (l.drop j) L=z4w es (l.drop (j+1)) (if z5o es e.id then L else addI L e.id):=by
 obtain⟨hj,rfl⟩:=List.getElem?_eq_some_iff.1 h
 rw[List.drop_eq_getElem_cons hj]
 rfl

theorem zhe {es:List EvV} {id:Int} {k:Nat} {e:EvV} (h:es[k]? = some e):z5o (es.take (k+1)) id=(z5o (es.take k) id||inL e.prev id):=by
 unfold z5o
 exact zas h

theorem zep (oa:Option Addr) (n cap:Nat) (zs:List Int) (x:Int) (w:World) (hat:IntsAt w oa n cap zs) :
  Calls Tryz.prog 67 #[.slice oa n cap,.int .i64 x] w fun e w'=>e=.returned (.bool (inL zs x))∧w'=w:=(z4u oa n cap zs x w hat).mono fun _ _ h=>⟨h.1,h.2.symm⟩

set_option maxRecDepth 100000 in
set_option maxHeartbeats 8000000 in
theorem z8j (oa:Option Addr) (n cap:Nat) (es:List EvV) (vs vg:Value) (hn20:n≤1048576) (hidw:∀ e∈es,(Lit.int .i64 e.id).wf=true) (w:World) (hat:EvsAt w oa n cap es) :
  Calls Tryz.prog 88 #[rmv (.slice oa n cap) vs vg] w fun r w'=>z4h w (z7h es) r w'∧∀ z∈z7h es,(Lit.int .i64 z).wf=true:=by
 have HN:=hide hat.len
 have HAT:=hide hat
 obtain⟨W0,hW0⟩:∃ W0,w.alloc (.cells #[.slice oa n cap,vs,vg] 41)=W0:=⟨_,rfl⟩
 have hb0:Below w.heap.size w W0:=by rw[← hW0];exact (Below.refl w.heap.size w).alloc (Nat.le_refl _) _
 have hR0:W0.heap[w.heap.size]? = some (.cells #[.slice oa n cap,vs,vg] 41 (0,0)):=by rw[← hW0];exact heap_alloc_new _ _
 have Al:=hide hR0
 have HB0:=hide hb0
 have HW0:=hide hW0
 have hs0:W0.heap.size=w.heap.size+1:=by rw[← hW0];simp
 have BA:=hide (show OutN W0 (W0.alloc (.cells #[] 3)) (.slice (some ⟨w.heap.size+1,0,none⟩) 0 0) [] from by have h:=OutN.new W0;rw[hs0] at h;exact h)
 have Bq:=hide (fun (oo:Option Addr) (m co:Nat) (L:List Int) (x:Int) w1 (h:IntsAt w1 oo m co L) (hm:m≤1048576)=>zbb oo m co L x hm w1 h)
 obtain⟨R,hR⟩:∃ R,z7h es=R:=⟨_,rfl⟩
 rw[hR]
 have HR:=hide (show z4w es es []=R from hR)
 clear hat hR0 hW0 hb0 hR
 go_enter Tryz.func88,Tryz.ntmps88
 go_wp2_with fail
 rw[HW0.out]
 go_loopw [3,4] (fun v i wr=>∃ (j:Nat) (oo:Option Addr) (m co:Nat) (L:List Int),i=.int .i64 (j:Int)∧v=.slice oo m co∧j≤n∧L.length≤j∧z4w es (es.drop j) L=R∧(∀ z∈L,(Lit.int .i64 z).wf=true)∧wr.ownsRow w.heap.size 3 1 (.slice oo m co) L.length (L.map zu)∧Below W0.heap.size W0 wr) (fun _ i _=>n - (intOf i).toNat)
 case atStart=>exact⟨0,_,_,_,[],rfl,rfl,Nat.zero_le _,Nat.le_refl _,HR.out,fun z hz=>by simp at hz,zq BA.out.own HB0.out.size,BA.out.bel⟩
 case round =>
  obtain⟨j,oo,m,co,L,rfl,rfl,hj,hLj,hrest,hwf,hown,hbel⟩:=hrel
  have hm:m=L.length:=by
   obtain⟨_,_,e⟩:=zb hown
   injection e
  subst hm
  have HO:=hide hown
  have BL:=hide hwf
  have Es:=hide hbel
  obtain⟨wD,rfl⟩:∃ wD,wD=wr:=⟨_,rfl⟩
  have hRr:=(hbel.block w.heap.size (zf Al.out)).trans Al.out
  have DY:=hide hRr
  have hbWD:Below w.heap.size w wD:=HB0.out.trans (hbel.mono HB0.out.size)
  have Et:=hide hbWD
  have Lv:=hide (HAT.out.below hbWD)
  have r0:=za hRr 0 rfl
  have hlr:=zf hRr
  clear hRr hown hwf BA HR hbel
  by_cases hlt:j<n
  ·have j0:(j:Int)<(n:Int):=by omega
   obtain⟨e,b,q,xa,xc,ya,yc,he,hidx,hev⟩:=Lv.out.get Tryz.underlying24 z1p j hlt
   have hwe:=hidw e (List.mem_of_getElem? he)
   obtain⟨c0,c1,c2,c3,c4,c5,c6,c7,c8⟩:=hev.cs
   have hbe:=z0d c0
   rw[zir he] at hrest
   have A9:=hide hrest
   clear hrest he hev c1 c2 c3 c4 c5 c6 c7 c8
   go_wp2_with fail
   go_loopw [5,6] (fun v k wr=>∃ (i:Nat) (nb:Bool),k=.int .i64 (i:Int)∧v=.bool nb∧i≤n∧z5o (es.take i) e.id=nb∧Below wD.heap.size wD wr) (fun _ k _=>n - (intOf k).toNat)
   case atStart=>exact⟨0,false,rfl,rfl,Nat.zero_le _,rfl,Below.refl _ _⟩
   case round =>
    obtain⟨i,nb,rfl,rfl,hi,hnb,hbD⟩:=hrel
    have r0r:=(hbD.cell hlr).trans r0
    have hlrr:=Nat.lt_of_lt_of_le hlr hbD.size
    have c0r:=(hbD.cell hbe).trans c0
    have hber:=Nat.lt_of_lt_of_le hbe hbD.size
    by_cases hlti:i<n
    ·have i0:(i:Int)<(n:Int):=by omega
     obtain⟨e2,b2,q2,xa2,xc2,ya2,yc2,he2,hidx2,hev2⟩:=(Lv.out.below hbD).get Tryz.underlying24 z1p i hlti
     have HT:=hide (zhe (id:=e.id) he2)
     rw[hnb] at HT
     obtain⟨d0,d1,d2,d3,d4,d5,d6,d7,d8⟩:=hev2.cs
     have DD:=hide (fun wx (hb:Below wr.heap.size wr wx)=>zep ya2 e2.prev.length yc2 e2.prev e.id wx (hev2.prv.below hb))
     generalize inL e2.prev e.id=ib at DD HT
     have hb2e:=z0d d7
     clear hev2 he2 d0 d1 d2 d3 d4 d5 d6 d8 hnb
     cases nb
     ·rw[Bool.false_or] at HT
      go_wp2_with fail
      go_quiet (first
       | (go_at_call 67;with_reducible exact Calls.quiet_of_same (DD.out _ (below_drewN (Below.refl _ _) _))))
      have hbQ:Below wr.heap.size wr (wr.drewN nq):=below_drewN (Below.refl _ _) nq
      have Du:=hide (hbD.trans (hbQ.mono hbD.size))
      generalize wr.drewN nq=wQ at Du hbQ ⊢
      go_wp2_with fail
      go_roundw
      case rel=>exact⟨i+1,_,by go_num,rfl,by omega,HT.out,Du.out⟩
      case measure=>simp[intOf];omega
     ·rw[Bool.true_or] at HT
      go_wp2_with fail
      go_quiet (first
       | fail)
      have hbQ:Below wr.heap.size wr (wr.drewN nq):=below_drewN (Below.refl _ _) nq
      have Du:=hide (hbD.trans (hbQ.mono hbD.size))
      generalize wr.drewN nq=wQ at Du hbQ ⊢
      go_wp2_with fail
      go_roundw
      case rel=>exact⟨i+1,_,by go_num,rfl,by omega,HT.out,Du.out⟩
      case measure=>simp[intOf];omega
    ·have hit:es.take i=es:=List.take_of_length_le (by rw[HN.out];omega)
     rw[hit] at hnb
     clear hit
     have HOr:=hide (own_below HO.out hbD)
     have HBr:=hide (Es.out.trans (hbD.mono Es.out.size))
     have hl20:L.length≤1048576:=by omega
     cases nb
     ·have HE:=hide (show z4w es (es.drop (j+1)) (addI L e.id)=R by have h:=A9.out;rw[hnb] at h;exact h)
      have hal:=z8z L e.id
      obtain⟨_,_,heo,hio⟩:=z0b HOr.out BL.out
      cases heo
      have HA:=hide (Bq.out _ _ _ L e.id wr hio hl20)
      clear hnb A9 hio
      go_wp2_with (go_at_call 106;refine HA.out.mono ?_;rintro r w5 ⟨v5,rfl,hown5,hb5⟩;obtain⟨o5,c5,rfl⟩:=zb hown5)
      have Cj:=hide (zq hown5 (Nat.le_trans Et.out.size hbD.size))
      have CP:=hide (HBr.out.trans (hb5.mono HBr.out.size))
      clear hown5 hb5
      go_roundw
      case rel=>exact⟨j+1,_,_,_,addI L e.id,by go_num,rfl,by omega,by omega,HE.out,zgp BL.out hwe,Cj.out,CP.out⟩
      case measure=>simp[intOf];omega
     ·have HE:=hide (show z4w es (es.drop (j+1)) L=R by have h:=A9.out;rw[hnb] at h;exact h)
      clear hnb A9
      go_wp2_with fail
      go_roundw
      case rel=>exact⟨j+1,_,_,_,L,by go_num,rfl,by omega,by omega,HE.out,BL.out,HOr.out,HBr.out⟩
      case measure=>simp[intOf];omega
  ·have hdr:es.drop j=[]:=List.drop_eq_nil_of_le (by rw[HN.out];omega)
   rw[hdr] at hrest
   have HE:=hide (show L=R from hrest)
   clear hrest hdr
   go_wp2_with fail
   go_ret
   exact⟨⟨_,rfl,by rw[← HE.out];exact HO.out,hbWD⟩,by rw[← HE.out];exact BL.out⟩

end Go.Proofs.YtgebcpkpdbdfoaaGreat
