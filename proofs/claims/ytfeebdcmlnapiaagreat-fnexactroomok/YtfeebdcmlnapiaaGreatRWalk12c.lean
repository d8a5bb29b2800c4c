/-
  Walks.
-/
import Derived.Test.YtfeebdcmlnapiaaGreatRWalk12a
import Derived.Test.YtfeebdcmlnapiaaGreatRWalk11k
set_option linter.unusedVariables false
set_option linter.unusedSimpArgs false
namespace Go.Proofs.YtfeebdcmlnapiaaGreat
open Go.RowKit P5 P9 P12 P14 P15 K

theorem zo7:(Tryz.prog.info? 74).map (fun i=>(i.zero,i.size,i.bytes))=some (some (.slice none 0 0),1,24):=by kernel_rfl

structure OutS (B:Nat) (w wr:World) (va:Value) (ls:List St):Prop where
 rows:∃ vs:List Value,vs.length=ls.length∧wr.ownsRow B 74 1 va ls.length vs∧∀ (i:Nat) (v:Value) (l:St),vs[i]? = some v→ls[i]? = some l→∃ xa xc,v=.slice xa l.length xc∧ItemsAt w xa l.length xc l
 bel:Below w.heap.size w wr
 base:w.heap.size≤B
 up:B≤wr.heap.size

theorem OutS.new {w W0:World} (hb:Below w.heap.size w W0):OutS W0.heap.size w (W0.alloc (.cells #[] 74)) (.slice (some ⟨W0.heap.size,0,none⟩) 0 0) [] :=
 ⟨⟨[],rfl,World.ownsRow_made (w:=W0) #[] 0 (Nat.le_refl _) (by decide) rfl,fun i v l h=>by simp at h⟩,hb.trans (((Below.refl W0.heap.size W0).alloc (Nat.le_refl _) _).mono hb.size),hb.size,by simp⟩

theorem OutS.below {B:Nat} {w wr w2:World} {va:Value} {ls:List St} (h:OutS B w wr va ls) (hb:Below wr.heap.size wr w2):OutS B w w2 va ls:=by
 obtain⟨⟨vs,h1,h2,h3⟩,h4,h5,h6⟩:=h
 exact⟨⟨vs,h1,own_below h2 hb,h3⟩,h4.trans (hb.mono h4.size),h5,Nat.le_trans h6 hb.size⟩

theorem OutS.form {B:Nat} {w wr:World} {va:Value} {ls:List St} (h:OutS B w wr va ls):∃ oa cap,va=.slice oa ls.length cap:=by
 obtain⟨⟨vs,_,h2,_⟩,_⟩:=h
 exact zi h2

theorem z9v {W0:World} {ops:Array Oper} {rest:List Oper} {o:Oper} {a:Act} {Q:Exit→Act→World→Prop} (hgd:o.guard=none) (s x:Operand)
  (ho:o.op=.call { callee:=.builtin .append,args:=#[s,x],argTypes:=#[30,30] })
  {B:Nat} {w:World} {va:Value} {ls:List St} (h:OutS B w W0 va ls) {l:St} {xa:Option Addr} {xc:Nat} (hi:ItemsAt w xa l.length xc l)
  (hs:a.eval s=va) (hx:a.eval x=.slice (some ⟨W0.heap.size,0,none⟩) 1 1) (hl:ls.length+1≤10000000)
  (hK:∀ va' w',OutS B w w' va' (ls++[l])→Below B W0 w'→wpList Tryz.prog ops Q rest (a.put o.dst va') w'):wpList Tryz.prog ops Q (o::rest) a (W0.alloc (.cells #[.slice xa l.length xc] 74)):=by
 obtain⟨⟨vs,h1,h2,h3⟩,h4,h5,h6⟩:=h
 refine z1n (cs:=#[.slice xa l.length xc]) hgd s x 30 ho (by decide) Tryz.underlying30 zo7 rfl hs h2 hx rfl (by simp[Value.oneCell']) h6 (by unfold maxLen;omega) (by omega) ?_
 intro va' w' hown hg hloc
 have hbB:Below B W0 w':=((Below.refl B W0).alloc h6 _).grown hg (by simp;omega) (fun q hq=>(h2.lt q hq).1)
 refine hK va' w' ⟨⟨vs++[.slice xa l.length xc],by simp[h1],by rw[z0p];exact hown,fun i v' l' hv' hl'=>?_⟩,h4.trans (hbB.mono h5),h5,Nat.le_trans h6 hbB.size⟩ hbB
 rcases Nat.lt_or_ge i ls.length with hi'|hi'
 ·rw[List.getElem?_append_left (by omega)] at hv' hl'
  exact h3 i v' l' hv' hl'
 ·have hie:i=ls.length:=by
   have:=(List.getElem?_eq_some_iff.1 hl').1
   simp at this
   omega
  subst hie
  rw[List.getElem?_append_right (Nat.le_refl _)] at hl'
  rw[← h1,List.getElem?_append_right (Nat.le_refl _)] at hv'
  simp at hl' hv'
  subst hl'
  subst hv'
  exact⟨xa,xc,rfl,hi⟩

theorem OutS.view {B:Nat} {w wr:World} {va:Value} {ls:List St} (h:OutS B w wr va ls):∃ oa cap,va=.slice oa ls.length cap∧StsAt wr oa ls.length cap ls:=by
 obtain⟨⟨vs,h1,h2,h3⟩,h4,h5,h6⟩:=h
 rcases h2.2 with ⟨rfl,hn⟩|⟨g,cap,cur,rfl,hb,hg,hnc,hcm,hcs,htake⟩
 ·have hls:ls=[]:=List.eq_nil_of_length_eq_zero hn
  subst hls
  exact⟨none,0,rfl,z9h wr⟩
 ·refine⟨some ⟨g,0,none⟩,cap,rfl,⟨rfl,hnc,hcm,fun i l hl=>?_⟩⟩
  have hi:i<ls.length:=(List.getElem?_eq_some_iff.1 hl).1
  obtain⟨v,hv⟩:∃ v,vs[i]? = some v:=⟨_,List.getElem?_eq_getElem (by omega)⟩
  obtain⟨xa,xc,rfl,hia⟩:=h3 i v l hv hl
  refine⟨g,0,xa,xc,rfl,?_,hia.below h4⟩
  rw[Nat.zero_add,h2.cellAt i (by omega)]
  exact hv

def z1q (es:List EvV) (sts:List St) (z:Int):Option St:=if hasI es z<0 then none else sts[(hasI es z).toNat]?

def z3f (es:List EvV) (sts:List St):List Int→List St→Option (List St)
 | [],acc=>some acc
 | z::r,acc=>match z1q es sts z with|none=>none|some s=>z3f es sts r (acc++[s])

def z2y (es:List EvV) (sts:List St) (prev:List Int):Option St:=(z3f es sts prev []).map (P15.resolve es)

theorem zm8 {es:List EvV} {sts acc:List St} {zs:List Int} {j:Nat} {z:Int} (h:zs[j]? = some z):z3f es sts (zs.drop j) acc=match z1q es sts z with|none=>none|some s=>z3f es sts (zs.drop (j+1)) (acc++[s]):=by
 obtain⟨hj,rfl⟩:=List.getElem?_eq_some_iff.1 h
 rw[List.drop_eq_getElem_cons hj]
 rfl

theorem zno (es:List EvV) (z:Int):-1≤hasI es z:=by
 cases h:zf es z with
 | none=>rw[z7q h];decide
 | some e =>
  obtain⟨k,h1,_⟩:=z5g h
  omega

def zhm (w:World) (o:Option St) (r:Ending) (w':World):Prop:=∃ v,r=.returned (.tuple #[v,.bool o.isSome])∧w'.ownsRow w.heap.size 79 2 v (o.getD []).length ((o.getD []).flatMap z02)∧Below w.heap.size w w'

set_option maxRecDepth 100000 in
set_option maxHeartbeats 8000000 in
theorem zdz (oa:Option Addr) (n cap:Nat) (es:List EvV) (so:Option Addr) (sn sc:Nat) (sts:List St) (vg:Value) (oc:Option Addr) (p cc:Nat) (prev:List Int) (hn20:n≤1048576) (hp16:p≤1048576) (hfine:FineE es) (hsn:∀ s∈sts,s.length≤1048576) (hwf:∀ s∈sts,∀ x∈s,(Lit.int .i64 x.2).wf=true) (w:World) (hat:EvsAt w oa n cap es) (hst:StsAt w so sn sc sts) (hpt:IntsAt w oc p cc prev) :
  Calls Tryz.prog 69 #[rmv (.slice oa n cap) (.slice so sn sc) vg,.slice oc p cc] w (zhm w (z2y es sts prev)):=by
 have HN:=hide hat.len
 have Dn:=hide hst.len
 have hsmx:=Nat.le_trans hst.room hst.most
 unfold maxLen at hsmx
 have Cn:=hide hpt.len
 have Dz:=hide hpt
 have HAT:=hide hat
 have HST:=hide hst
 obtain⟨W0,hW0⟩:∃ W0,w.alloc (.cells #[.slice oa n cap,.slice so sn sc,vg] 32)=W0:=⟨_,rfl⟩
 have hb0:Below w.heap.size w W0:=by rw[← hW0];exact (Below.refl w.heap.size w).alloc (Nat.le_refl _) _
 have hR0:W0.heap[w.heap.size]? = some (.cells #[.slice oa n cap,.slice so sn sc,vg] 32 (0,0)):=by rw[← hW0];exact heap_alloc_new _ _
 have hs0:W0.heap.size=w.heap.size+1:=by rw[← hW0];simp
 have Ad:=hide hR0
 have HB0:=hide hb0
 have HW0:=hide hW0
 have Ak:=hide (show OutS W0.heap.size w (W0.alloc (.cells #[] 74)) (.slice (some ⟨w.heap.size+1,0,none⟩) 0 0) [] from by have h:=OutS.new hb0;rw[hs0] at h ⊢;exact h)
 have Bh:=hide (show Below W0.heap.size W0 (W0.alloc (.cells #[] 74)) from (Below.refl _ _).alloc (Nat.le_refl _) _)
 have HH:=hide (fun (z:Int) w1 (h:EvsAt w1 oa n cap es)=>z8z oa n cap es (.slice so sn sc) vg z w1 h)
 obtain⟨D,hD⟩:∃ D,z3f es sts prev []=D:=⟨_,rfl⟩
 have HD:=hide hD
 have Bt:=hide (show z2y es sts prev=D.map (P15.resolve es) by unfold z2y;rw[hD])
 clear hat hR0 hW0 hb0 hpt hD hst
 go_enter Tryz.func69,Tryz.ntmps69
 go_wp2_with fail
 rw[HW0.out]
 go_loopw [6,7] (fun v i wr=>∃ (j:Nat) (oo:Option Addr) (m co:Nat) (acc:List St),i=.int .i64 (j:Int)∧v=.slice oo m co∧j≤p∧acc.length≤j∧(∀ s∈acc,s∈sts)∧z3f es sts (prev.drop j) acc=D∧OutS W0.heap.size w wr (.slice oo m co) acc∧Below W0.heap.size W0 wr) (fun _ i _=>p - (intOf i).toNat)
 case atStart=>exact⟨0,_,_,_,[],rfl,rfl,Nat.zero_le _,Nat.le_refl _,fun s hs=>by simp at hs,HD.out,Ak.out,Bh.out⟩
 case round =>
  obtain⟨j,oo,m,co,acc,rfl,rfl,hj,hal,hmem,hrest,hS,hbel⟩:=hrel
  have HS:=hide hS
  have hm:m=acc.length:=by
   obtain⟨_,_,e⟩:=hS.form
   injection e
  subst hm
  have hsz:=hbel.size
  have hRr:=(hbel.block w.heap.size (ze Ad.out)).trans Ad.out
  have r0:=zb hRr 0 rfl
  have r1:=zb hRr 1 rfl
  have r2:=zb hRr 2 rfl
  have hlr:=ze hRr
  have hbW:=hS.bel
  have A8:=hide (HAT.out.below hbW)
  have Eb:=hide hmem
  clear hRr hS Ak HD hmem
  by_cases hlt:j<p
  ·have j0:(j:Int)<(p:Int):=by omega
   obtain⟨z,b,q,hz,hidx,hb,c0w,hwz⟩:=Dz.out.get Tryz.underlying60 z0f j hlt
   have c0:=(hbW.cell hb).trans c0w
   have hbr:=Nat.lt_of_lt_of_le hb hbW.size
   have Bf:=hide (HH.out z)
   rw[zm8 hz] at hrest
   have A7:=hide hrest
   have hge:=zno es z
   have Cu:=hide (show z1q es sts z=if hasI es z<0 then none else sts[(hasI es z).toNat]? from rfl)
   clear hrest hz c0w
   generalize hasI es z=hk at Bf Cu hge
   by_cases hneg:hk<0
   ·have HE:=hide (show D=none by rw[← A7.out,Cu.out,if_pos hneg])
    clear A7
    go_wp2_with fail
    refine zn (F:=Bw wr) (by kernel_rfl) (by kernel_rfl) (Below.refl _ _).drew ?_
    have hne:Nonempty (InW (Bw wr)):=⟨⟨_,Below.refl _ _⟩⟩
    have k0:∀ m:InW (Bw wr),m.w.cell? ⟨w.heap.size,0,none⟩=some (.slice oa n cap):=fun m=>(m.h.cell hlr).trans r0
    have k1:∀ m:InW (Bw wr),m.w.cell? ⟨w.heap.size,1,none⟩=some (.slice so sn sc):=fun m=>(m.h.cell hlr).trans r1
    have k2:∀ m:InW (Bw wr),m.w.cell? ⟨w.heap.size,2,none⟩=some vg:=fun m=>(m.h.cell hlr).trans r2
    have k3:∀ m:InW (Bw wr),m.w.cell? ⟨b,q,none⟩=some (.int .i64 z):=fun m=>(m.h.cell hbr).trans c0
    repeat (go_big_quiet_step (first
     | (go_at_call 71;(with_reducible refine (Bf.out _ (A8.out.below (InW.h (F:=Bw wr) _))).mono ?_);rintro e' w2 ⟨rfl,hb2⟩;exact⟨rfl,⟨w2,Below.trans (InW.h _) (hb2.mono (Below.size (InW.h (F:=Bw wr) ‹_›)))⟩,rfl⟩)))
    refine wpQuiet_nil ?_
    intro _ hw'
    obtain⟨nq,hw''⟩:=hw'
    subst hw''
    have hnq:=nq.h
    generalize nq.w=w3 at hnq ⊢
    have Ap:=hide (HS.out.below hnq)
    have r03:=(hnq.cell hlr).trans r0
    have r13:=(hnq.cell hlr).trans r1
    have hlr3:=Nat.lt_of_lt_of_le hlr hnq.size
    clear hne k0 k1 k2 k3
    have CK:=hide (show (w3.alloc (.cells #[] 79)).ownsRow w3.heap.size 79 2 (.slice (some ⟨w3.heap.size,0,none⟩) 0 0) 0 [] from World.ownsRow_made (w:=w3) #[] 0 (Nat.le_refl _) (by decide) rfl)
    have HB3:=hide (hbW.trans (hnq.mono hbW.size))
    go_wp2_with fail
    refine bodyPost_ret (v:=.tuple #[.slice (some ⟨w3.heap.size,0,none⟩) 0 0,.bool false]) (by simp[results,Tryz.results69,go_sem]) rfl ?_
    exact⟨_,by rw[Bt.out,HE.out];rfl,by rw[Bt.out,HE.out];exact zu CK.out HB3.out.size,HB3.out.trans (((Below.refl w3.heap.size w3).alloc (Nat.le_refl _) _).mono HB3.out.size)⟩
   ·obtain⟨kn,rfl⟩:∃ kn:Nat,hk=(kn:Int):=⟨hk.toNat,by omega⟩
    have hk0:¬ ((kn:Int)<0):=hneg
    rw[if_neg hneg] at Cu
    by_cases hks:kn<sn
    ·have hki:¬ ((sn:Int)≤(kn:Int)):=by omega
     obtain⟨s,b2,q2,xa,xc,hs,hidx2,c2w,hiaw⟩:=HST.out.get Tryz.underlying30 z5l kn hks
     have HE:=hide (show z3f es sts (prev.drop (j+1)) (acc++[s])=D by rw[← A7.out,Cu.out];show _=(match sts[kn]? with|none=>none|some s=>z3f es sts (prev.drop (j+1)) (acc++[s]));rw[hs])
     have hsm:=List.mem_of_getElem? hs
     have hb2:=zw c2w
     clear A7 hs Cu
     go_wp2_with fail
     refine zn (F:=Bw wr) (by kernel_rfl) (by kernel_rfl) (Below.refl _ _).drew ?_
     have hne:Nonempty (InW (Bw wr)):=⟨⟨_,Below.refl _ _⟩⟩
     have k0:∀ m:InW (Bw wr),m.w.cell? ⟨w.heap.size,0,none⟩=some (.slice oa n cap):=fun m=>(m.h.cell hlr).trans r0
     have k1:∀ m:InW (Bw wr),m.w.cell? ⟨w.heap.size,1,none⟩=some (.slice so sn sc):=fun m=>(m.h.cell hlr).trans r1
     have k2:∀ m:InW (Bw wr),m.w.cell? ⟨w.heap.size,2,none⟩=some vg:=fun m=>(m.h.cell hlr).trans r2
     have k3:∀ m:InW (Bw wr),m.w.cell? ⟨b,q,none⟩=some (.int .i64 z):=fun m=>(m.h.cell hbr).trans c0
     repeat (go_big_quiet_step (first
      | (go_at_call 71;(with_reducible refine (Bf.out _ (A8.out.below (InW.h (F:=Bw wr) _))).mono ?_);rintro e' w2 ⟨rfl,hb2⟩;exact⟨rfl,⟨w2,Below.trans (InW.h _) (hb2.mono (Below.size (InW.h (F:=Bw wr) ‹_›)))⟩,rfl⟩)))
     refine wpQuiet_nil ?_
     intro _ hw'
     obtain⟨nq,hw''⟩:=hw'
     subst hw''
     have hnq:=nq.h
     generalize nq.w=w3 at hnq ⊢
     have Ap:=hide (HS.out.below hnq)
     have r03:=(hnq.cell hlr).trans r0
     have r13:=(hnq.cell hlr).trans r1
     have hlr3:=Nat.lt_of_lt_of_le hlr hnq.size
     clear hne k0 k1 k2 k3
     have c23:=((hbW.trans (hnq.mono hbW.size)).cell hb2).trans c2w
     have hb23:=Nat.lt_of_lt_of_le hb2 (hbW.trans (hnq.mono hbW.size)).size
     have hS3:=Ap.out
     have hB3:=hbel.trans (hnq.mono hsz)
     have hal1:acc.length+1≤10000000:=by omega
     go_wp2_with (at_builtin;refine z9v rfl _ _ rfl hS3 hiaw rfl rfl hal1 ?_;intro va w5 hS5 hB5;obtain⟨o5,c5,rfl⟩:=hS5.form)
     have CL:=hide (show OutS W0.heap.size w w5 (.slice o5 (acc.length+1) c5) (acc++[s]) by have h:=hS5;rw[z0p] at h;exact h)
     have BQ:=hide (hB3.trans hB5)
     clear hS5 hB5
     go_roundw
     case rel=>exact⟨j+1,_,_,_,acc++[s],by go_num,rfl,by omega,by rw[z0p];omega,fun y hy=>by
      rcases List.mem_append.1 hy with hy|hy
      ·exact Eb.out y hy
      ·simp at hy;subst hy;exact hsm,HE.out,CL.out,BQ.out⟩
     case measure=>simp[intOf];omega
    ·have hki:(sn:Int)≤(kn:Int):=by omega
     have HE:=hide (show D=none by
      rw[← A7.out,Cu.out]
      show (match sts[kn]? with|none=>none|some s=>z3f es sts (prev.drop (j+1)) (acc++[s]))=none
      rw[List.getElem?_eq_none (by rw[Dn.out];omega)])
     clear A7 Cu
     go_wp2_with fail
     refine zn (F:=Bw wr) (by kernel_rfl) (by kernel_rfl) (Below.refl _ _).drew ?_
     have hne:Nonempty (InW (Bw wr)):=⟨⟨_,Below.refl _ _⟩⟩
     have k0:∀ m:InW (Bw wr),m.w.cell? ⟨w.heap.size,0,none⟩=some (.slice oa n cap):=fun m=>(m.h.cell hlr).trans r0
     have k1:∀ m:InW (Bw wr),m.w.cell? ⟨w.heap.size,1,none⟩=some (.slice so sn sc):=fun m=>(m.h.cell hlr).trans r1
     have k2:∀ m:InW (Bw wr),m.w.cell? ⟨w.heap.size,2,none⟩=some vg:=fun m=>(m.h.cell hlr).trans r2
     have k3:∀ m:InW (Bw wr),m.w.cell? ⟨b,q,none⟩=some (.int .i64 z):=fun m=>(m.h.cell hbr).trans c0
     repeat (go_big_quiet_step (first
      | (go_at_call 71;(with_reducible refine (Bf.out _ (A8.out.below (InW.h (F:=Bw wr) _))).mono ?_);rintro e' w2 ⟨rfl,hb2⟩;exact⟨rfl,⟨w2,Below.trans (InW.h _) (hb2.mono (Below.size (InW.h (F:=Bw wr) ‹_›)))⟩,rfl⟩)))
     refine wpQuiet_nil ?_
     intro _ hw'
     obtain⟨nq,hw''⟩:=hw'
     subst hw''
     have hnq:=nq.h
     generalize nq.w=w3 at hnq ⊢
     have Ap:=hide (HS.out.below hnq)
     have r03:=(hnq.cell hlr).trans r0
     have r13:=(hnq.cell hlr).trans r1
     have hlr3:=Nat.lt_of_lt_of_le hlr hnq.size
     clear hne k0 k1 k2 k3
     have CK:=hide (show (w3.alloc (.cells #[] 79)).ownsRow w3.heap.size 79 2 (.slice (some ⟨w3.heap.size,0,none⟩) 0 0) 0 [] from World.ownsRow_made (w:=w3) #[] 0 (Nat.le_refl _) (by decide) rfl)
     have HB3:=hide (hbW.trans (hnq.mono hbW.size))
     go_wp2_with fail
     refine bodyPost_ret (v:=.tuple #[.slice (some ⟨w3.heap.size,0,none⟩) 0 0,.bool false]) (by simp[results,Tryz.results69,go_sem]) rfl ?_
     exact⟨_,by rw[Bt.out,HE.out];rfl,by rw[Bt.out,HE.out];exact zu CK.out HB3.out.size,HB3.out.trans (((Below.refl w3.heap.size w3).alloc (Nat.le_refl _) _).mono HB3.out.size)⟩
  ·have hjn:prev.drop j=[]:=List.drop_eq_nil_of_le (by rw[Cn.out];omega)
   rw[hjn] at hrest
   have hDA:D=some acc:=hrest.symm
   subst hDA
   obtain⟨_,_,he,hv⟩:=HS.out.view
   cases he
   have Ae:=hide (zbn oa n cap es oo acc.length co acc hn20 (by omega) hfine (fun s hs=>hsn s (Eb.out s hs)) (fun s hs=>hwf s (Eb.out s hs)) wr A8.out hv)
   clear hrest hjn hv
   go_wp2_with (go_at_call 121;(with_reducible refine Ae.out.mono ?_);rintro r w5 ⟨v5,rfl,ho5,hb5⟩;obtain⟨o5,c5,rfl⟩:=zi ho5)
   have Ez:=hide (zu ho5 hbW.size)
   have BQ:=hide (hbW.trans (hb5.mono hbW.size))
   clear ho5 hb5
   refine bodyPost_ret (v:=.tuple #[.slice o5 (P15.resolve es acc).length c5,.bool true]) (by simp[results,Tryz.results69,go_sem]) rfl ?_
   exact⟨_,by rw[Bt.out];rfl,by rw[Bt.out];exact Ez.out,BQ.out⟩

end Go.Proofs.YtfeebdcmlnapiaaGreat
