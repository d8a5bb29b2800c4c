/-
  Walks.
-/
import Derived.Test.YtfeebdcmlnapiaaGreatRWalk11b
import Derived.Test.YtfeebdcmlnapiaaGreatRIntsMark
set_option linter.unusedVariables false
set_option linter.unusedSimpArgs false
namespace Go.Proofs.YtfeebdcmlnapiaaGreat
open Go.RowKit P5 P9 P12 P14 P15 K

abbrev rmv (ve vs vg:Value):Value:=.agg #[ve,vs,vg]

def z2a (id:Int):List EvV→Nat→Int
 | [],_=>-1
 | e::r,j=>if e.id=id then (j:Int) else z2a id r (j+1)

def hasI (es:List EvV) (id:Int):Int:=z2a id es 0

theorem zic {es:List EvV} {j:Nat} {e:EvV} (id:Int) (h:es[j]? = some e):z2a id (es.drop j) j=if e.id=id then (j:Int) else z2a id (es.drop (j+1)) (j+1):=by
 obtain⟨hj,rfl⟩:=List.getElem?_eq_some_iff.1 h
 rw[List.drop_eq_getElem_cons hj]
 rfl

theorem z6t {id:Int}:∀ (es:List EvV) (j:Nat),match zf es id with|none=>z2a id es j = -1|some e=>∃ k:Nat,z2a id es j=((j+k:Nat):Int)∧es[k]? = some e
 | [],j=>by simp[zf,z2a]
 | x::r,j=>by
  unfold zf z2a
  by_cases h:x.id=id
  ·rw[if_pos h,if_pos h]
   exact⟨0,by simp,rfl⟩
  ·rw[if_neg h,if_neg h]
   have ih:=z6t (id:=id) r (j+1)
   cases hf:zf r id with
   | none=>rw[hf] at ih;exact ih
   | some e =>
    rw[hf] at ih
    obtain⟨k,h1,h2⟩:=ih
    exact⟨k+1,by rw[h1];congr 1;omega,by simpa using h2⟩

theorem z7q {es:List EvV} {id:Int} (h:zf es id=none):hasI es id = -1:=by
 have:=z6t (id:=id) es 0
 rw[h] at this
 exact this

theorem z5g {es:List EvV} {id:Int} {e:EvV} (h:zf es id=some e):∃ k:Nat,hasI es id=(k:Int)∧es[k]? = some e:=by
 have:=z6t (id:=id) es 0
 rw[h] at this
 obtain⟨k,h1,h2⟩:=this
 exact⟨k,by rw[Nat.zero_add] at h1;exact h1,h2⟩

set_option maxHeartbeats 4000000 in
theorem z8z (oa:Option Addr) (n cap:Nat) (es:List EvV) (vs vg:Value) (id:Int) (w:World) (hat:EvsAt w oa n cap es) :
  Calls Tryz.prog 71 #[rmv (.slice oa n cap) vs vg,.int .i64 id] w fun r w'=>r=.returned (.int .i64 (hasI es id))∧Below w.heap.size w w':=by
 have hmx:=Nat.le_trans hat.room hat.most
 unfold maxLen at hmx
 have HN:=hide hat.len
 have HAT:=hide hat
 obtain⟨W0,hW0⟩:∃ W0,w.alloc (.cells #[.slice oa n cap,vs,vg] 32)=W0:=⟨_,rfl⟩
 have hb0:Below w.heap.size w W0:=by rw[← hW0];exact (Below.refl w.heap.size w).alloc (Nat.le_refl _) _
 have hR0:W0.heap[w.heap.size]? = some (.cells #[.slice oa n cap,vs,vg] 32 (0,0)):=by rw[← hW0];exact heap_alloc_new _ _
 have r0:=zb hR0 0 rfl
 have hlr:=ze hR0
 have HB0:=hide hb0
 have Au:=hide (hat.below hb0)
 have HW0:=hide hW0
 clear hat hR0 hW0 hb0
 go_enter Tryz.func71,Tryz.ntmps71
 go_wp2_with fail
 rw[HW0.out]
 go_loop [5] (fun i=>∃ (j:Nat),i=.int .i64 (j:Int)∧j≤n∧z2a id (es.drop j) j=hasI es id) (fun i=>n - (intOf i).toNat)
 case atStart=>exact⟨0,rfl,Nat.zero_le _,rfl⟩
 case round =>
  obtain⟨j,rfl,hj,hrest⟩:=hrel
  by_cases hlt:j<n
  ·have j0:(j:Int)<(n:Int):=by omega
   obtain⟨e,b,q,xa,xc,ya,yc,he,hidx,hev⟩:=Au.out.get Tryz.underlying29 z2t j hlt
   obtain⟨c0,c1,c2,c3,c4,c5,c6,c7,c8⟩:=hev.cs
   rw[zic id he] at hrest
   clear hev he c1 c2 c3 c4 c5 c6 c7 c8
   by_cases hk:e.id=id
   ·have g:(e.id==id)=true:=by simpa using hk
    rw[if_pos hk] at hrest
    have HE:=hide hrest
    clear hrest hk
    go_wp2_with fail
    go_ret
    exact⟨by rw[← HE.out];rfl,HB0.out⟩
   ·have g:(e.id==id)=false:=by simpa using hk
    rw[if_neg hk] at hrest
    have HE:=hide hrest
    clear hrest hk
    go_wp2_with fail
    go_round
    case rel=>exact⟨j+1,by go_num,by omega,HE.out⟩
    case measure=>simp[intOf];omega
  ·have hjn:es.drop j=[]:=List.drop_eq_nil_of_le (by rw[HN.out];omega)
   rw[hjn] at hrest
   have HE:=hide (show (-1:Int)=hasI es id from hrest)
   clear hrest hjn
   go_wp2_with fail
   go_ret
   exact⟨by rw[← HE.out];rfl,HB0.out⟩

def z2c (es:List EvV) (m z:Int):Int:=match zf es z with|none=>m|some e=>if m<e.depth then e.depth else m

def z4o (es:List EvV) (prev:List Int) (m:Int):Int:=prev.foldl (z2c es) m

def z4a (es:List EvV) (prev:List Int):Int:=if 1000000<z4o es prev (-1) then 1000001 else z4o es prev (-1)+1

theorem zlx {es:List EvV} {zs:List Int} {j:Nat} {z:Int} (m:Int) (h:zs[j]? = some z):z4o es (zs.drop j) m=z4o es (zs.drop (j+1)) (z2c es m z):=by
 obtain⟨hj,rfl⟩:=List.getElem?_eq_some_iff.1 h
 rw[List.drop_eq_getElem_cons hj]
 rfl

theorem zet {es:List EvV}:∀ (zs:List Int) (m:Int),m≤z4o es zs m
 | [],m=>Int.le_refl _
 | z::r,m=>by
  have h1:=zet (es:=es) r (z2c es m z)
  have h2:m≤z2c es m z:=by
   unfold z2c
   split
   ·exact Int.le_refl _
   ·split<;>omega
  exact Int.le_trans h2 h1

theorem zeu {es:List EvV} {m z:Int} (h:zf es z=none):z2c es m z=m:=by unfold z2c;rw[h]

theorem zg7 {es:List EvV} {m z:Int} {e:EvV} (h:zf es z=some e) (hd:m<e.depth):z2c es m z=e.depth:=by unfold z2c;rw[h];exact if_pos hd

theorem zid {es:List EvV} {m z:Int} {e:EvV} (h:zf es z=some e) (hd:¬ m<e.depth):z2c es m z=m:=by unfold z2c;rw[h];exact if_neg hd

set_option maxRecDepth 100000 in
set_option maxHeartbeats 8000000 in
theorem zbd (oa:Option Addr) (n cap:Nat) (es:List EvV) (vs vg:Value) (oc:Option Addr) (p cc:Nat) (prev:List Int) (w:World) (hat:EvsAt w oa n cap es) (hpt:IntsAt w oc p cc prev) :
  Calls Tryz.prog 72 #[rmv (.slice oa n cap) vs vg,.slice oc p cc] w fun r w'=>r=.returned (.int .i64 (z4a es prev))∧Below w.heap.size w w':=by
 have hmx:=Nat.le_trans hpt.room hpt.most
 unfold maxLen at hmx
 have HN:=hide hat.len
 have Cn:=hide hpt.len
 have Dz:=hide hpt
 have HAT:=hide hat
 obtain⟨W0,hW0⟩:∃ W0,w.alloc (.cells #[.slice oa n cap,vs,vg] 32)=W0:=⟨_,rfl⟩
 have hb0:Below w.heap.size w W0:=by rw[← hW0];exact (Below.refl w.heap.size w).alloc (Nat.le_refl _) _
 have hR0:W0.heap[w.heap.size]? = some (.cells #[.slice oa n cap,vs,vg] 32 (0,0)):=by rw[← hW0];exact heap_alloc_new _ _
 have Ad:=hide hR0
 have HB0:=hide hb0
 have HW0:=hide hW0
 have HH:=hide (fun (z:Int) w1 (h:EvsAt w1 oa n cap es)=>z8z oa n cap es vs vg z w1 h)
 obtain⟨D,hD⟩:∃ D,z4o es prev (-1)=D:=⟨_,rfl⟩
 have HD:=hide hD
 clear hat hR0 hW0 hb0 hpt hD
 go_enter Tryz.func72,Tryz.ntmps72
 go_wp2_with fail
 rw[HW0.out]
 go_loopw [5,6] (fun v i wr=>∃ (j:Nat) (M:Int),i=.int .i64 (j:Int)∧v=.int .i64 M∧j≤p∧z4o es (prev.drop j) M=D∧Below W0.heap.size W0 wr) (fun _ i _=>p - (intOf i).toNat)
 case atStart=>exact⟨0,-1,rfl,rfl,Nat.zero_le _,HD.out,Below.refl _ _⟩
 case round =>
  obtain⟨j,M,rfl,rfl,hj,hrest,hbel⟩:=hrel
  have hsz:=hbel.size
  have hRr:=(hbel.block w.heap.size (ze Ad.out)).trans Ad.out
  have r0:=zb hRr 0 rfl
  have r1:=zb hRr 1 rfl
  have r2:=zb hRr 2 rfl
  have hlr:=ze hRr
  have hbW:Below w.heap.size w wr:=HB0.out.trans (hbel.mono HB0.out.size)
  have A8:=hide (HAT.out.below hbW)
  clear hRr
  by_cases hlt:j<p
  ·have j0:(j:Int)<(p:Int):=by omega
   obtain⟨z,b,q,hz,hidx,hb,c0w,hwz⟩:=Dz.out.get Tryz.underlying60 z0f j hlt
   have c0:=(hbW.cell hb).trans c0w
   have hbr:=Nat.lt_of_lt_of_le hb hbW.size
   have Bf:=hide (HH.out z)
   rw[zlx M hz] at hrest
   have A7:=hide hrest
   clear hrest hz c0w
   cases hf:zf es z with
   | none =>
    have HE:=hide (show z4o es (prev.drop (j+1)) M=D by rw[← A7.out,zeu hf])
    rw[z7q hf] at Bf
    clear A7 hf
    go_wp2_with fail
    refine zn (F:=Bw wr) (by kernel_rfl) (by kernel_rfl) (Below.refl _ _).drew ?_
    have hne:Nonempty (InW (Bw wr)):=⟨⟨_,Below.refl _ _⟩⟩
    have k0:∀ m:InW (Bw wr),m.w.cell? ⟨w.heap.size,0,none⟩=some (.slice oa n cap):=fun m=>(m.h.cell hlr).trans r0
    have k1:∀ m:InW (Bw wr),m.w.cell? ⟨w.heap.size,1,none⟩=some vs:=fun m=>(m.h.cell hlr).trans r1
    have k2:∀ m:InW (Bw wr),m.w.cell? ⟨w.heap.size,2,none⟩=some vg:=fun m=>(m.h.cell hlr).trans r2
    have k3:∀ m:InW (Bw wr),m.w.cell? ⟨b,q,none⟩=some (.int .i64 z):=fun m=>(m.h.cell hbr).trans c0
    repeat (go_big_quiet_step (first
     | (go_at_call 71;(with_reducible refine (Bf.out _ (A8.out.below (InW.h (F:=Bw wr) _))).mono ?_);rintro e' w2 ⟨rfl,hb2⟩;exact⟨rfl,⟨w2,Below.trans (InW.h _) (hb2.mono (Below.size (InW.h (F:=Bw wr) ‹_›)))⟩,rfl⟩)))
    refine wpQuiet_nil ?_
    intro _ hw'
    obtain⟨nq,hw''⟩:=hw'
    subst hw''
    have hnq:=nq.h
    generalize nq.w=w3 at hnq ⊢
    have HB3:=hide (hbel.trans (hnq.mono hsz))
    have BX:=hide (A8.out.below hnq)
    have r03:=(hnq.cell hlr).trans r0
    have hlr3:=Nat.lt_of_lt_of_le hlr hnq.size
    clear hne k0 k1 k2 k3 hnq
    go_wp2_with fail
    go_roundw
    case rel=>exact⟨j+1,M,by go_num,rfl,by omega,HE.out,HB3.out⟩
    case measure=>simp[intOf];omega
   | some e =>
    obtain⟨kk,hk1,hk2⟩:=z5g hf
    rw[hk1] at Bf
    have hkn:kk<n:=by
     have:=(List.getElem?_eq_some_iff.1 hk2).1
     rw[HN.out] at this
     exact this
    have hk0:(0:Int)≤(kk:Int):=by omega
    by_cases hd:M<e.depth
    ·have HE:=hide (show z4o es (prev.drop (j+1)) e.depth=D by rw[← A7.out,zg7 hf hd])
     clear A7 hf hk1
     go_wp2_with fail
     refine zn (F:=Bw wr) (by kernel_rfl) (by kernel_rfl) (Below.refl _ _).drew ?_
     have hne:Nonempty (InW (Bw wr)):=⟨⟨_,Below.refl _ _⟩⟩
     have k0:∀ m:InW (Bw wr),m.w.cell? ⟨w.heap.size,0,none⟩=some (.slice oa n cap):=fun m=>(m.h.cell hlr).trans r0
     have k1:∀ m:InW (Bw wr),m.w.cell? ⟨w.heap.size,1,none⟩=some vs:=fun m=>(m.h.cell hlr).trans r1
     have k2:∀ m:InW (Bw wr),m.w.cell? ⟨w.heap.size,2,none⟩=some vg:=fun m=>(m.h.cell hlr).trans r2
     have k3:∀ m:InW (Bw wr),m.w.cell? ⟨b,q,none⟩=some (.int .i64 z):=fun m=>(m.h.cell hbr).trans c0
     repeat (go_big_quiet_step (first
      | (go_at_call 71;(with_reducible refine (Bf.out _ (A8.out.below (InW.h (F:=Bw wr) _))).mono ?_);rintro e' w2 ⟨rfl,hb2⟩;exact⟨rfl,⟨w2,Below.trans (InW.h _) (hb2.mono (Below.size (InW.h (F:=Bw wr) ‹_›)))⟩,rfl⟩)))
     refine wpQuiet_nil ?_
     intro _ hw'
     obtain⟨nq,hw''⟩:=hw'
     subst hw''
     have hnq:=nq.h
     generalize nq.w=w3 at hnq ⊢
     have HB3:=hide (hbel.trans (hnq.mono hsz))
     have BX:=hide (A8.out.below hnq)
     have r03:=(hnq.cell hlr).trans r0
     have hlr3:=Nat.lt_of_lt_of_le hlr hnq.size
     clear hne k0 k1 k2 k3 hnq
     obtain⟨e2,b2,q2,xa,xc,ya,yc,he2,hidx2,hev2⟩:=BX.out.get Tryz.underlying29 z2t kk hkn
     rw[hk2] at he2
     cases he2
     obtain⟨c0',c1',c2',c3',c4',c5',c6',c7',c8'⟩:=hev2.cs
     clear hev2
     go_wp2_with fail
     go_roundw
     case rel=>exact⟨j+1,e.depth,by go_num,rfl,by omega,HE.out,HB3.out⟩
     case measure=>simp[intOf];omega
    ·have HE:=hide (show z4o es (prev.drop (j+1)) M=D by rw[← A7.out,zid hf hd])
     clear A7 hf hk1
     go_wp2_with fail
     refine zn (F:=Bw wr) (by kernel_rfl) (by kernel_rfl) (Below.refl _ _).drew ?_
     have hne:Nonempty (InW (Bw wr)):=⟨⟨_,Below.refl _ _⟩⟩
     have k0:∀ m:InW (Bw wr),m.w.cell? ⟨w.heap.size,0,none⟩=some (.slice oa n cap):=fun m=>(m.h.cell hlr).trans r0
     have k1:∀ m:InW (Bw wr),m.w.cell? ⟨w.heap.size,1,none⟩=some vs:=fun m=>(m.h.cell hlr).trans r1
     have k2:∀ m:InW (Bw wr),m.w.cell? ⟨w.heap.size,2,none⟩=some vg:=fun m=>(m.h.cell hlr).trans r2
     have k3:∀ m:InW (Bw wr),m.w.cell? ⟨b,q,none⟩=some (.int .i64 z):=fun m=>(m.h.cell hbr).trans c0
     repeat (go_big_quiet_step (first
      | (go_at_call 71;(with_reducible refine (Bf.out _ (A8.out.below (InW.h (F:=Bw wr) _))).mono ?_);rintro e' w2 ⟨rfl,hb2⟩;exact⟨rfl,⟨w2,Below.trans (InW.h _) (hb2.mono (Below.size (InW.h (F:=Bw wr) ‹_›)))⟩,rfl⟩)))
     refine wpQuiet_nil ?_
     intro _ hw'
     obtain⟨nq,hw''⟩:=hw'
     subst hw''
     have hnq:=nq.h
     generalize nq.w=w3 at hnq ⊢
     have HB3:=hide (hbel.trans (hnq.mono hsz))
     have BX:=hide (A8.out.below hnq)
     have r03:=(hnq.cell hlr).trans r0
     have hlr3:=Nat.lt_of_lt_of_le hlr hnq.size
     clear hne k0 k1 k2 k3 hnq
     obtain⟨e2,b2,q2,xa,xc,ya,yc,he2,hidx2,hev2⟩:=BX.out.get Tryz.underlying29 z2t kk hkn
     rw[hk2] at he2
     cases he2
     obtain⟨c0',c1',c2',c3',c4',c5',c6',c7',c8'⟩:=hev2.cs
     clear hev2
     go_wp2_with fail
     go_roundw
     case rel=>exact⟨j+1,M,by go_num,rfl,by omega,HE.out,HB3.out⟩
     case measure=>simp[intOf];omega
  ·have hjn:prev.drop j=[]:=List.drop_eq_nil_of_le (by rw[Cn.out];omega)
   rw[hjn] at hrest
   have hMD:M=D:=hrest
   subst hMD
   have hge:-1≤M:=by rw[← HD.out];exact zet prev (-1)
   have Co:=hide (show z4a es prev=if 1000000<M then 1000001 else M+1 by unfold z4a;rw[HD.out])
   clear hrest hjn
   by_cases hb:1000000<M
   ·rw[if_pos hb] at Co
    go_wp2_with fail
    go_ret
    exact⟨by rw[Co.out];rfl,hbW⟩
   ·rw[if_neg hb] at Co
    go_wp2_with fail
    go_ret
    exact⟨by rw[Co.out];rfl,hbW⟩

end Go.Proofs.YtfeebdcmlnapiaaGreat
