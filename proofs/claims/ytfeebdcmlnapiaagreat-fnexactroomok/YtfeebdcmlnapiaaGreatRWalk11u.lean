/-
  Walks.
-/
import Derived.Test.YtfeebdcmlnapiaaGreatRVTab
import Derived.Test.YtfeebdcmlnapiaaGreatRIntsMark
import Derived.Test.YtfeebdcmlnapiaaGreatRIterI
import Derived.Test.YtfeebdcmlnapiaaGreatRRoom1
import Derived.Deep.Cut
import Derived.Test.YtfeebdcmlnapiaaGreatRWalk11n
import Derived.Test.YtfeebdcmlnapiaaGreatRWalk11f
set_option linter.unusedVariables false
set_option linter.unusedSimpArgs false
namespace Go.Proofs.YtfeebdcmlnapiaaGreat
open Go.RowKit Go.Maps Go.Sort P5 P14 K

theorem zgq {w:World} {b m:Nat} {F:Int→Option Value} {D:DataW Value} {left:List Int} (h:VTab w b F m D) (hl:left.Pairwise (·<·)) (hF:∀ k,(F k).isSome=true↔k∈left) {ks:List Int} (hk:ks.Perm (intKeys D)):ks.mergeSort (fun x y=>decide (x≤y))=left:=by
 have hc:CollectedI D (fun _=>false) left:=by
  refine⟨hl.imp (fun h=>by omega),fun x=>?_⟩
  rw[← hF]
  cases hf:F x with
  | none=>rw[h.no x hf];simp
  | some i=>rw[(h.yes x i hf).1];simp
 have hp:=hc.perm h.own (Maps.int_keyed Tryz.underlying3) Tryz.underlying3 (fun _=>rfl)
 have e1:ks.mergeSort (fun x y=>decide (x≤y))=left.mergeSort (fun x y=>decide (x≤y)):=mergeSort_of_perm_i (hk.trans hp.symm)
 rw[e1]
 refine List.mergeSort_of_pairwise (hl.imp (fun h=>?_))
 simp only[decide_eq_true_eq]
 omega

set_option maxHeartbeats 4000000 in
theorem za0 (bk bt:Nat) (left:List Int) (hl:left.Pairwise (·<·)) (T:Int→Option Value) (mt:Nat) (DT:DataW Value) (hT:∀ k,(T k).isSome=true↔k∈left) (hm:mt≤1048576) (w:World) (ht:VTab w bt T mt DT) :
  Calls Tryz.prog 227 #[.agg #[.map (some bk),.map (some bt)]] w fun r w'=>∃ v,r=.returned v∧w'.ownsRow w.heap.size 3 1 v left.length (left.map z03)∧Below w.heap.size w w':=by
 obtain⟨W0,hW0⟩:∃ W0,w.alloc (.cells #[.map (some bk),.map (some bt)] 234)=W0:=⟨_,rfl⟩
 have hb0:Below w.heap.size w W0:=by rw[← hW0];exact (Below.refl _ _).alloc (Nat.le_refl _) _
 have hQ0:W0.heap[w.heap.size]? = some (.cells #[.map (some bk),.map (some bt)] 234 (0,0)):=by rw[← hW0];exact heap_alloc_new _ _
 have hT0:=ht.below hb0
 have q0:=zb hQ0 0 rfl
 have q1:=zb hQ0 1 rfl
 have hsort:=Tryz.sortedKeysI248 bt mt DT z1z W0 hT0.own (by rw[hT0.size];unfold maxLen;omega) (by rw[hT0.size];omega)
 have CZ:=hide hsort
 have HT0:=hide hT0
 have HB0:=hide hb0
 have HW0:=hide hW0
 have HL:=hide hl
 have Cr:=hide hT
 have hs0:=hb0.size
 clear hsort hT0 hb0 hW0 hQ0 ht hl hT
 go_enter Tryz.func227,Tryz.ntmps227
 go_upto_region 1 with fail
 rw[HW0.out]
 clear HW0
 go_wp2_with fail
 refine (callsIn_wide.1 (Tryz.mapsKeysI248 _ _)).mono ?_
 rintro e w1 ⟨rfl,rfl⟩
 go_wp2_with fail
 refine (callsIn_wide.1 CZ.out).mono ?_
 rintro e w2 ⟨v,ss,rfl,hperm,hkeys,hb2⟩
 have hsn:=zgq HT0.out HL.out Cr.out hperm
 have hnl:ss.length=left.length:=by
  have h1:=congrArg List.length hsn
  simpa using h1
 rw[hsn,hnl] at hkeys
 have hba:=(Below.refl W0.heap.size W0).alloc (Nat.le_refl _) (.cells #[.map (some bt)] 232)
 have hB2:Below w.heap.size w w2:=HB0.out.trans ((hba.trans (hb2.mono hba.size)).mono hs0)
 obtain⟨o2,c2,rfl⟩:=zi hkeys
 have HK:=hide (zu hkeys (Nat.le_trans hs0 hba.size))
 have HB2:=hide hB2
 clear hkeys hperm hsn hb2 hba hB2
 go_wp2_with fail
 go_ret
 exact⟨_,rfl,HK.out,HB2.out⟩

end Go.Proofs.YtfeebdcmlnapiaaGreat

namespace Go.Proofs.YtfeebdcmlnapiaaGreat
open Go.RowKit P5 P14 P17 K

def z2g (x:Wt) (n:Int) (vb:Value):Array Value:=#[.bool x.r,.int .i64 x.l,.int .i64 x.d,.int .i64 x.i,.int .i64 n,vb]

def zky (w:World) (T:Int→Option Value) (z:Int) (x:Wt) (n:Int) (q:Nat) (vb:Value):Prop:=T z=some (.pointer (some ⟨q,0,none⟩))∧w.heap[q]? = some (.cells (z2g x n vb) 245 (0,0))

theorem HpFr.grown {w w':World} {bh:Nat} {r':Option Nat} (h:HpFr w w' bh none r'):w.grownBy w' (some bh):=⟨h.os,h.tape,h.output,h.size,fun k hk hne=>h.block k hk (fun e=>hne (by rw[e])) (by simp)⟩

theorem zj0 (w:World) (c1 c2 c3:Array Value) (t1 t2 t3:TypeId) (W:World) (h:((w.alloc (.cells c1 t1)).alloc (.cells c2 t2)).alloc (.cells c3 t3)=W):Below w.heap.size w W∧W.heap[w.heap.size]? = some (.cells c1 t1 (0,0))∧W.heap[w.heap.size+1]? = some (.cells c2 t2 (0,0))∧W.heap[w.heap.size+1+1]? = some (.cells c3 t3 (0,0))∧W.heap.size=w.heap.size+1+1+1:=by
 subst h
 refine⟨(((Below.refl w.heap.size w).alloc (Nat.le_refl _) _).alloc (by simp) _).alloc (by simp;omega) _,?_,?_,?_,by simp⟩
 ·exact ((((Below.refl _ _).alloc (Nat.le_refl _) _).alloc (by simp) _:Below (w.alloc (.cells c1 t1)).heap.size _ _).block w.heap.size (by simp)).trans (heap_alloc_new w _)
 ·have:=heap_alloc_new (w.alloc (.cells c1 t1)) (.cells c2 t2)
  rw[World.size_alloc] at this
  exact (((Below.refl _ _).alloc (Nat.le_refl _) _:Below ((w.alloc (.cells c1 t1)).alloc (.cells c2 t2)).heap.size _ _).block (w.heap.size+1) (by simp)).trans this
 ·have:=heap_alloc_new ((w.alloc (.cells c1 t1)).alloc (.cells c2 t2)) (.cells c3 t3)
  rw[World.size_alloc,World.size_alloc] at this
  exact this

set_option maxRecDepth 100000 in
set_option maxHeartbeats 4000000 in
theorem zmm (bk bt:Nat) (left:List Int) (hl:left.Pairwise (·<·)) (T:Int→Option Value) (mt:Nat) (DT:DataW Value) (hT:∀ k,(T k).isSome=true↔k∈left) (hm:mt≤1048576) (hlen:left.length≤900) (hwf:∀ z∈left,(Lit.int .i64 z).wf=true) (wt:Int→Wt) (wn:Int→Nat) (w:World) (ht:VTab w bt T mt DT) (htu:∀ z∈left,∃ q vb,zky w T z (wt z) (wn z) q vb) :
  Calls Tryz.prog 229 #[.agg #[.map (some bk),.map (some bt)]] w fun r w'=>∃ v l',r=.returned (.agg #[v,.func (.func 249) #[] #[]])∧w'.ownsRow w.heap.size 242 4 v l'.length (l'.flatMap z0c)∧HeapOk hvW l'∧l'.Perm ((left.filter (fun z=>wn z==0)).map wt)∧Below w.heap.size w w':=by
 obtain⟨W0,hW0⟩:∃ W0,(w.alloc (.cells #[.map (some bk),.map (some bt)] 234)).alloc (.cells #[.slice none 0 0,.nilFunc] 250)=W0:=⟨_,rfl⟩
 have hs0:W0.heap.size=w.heap.size+1+1:=by rw[← hW0];simp
 obtain⟨W1,hW1⟩:∃ W1,W0.alloc (.cells #[.slice none 0 0,.func (.func 249) #[] #[]] 250)=W1:=⟨_,rfl⟩
 obtain⟨hb1,hQ1,hR1,hH1,hs1⟩:=zj0 w #[.map (some bk),.map (some bt)] #[.slice none 0 0,.nilFunc] #[.slice none 0 0,.func (.func 249) #[] #[]] 234 250 250 W1 (by rw[hW0];exact hW1)
 have q0:=zb hQ1 0 rfl
 have q1:=zb hQ1 1 rfl
 have Bj:=hide (za0 bk bt left hl T mt DT hT hm W1 (ht.below hb1))
 have HW1:=hide hW1
 have HW0:=hide hW0
 have Ak:=hide hs0
 have D9:=hide hQ1
 have HR1:=hide hR1
 have Bf:=hide hH1
 have HB1:=hide hb1
 have HT:=hide ht
 have Ef:=hide htu
 have Bv:=hide hwf
 have Cr:=hide hT
 clear hW0 hs0 hW1 hQ1 hR1 hH1 hb1 ht htu hwf hT hl
 have hsf:(store ⟨W0.heap.size,1,none⟩ (.func (.func 249) #[] #[])).run Tryz.prog (W0.alloc (.cells #[.slice none 0 0,.nilFunc] 250))=.ok () W1:=by
  have hc:(W0.alloc (.cells #[.slice none 0 0,.nilFunc] 250)).heap[W0.heap.size]? = some (.cells #[.slice none 0 0,.nilFunc] 250 (0,0)):=heap_alloc_new _ _
  rw[run_store _ _ _ _ _ rfl,zb hc 1 rfl,zh hc 1,World.setCell_alloc_new,← HW1.out]
  rfl
 go_enter Tryz.func229,Tryz.ntmps229
 go_upto_region 1 with fail
 rw[HW0.out]
 clear HW0
 go_upto_region 2 with fail
 rw[Ak.out]
 clear HW1 Ak hsf
 go_upto_region 3 with (go_at_call 227;(with_reducible refine Bj.out.mono ?_);rintro r w2 ⟨v2,rfl,ho2,hb2⟩;obtain⟨o2,c2,rfl⟩:=zi ho2)
 obtain⟨b,hbd⟩:∃ b,w.heap.size=b:=⟨_,rfl⟩
 rw[hbd] at hs1 D9 HR1 Bf q0 q1 ⊢
 have hs2:=hb2.size
 have Ag:=hide (show w2.ownsRow (b+1+1+1) 3 1 (.slice o2 left.length c2) left.length (left.map z03) from by rw[← hs1];exact ho2)
 have Km:=hide ((hb2.block b (ze D9.out)).trans D9.out)
 have HR2:=hide ((hb2.block (b+1) (ze HR1.out)).trans HR1.out)
 have L8:=hide ((hb2.block (b+1+1) (ze Bf.out)).trans Bf.out)
 have HB2:=hide (show Below w.heap.size w w2 from HB1.out.trans (hb2.mono HB1.out.size))
 have HT2:=hide (HT.out.below HB2.out)
 have Aw:=hide hbd
 have CR:=hide (show HpV w2 (b+1+1+1) (b+1+1) (.slice none 0 0) [] from ⟨L8.out,World.ownsRow_nil _ _ _ _⟩)
 have hsz2:b+1+1+1≤w2.heap.size:=by omega
 clear ho2 hb2 q0 q1 Bj hbd D9 HR1 Bf
 go_loopw [10] (fun i wr=>∃ (j:Nat) (vh:Value) (l:List Wt),i=.int .i64 (j:Int)∧j≤left.length∧HpV wr (b+1+1+1) (b+1+1) vh l∧HeapOk hvW l∧l.Perm (((left.take j).filter (fun z=>wn z==0)).map wt)∧HpFr w2 wr (b+1+1) none vh.ownBlock) (fun i _=>left.length - (intOf i).toNat)
 case atStart=>exact⟨0,_,[],rfl,Nat.zero_le _,CR.out,fun i x y h0 hx=>by simp at hx,by simp,HpFr.refl _ _ _⟩
 case round =>
  obtain⟨j,vh,l,rfl,hj,hV,hO,hP,hF⟩:=hrel
  have Cq:=hide hV
  have EJ:=hide hO
  have Eg:=hide hP
  have Bc:=hide hF
  have HG:=hide hF.grown
  have hszr:=hF.size
  clear hV hO hP hF
  by_cases hlt:j<left.length
  ·have j0:(j:Int)<(left.length:Int):=by omega
   obtain⟨z,hz⟩:∃ z,left[j]? = some z:=⟨_,List.getElem?_eq_getElem hlt⟩
   have hzl:=List.mem_of_getElem? hz
   have hor:wr.ownsRow (b+1+1+1) 3 1 (.slice o2 left.length c2) left.length (left.map z03):=Ag.out.kept HG.out (.inr (fun e=>by have:=(Ag.out.lt _ e).1;omega))
   obtain⟨_,_,heo,hia⟩:=z6z hor Bv.out
   cases heo
   obtain⟨z',bz,qz,hz',hidx,hbz,e0,hwz⟩:=hia.get Tryz.underlying60 z0f j hlt
   have hzz:z'=z:=by rw[hz] at hz';exact (Option.some.inj hz').symm
   subst hzz
   obtain⟨q,vb,hTq,hq⟩:=Ef.out z' hzl
   have hqr:wr.heap[q]? = some (.cells (z2g (wt z') (wn z') vb) 245 (0,0)):=by
    have h1:=(HB2.out.block q (ze hq)).trans hq
    exact (HG.out.block q (ze h1) (fun e=>by have:=Option.some.inj e;have:=ze hq;have:=Aw.out;omega)).trans h1
   have hbr:wr.heap[b]? = some (.cells #[.map (some bk),.map (some bt)] 234 (0,0)):=(HG.out.block b (ze Km.out) (fun e=>by have:=Option.some.inj e;omega)).trans Km.out
   have hVT:VTab wr bt T mt DT:=HT2.out.kept HG.out (fun e=>by have:=Option.some.inj e;have:=HT.out.lt;have:=Aw.out;omega)
   have hget:=hVT.get Tryz.underlying232 (Tryz.zeroValue240 _) hwz
   rw[hTq] at hget
   simp only[Option.getD_some] at hget
   have k1:=zb hbr 1 rfl
   have t0:wr.cell? ⟨q,0,none⟩=some (.bool (wt z').r):=zb hqr 0 rfl
   have t1:wr.cell? ⟨q,1,none⟩=some (.int .i64 (wt z').l):=zb hqr 1 rfl
   have t2:wr.cell? ⟨q,2,none⟩=some (.int .i64 (wt z').d):=zb hqr 2 rfl
   have t3:wr.cell? ⟨q,3,none⟩=some (.int .i64 (wt z').i):=zb hqr 3 rfl
   have t4:wr.cell? ⟨q,4,none⟩=some (.int .i64 (wn z':Int)):=zb hqr 4 rfl
   have Af:=hide (show (left.take (j+1)).filter (fun z=>wn z==0)=(left.take j).filter (fun z=>wn z==0)++(if wn z'==0 then [z'] else []) from by
    rw[List.take_add_one,hz,List.filter_append]
    simp[List.filter_cons])
   have hll:l.length≤1000:=by
    have h1:=Eg.out.length_eq
    rw[List.length_map] at h1
    have h2:=List.length_filter_le (fun z=>wn z==0) (left.take j)
    rw[List.length_take] at h2
    omega
   clear hor hia hz hz' hqr hbr hVT hq hTq
   cases hw0:(wn z'==0)
   ·have g0:((wn z':Int)==0)=false:=by
     rw[beq_eq_false_iff_ne] at hw0 ⊢
     omega
    go_wp2_with fail
    go_roundw
    case rel=>exact⟨j+1,vh,l,by go_num,by omega,Cq.out,EJ.out,by rw[Af.out,hw0];simpa using Eg.out,Bc.out⟩
    case measure=>simp[intOf];omega
   ·have g0:((wn z':Int)==0)=true:=by
     rw[beq_iff_eq] at hw0 ⊢
     omega
    have Da:=hide (zbx (b+1+1+1) (b+1+1) vh l (wt z') hll EJ.out wr (by omega) Cq.out)
    go_wp2_with (go_at_call 233;(with_reducible refine Da.out.mono ?_);rintro r w5 ⟨v5,l5,rfl,hV5,hO5,hP5,hF5⟩)
    go_roundw
    case rel=>exact⟨j+1,v5,l5,by go_num,by omega,hV5,hO5,(by
     rw[Af.out,hw0]
     simp only[↓reduceIte,List.map_append,List.map_cons,List.map_nil]
     exact hP5.trans ((List.Perm.cons _ Eg.out).trans (List.perm_append_comm (l₁:=[wt z']) (l₂:=((left.take j).filter (fun z=>wn z==0)).map wt)))),Bc.out.trans hF5⟩
    case measure=>simp[intOf];omega
  ·have hjn:left.take j=left:=List.take_of_length_le (by omega)
   rw[hjn] at Eg
   obtain⟨oh,ch,rfl⟩:=zi Cq.out.row
   have h0:=zb Cq.out.st 0 rfl
   have h1:=zb Cq.out.st 1 rfl
   have hRr:=(HG.out.block (b+1) (ze HR2.out) (fun e=>by have:=Option.some.inj e;omega)).trans HR2.out
   have r0:=zb hRr 0 rfl
   have f0:=zh hRr 0
   have hR6:=z2q (k:=0) (.slice oh l.length ch) hRr
   obtain⟨W6,hW6⟩:∃ W6,(wr.setCell ⟨b+1,0,none⟩ (.slice oh l.length ch)).setCell ⟨b+1,1,none⟩ (.func (.func 249) #[] #[])=W6:=⟨_,rfl⟩
   have hsf:(store ⟨b+1,1,none⟩ (.func (.func 249) #[] #[])).run Tryz.prog (wr.setCell ⟨b+1,0,none⟩ (.slice oh l.length ch))=.ok () W6:=by
    rw[run_store _ _ _ _ _ rfl,zb hR6 1 rfl,zh hR6 1,hW6]
    rfl
   obtain⟨hR7,hg7⟩:=zx [.slice oh l.length ch,.func (.func 249) #[] #[]] wr _ 0 hRr
   rw[show wr.setCells (b+1) 0 [.slice oh l.length ch,.func (.func 249) #[] #[]]=W6 from hW6] at hR7 hg7
   have Kn:=hide hR7
   have Ko:=hide hg7
   clear hR6 hRr hW6 hR7 hg7
   go_wp2_with fail
   have z0:W6.cell? ⟨b+1,0,none⟩=some (.slice oh l.length ch):=zb Kn.out 0 rfl
   have z1:W6.cell? ⟨b+1,1,none⟩=some (.func (.func 249) #[] #[]):=zb Kn.out 1 rfl
   refine bodyPost_ret (v:=.agg #[.slice oh l.length ch,.func (.func 249) #[] #[]]) (by simp[results,Tryz.results229,go_sem,z0,z1]) rfl ?_
   have hbw:Below w.heap.size w wr:=HB2.out.grown HG.out HB2.out.size (fun k hk=>by cases hk;have:=Aw.out;omega)
   exact⟨_,l,rfl,zu (Cq.out.row.kept Ko.out (.inr (fun e=>by have:=(Cq.out.row.lt _ e).1;omega))) (by have:=Aw.out;omega),EJ.out,Eg.out,hbw.grown Ko.out hbw.size (fun k hk=>by cases hk;have:=Aw.out;omega)⟩

end Go.Proofs.YtfeebdcmlnapiaaGreat

namespace Go.Proofs.YtfeebdcmlnapiaaGreat
open Go.RowKit P5 P14 P17 K

structure TurnsOk (w:World) (T:Int→Option Value) (left:List Int) (wt:Int→Wt) (wn:Int→Nat) (q:Int→Nat) (vb:Int→Value):Prop where
 at_:∀ z∈left,zky w T z (wt z) (wn z) (q z) (vb z)
 inj:∀ z∈left,∀ y∈left,q z=q y→z=y

structure TuFr (B:Nat) (left:List Int) (q:Int→Nat) (w w':World):Prop where
 os:w'.os=w.os
 tape:w'.tape=w.tape
 output:w'.output=w.output
 size:w.heap.size≤w'.heap.size
 block:∀ k,k<B→(∀ z∈left,k≠q z)→w'.heap[k]? = w.heap[k]?

section
variable {B:Nat} {left:List Int} {q:Int→Nat} {w w1 w2:World}

theorem TuFr.refl (B:Nat) (left:List Int) (q:Int→Nat) (w:World):TuFr B left q w w:=⟨rfl,rfl,rfl,Nat.le_refl _,fun _ _ _=>rfl⟩

theorem TuFr.trans (h:TuFr B left q w w1) (k:TuFr B left q w1 w2):TuFr B left q w w2 :=
 ⟨k.os.trans h.os,k.tape.trans h.tape,k.output.trans h.output,Nat.le_trans h.size k.size,fun i hi hn=>(k.block i hi hn).trans (h.block i hi hn)⟩

theorem TuFr.mono {B':Nat} (h:TuFr B left q w w1) (hb:B'≤B):TuFr B' left q w w1:=⟨h.os,h.tape,h.output,h.size,fun i hi hn=>h.block i (Nat.lt_of_lt_of_le hi hb) hn⟩

theorem TuFr.on (h:Below B w w1):TuFr B left q w w1:=⟨h.os,h.tape,h.output,h.size,fun i hi _=>h.block i hi⟩

theorem TuFr.one {z:Int} (hz:z∈left) (hB:B≤w.heap.size) (h:w.grownBy w1 (some (q z))):TuFr B left q w w1:=⟨h.os,h.tape,h.output,h.size,fun i hi hn=>h.block i (Nat.lt_of_lt_of_le hi hB) (fun e=>hn z hz (Option.some.inj e))⟩
end

theorem zfg {w:World} {b:Nat} {x:Wt} {n m:Int} {vb:Value} (h:w.heap[b]? = some (.cells (z2g x n vb) 245 (0,0))):(w.setCell ⟨b,4,none⟩ (.int .i64 m)).heap[b]? = some (.cells (z2g x m vb) 245 (0,0))∧w.grownBy (w.setCell ⟨b,4,none⟩ (.int .i64 m)) (some b):=by
 obtain⟨h1,h2⟩:=zx [.int .i64 m] w _ 4 h
 exact⟨h1,h2⟩

def z4f (wn:Int→Nat) (l:List Int) (z:Int):Nat:=wn z - (if z∈l then 1 else 0)

theorem zj1 {wn:Int→Nat} {l:List Int} {y z:Int} (hy:y ∉ l):z4f wn (l++[y]) z=if z=y then wn z - 1 else z4f wn l z:=by
 unfold z4f
 by_cases e:z=y
 ·subst e
  simp
 ·simp[e]

theorem TurnsOk.less {w w1:World} {T:Int→Option Value} {left:List Int} {wt:Int→Wt} {wn:Int→Nat} {q:Int→Nat} {vb:Int→Value} {l:List Int} {y:Int} (h:TurnsOk w T left wt (z4f wn l) q vb) (hy:y∈left) (hl:y ∉ l) (hq:w1.heap[q y]? = some (.cells (z2g (wt y) ((wn y - 1:Nat):Int) (vb y)) 245 (0,0))) (hg:w.grownBy w1 (some (q y))):TurnsOk w1 T left wt (z4f wn (l++[y])) q vb:=by
 refine⟨fun z hz=>?_,h.inj⟩
 obtain⟨h1,h2⟩:=h.at_ z hz
 refine⟨h1,?_⟩
 rw[zj1 hl]
 by_cases e:z=y
 ·subst e
  rw[if_pos rfl]
  exact hq
 ·rw[if_neg e]
  exact (hg.block (q z) (ze h2) (fun e2=>e (h.inj z hz y hy (Option.some.inj e2)))).trans h2

theorem TurnsOk.on {w w1:World} {T:Int→Option Value} {left:List Int} {wt:Int→Wt} {wn:Int→Nat} {q:Int→Nat} {vb:Int→Value} (h:TurnsOk w T left wt wn q vb) (hb:Below w.heap.size w w1):TurnsOk w1 T left wt wn q vb :=
 ⟨fun z hz=>⟨(h.at_ z hz).1,(hb.block _ (ze (h.at_ z hz).2)).trans (h.at_ z hz).2⟩,h.inj⟩

end Go.Proofs.YtfeebdcmlnapiaaGreat

namespace Go.Proofs.YtfeebdcmlnapiaaGreat
open Go.RowKit P5 P14 P17 K

theorem VTab.tu {w w1:World} {b m:Nat} {F:Int→Option Value} {D:DataW Value} {T:Int→Option Value} {left:List Int} {wt:Int→Wt} {wn:Int→Nat} {q:Int→Nat} {vb:Int→Value} {B:Nat} (h:VTab w b F m D) (ht:TurnsOk w T left wt wn q vb) (hB:w.heap.size≤B) (hf:TuFr B left q w w1):VTab w1 b F m D:=by
 refine⟨?_,h.size,h.no,h.yes,h.wide⟩
 obtain⟨es,clock,hb,F',hs,hD⟩:=h.own
 refine⟨es,clock,(hf.block b (Nat.lt_of_lt_of_le h.lt hB) (fun z hz e=>?_)).trans hb,F',hs,hD⟩
 have:=(ht.at_ z hz).2
 rw[← e,hb] at this
 cases this

theorem IntsAt.tu {w w1:World} {oa:Option Addr} {n cap:Nat} {zs left:List Int} {q:Int→Nat} {B:Nat} (h:IntsAt w oa n cap zs) (hB:w.heap.size≤B) (hf:TuFr B left q w w1) (hn:∀ a,oa=some a→∀ z∈left,a.block≠q z):IntsAt w1 oa n cap zs :=
 ⟨h.len,h.room,h.most,h.fits,fun i z hz=>by
  obtain⟨b,o,ha,hc⟩:=h.at_ i z hz
  refine⟨b,o,ha,?_⟩
  have hlt:=zw hc
  exact (World.cell?_of_block (hf.block b (Nat.lt_of_lt_of_le hlt hB) (fun y hy=>hn _ ha y hy))).trans hc⟩

theorem zns {w w5:World} {B:Nat} {v:Value} {n:Nat} {xs:List Value} {X:Obj} {left:List Int} {q:Int→Nat} (hB:B≤w.heap.size) (ho:w.ownsRow B 242 4 v n xs) (hg:(w.alloc X).grownBy w5 v.ownBlock):TuFr B left q w w5:=by
 have hba:=(Below.refl B w).alloc hB X
 exact TuFr.on (hba.grown hg (Nat.le_trans hB (by simp)) (fun k hk=>(ho.lt k hk).1))

theorem zmn {w w5:World} {B:Nat} {v:Value} {n:Nat} {xs:List Value} {X:Obj} {left:List Int} {q:Int→Nat} {T:Int→Option Value} {wt:Int→Wt} {wn:Int→Nat} {vb:Int→Value} (h:TurnsOk w T left wt wn q vb) (ho:w.ownsRow B 242 4 v n xs) (hg:(w.alloc X).grownBy w5 v.ownBlock) (hq:∀ z∈left,q z<B):TurnsOk w5 T left wt wn q vb:=by
 have hba:=(Below.refl w.heap.size w).alloc (Nat.le_refl _) X
 have h1:=h.on hba
 exact⟨fun z hz=>⟨(h1.at_ z hz).1,(hg.block (q z) (ze (h1.at_ z hz).2) (fun e=>by have:=(ho.lt _ e.symm).1;have:=hq z hz;omega)).trans (h1.at_ z hz).2⟩,h.inj⟩

set_option maxRecDepth 100000 in
set_option maxHeartbeats 4000000 in
theorem zgr (bk bt:Nat) (left:List Int) (T:Int→Option Value) (mt:Nat) (DT:DataW Value) (id:Int) (hid:id∈left) (hwf:∀ z∈left,(Lit.int .i64 z).wf=true) (wt:Int→Wt) (wn:Int→Nat) (q:Int→Nat) (vb:Int→Value) (bs:List Int) (hnd:bs.Nodup) (hsub:∀ z∈bs,z∈left) (hpos:∀ z∈bs,1≤wn z∧wn z≤100000) (hlen:bs.length≤900) (ob:Option Addr) (cb:Nat) (hvb:vb id=.slice ob bs.length cb) (w:World) (ht:VTab w bt T mt DT) (htu:TurnsOk w T left wt wn q vb) (hrow:IntsAt w ob bs.length cb bs) (hfar:∀ a,ob=some a→∀ z∈left,a.block≠q z) :
  Calls Tryz.prog 232 #[.agg #[.map (some bk),.map (some bt)],.int .i64 id] w fun r w'=>∃ v,r=.returned v∧w'.ownsRow w.heap.size 242 4 v ((bs.filter (fun z=>wn z==1)).map wt).length (((bs.filter (fun z=>wn z==1)).map wt).flatMap z0c)∧TurnsOk w' T left wt (z4f wn bs) q vb∧TuFr w.heap.size left q w w':=by
 obtain⟨W0,hW0⟩:∃ W0,w.alloc (.cells #[.map (some bk),.map (some bt)] 234)=W0:=⟨_,rfl⟩
 have hb0:Below w.heap.size w W0:=by rw[← hW0];exact (Below.refl _ _).alloc (Nat.le_refl _) _
 have hs0:W0.heap.size=w.heap.size+1:=by rw[← hW0];simp
 have hQ0:W0.heap[w.heap.size]? = some (.cells #[.map (some bk),.map (some bt)] 234 (0,0)):=by rw[← hW0];exact heap_alloc_new _ _
 have hT0:=ht.below hb0
 have htu0:=htu.on hb0
 have hqlt:∀ z∈left,q z<w.heap.size:=fun z hz=>ze (htu.at_ z hz).2
 have hi0:=(htu0.at_ id hid)
 have hg0:=hT0.get Tryz.underlying232 (Tryz.zeroValue240 _) (hwf id hid)
 rw[hi0.1] at hg0
 simp only[Option.getD_some] at hg0
 have k1:=zb hQ0 1 rfl
 have t5:W0.cell? ⟨q id,5,none⟩=some (.slice ob bs.length cb):=by rw[← hvb];exact zb hi0.2 5 rfl
 have DI:=hide (show TurnsOk W0 T left wt (z4f wn []) q vb from ⟨fun z hz=>by have:=htu0.at_ z hz;unfold z4f;simpa using this,htu0.inj⟩)
 have HT0:=hide hT0
 have Ef:=hide htu0
 have HB0:=hide hb0
 have HW0:=hide hW0
 have Eh:=hide hQ0
 have Ad:=hide (hrow.below hb0)
 have EK:=hide hfar
 have Bv:=hide hwf
 have L9:=hide hnd
 have La:=hide hsub
 have Lb:=hide hpos
 have Ei:=hide hqlt
 have hlq:=ze hQ0
 clear hb0 hW0 hQ0 hT0 htu0 hi0 ht htu hrow hfar hwf hnd hsub hpos hqlt hvb
 go_enter Tryz.func232,Tryz.ntmps232
 go_upto_region 1 with fail
 rw[HW0.out]
 clear HW0
 go_wp2_with fail
 go_loopw [5,17] (fun v x wr=>∃ (j:Nat) (ov:Option Addr) (cv:Nat),x=.int .i64 (j:Int)∧v=.slice ov (((bs.take j).filter (fun z=>wn z==1)).map wt).length cv∧j≤bs.length∧wr.ownsRow W0.heap.size 242 4 v (((bs.take j).filter (fun z=>wn z==1)).map wt).length ((((bs.take j).filter (fun z=>wn z==1)).map wt).flatMap z0c)∧TurnsOk wr T left wt (z4f wn (bs.take j)) q vb∧TuFr W0.heap.size left q W0 wr) (fun _ x _=>bs.length - (intOf x).toNat)
 case atStart=>exact⟨0,none,0,rfl,rfl,Nat.zero_le _,World.ownsRow_nil _ _ _ _,DI.out,TuFr.refl _ _ _ _⟩
 case round =>
  obtain⟨j,ov,cv,rfl,rfl,hj,hro,htr,hfr⟩:=hrel
  have Gp:=hide hro
  have Bu:=hide htr
  have Bc:=hide hfr
  have hsz:=hfr.size
  clear hro htr hfr
  by_cases hlt:j<bs.length
  ·have j0:(j:Int)<(bs.length:Int):=by omega
   have hir:=Ad.out.tu (Nat.le_refl _) Bc.out EK.out
   obtain⟨y,by_,qy,hy,hidx,hbz,e0,hwz⟩:=hir.get Tryz.underlying60 z0f j hlt
   have hyb:=List.mem_of_getElem? hy
   have hyl:=La.out y hyb
   have hyt:y ∉ bs.take j:=fun hm=>by
    obtain⟨h3,h4⟩:=List.getElem?_eq_some_iff.1 hy
    have h:=List.take_append_drop j bs
    rw[List.drop_eq_getElem_cons h3,h4] at h
    have hn:=L9.out
    rw[← h,List.nodup_append] at hn
    exact hn.2.2 y hm y List.mem_cons_self rfl
   obtain⟨hTy,hqy⟩:=Bu.out.at_ y hyl
   have hwy:z4f wn (bs.take j) y=wn y:=by unfold z4f;simp[hyt]
   rw[hwy] at hqy
   obtain⟨hp1,hp2⟩:=Lb.out y hyb
   have hVT:=HT0.out.tu Ef.out (Nat.le_refl _) Bc.out
   have hget:=hVT.get Tryz.underlying232 (Tryz.zeroValue240 _) hwz
   rw[hTy] at hget
   simp only[Option.getD_some] at hget
   have hqb:=Ei.out y hyl
   have kr:=(World.cell?_of_block (w:=W0) (w':=wr) (a:=⟨w.heap.size,1,none⟩) (Bc.out.block w.heap.size hlq (fun z hz=>by have:=Ei.out z hz;omega))).trans k1
   have t4:wr.cell? ⟨q y,4,none⟩=some (.int .i64 (wn y:Int)):=zb hqy 4 rfl
   have f4:=zh hqy 4
   obtain⟨hqn,hgn⟩:=zfg (m:=((wn y - 1:Nat):Int)) hqy
   have Dr:=hide (Bu.out.less hyl hyt hqn hgn)
   have hw1:IntKind.i64.wrap ((wn y:Int) - 1)=((wn y - 1:Nat):Int):=by rw[IntKind.wrap_i64];omega
   have hw2:(wn y:Int) - 1=((wn y - 1:Nat):Int):=by omega
   have Af:=hide (show bs.take (j+1)=bs.take j++[y] from by rw[List.take_add_one,hy];rfl)
   have GV:=hide (Gp.out.kept hgn (.inr (fun e=>by have:=(Gp.out.lt _ e).1;omega)))
   have Ce:=hide (Bc.out.trans (TuFr.one hyl hsz hgn))
   have Aa:=hide (show ((bs.take (j+1)).filter (fun z=>wn z==1)).map wt=((bs.take j).filter (fun z=>wn z==1)).map wt++(if wn y==1 then [wt y] else []) from by
    rw[Af.out,List.filter_append,List.map_append]
    congr 1
    cases h1:(wn y==1)<;>simp[List.filter_cons,h1])
   have hLl:(((bs.take j).filter (fun z=>wn z==1)).map wt).length≤900:=by
    rw[List.length_map]
    have h1:=List.length_filter_le (fun z=>wn z==1) (bs.take j)
    rw[List.length_take] at h1
    omega
   obtain⟨W4,hW4⟩:∃ W4,wr.setCell ⟨q y,4,none⟩ (.int .i64 ((wn y - 1:Nat):Int))=W4:=⟨_,rfl⟩
   rw[hW4] at Dr GV Ce hqn hgn
   have Cw:=hide hW4
   have s0:W4.cell? ⟨q y,0,none⟩=some (.bool (wt y).r):=zb hqn 0 rfl
   have s1:W4.cell? ⟨q y,1,none⟩=some (.int .i64 (wt y).l):=zb hqn 1 rfl
   have s2:W4.cell? ⟨q y,2,none⟩=some (.int .i64 (wt y).d):=zb hqn 2 rfl
   have s3:W4.cell? ⟨q y,3,none⟩=some (.int .i64 (wt y).i):=zb hqn 3 rfl
   have s4:W4.cell? ⟨q y,4,none⟩=some (.int .i64 ((wn y - 1:Nat):Int)):=zb hqn 4 rfl
   have hsz4:=hgn.size
   generalize hLj:((bs.take j).filter (fun z=>wn z==1)).map wt=Lj at Gp GV Aa hLl
   clear hir hy hVT hqn hgn hqy hTy hwy hW4
   go_upto_region 7 with fail
   rw[Cw.out]
   clear Cw t4 f4 kr hget hidx e0
   cases h1:(wn y==1)
   ·have g0:(((wn y - 1:Nat):Int)==0)=false:=by
     rw[beq_eq_false_iff_ne] at h1 ⊢
     omega
    rw[h1] at Aa
    simp only[Bool.false_eq_true,↓reduceIte,List.append_nil] at Aa
    go_wp2_with fail
    go_roundw
    case rel=>exact⟨j+1,ov,cv,by go_num,by rw[Aa.out],by omega,by rw[Aa.out];exact GV.out,by rw[Af.out];exact Dr.out,Ce.out⟩
    case measure=>simp[intOf];omega
   ·have g0:(((wn y - 1:Nat):Int)==0)=true:=by
     rw[beq_iff_eq] at h1 ⊢
     omega
    rw[h1] at Aa
    simp only[↓reduceIte] at Aa
    have hown:=GV.out
    go_wp2_with (at_builtin;refine z1n (cs:=#[.bool (wt y).r,.int .i64 (wt y).l,.int .i64 (wt y).d,.int .i64 (wt y).i]) rfl _ _ 247 rfl (by decide) Tryz.underlying247 zht rfl rfl hown rfl rfl (by simp[Value.oneCell']) (by omega) (by unfold maxLen;omega) (by omega) ?_;intro v5 w5 ho5 hg5 hl5;obtain⟨o5,c5,rfl⟩:=zi ho5)
    have hba:=(Below.refl W4.heap.size W4).alloc (Nat.le_refl _) (.cells #[.bool (wt y).r,.int .i64 (wt y).l,.int .i64 (wt y).d,.int .i64 (wt y).i] 242)
    have hfr5:TuFr W0.heap.size left q W4 w5:=zns (by omega) hown hg5
    have htu5:TurnsOk w5 T left wt (z4f wn (bs.take (j+1))) q vb:=by
     rw[Af.out]
     exact zmn Dr.out hown hg5 (fun z hz=>by have:=Ei.out z hz;omega)
    go_roundw
    case rel=>exact⟨j+1,o5,c5,by go_num,by rw[Aa.out,List.length_append];rfl,by omega,by rw[Aa.out,List.length_append,List.flatMap_append];exact ho5,htu5,Ce.out.trans hfr5⟩
    case measure=>simp[intOf];omega
  ·have hjn:bs.take j=bs:=List.take_of_length_le (by omega)
   rw[hjn] at Gp Bu ⊢
   go_wp2_with fail
   go_ret
   exact⟨_,rfl,zu Gp.out HB0.out.size,Bu.out,(TuFr.on HB0.out).trans (Bc.out.mono HB0.out.size)⟩

end Go.Proofs.YtfeebdcmlnapiaaGreat
