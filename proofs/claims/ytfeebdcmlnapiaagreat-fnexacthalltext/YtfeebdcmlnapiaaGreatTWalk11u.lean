/-
  Walks.
-/
import Derived.Test.YtfeebdcmlnapiaaGreatTIterI
import Derived.Test.YtfeebdcmlnapiaaGreatTWalk11n
open Go.Value renaming int->J
open Go.IntKind renaming i64->Y
set_option maxRecDepth 100000
set_option maxHeartbeats 4000000
set_option linter.unusedVariables false
set_option linter.unusedSimpArgs false
namespace Go.Proofs.YtfeebdcmlnapiaaGreat
open Go.RowKit Go.Maps Go.Sort P1 P5 P14 K
theorem zgq {w:World} {b m:Nat} {F:Int→Option Value} {D:DataW Value} {left:Zin} (h:VTab w b F m D) (hl:left.Pairwise (·<·)) (hF:∀ k,(F k).isSome=true↔k∈left) {ks:Zin} (hk:ks.Perm (intKeys D)):ks.mergeSort (fun x y=>decide (x≤y))=left:=by
 have hc:CollectedI D (fun _=>false) left:=by
  refine⟨hl.imp (fun h=>by omega),fun x=>?_⟩
  rw[← hF]
  cases hf:F x with
  | none=>rw[h.no x hf];simp
  | some i=>rw[(h.yes x i hf).1];simp
 have hp:=hc.perm h.own (Maps.int_keyed Tryz.underlying3) Tryz.underlying3 (fun _=>rfl)
 have e1:ks.mergeSort (fun x y=>decide (x≤y))=left.mergeSort (fun x y=>decide (x≤y)):=mergeSort_of_perm_i (hk.trans hp.symm)
 rw[e1]
 refine List.mergeSort_of_pairwise (hl.imp (fun h=>?_))
 simp only[decide_eq_true_eq]
 omega

theorem za0 (bk bt:Nat) (left:Zin) (hl:left.Pairwise (·<·)) (T:Int→Option Value) (mt:Nat) (DT:DataW Value) (hT:∀ k,(T k).isSome=true↔k∈left) (hm:mt≤1048576) (w:World) (ht:VTab w bt T mt DT) :
  Calls Tryz.prog 227 #[.agg #[.map (some bk),.map (some bt)]] w fun r w'=>∃ v,r=.returned v∧w'.ownsRow w.heap.size 3 1 v left.length (left.map z03)∧Bw w w':=by
 obtain⟨W0,hW0,hb0,hQ0⟩:=bxN w #[.map (some bk),.map (some bt)] 234
 have hT0:=ht.below hb0
 have q0:=zb hQ0 0 rfl
 have q1:=zb hQ0 1 rfl
 have hsort:=Tryz.sortedKeysI248 bt mt DT z1z W0 hT0.own (by rw[hT0.size];unfold maxLen;omega) (by rw[hT0.size];omega)
 have CZ:=ZZ hsort
 have HT0:=ZZ hT0
 have HB0:=ZZ hb0
 have HW0:=ZZ hW0
 have HL:=ZZ hl
 have Cr:=ZZ hT
 have hs0:=hb0.size
 clear hsort hT0 hb0 hW0 hQ0 ht hl hT
 go_enter Tryz.func227,Tryz.ntmps227
 go_upto_region 1 with fail
 rw[HW0.o]
 clear HW0
 go_wp2_with fail
 refine (callsIn_wide.1 (Tryz.mapsKeysI248 _ _)).mono ?_
 rintro e w1 ⟨rfl,rfl⟩
 go_wp2_with fail
 refine (callsIn_wide.1 CZ.o).mono ?_
 rintro e w2 ⟨v,ss,rfl,hperm,hkeys,hb2⟩
 have hsn:=zgq HT0.o HL.o Cr.o hperm
 have hnl:ss.length=left.length:=by
  have h1:=congrArg List.length hsn
  simpa using h1
 rw[hsn,hnl] at hkeys
 have hba:=(Below.refl W0.heap.size W0).alloc zLe (.cells #[.map (some bt)] 232)
 have hB2:Bw w w2:=HB0.o.trans ((zTr hba hb2).mono hs0)
 obtain⟨o2,c2,rfl⟩:=zi hkeys
 have HK:=ZZ (zu hkeys (zNt hs0 hba.size))
 have HB2:=ZZ hB2
 clear hkeys hperm hsn hb2 hba hB2
 go_wp2_with fail
 go_ret
 exact⟨_,rfl,HK.o,HB2.o⟩

open P17
def z2g (x:Wt) (n:Int) (vb:Value):Array Value:=#[.bool x.r,J Y x.l,J Y x.d,J Y x.i,J Y n,vb]

def zky (w:World) (T:Int→Option Value) (z:Int) (x:Wt) (n:Int) (q:Nat) (vb:Value):Prop:=T z=some (.pointer (some ⟨q,0,none⟩))∧w.heap[q]? = some (.cells (z2g x n vb) 245 (0,0))

theorem HpFr.grown {w w':World} {bh:Nat} {r':Option Nat} (h:HpFr w w' bh none r'):w.grownBy w' (some bh):=⟨h.os,h.tape,h.output,h.size,fun k hk hne=>h.block k hk (fun e=>hne (by rw[e])) (by simp)⟩

theorem zj0 (w:World) (c1 c2 c3:Array Value) (t1 t2 t3:TypeId) (W:World) (h:((w.alloc (.cells c1 t1)).alloc (.cells c2 t2)).alloc (.cells c3 t3)=W):Bw w W∧W.heap[w.heap.size]? = some (.cells c1 t1 (0,0))∧W.heap[w.heap.size+1]? = some (.cells c2 t2 (0,0))∧W.heap[w.heap.size+1+1]? = some (.cells c3 t3 (0,0))∧W.heap.size=w.heap.size+1+1+1:=by
 subst h
 refine⟨(((Below.refl w.heap.size w).alloc zLe _).alloc (by simp) _).alloc (by simp;omega) _,?_,?_,?_,by simp⟩
 ·exact (((zBa).alloc (by simp) _:Below (w.alloc (.cells c1 t1)).heap.size _ _).block w.heap.size (by simp)).trans (heap_alloc_new w _)
 ·have:=heap_alloc_new (w.alloc (.cells c1 t1)) (.cells c2 t2)
  rw[World.size_alloc] at this
  exact ((zBa:Below ((w.alloc (.cells c1 t1)).alloc (.cells c2 t2)).heap.size _ _).block (w.heap.size+1) (by simp)).trans this
 ·have:=heap_alloc_new ((w.alloc (.cells c1 t1)).alloc (.cells c2 t2)) (.cells c3 t3)
  rw[World.size_alloc,World.size_alloc] at this
  exact this

theorem zmm (bk bt:Nat) (left:Zin) (hl:left.Pairwise (·<·)) (T:Int→Option Value) (mt:Nat) (DT:DataW Value) (hT:∀ k,(T k).isSome=true↔k∈left) (hm:mt≤1048576) (hlen:left.length≤900) (hwf:∀ z∈left,(Lit.int .i64 z).wf=true) (wt:Int→Wt) (wn:Int→Nat) (w:World) (ht:VTab w bt T mt DT) (htu:∀ z∈left,∃ q vb,zky w T z (wt z) (wn z) q vb) :
  Calls Tryz.prog 229 #[.agg #[.map (some bk),.map (some bt)]] w fun r w'=>∃ v l',r=.returned (.agg #[v,.func (.func 249) #[] #[]])∧w'.ownsRow w.heap.size 242 4 v l'.length (l'.flatMap z0c)∧HeapOk hvW l'∧l'.Perm ((left.filter (fun z=>wn z==0)).map wt)∧Bw w w':=by
 obtain⟨W0,hW0⟩:∃ W0,(w.alloc (.cells #[.map (some bk),.map (some bt)] 234)).alloc (.cells #[.slice none 0 0,.nilFunc] 250)=W0:=⟨_,rfl⟩
 have hs0:W0.heap.size=w.heap.size+1+1:=by rw[← hW0];simp
 obtain⟨W1,hW1⟩:∃ W1,W0.alloc (.cells #[.slice none 0 0,.func (.func 249) #[] #[]] 250)=W1:=⟨_,rfl⟩
 obtain⟨hb1,hQ1,hR1,hH1,hs1⟩:=zj0 w #[.map (some bk),.map (some bt)] #[.slice none 0 0,.nilFunc] #[.slice none 0 0,.func (.func 249) #[] #[]] 234 250 250 W1 (by rw[hW0];exact hW1)
 have q0:=zb hQ1 0 rfl
 have q1:=zb hQ1 1 rfl
 have Bj:=ZZ (za0 bk bt left hl T mt DT hT hm W1 (ht.below hb1))
 have HW1:=ZZ hW1
 have HW0:=ZZ hW0
 have Ak:=ZZ hs0
 have D9:=ZZ hQ1
 have HR1:=ZZ hR1
 have Bf:=ZZ hH1
 have HB1:=ZZ hb1
 have HT:=ZZ ht
 have Ef:=ZZ htu
 have Bv:=ZZ hwf
 have Cr:=ZZ hT
 clear hW0 hs0 hW1 hQ1 hR1 hH1 hb1 ht htu hwf hT hl
 have hsf:(store ⟨W0.heap.size,1,none⟩ (.func (.func 249) #[] #[])).run Tryz.prog (W0.alloc (.cells #[.slice none 0 0,.nilFunc] 250))=.ok () W1:=by
  have hc:(W0.alloc (.cells #[.slice none 0 0,.nilFunc] 250)).heap[W0.heap.size]? = some (.cells #[.slice none 0 0,.nilFunc] 250 (0,0)):=heap_alloc_new _ _
  rw[run_store _ _ _ _ _ rfl,zb hc 1 rfl,zh hc 1,World.setCell_alloc_new,← HW1.o]
  rfl
 go_enter Tryz.func229,Tryz.ntmps229
 go_upto_region 1 with fail
 rw[HW0.o]
 clear HW0
 go_upto_region 2 with fail
 rw[Ak.o]
 clear HW1 Ak hsf
 go_upto_region 3 with (go_at_call 227;(with_reducible refine Bj.o.mono ?_);rintro r w2 ⟨v2,rfl,ho2,hb2⟩;obtain⟨o2,c2,rfl⟩:=zi ho2)
 obtain⟨b,hbd⟩:∃ b,w.heap.size=b:=⟨_,rfl⟩
 rw[hbd] at hs1 D9 HR1 Bf q0 q1 ⊢
 have hs2:=hb2.size
 have Ag:=ZZ (show w2.ownsRow (b+1+1+1) 3 1 (.slice o2 left.length c2) left.length (left.map z03) from by rw[← hs1];exact ho2)
 have Km:=ZZ ((hb2.block b (ze D9.o)).trans D9.o)
 have HR2:=ZZ ((hb2.block (b+1) (ze HR1.o)).trans HR1.o)
 have L8:=ZZ ((hb2.block (b+1+1) (ze Bf.o)).trans Bf.o)
 have HB2:=ZZ (show Bw w w2 from zTr HB1.o hb2)
 have HT2:=ZZ (HT.o.below HB2.o)
 have Aw:=ZZ hbd
 have CR:=ZZ (show HpV w2 (b+1+1+1) (b+1+1) (.slice none 0 0) [] from ⟨L8.o,World.ownsRow_nil _ _ _ _⟩)
 have hsz2:b+1+1+1≤w2.heap.size:=by omega
 clear ho2 hb2 q0 q1 Bj hbd D9 HR1 Bf
 go_loopw [10] (fun i wr=>∃ (j:Nat) (vh:Value) (l:List Wt),i=J Y (j:Int)∧j≤left.length∧HpV wr (b+1+1+1) (b+1+1) vh l∧HeapOk hvW l∧l.Perm (((left.take j).filter (fun z=>wn z==0)).map wt)∧HpFr w2 wr (b+1+1) none vh.ownBlock) (fun i _=>left.length - (intOf i).toNat)
 case atStart=>exact⟨0,_,[],rfl,Nat.zero_le _,CR.o,fun i x y h0 hx=>by simp at hx,by simp,HpFr.refl _ _ _⟩
 case round =>
  obtain⟨j,vh,l,rfl,hj,hV,hO,hP,hF⟩:=hrel
  have Cq:=ZZ hV
  have EJ:=ZZ hO
  have Eg:=ZZ hP
  have Bc:=ZZ hF
  have HG:=ZZ hF.grown
  have hszr:=hF.size
  clear hV hO hP hF
  by_cases hlt:j<left.length
  ·have j0:(j:Int)<(left.length:Int):=by omega
   obtain⟨z,hz⟩:∃ z,left[j]? = some z:=⟨_,List.getElem?_eq_getElem hlt⟩
   have hzl:=zMg hz
   have hor:wr.ownsRow (b+1+1+1) 3 1 (.slice o2 left.length c2) left.length (left.map z03):=Ag.o.kept HG.o (.inr (fun e=>by have:=(Ag.o.lt _ e).1;omega))
   obtain⟨_,_,heo,hia⟩:=z6z hor Bv.o
   cases heo
   obtain⟨z',bz,qz,hz',hidx,hbz,e0,hwz⟩:=hia.get Tryz.underlying60 z0f j hlt
   have hzz:z'=z:=by rw[hz] at hz';exact (zSi hz').symm
   subst hzz
   obtain⟨q,vb,hTq,hq⟩:=Ef.o z' hzl
   have hqr:wr.heap[q]? = some (.cells (z2g (wt z') (wn z') vb) 245 (0,0)):=by
    have h1:=(HB2.o.block q (ze hq)).trans hq
    exact (HG.o.block q (ze h1) (fun e=>by have:=zSi e;have:=ze hq;have:=Aw.o;omega)).trans h1
   have hbr:wr.heap[b]? = some (.cells #[.map (some bk),.map (some bt)] 234 (0,0)):=(HG.o.block b (ze Km.o) (fun e=>by have:=zSi e;omega)).trans Km.o
   have hVT:VTab wr bt T mt DT:=HT2.o.kept HG.o (fun e=>by have:=zSi e;have:=HT.o.lt;have:=Aw.o;omega)
   have hget:=hVT.get Tryz.underlying232 (Tryz.zeroValue240 _) hwz
   rw[hTq] at hget
   simp only[Option.getD_some] at hget
   have k1:=zb hbr 1 rfl
   have t0:wr.cell? ⟨q,0,none⟩=some (.bool (wt z').r):=zb hqr 0 rfl
   have t1:wr.cell? ⟨q,1,none⟩=some (J Y (wt z').l):=zb hqr 1 rfl
   have t2:wr.cell? ⟨q,2,none⟩=some (J Y (wt z').d):=zb hqr 2 rfl
   have t3:wr.cell? ⟨q,3,none⟩=some (J Y (wt z').i):=zb hqr 3 rfl
   have t4:wr.cell? ⟨q,4,none⟩=some (J Y (wn z':Int)):=zb hqr 4 rfl
   have Af:=ZZ (show (left.take (j+1)).filter (fun z=>wn z==0)=(left.take j).filter (fun z=>wn z==0)++(if wn z'==0 then [z'] else []) from by
    rw[List.take_add_one,hz,List.filter_append]
    simp[List.filter_cons])
   have hll:l.length≤1000:=by
    have h1:=Eg.o.length_eq
    rw[List.length_map] at h1
    have h2:=List.length_filter_le (fun z=>wn z==0) (left.take j)
    rw[List.length_take] at h2
    omega
   clear hor hia hz hz' hqr hbr hVT hq hTq
   cases hw0:(wn z'==0)
   ·have g0:((wn z':Int)==0)=false:=by
     rw[beq_eq_false_iff_ne] at hw0 ⊢
     omega
    go_wp2_with fail
    go_roundw
    case rel=>exact⟨j+1,vh,l,by go_num,by omega,Cq.o,EJ.o,by rw[Af.o,hw0];simpa using Eg.o,Bc.o⟩
    case measure=>simp[intOf];omega
   ·have g0:((wn z':Int)==0)=true:=by
     rw[beq_iff_eq] at hw0 ⊢
     omega
    have Da:=ZZ (zbx (b+1+1+1) (b+1+1) vh l (wt z') hll EJ.o wr (by omega) Cq.o)
    go_wp2_with (go_at_call 233;(with_reducible refine Da.o.mono ?_);rintro r w5 ⟨v5,l5,rfl,hV5,hO5,hP5,hF5⟩)
    go_roundw
    case rel=>exact⟨j+1,v5,l5,by go_num,by omega,hV5,hO5,(by
     rw[Af.o,hw0]
     simp only[↓reduceIte,List.map_append,List.map_cons,List.map_nil]
     exact hP5.trans ((List.Perm.cons _ Eg.o).trans (List.perm_append_comm (l₁:=[wt z']) (l₂:=((left.take j).filter (fun z=>wn z==0)).map wt)))),Bc.o.trans hF5⟩
    case measure=>simp[intOf];omega
  ·have hjn:left.take j=left:=zTl (by omega)
   rw[hjn] at Eg
   obtain⟨oh,ch,rfl⟩:=zi Cq.o.row
   have h0:=zb Cq.o.st 0 rfl
   have h1:=zb Cq.o.st 1 rfl
   have hRr:=(HG.o.block (b+1) (ze HR2.o) (fun e=>by have:=zSi e;omega)).trans HR2.o
   have r0:=zb hRr 0 rfl
   have f0:=zh hRr 0
   have hR6:=z2q (k:=0) (.slice oh l.length ch) hRr
   obtain⟨W6,hW6⟩:∃ W6,(wr.setCell ⟨b+1,0,none⟩ (.slice oh l.length ch)).setCell ⟨b+1,1,none⟩ (.func (.func 249) #[] #[])=W6:=⟨_,rfl⟩
   have hsf:(store ⟨b+1,1,none⟩ (.func (.func 249) #[] #[])).run Tryz.prog (wr.setCell ⟨b+1,0,none⟩ (.slice oh l.length ch))=.ok () W6:=by
    rw[run_store _ _ _ _ _ rfl,zb hR6 1 rfl,zh hR6 1,hW6]
    rfl
   obtain⟨hR7,hg7⟩:=zx [.slice oh l.length ch,.func (.func 249) #[] #[]] wr _ 0 hRr
   rw[show wr.setCells (b+1) 0 [.slice oh l.length ch,.func (.func 249) #[] #[]]=W6 from hW6] at hR7 hg7
   have Kn:=ZZ hR7
   have Ko:=ZZ hg7
   clear hR6 hRr hW6 hR7 hg7
   go_wp2_with fail
   have z0:W6.cell? ⟨b+1,0,none⟩=some (.slice oh l.length ch):=zb Kn.o 0 rfl
   have z1:W6.cell? ⟨b+1,1,none⟩=some (.func (.func 249) #[] #[]):=zb Kn.o 1 rfl
   refine bodyPost_ret (v:=.agg #[.slice oh l.length ch,.func (.func 249) #[] #[]]) (by simp[results,Tryz.results229,go_sem,z0,z1]) rfl ?_
   have hbw:Bw w wr:=HB2.o.grown HG.o HB2.o.size (fun k hk=>by cases hk;have:=Aw.o;omega)
   exact⟨_,l,rfl,zu (Cq.o.row.kept Ko.o (.inr (fun e=>by have:=(Cq.o.row.lt _ e).1;omega))) (by have:=Aw.o;omega),EJ.o,Eg.o,hbw.grown Ko.o hbw.size (fun k hk=>by cases hk;have:=Aw.o;omega)⟩

structure TurnsOk (w:World) (T:Int→Option Value) (left:Zin) (wt:Int→Wt) (wn:Int→Nat) (q:Int→Nat) (vb:Int→Value):Prop where
 at_:∀ z∈left,zky w T z (wt z) (wn z) (q z) (vb z)
 inj:∀ z∈left,∀ y∈left,q z=q y→z=y

structure TuFr (B:Nat) (left:Zin) (q:Int→Nat) (w w':World):Prop where
 os:w'.os=w.os
 tape:w'.tape=w.tape
 output:w'.output=w.output
 size:w.heap.size≤w'.heap.size
 block:∀ k,k<B→(∀ z∈left,k≠q z)→w'.heap[k]? = w.heap[k]?

section
variable {B:Nat} {left:Zin} {q:Int→Nat} {w w1 w2:World}

theorem TuFr.refl (B:Nat) (left:Zin) (q:Int→Nat) (w:World):TuFr B left q w w:=⟨rfl,rfl,rfl,Nat.le_refl _,fun _ _ _=>rfl⟩

theorem TuFr.trans (h:TuFr B left q w w1) (k:TuFr B left q w1 w2):TuFr B left q w w2 :=
 ⟨k.os.trans h.os,k.tape.trans h.tape,k.output.trans h.output,zNt h.size k.size,fun i hi hn=>(k.block i hi hn).trans (h.block i hi hn)⟩

theorem TuFr.mono {B':Nat} (h:TuFr B left q w w1) (hb:B'≤B):TuFr B' left q w w1:=⟨h.os,h.tape,h.output,h.size,fun i hi hn=>h.block i (zLt hi hb) hn⟩

theorem TuFr.on (h:Below B w w1):TuFr B left q w w1:=⟨h.os,h.tape,h.output,h.size,fun i hi _=>h.block i hi⟩

theorem TuFr.one {z:Int} (hz:z∈left) (hB:B≤w.heap.size) (h:w.grownBy w1 (some (q z))):TuFr B left q w w1:=⟨h.os,h.tape,h.output,h.size,fun i hi hn=>h.block i (zLt hi hB) (fun e=>hn z hz (zSi e))⟩
end

theorem zfg {w:World} {b:Nat} {x:Wt} {n m:Int} {vb:Value} (h:w.heap[b]? = some (.cells (z2g x n vb) 245 (0,0))):(w.setCell ⟨b,4,none⟩ (J Y m)).heap[b]? = some (.cells (z2g x m vb) 245 (0,0))∧w.grownBy (w.setCell ⟨b,4,none⟩ (J Y m)) (some b):=by
 obtain⟨h1,h2⟩:=zx [J Y m] w _ 4 h
 exact⟨h1,h2⟩

def z4f (wn:Int→Nat) (l:Zin) (z:Int):Nat:=wn z - (if z∈l then 1 else 0)

theorem zj1 {wn:Int→Nat} {l:Zin} {y z:Int} (hy:y ∉ l):z4f wn (l++[y]) z=if z=y then wn z - 1 else z4f wn l z:=by
 unfold z4f
 by_cases e:z=y
 ·subst e
  simp
 ·simp[e]

theorem TurnsOk.less {w w1:World} {T:Int→Option Value} {left:Zin} {wt:Int→Wt} {wn:Int→Nat} {q:Int→Nat} {vb:Int→Value} {l:Zin} {y:Int} (h:TurnsOk w T left wt (z4f wn l) q vb) (hy:y∈left) (hl:y ∉ l) (hq:w1.heap[q y]? = some (.cells (z2g (wt y) ((wn y - 1:Nat):Int) (vb y)) 245 (0,0))) (hg:w.grownBy w1 (some (q y))):TurnsOk w1 T left wt (z4f wn (l++[y])) q vb:=by
 refine⟨fun z hz=>?_,h.inj⟩
 obtain⟨h1,h2⟩:=h.at_ z hz
 refine⟨h1,?_⟩
 rw[zj1 hl]
 by_cases e:z=y
 ·subst e
  rw[if_pos rfl]
  exact hq
 ·rw[if_neg e]
  exact (hg.block (q z) (ze h2) (fun e2=>e (h.inj z hz y hy (zSi e2)))).trans h2

theorem TurnsOk.on {w w1:World} {T:Int→Option Value} {left:Zin} {wt:Int→Wt} {wn:Int→Nat} {q:Int→Nat} {vb:Int→Value} (h:TurnsOk w T left wt wn q vb) (hb:Bw w w1):TurnsOk w1 T left wt wn q vb :=
 ⟨fun z hz=>⟨(h.at_ z hz).1,(hb.block _ (ze (h.at_ z hz).2)).trans (h.at_ z hz).2⟩,h.inj⟩

open P9 P11 P12 P15
abbrev zol (x:Wt):Value:=.agg #[.bool x.r,J Y x.l,J Y x.d,J Y x.i,J Y 0,.slice none 0 0]

def ctQ8 (qb bt ib:Nat) (oa:Zoa) (n cap:Nat) (id:Int) (e:EvV) (xl xp:Value) (x:Wt):Nat→Option Value
 | 0=>some (.pointer (some ⟨qb,1,none⟩))
 | 1=>some (.map (some bt))
 | 2=>some (J Y id)
 | 3=>some (scv ib oa n cap)
 | 4=>some (evv e xl xp)
 | 5=>some (wtv x)
 | 6=>some (zol x)
 | _=>none

structure JQ8 (W:World) (ct:Nat→Option Value) (bt m:Nat) (D:DataW Value) (id:Int) (x:Wt) (V:Gh) (w:World):Prop where
 pt:PT ct V
 bel:V 8=none→Bw W w
 box:V 8=none→∀ v,V 7=some v→∃ b,v=.pointer (some ⟨b,0,none⟩)∧W.heap.size≤b∧w.heap[b]? = some (.cells (z2g x 0 (.slice none 0 0)) 245 (0,0))
 fin:V 8≠none→∃ b w8,W.heap.size≤b∧Bw W w8∧w8.heap[b]? = some (.cells (z2g x 0 (.slice none 0 0)) 245 (0,0))∧w.ownsMap Tryz.prog 3 z1z bt (m+1) (D.put (.int .i64 id) (.held (.pointer (some ⟨b,0,none⟩))))∧w8.mapTurned w bt

section
variable {W:World} {ct:Nat→Option Value} {bt m:Nat} {D:DataW Value} {id:Int} {x:Wt} {V:Gh} {w w':World}

theorem JQ8.put (h:JQ8 W ct bt m D id x V w) {i:Nat} {v:Value} (hc:ct i=some v) (h7:i≠7) (h8:i≠8):JQ8 W ct bt m D id x (V.set i v) w:=by
 refine⟨h.pt.set (fun c hc'=>by rw[hc] at hc';cases hc';rfl),?_,?_,?_⟩<;>rw[Gh.set_ne V v (Ne.symm h8)]
 ·exact h.bel
 ·rw[Gh.set_ne V v (Ne.symm h7)];exact h.box
 ·exact h.fin

theorem JQ8.on (h:JQ8 W ct bt m D id x V w) (h8:V 8=none) (hb:Bw w w'):JQ8 W ct bt m D id x V w':=by
 refine⟨h.pt,fun _=>(h.bel h8).trans (hb.mono (h.bel h8).size),fun _ v hv=>?_,fun h'=>absurd h8 h'⟩
 obtain⟨b,q1,q2,q3⟩:=h.box h8 v hv
 exact⟨b,q1,q2,(hb.block b (ze q3)).trans q3⟩
end

def zom (qb bt q:Nat) (ah id:Int) (vb:Value):Nat→Option Value
 | 0=>some (.pointer (some ⟨qb,1,none⟩))
 | 1=>some (.map (some bt))
 | 2=>some (J Y ah)
 | 3=>some (.pointer (some ⟨q,0,none⟩))
 | 4=>some (.pointer (some ⟨qb,1,none⟩))
 | 5=>some (.map (some bt))
 | 6=>some (J Y ah)
 | 7=>some (.pointer (some ⟨q,0,none⟩))
 | 8=>some (.pointer (some ⟨q,0,none⟩))
 | 9=>some (.pointer (some ⟨q,5,none⟩))
 | 10=>some vb
 | 11=>some (J Y id)
 | 14=>some (.pointer (some ⟨q,0,none⟩))
 | 15=>some (.pointer (some ⟨q,5,none⟩))
 | _=>none

structure JQ17 (W:World) (ct:Nat→Option Value) (B:Nat) (vb:Value) (nb:Nat) (xs:Zvs) (id:Int) (q:Nat) (V:Gh) (w:World):Prop where
 pt:PT ct V
 gr:V 16=none→W.grownBy w vb.ownBlock
 r0:V 13=none→w.ownsRow B 3 1 vb nb xs
 r12:V 13=none→∀ v,V 12=some v→∃ b,v=.slice (some ⟨b,0,none⟩) 1 1∧w.heap[b]? = some (.cells #[J Y id] 3 (0,0))
 r13:V 16=none→∀ v,V 13=some v→w.ownsRow B 3 1 v (nb+1) (xs++[J Y id])∧(v.ownBlock=vb.ownBlock∨∃ g,v.ownBlock=some g∧W.heap.size≤g)
 fin:V 16≠none→∃ v w8,W.grownBy w8 vb.ownBlock∧w8.ownsRow B 3 1 v (nb+1) (xs++[J Y id])∧(v.ownBlock=vb.ownBlock∨∃ g,v.ownBlock=some g∧W.heap.size≤g)∧w=w8.setCell ⟨q,5,none⟩ v

section
variable {W:World} {ct:Nat→Option Value} {B:Nat} {vb:Value} {nb:Nat} {xs:Zvs} {id:Int} {q:Nat} {V:Gh} {w w':World}

theorem JQ17.put (h:JQ17 W ct B vb nb xs id q V w) {i:Nat} {v:Value} (hc:ct i=some v) (h2:i≠12) (h3:i≠13) (h6:i≠16):JQ17 W ct B vb nb xs id q (V.set i v) w:=by
 refine⟨h.pt.set (fun c hc'=>by rw[hc] at hc';cases hc';rfl),?_,?_,?_,?_,?_⟩<;>simp only[Gh.set_ne V v (Ne.symm h2),Gh.set_ne V v (Ne.symm h3),Gh.set_ne V v (Ne.symm h6)]
 ·exact h.gr
 ·exact h.r0
 ·exact h.r12
 ·exact h.r13
 ·exact h.fin

theorem JQ17.p12 (h:JQ17 W ct B vb nb xs id q V w) (hct:ct 12=none) (h3:V 13=none) (h6:V 16=none):JQ17 W ct B vb nb xs id q (V.set 12 (.slice (some ⟨w.heap.size,0,none⟩) 1 1)) (w.alloc (.cells #[J Y id] 3)):=by
 have hb:Bw w (w.alloc (.cells #[J Y id] 3)):=zBa
 refine⟨h.pt.set (fun c hc=>by rw[hct] at hc;cases hc),fun _=>z00 (h.gr h6) ((z0y hb).but _),fun _=>own_below (h.r0 h3) hb,fun _ v hv=>?_,fun _ v hv=>?_,fun h'=>?_⟩
 ·rw[Gh.set_self] at hv
  cases hv
  exact⟨_,rfl,heap_alloc_new w _⟩
 ·rw[Gh.set_ne V _ (by decide),h3] at hv
  cases hv
 ·rw[Gh.set_ne V _ (by decide)] at h'
  exact absurd h6 h'

theorem JQ17.p13 (h:JQ17 W ct B vb nb xs id q V w) (hct:ct 13=none) (h3:V 13=none) (h6:V 16=none) {v':Value} (ho:w'.ownsRow B 3 1 v' (nb+1) (xs++[J Y id])) (hg:w.grownBy w' vb.ownBlock) (hl:v'.ownBlock=vb.ownBlock∨v'.ownBlock=some w.heap.size):JQ17 W ct B vb nb xs id q (V.set 13 v') w':=by
 refine⟨h.pt.set (fun c hc=>by rw[hct] at hc;cases hc),fun _=>z00 (h.gr h6) hg,fun h'=>?_,fun h'=>?_,fun _ v hv=>?_,fun h'=>?_⟩
 ·rw[Gh.set_self] at h';cases h'
 ·rw[Gh.set_self] at h';cases h'
 ·rw[Gh.set_self] at hv
  cases hv
  refine⟨ho,?_⟩
  rcases hl with hl|hl
  ·exact .inl hl
  ·exact .inr ⟨_,hl,(h.gr h6).size⟩
 ·rw[Gh.set_ne V _ (by decide)] at h'
  exact absurd h6 h'

theorem JQ17.p16 (h:JQ17 W ct B vb nb xs id q V w) (hct:ct 16=none) (h6:V 16=none) {v:Value} (g13:V 13=some v) (u:Value):JQ17 W ct B vb nb xs id q (V.set 16 u) (w.setCell ⟨q,5,none⟩ v):=by
 obtain⟨q1,q2⟩:=h.r13 h6 v g13
 refine⟨h.pt.set (fun c hc=>by rw[hct] at hc;cases hc),fun h'=>?_,fun h'=>?_,fun h'=>?_,fun h'=>?_,fun _=>⟨v,w,h.gr h6,q1,q2,rfl⟩⟩
 ·rw[Gh.set_self] at h';cases h'
 ·rw[Gh.set_ne V _ (by decide),g13] at h';cases h'
 ·rw[Gh.set_ne V _ (by decide),g13] at h';cases h'
 ·rw[Gh.set_self] at h';cases h'
end

def zj2:List (Option Tmp × Op):=[(some 38,.fieldAddr 234 (.tmp 7) 1),(some 39,.load 232 (.tmp 38)),(some 40,.move (.tmp 10)),(some 41,.load 182 (.tmp 8)),(some 42,.load 62 (.tmp 11)),(some 43,.call { callee:=.value (.func 226),args:=#[.tmp 41,.tmp 42],argTypes:=#[182,62] }),(some 44,.build 245 #[(0,.tmp 43)]),(some 45,.box 245 (.tmp 44)),(none,.mapUpdate 232 (.tmp 39) (.tmp 40) (.tmp 45))]

def z7v:List (List Nat):=[[],[0],[],[],[],[3,4],[5],[6],[0,1,2,3,4,5,6,7]]

theorem zgs {id0:Nat} {ops:Array Oper} {Q:Exit→Act→World→Prop} {a0:Act} {W:World} (hm:Tryz.prog.follows .mixedOrders=true) (htab:z3r ops=zj2) (hdp:z7c ops z7v=true) (hfree:zbv ops=true) (hd:z2z ops=true) (hl:z6y ops=true)
  (n7:z2d ops 7=true) (n8:z2d ops 8=true) (n10:z2d ops 10=true) (n11:z2d ops 11=true)
  {qb bk bt sb ib eb n cap m:Nat} {oa:Zoa} {es:List EvV} {s:St} {id:Int} {e:EvV} {xl xp:Value} {T:Int→Option Value} {D:DataW Value}
  (hsz:46≤a0.tmps.size) (e7:a0.eval (.tmp 7)=.pointer (some ⟨qb,0,none⟩)) (e8:a0.eval (.tmp 8)=.pointer (some ⟨sb,0,none⟩)) (e10:a0.eval (.tmp 10)=J Y id) (e11:a0.eval (.tmp 11)=.pointer (some ⟨eb,0,none⟩))
  (hid:(Lit.int .i64 id).wf=true) (hm20:m≤1048576)
  (hq:W.heap[qb]? = some (.cells #[.map (some bk),.map (some bt)] 234 (0,0))) (hsc:W.heap[sb]? = some (.cells #[.map (some ib),.slice oa n cap] 182 (0,0)))
  (hE:EB W eb e.id e.kind e.sender e.user e.member e.depth xl xp e.text) (hS:Scn W ib oa n cap es s) (hV:VTab W bt T m D)
  (hend:∀ (V:Gh) (w':World) (b:Nat) (w8:World),(∀ k,k<9→∃ v,V k=some v)→W.heap.size≤b→Bw W w8→w8.heap[b]? = some (.cells (z2g (wtOf es s e) 0 (.slice none 0 0)) 245 (0,0))→w'.ownsMap Tryz.prog 3 z1z bt (m+1) (D.put (.int .i64 id) (.held (.pointer (some ⟨b,0,none⟩))))→w8.mapTurned w' bt→Q .normal (actG ops V a0 ops.size) w'):(Code.region id0 ops true).wp Tryz.prog Q a0 W:=by
 have hops:ops.size=9:=by
  have:=congrArg List.length htab
  simpa [z3r,zj2] using this
 have hget:∀ k (hk:k<9),ops[k]? = some (ops[k]'(by omega)):=fun k hk=>Array.getElem?_eq_getElem (by omega)
 have hdst:∀ k t,(zj2[k]?).map (·.1)=some (some t)→(hk:k<9)→(ops[k]'(by omega)).dst=some t:=fun k t ht hk=>by
  have:=z2n htab (hget k hk)
  rw[this] at ht
  simpa using ht
 refine z3q hm hd hl (JQ8 W (ctQ8 qb bt ib oa n cap id e xl xp (wtOf es s e)) bt m D id (wtOf es s e)) ?_ ?_ ?_
 ·exact⟨(fun k v c h=>by cases h),fun _=>zBr.drew,(fun _ v h=>by cases h),fun h=>absurd rfl h⟩
 ·intro i o V w7 ho hVi hdep0 hcl hJ
  have hi:i<9:=by have:=(Array.getElem?_eq_some_iff.1 ho).1;omega
  have hop0:=z2n htab ho
  have hg:=z9z hfree ho
  have hdep:∀ {l:List Nat},z7v[i]? = some l→∀ k∈l,∃ v,V k=some v:=fun hl=>z5t hdp ho hdep0 hl
  have hlate:∀ k,i∈(z7v[k]?).getD []→V k=none:=fun k hk=>z7d hdp hcl k i hk hVi
  clear hdep0 hcl
  have hcases:i=0∨i=1∨i=2∨i=3∨i=4∨i=5∨i=6∨i=7∨i=8:=by omega
  rcases hcases with rfl|rfl|rfl|rfl|rfl|rfl|rfl|rfl|rfl
  ·have hop:o.op=.fieldAddr 234 (.tmp 7) 1:=zy hop0 rfl
   have E7:=evP (V:=V) n7 e7
   refine gop ho hg ?_ ⟨_,rfl,hJ.put rfl (by decide) (by decide)⟩
   rw[runH hop]
   generalize actG ops V a0 ops.size=A at E7 ⊢
   clear hJ hget hdst hend hdep hlate hq hsc hE hS hV
   go_simp
  ·have hop:o.op=.load 232 (.tmp 38):=zy hop0 rfl
   obtain⟨v0,g0⟩:=hdep rfl 0 (by decide)
   have E38:=evT hd htab hsz 0 38 rfl g0
   obtain rfl:v0=_:=hJ.pt 0 v0 _ g0 rfl
   have hn8:V 8=none:=hlate 8 (by simp[z7v])
   have k1:=((hJ.bel hn8).cell (ze hq)).trans (zb hq 1 rfl)
   refine gop ho hg ?_ ⟨_,rfl,hJ.put rfl (by decide) (by decide)⟩
   rw[runH hop]
   generalize actG ops V a0 ops.size=A at E38 ⊢
   clear hJ hget hdst hend hdep hlate hq hsc hE hS hV
   go_simp
  ·have hop:o.op=.move (.tmp 10):=zy hop0 rfl
   have E10:=evO (V:=V) n10 e10
   exact gM ho hg hop E10 ⟨_,rfl,hJ.put rfl (by decide) (by decide)⟩
  ·have hop:o.op=.load 182 (.tmp 8):=zy hop0 rfl
   have E8:=evP (V:=V) n8 e8
   have hn8:V 8=none:=hlate 8 (by simp[z7v])
   have k0:=((hJ.bel hn8).cell (ze hsc)).trans (zb hsc 0 rfl)
   have k1:=((hJ.bel hn8).cell (ze hsc)).trans (zb hsc 1 rfl)
   refine gop ho hg ?_ ⟨_,rfl,hJ.put rfl (by decide) (by decide)⟩
   rw[runH hop]
   generalize actG ops V a0 ops.size=A at E8 ⊢
   clear hJ hget hdst hend hdep hlate hq hsc hE hS hV
   go_simp
  ·have hop:o.op=.load 62 (.tmp 11):=zy hop0 rfl
   have E11:=evP (V:=V) n11 e11
   have hn8:V 8=none:=hlate 8 (by simp[z7v])
   obtain⟨t0,t1,t2,t3,t4,t5,t6,t7,t8⟩:=(hE.on (hJ.bel hn8) hE.lt).ev
   refine gop ho hg ?_ ⟨_,rfl,hJ.put rfl (by decide) (by decide)⟩
   rw[runH hop]
   generalize actG ops V a0 ops.size=A at E11 ⊢
   clear hJ hget hdst hend hdep hlate hq hsc hE hS hV
   go_simp
  ·have hop:o.op=.call { callee:=.value (.func 226),args:=#[.tmp 41,.tmp 42],argTypes:=#[182,62] }:=zy hop0 rfl
   obtain⟨v3,g3⟩:=hdep rfl 3 (by decide)
   obtain⟨v4,g4⟩:=hdep rfl 4 (by decide)
   have E41:=evT hd htab hsz 3 41 rfl g3
   have E42:=evT hd htab hsz 4 42 rfl g4
   obtain rfl:v3=_:=hJ.pt 3 v3 _ g3 rfl
   obtain rfl:v4=_:=hJ.pt 4 v4 _ g4 rfl
   have hn8:V 8=none:=hlate 8 (by simp[z7v])
   have HC:=ZZ (zix ib oa n cap es s e xl xp w7 (hS.on (hJ.bel hn8)))
   refine zmd ho hg (f:=226) (args:=#[scv ib oa n cap,evv e xl xp]) (w':=w7) ?_ (HC.o.mono ?_)
   ·rw[runH hop]
    generalize actG ops V a0 ops.size=A at E41 E42 ⊢
    clear hJ hget hdst hend hdep hlate hq hsc hE hS hV HC
    go_simp
   ·rintro e0 w8 ⟨rfl,hb⟩
    exact⟨_,rfl,_,rfl,(hJ.on hn8 hb).put rfl (by decide) (by decide)⟩
  ·have hop:o.op=.build 245 #[(0,.tmp 43)]:=zy hop0 rfl
   obtain⟨v5,g5⟩:=hdep rfl 5 (by decide)
   have E43:=evT hd htab hsz 5 43 rfl g5
   obtain rfl:v5=_:=hJ.pt 5 v5 _ g5 rfl
   refine gop ho hg ?_ ⟨_,rfl,hJ.put rfl (by decide) (by decide)⟩
   rw[runH hop]
   generalize actG ops V a0 ops.size=A at E43 ⊢
   clear hJ hget hdst hend hdep hlate hq hsc hE hS hV
   go_simp
  ·have hop:o.op=.box 245 (.tmp 44):=zy hop0 rfl
   obtain⟨v6,g6⟩:=hdep rfl 6 (by decide)
   have E44:=evT hd htab hsz 6 44 rfl g6
   obtain rfl:v6=_:=hJ.pt 6 v6 _ g6 rfl
   have hn8:V 8=none:=hlate 8 (by simp[z7v])
   have hb:Bw w7 (w7.alloc (.cells (z2g (wtOf es s e) 0 (.slice none 0 0)) 245)):=zBa
   have hJ2:=hJ.on hn8 hb
   refine gop ho hg ?_ ⟨.pointer (some ⟨w7.heap.size,0,none⟩),rfl,⟨hJ.pt.set (fun c hc=>by cases hc),fun _=>hJ2.bel hn8,fun _ v hv=>?_,fun h'=>?_⟩⟩
   ·rw[runH hop]
    generalize actG ops V a0 ops.size=A at E44 ⊢
    clear hJ hget hdst hend hdep hlate hq hsc hE hS hV hb hJ2
    go_simp
    rfl
   ·rw[Gh.set_self] at hv
    cases hv
    exact⟨_,rfl,(hJ.bel hn8).size,heap_alloc_new w7 _⟩
   ·rw[Gh.set_ne V _ (by decide)] at h'
    exact absurd hn8 h'
  ·have hop:o.op=.mapUpdate 232 (.tmp 39) (.tmp 40) (.tmp 45):=zy hop0 rfl
   obtain⟨v0,g0⟩:=hdep rfl 0 (by decide)
   obtain⟨v1,g1⟩:=hdep rfl 1 (by decide)
   obtain⟨v2,g2⟩:=hdep rfl 2 (by decide)
   obtain⟨v3,g3⟩:=hdep rfl 3 (by decide)
   obtain⟨v4,g4⟩:=hdep rfl 4 (by decide)
   obtain⟨v5,g5⟩:=hdep rfl 5 (by decide)
   obtain⟨v6,g6⟩:=hdep rfl 6 (by decide)
   obtain⟨v7,g7⟩:=hdep rfl 7 (by decide)
   have E39:=evD hd htab hsz 1 39 rfl g1
   have E40:=evD hd htab hsz 2 40 rfl g2
   have E45:=evD hd htab hsz 7 45 rfl g7
   obtain rfl:v0=_:=hJ.pt 0 v0 _ g0 rfl
   obtain rfl:v1=_:=hJ.pt 1 v1 _ g1 rfl
   obtain rfl:v2=_:=hJ.pt 2 v2 _ g2 rfl
   obtain rfl:v3=_:=hJ.pt 3 v3 _ g3 rfl
   obtain rfl:v4=_:=hJ.pt 4 v4 _ g4 rfl
   obtain rfl:v5=_:=hJ.pt 5 v5 _ g5 rfl
   obtain rfl:v6=_:=hJ.pt 6 v6 _ g6 rfl
   obtain⟨b,rfl,hBb,hb⟩:=hJ.box hVi v7 g7
   have hb7:=hJ.bel hVi
   have hV7:=hV.below hb7
   obtain⟨w',hrun,r1,r2⟩:=hV7.own.store (t:=232) (Maps.int_keyed Tryz.underlying3) Tryz.underlying232 (by unfold maxLen;omega) (keyI hid) (val:=.pointer (some ⟨b,0,none⟩)) rfl
   refine z6x ho hg (w':=w') ?_ ⟨_,rfl,⟨hJ.pt.set (fun c hc=>by cases hc),fun h'=>?_,fun h'=>?_,fun _=>⟨b,w7,hBb,hb7,hb,r1,r2⟩⟩⟩
   ·simp only[execOp,hop,E39,E40,E45,hrun,Sem.run_bind,Sem.run_pure,Result.andThen_ok]
   ·rw[Gh.set_self] at h';cases h'
   ·rw[Gh.set_self] at h';cases h'
 ·intro V w7 hall hJ
  have hall':∀ k,k<9→∃ v,V k=some v:=fun k hk=>Option.isSome_iff_exists.1 (hall k (by omega))
  obtain⟨v8,g8⟩:=hall' 8 (by omega)
  obtain⟨b,w8,h1,h2,h3,h4,h5⟩:=hJ.fin (by rw[g8];simp)
  exact hend V w7 b w8 hall' h1 h2 h3 h4 h5

def zfh:List (Option Tmp × Op):=[(some 72,.fieldAddr 234 (.tmp 7) 1),(some 73,.load 232 (.tmp 72)),(some 74,.move (.tmp 16)),(some 75,.lookup 232 (.tmp 73) (.tmp 74) false),(some 76,.fieldAddr 234 (.tmp 7) 1),(some 77,.load 232 (.tmp 76)),(some 78,.move (.tmp 16)),(some 79,.lookup 232 (.tmp 77) (.tmp 78) false),(some 80,.nilCheck (.tmp 79)),(some 81,.fieldAddr 245 (.tmp 80) 2),(some 82,.load 60 (.tmp 81)),(some 83,.move (.tmp 14)),(some 84,.buildSlice 60 1 #[(0,.tmp 83)]),(some 85,.call { callee:=.builtin .append,args:=#[.tmp 82,.tmp 84],argTypes:=#[60,60] }),(some 86,.nilCheck (.tmp 75)),(some 87,.fieldAddr 245 (.tmp 86) 2),(none,.store 60 (.tmp 87) (.tmp 85))]

def z3w:List (List Nat):=[[],[0],[],[1,2],[],[4],[],[5,6],[7],[8],[9],[],[11],[10,12],[0,1,2,3,4,5,6,7,8,9,10,11,12,13],[0,1,2,3,4,5,6,7,8,9,10,11,12,13,14],[0,1,2,3,4,5,6,7,8,9,10,11,12,13,15]]

theorem zgt {id0:Nat} {ops:Array Oper} {Q:Exit→Act→World→Prop} {a0:Act} {W:World} (hm:Tryz.prog.follows .mixedOrders=true) (htab:z3r ops=zfh) (hdp:z7c ops z3w=true) (hfree:zbv ops=true) (hd:z2z ops=true) (hl:z6y ops=true)
  (n7:z2d ops 7=true) (n14:z2d ops 14=true) (n16:z2d ops 16=true)
  {qb bk bt q B nb cb m:Nat} {ob:Zoa} {xs:Zvs} {id ah:Int} {x:Wt} {wn:Int} {T:Int→Option Value} {D:DataW Value}
  (hsz:88≤a0.tmps.size) (e7:a0.eval (.tmp 7)=.pointer (some ⟨qb,0,none⟩)) (e14:a0.eval (.tmp 14)=J Y id) (e16:a0.eval (.tmp 16)=J Y ah)
  (hah:(Lit.int .i64 ah).wf=true) (hB:B≤W.heap.size) (hnb:nb≤1000)
  (hq:W.heap[qb]? = some (.cells #[.map (some bk),.map (some bt)] 234 (0,0))) (hqn:some qb≠(Value.slice ob nb cb).ownBlock) (hV:VTab W bt T m D) (hbn:some bt≠(Value.slice ob nb cb).ownBlock) (hT:T ah=some (.pointer (some ⟨q,0,none⟩))) (hqq:some q≠(Value.slice ob nb cb).ownBlock)
  (hqt:W.heap[q]? = some (.cells (z2g x wn (.slice ob nb cb)) 245 (0,0))) (hrow:W.ownsRow B 3 1 (.slice ob nb cb) nb xs)
  (hend:∀ (V:Gh) (v:Value) (w8:World),(∀ k,k<17→∃ v,V k=some v)→W.grownBy w8 (Value.slice ob nb cb).ownBlock→w8.ownsRow B 3 1 v (nb+1) (xs++[J Y id])→(v.ownBlock=(Value.slice ob nb cb).ownBlock∨∃ g,v.ownBlock=some g∧W.heap.size≤g)→Q .normal (actG ops V a0 ops.size) (w8.setCell ⟨q,5,none⟩ v)):(Code.region id0 ops true).wp Tryz.prog Q a0 W:=by
 have hops:ops.size=17:=by
  have:=congrArg List.length htab
  simpa [z3r,zfh] using this
 have hget:∀ k (hk:k<17),ops[k]? = some (ops[k]'(by omega)):=fun k hk=>Array.getElem?_eq_getElem (by omega)
 have hdst:∀ k t,(zfh[k]?).map (·.1)=some (some t)→(hk:k<17)→(ops[k]'(by omega)).dst=some t:=fun k t ht hk=>by
  have:=z2n htab (hget k hk)
  rw[this] at ht
  simpa using ht
 refine z3q hm hd hl (JQ17 W (zom qb bt q ah id (.slice ob nb cb)) B (.slice ob nb cb) nb xs id q) ?_ ?_ ?_
 ·exact⟨(fun k v c h=>by cases h),fun _=>⟨rfl,rfl,rfl,Nat.le_refl _,fun _ _ _=>rfl⟩,fun _=>hrow.drew,(fun _ v h=>by cases h),(fun _ v h=>by cases h),fun h=>absurd rfl h⟩
 ·intro i o V w7 ho hVi hdep0 hcl hJ
  have hi:i<17:=by have:=(Array.getElem?_eq_some_iff.1 ho).1;omega
  have hop0:=z2n htab ho
  have hg:=z9z hfree ho
  have hdep:∀ {l:List Nat},z3w[i]? = some l→∀ k∈l,∃ v,V k=some v:=fun hl=>z5t hdp ho hdep0 hl
  have hlate:∀ k,i∈(z3w[k]?).getD []→V k=none:=fun k hk=>z7d hdp hcl k i hk hVi
  clear hdep0 hcl
  have hcases:i=0∨i=1∨i=2∨i=3∨i=4∨i=5∨i=6∨i=7∨i=8∨i=9∨i=10∨i=11∨i=12∨i=13∨i=14∨i=15∨i=16:=by omega
  rcases hcases with rfl|rfl|rfl|rfl|rfl|rfl|rfl|rfl|rfl|rfl|rfl|rfl|rfl|rfl|rfl|rfl|rfl
  ·have hop:o.op=.fieldAddr 234 (.tmp 7) 1:=zy hop0 rfl
   have E7:=evP (V:=V) n7 e7
   refine gop ho hg ?_ ⟨_,rfl,hJ.put rfl (by decide) (by decide) (by decide)⟩
   rw[runH hop]
   generalize actG ops V a0 ops.size=A at E7 ⊢
   clear hJ hget hdst hend hdep hlate hq hqn hV hbn hT hqq hqt hrow
   go_simp
  ·have hop:o.op=.load 232 (.tmp 72):=zy hop0 rfl
   obtain⟨v0,g0⟩:=hdep rfl 0 (by decide)
   have E72:=evT hd htab hsz 0 72 rfl g0
   obtain rfl:v0=_:=hJ.pt 0 v0 _ g0 rfl
   have hn6:V 16=none:=hlate 16 (by simp[z3w])
   have k1:=zb (((hJ.gr hn6).block qb (ze hq) hqn).trans hq) 1 rfl
   refine gop ho hg ?_ ⟨_,rfl,hJ.put rfl (by decide) (by decide) (by decide)⟩
   rw[runH hop]
   generalize actG ops V a0 ops.size=A at E72 ⊢
   clear hJ hget hdst hend hdep hlate hq hqn hV hbn hT hqq hqt hrow
   go_simp
  ·have hop:o.op=.move (.tmp 16):=zy hop0 rfl
   have E16:=evO (V:=V) n16 e16
   exact gM ho hg hop E16 ⟨_,rfl,hJ.put rfl (by decide) (by decide) (by decide)⟩
  ·have hop:o.op=.lookup 232 (.tmp 73) (.tmp 74) false:=zy hop0 rfl
   obtain⟨v1,g1⟩:=hdep rfl 1 (by decide)
   obtain⟨v2,g2⟩:=hdep rfl 2 (by decide)
   have E73:=evT hd htab hsz 1 73 rfl g1
   have E74:=evT hd htab hsz 2 74 rfl g2
   obtain rfl:v1=_:=hJ.pt 1 v1 _ g1 rfl
   obtain rfl:v2=_:=hJ.pt 2 v2 _ g2 rfl
   have hn6:V 16=none:=hlate 16 (by simp[z3w])
   have hk:=(hV.kept (hJ.gr hn6) hbn).get Tryz.underlying232 (Tryz.zeroValue240 _) hah
   rw[hT] at hk
   simp only[Option.getD_some] at hk
   refine gop ho hg ?_ ⟨_,rfl,hJ.put rfl (by decide) (by decide) (by decide)⟩
   rw[runH hop]
   generalize actG ops V a0 ops.size=A at E73 E74 ⊢
   clear hJ hget hdst hend hdep hlate hq hqn hV hbn hT hqq hqt hrow
   go_simp
  ·have hop:o.op=.fieldAddr 234 (.tmp 7) 1:=zy hop0 rfl
   have E7:=evP (V:=V) n7 e7
   refine gop ho hg ?_ ⟨_,rfl,hJ.put rfl (by decide) (by decide) (by decide)⟩
   rw[runH hop]
   generalize actG ops V a0 ops.size=A at E7 ⊢
   clear hJ hget hdst hend hdep hlate hq hqn hV hbn hT hqq hqt hrow
   go_simp
  ·have hop:o.op=.load 232 (.tmp 76):=zy hop0 rfl
   obtain⟨v4,g4⟩:=hdep rfl 4 (by decide)
   have E76:=evT hd htab hsz 4 76 rfl g4
   obtain rfl:v4=_:=hJ.pt 4 v4 _ g4 rfl
   have hn6:V 16=none:=hlate 16 (by simp[z3w])
   have k1:=zb (((hJ.gr hn6).block qb (ze hq) hqn).trans hq) 1 rfl
   refine gop ho hg ?_ ⟨_,rfl,hJ.put rfl (by decide) (by decide) (by decide)⟩
   rw[runH hop]
   generalize actG ops V a0 ops.size=A at E76 ⊢
   clear hJ hget hdst hend hdep hlate hq hqn hV hbn hT hqq hqt hrow
   go_simp
  ·have hop:o.op=.move (.tmp 16):=zy hop0 rfl
   have E16:=evO (V:=V) n16 e16
   exact gM ho hg hop E16 ⟨_,rfl,hJ.put rfl (by decide) (by decide) (by decide)⟩
  ·have hop:o.op=.lookup 232 (.tmp 77) (.tmp 78) false:=zy hop0 rfl
   obtain⟨v5,g5⟩:=hdep rfl 5 (by decide)
   obtain⟨v6,g6⟩:=hdep rfl 6 (by decide)
   have E77:=evT hd htab hsz 5 77 rfl g5
   have E78:=evT hd htab hsz 6 78 rfl g6
   obtain rfl:v5=_:=hJ.pt 5 v5 _ g5 rfl
   obtain rfl:v6=_:=hJ.pt 6 v6 _ g6 rfl
   have hn6:V 16=none:=hlate 16 (by simp[z3w])
   have hk:=(hV.kept (hJ.gr hn6) hbn).get Tryz.underlying232 (Tryz.zeroValue240 _) hah
   rw[hT] at hk
   simp only[Option.getD_some] at hk
   refine gop ho hg ?_ ⟨_,rfl,hJ.put rfl (by decide) (by decide) (by decide)⟩
   rw[runH hop]
   generalize actG ops V a0 ops.size=A at E77 E78 ⊢
   clear hJ hget hdst hend hdep hlate hq hqn hV hbn hT hqq hqt hrow
   go_simp
  ·have hop:o.op=.nilCheck (.tmp 79):=zy hop0 rfl
   obtain⟨v7,g7⟩:=hdep rfl 7 (by decide)
   have E79:=evT hd htab hsz 7 79 rfl g7
   obtain rfl:v7=_:=hJ.pt 7 v7 _ g7 rfl
   refine gop ho hg ?_ ⟨_,rfl,hJ.put rfl (by decide) (by decide) (by decide)⟩
   rw[runH hop]
   generalize actG ops V a0 ops.size=A at E79 ⊢
   clear hJ hget hdst hend hdep hlate hq hqn hV hbn hT hqq hqt hrow
   go_simp
  ·have hop:o.op=.fieldAddr 245 (.tmp 80) 2:=zy hop0 rfl
   obtain⟨v8,g8⟩:=hdep rfl 8 (by decide)
   have E80:=evT hd htab hsz 8 80 rfl g8
   obtain rfl:v8=_:=hJ.pt 8 v8 _ g8 rfl
   refine gop ho hg ?_ ⟨_,rfl,hJ.put rfl (by decide) (by decide) (by decide)⟩
   rw[runH hop]
   generalize actG ops V a0 ops.size=A at E80 ⊢
   clear hJ hget hdst hend hdep hlate hq hqn hV hbn hT hqq hqt hrow
   go_simp
  ·have hop:o.op=.load 60 (.tmp 81):=zy hop0 rfl
   obtain⟨v9,g9⟩:=hdep rfl 9 (by decide)
   have E81:=evT hd htab hsz 9 81 rfl g9
   obtain rfl:v9=_:=hJ.pt 9 v9 _ g9 rfl
   have hn6:V 16=none:=hlate 16 (by simp[z3w])
   have hn3:V 13=none:=hlate 13 (by simp[z3w])
   have k5:w7.cell? ⟨q,5,none⟩=some (.slice ob nb cb):=zb (((hJ.gr hn6).block q (ze hqt) hqq).trans hqt) 5 rfl
   refine gop ho hg ?_ ⟨_,rfl,hJ.put rfl (by decide) (by decide) (by decide)⟩
   rw[runH hop]
   generalize actG ops V a0 ops.size=A at E81 ⊢
   clear hJ hget hdst hend hdep hlate hq hqn hV hbn hT hqq hqt hrow
   go_simp
  ·have hop:o.op=.move (.tmp 14):=zy hop0 rfl
   have E14:=evO (V:=V) n14 e14
   exact gM ho hg hop E14 ⟨_,rfl,hJ.put rfl (by decide) (by decide) (by decide)⟩
  ·have hop:o.op=.buildSlice 60 1 #[(0,.tmp 83)]:=zy hop0 rfl
   obtain⟨v11,g11⟩:=hdep rfl 11 (by decide)
   have E83:=evT hd htab hsz 11 83 rfl g11
   obtain rfl:v11=_:=hJ.pt 11 v11 _ g11 rfl
   have hn6:V 16=none:=hlate 16 (by simp[z3w])
   have hn3:V 13=none:=hlate 13 (by simp[z3w])
   refine gop ho hg ?_ ⟨_,rfl,hJ.p12 rfl hn3 hn6⟩
   rw[runH hop]
   generalize actG ops V a0 ops.size=A at E83 ⊢
   clear hJ hget hdst hend hdep hlate hq hqn hV hbn hT hqq hqt hrow
   go_simp
  ·have hop:o.op=.call { callee:=.builtin .append,args:=#[.tmp 82,.tmp 84],argTypes:=#[60,60] }:=zy hop0 rfl
   obtain⟨v10,g10⟩:=hdep rfl 10 (by decide)
   obtain⟨v12,g12⟩:=hdep rfl 12 (by decide)
   have E82:=evD hd htab hsz 10 82 rfl g10
   have E84:=evD hd htab hsz 12 84 rfl g12
   obtain rfl:v10=_:=hJ.pt 10 v10 _ g10 rfl
   have hn6:V 16=none:=hlate 16 (by simp[z3w])
   obtain⟨b,rfl,hb⟩:=hJ.r12 hVi v12 g12
   obtain⟨v',w',hr,k1,k2,k3⟩:=z1v (P:=Tryz.prog) (ty:=o.type) (t:=60) (by decide) Tryz.underlying60 z1u rfl (hJ.r0 hVi) (za4 hb rfl (by simp[Value.oneCell'])) (zNt hB (hJ.gr hn6).size) (by unfold maxLen;omega) (by omega)
   refine gop ho hg ?_ ⟨_,rfl,hJ.p13 rfl hVi hn6 k1 k2 k3⟩
   rw[runH hop]
   simp only[execOp,resolve,invoke,builtin,Sem.run_bind,Sem.run_pure,Result.andThen_ok,List.map_toArray,List.map_cons,List.map_nil,E82,E84,hr]
  ·have hop:o.op=.nilCheck (.tmp 75):=zy hop0 rfl
   obtain⟨v3,g3⟩:=hdep rfl 3 (by decide)
   have E75:=evT hd htab hsz 3 75 rfl g3
   obtain rfl:v3=_:=hJ.pt 3 v3 _ g3 rfl
   refine gop ho hg ?_ ⟨_,rfl,hJ.put rfl (by decide) (by decide) (by decide)⟩
   rw[runH hop]
   generalize actG ops V a0 ops.size=A at E75 ⊢
   clear hJ hget hdst hend hdep hlate hq hqn hV hbn hT hqq hqt hrow
   go_simp
  ·have hop:o.op=.fieldAddr 245 (.tmp 86) 2:=zy hop0 rfl
   obtain⟨v14,g14⟩:=hdep rfl 14 (by decide)
   have E86:=evT hd htab hsz 14 86 rfl g14
   obtain rfl:v14=_:=hJ.pt 14 v14 _ g14 rfl
   refine gop ho hg ?_ ⟨_,rfl,hJ.put rfl (by decide) (by decide) (by decide)⟩
   rw[runH hop]
   generalize actG ops V a0 ops.size=A at E86 ⊢
   clear hJ hget hdst hend hdep hlate hq hqn hV hbn hT hqq hqt hrow
   go_simp
  ·have hop:o.op=.store 60 (.tmp 87) (.tmp 85):=zy hop0 rfl
   obtain⟨v13,g13⟩:=hdep rfl 13 (by decide)
   obtain⟨v15,g15⟩:=hdep rfl 15 (by decide)
   have E85:=evT hd htab hsz 13 85 rfl g13
   have E87:=evT hd htab hsz 15 87 rfl g15
   obtain rfl:v15=_:=hJ.pt 15 v15 _ g15 rfl
   obtain⟨hr13,-⟩:=hJ.r13 hVi v13 g13
   obtain⟨o13,c13,rfl⟩:=zi hr13
   have hqt7:=((hJ.gr hVi).block q (ze hqt) hqq).trans hqt
   have k5:w7.cell? ⟨q,5,none⟩=some (.slice ob nb cb):=zb hqt7 5 rfl
   have f5:=zh hqt7 5
   refine z6x ho hg (w':=w7.setCell ⟨q,5,none⟩ (.slice o13 (nb+1) c13)) ?_ ⟨_,rfl,hJ.p16 rfl hVi g13 _⟩
   clear hr13 hqt7
   rw[runH hop]
   generalize actG ops V a0 ops.size=A at E85 E87 ⊢
   clear hJ hget hdst hend hdep hlate hq hqn hV hbn hT hqq hqt hrow
   go_simp
 ·intro V w7 hall hJ
  have hall':∀ k,k<17→∃ v,V k=some v:=fun k hk=>Option.isSome_iff_exists.1 (hall k (by omega))
  obtain⟨v16,g16⟩:=hall' 16 (by omega)
  obtain⟨v,w8,h1,h2,h3,rfl⟩:=hJ.fin (by rw[g16];simp)
  exact hend V v w8 hall' h1 h2 h3

theorem VTab.tu {w w1:World} {b m:Nat} {F:Int→Option Value} {D:DataW Value} {T:Int→Option Value} {left:Zin} {wt:Int→Wt} {wn:Int→Nat} {q:Int→Nat} {vb:Int→Value} {B:Nat} (h:VTab w b F m D) (ht:TurnsOk w T left wt wn q vb) (hB:w.heap.size≤B) (hf:TuFr B left q w w1):VTab w1 b F m D:=by
 refine⟨?_,h.size,h.no,h.yes,h.wide⟩
 obtain⟨es,clock,hb,F',hs,hD⟩:=h.own
 refine⟨es,clock,(hf.block b (zLt h.lt hB) (fun z hz e=>?_)).trans hb,F',hs,hD⟩
 have:=(ht.at_ z hz).2
 rw[← e,hb] at this
 cases this

theorem IntsAt.tu {w w1:World} {oa:Zoa} {n cap:Nat} {zs left:Zin} {q:Int→Nat} {B:Nat} (h:IntsAt w oa n cap zs) (hB:w.heap.size≤B) (hf:TuFr B left q w w1) (hn:∀ a,oa=some a→∀ z∈left,a.block≠q z):IntsAt w1 oa n cap zs :=
 ⟨h.len,h.room,h.most,h.fits,fun i z hz=>by
  obtain⟨b,o,ha,hc⟩:=h.at_ i z hz
  refine⟨b,o,ha,?_⟩
  have hlt:=zw hc
  exact (World.cell?_of_block (hf.block b (zLt hlt hB) (fun y hy=>hn _ ha y hy))).trans hc⟩

theorem zns {w w5:World} {B:Nat} {v:Value} {n:Nat} {xs:Zvs} {X:Obj} {left:Zin} {q:Int→Nat} (hB:B≤w.heap.size) (ho:w.ownsRow B 242 4 v n xs) (hg:(w.alloc X).grownBy w5 v.ownBlock):TuFr B left q w w5:=by
 have hba:=(Below.refl B w).alloc hB X
 exact TuFr.on (hba.grown hg (zNt hB (by simp)) (fun k hk=>(ho.lt k hk).1))

theorem zmn {w w5:World} {B:Nat} {v:Value} {n:Nat} {xs:Zvs} {X:Obj} {left:Zin} {q:Int→Nat} {T:Int→Option Value} {wt:Int→Wt} {wn:Int→Nat} {vb:Int→Value} (h:TurnsOk w T left wt wn q vb) (ho:w.ownsRow B 242 4 v n xs) (hg:(w.alloc X).grownBy w5 v.ownBlock) (hq:∀ z∈left,q z<B):TurnsOk w5 T left wt wn q vb:=by
 have hba:=(Below.refl w.heap.size w).alloc zLe X
 have h1:=h.on hba
 exact⟨fun z hz=>⟨(h1.at_ z hz).1,(hg.block (q z) (ze (h1.at_ z hz).2) (fun e=>by have:=(ho.lt _ e.symm).1;have:=hq z hz;omega)).trans (h1.at_ z hz).2⟩,h.inj⟩

theorem zgr (bk bt:Nat) (left:Zin) (T:Int→Option Value) (mt:Nat) (DT:DataW Value) (id:Int) (hid:id∈left) (hwf:∀ z∈left,(Lit.int .i64 z).wf=true) (wt:Int→Wt) (wn:Int→Nat) (q:Int→Nat) (vb:Int→Value) (bs:Zin) (hnd:bs.Nodup) (hsub:∀ z∈bs,z∈left) (hpos:∀ z∈bs,1≤wn z∧wn z≤100000) (hlen:bs.length≤900) (ob:Zoa) (cb:Nat) (hvb:vb id=.slice ob bs.length cb) (w:World) (ht:VTab w bt T mt DT) (htu:TurnsOk w T left wt wn q vb) (hrow:IntsAt w ob bs.length cb bs) (hfar:∀ a,ob=some a→∀ z∈left,a.block≠q z) :
  Calls Tryz.prog 232 #[.agg #[.map (some bk),.map (some bt)],J Y id] w fun r w'=>∃ v,r=.returned v∧w'.ownsRow w.heap.size 242 4 v ((bs.filter (fun z=>wn z==1)).map wt).length (((bs.filter (fun z=>wn z==1)).map wt).flatMap z0c)∧TurnsOk w' T left wt (z4f wn bs) q vb∧TuFr w.heap.size left q w w':=by
 obtain⟨W0,hW0⟩:∃ W0,w.alloc (.cells #[.map (some bk),.map (some bt)] 234)=W0:=⟨_,rfl⟩
 have hb0:Bw w W0:=by rw[← hW0];exact zBa
 have hs0:W0.heap.size=w.heap.size+1:=by rw[← hW0];simp
 have hQ0:W0.heap[w.heap.size]? = some (.cells #[.map (some bk),.map (some bt)] 234 (0,0)):=by rw[← hW0];exact heap_alloc_new _ _
 have hT0:=ht.below hb0
 have htu0:=htu.on hb0
 have hqlt:∀ z∈left,q z<w.heap.size:=fun z hz=>ze (htu.at_ z hz).2
 have hi0:=(htu0.at_ id hid)
 have hg0:=hT0.get Tryz.underlying232 (Tryz.zeroValue240 _) (hwf id hid)
 rw[hi0.1] at hg0
 simp only[Option.getD_some] at hg0
 have k1:=zb hQ0 1 rfl
 have t5:W0.cell? ⟨q id,5,none⟩=some (.slice ob bs.length cb):=by rw[← hvb];exact zb hi0.2 5 rfl
 have DI:=ZZ (show TurnsOk W0 T left wt (z4f wn []) q vb from ⟨fun z hz=>by have:=htu0.at_ z hz;unfold z4f;simpa using this,htu0.inj⟩)
 have HT0:=ZZ hT0
 have Ef:=ZZ htu0
 have HB0:=ZZ hb0
 have HW0:=ZZ hW0
 have Eh:=ZZ hQ0
 have Ad:=ZZ (hrow.below hb0)
 have EK:=ZZ hfar
 have Bv:=ZZ hwf
 have L9:=ZZ hnd
 have La:=ZZ hsub
 have Lb:=ZZ hpos
 have Ei:=ZZ hqlt
 have hlq:=ze hQ0
 clear hb0 hW0 hQ0 hT0 htu0 hi0 ht htu hrow hfar hwf hnd hsub hpos hqlt hvb
 go_enter Tryz.func232,Tryz.ntmps232
 go_upto_region 1 with fail
 rw[HW0.o]
 clear HW0
 go_wp2_with fail
 go_loopw [5,17] (fun v x wr=>∃ (j:Nat) (ov:Zoa) (cv:Nat),x=J Y (j:Int)∧v=.slice ov (((bs.take j).filter (fun z=>wn z==1)).map wt).length cv∧j≤bs.length∧wr.ownsRow W0.heap.size 242 4 v (((bs.take j).filter (fun z=>wn z==1)).map wt).length ((((bs.take j).filter (fun z=>wn z==1)).map wt).flatMap z0c)∧TurnsOk wr T left wt (z4f wn (bs.take j)) q vb∧TuFr W0.heap.size left q W0 wr) (fun _ x _=>bs.length - (intOf x).toNat)
 case atStart=>exact⟨0,none,0,rfl,rfl,Nat.zero_le _,World.ownsRow_nil _ _ _ _,DI.o,TuFr.refl _ _ _ _⟩
 case round =>
  obtain⟨j,ov,cv,rfl,rfl,hj,hro,htr,hfr⟩:=hrel
  have Gp:=ZZ hro
  have Bu:=ZZ htr
  have Bc:=ZZ hfr
  have hsz:=hfr.size
  clear hro htr hfr
  by_cases hlt:j<bs.length
  ·have j0:(j:Int)<(bs.length:Int):=by omega
   have hir:=Ad.o.tu zLe Bc.o EK.o
   obtain⟨y,by_,qy,hy,hidx,hbz,e0,hwz⟩:=hir.get Tryz.underlying60 z0f j hlt
   have hyb:=zMg hy
   have hyl:=La.o y hyb
   have hyt:y ∉ bs.take j:=fun hm=>by
    obtain⟨h3,h4⟩:=zGi.1 hy
    have h:=List.take_append_drop j bs
    rw[List.drop_eq_getElem_cons h3,h4] at h
    have hn:=L9.o
    rw[← h,List.nodup_append] at hn
    exact hn.2.2 y hm y List.mem_cons_self rfl
   obtain⟨hTy,hqy⟩:=Bu.o.at_ y hyl
   have hwy:z4f wn (bs.take j) y=wn y:=by unfold z4f;simp[hyt]
   rw[hwy] at hqy
   obtain⟨hp1,hp2⟩:=Lb.o y hyb
   have hVT:=HT0.o.tu Ef.o zLe Bc.o
   have hget:=hVT.get Tryz.underlying232 (Tryz.zeroValue240 _) hwz
   rw[hTy] at hget
   simp only[Option.getD_some] at hget
   have hqb:=Ei.o y hyl
   have kr:=(World.cell?_of_block (w:=W0) (w':=wr) (a:=⟨w.heap.size,1,none⟩) (Bc.o.block w.heap.size hlq (fun z hz=>by have:=Ei.o z hz;omega))).trans k1
   have t4:wr.cell? ⟨q y,4,none⟩=some (J Y (wn y:Int)):=zb hqy 4 rfl
   have f4:=zh hqy 4
   obtain⟨hqn,hgn⟩:=zfg (m:=((wn y - 1:Nat):Int)) hqy
   have Dr:=ZZ (Bu.o.less hyl hyt hqn hgn)
   have hw1:IntKind.i64.wrap ((wn y:Int) - 1)=((wn y - 1:Nat):Int):=by rw[IntKind.wrap_i64];omega
   have hw2:(wn y:Int) - 1=((wn y - 1:Nat):Int):=by omega
   have Af:=ZZ (show bs.take (j+1)=bs.take j++[y] from by rw[List.take_add_one,hy];rfl)
   have GV:=ZZ (Gp.o.kept hgn (.inr (fun e=>by have:=(Gp.o.lt _ e).1;omega)))
   have Ce:=ZZ (Bc.o.trans (TuFr.one hyl hsz hgn))
   have Aa:=ZZ (show ((bs.take (j+1)).filter (fun z=>wn z==1)).map wt=((bs.take j).filter (fun z=>wn z==1)).map wt++(if wn y==1 then [wt y] else []) from by
    rw[Af.o,List.filter_append,List.map_append]
    congr 1
    cases h1:(wn y==1)<;>simp[List.filter_cons,h1])
   have hLl:(((bs.take j).filter (fun z=>wn z==1)).map wt).length≤900:=by
    rw[List.length_map]
    have h1:=List.length_filter_le (fun z=>wn z==1) (bs.take j)
    rw[List.length_take] at h1
    omega
   obtain⟨W4,hW4⟩:∃ W4,wr.setCell ⟨q y,4,none⟩ (J Y ((wn y - 1:Nat):Int))=W4:=⟨_,rfl⟩
   rw[hW4] at Dr GV Ce hqn hgn
   have Cw:=ZZ hW4
   have s0:W4.cell? ⟨q y,0,none⟩=some (.bool (wt y).r):=zb hqn 0 rfl
   have s1:W4.cell? ⟨q y,1,none⟩=some (J Y (wt y).l):=zb hqn 1 rfl
   have s2:W4.cell? ⟨q y,2,none⟩=some (J Y (wt y).d):=zb hqn 2 rfl
   have s3:W4.cell? ⟨q y,3,none⟩=some (J Y (wt y).i):=zb hqn 3 rfl
   have s4:W4.cell? ⟨q y,4,none⟩=some (J Y ((wn y - 1:Nat):Int)):=zb hqn 4 rfl
   have hsz4:=hgn.size
   generalize hLj:((bs.take j).filter (fun z=>wn z==1)).map wt=Lj at Gp GV Aa hLl
   clear hir hy hVT hqn hgn hqy hTy hwy hW4
   go_upto_region 7 with fail
   rw[Cw.o]
   clear Cw t4 f4 kr hget hidx e0
   cases h1:(wn y==1)
   ·have g0:(((wn y - 1:Nat):Int)==0)=false:=by
     rw[beq_eq_false_iff_ne] at h1 ⊢
     omega
    rw[h1] at Aa
    simp only[Bool.false_eq_true,↓reduceIte,List.append_nil] at Aa
    go_wp2_with fail
    go_roundw
    case rel=>exact⟨j+1,ov,cv,by go_num,by rw[Aa.o],by omega,by rw[Aa.o];exact GV.o,by rw[Af.o];exact Dr.o,Ce.o⟩
    case measure=>simp[intOf];omega
   ·have g0:(((wn y - 1:Nat):Int)==0)=true:=by
     rw[beq_iff_eq] at h1 ⊢
     omega
    rw[h1] at Aa
    simp only[↓reduceIte] at Aa
    have hown:=GV.o
    go_wp2_with (at_builtin;refine z1n (cs:=#[.bool (wt y).r,J Y (wt y).l,J Y (wt y).d,J Y (wt y).i]) rfl _ _ 247 rfl (by decide) Tryz.underlying247 zht rfl rfl hown rfl rfl (by simp[Value.oneCell']) (by omega) (by unfold maxLen;omega) (by omega) ?_;intro v5 w5 ho5 hg5 hl5;obtain⟨o5,c5,rfl⟩:=zi ho5)
    have hba:=(Below.refl W4.heap.size W4).alloc zLe (.cells #[.bool (wt y).r,J Y (wt y).l,J Y (wt y).d,J Y (wt y).i] 242)
    have hfr5:TuFr W0.heap.size left q W4 w5:=zns (by omega) hown hg5
    have htu5:TurnsOk w5 T left wt (z4f wn (bs.take (j+1))) q vb:=by
     rw[Af.o]
     exact zmn Dr.o hown hg5 (fun z hz=>by have:=Ei.o z hz;omega)
    go_roundw
    case rel=>exact⟨j+1,o5,c5,by go_num,by rw[Aa.o,List.length_append];rfl,by omega,by rw[Aa.o,List.length_append,List.flatMap_append];exact ho5,htu5,Ce.o.trans hfr5⟩
    case measure=>simp[intOf];omega
  ·have hjn:bs.take j=bs:=zTl (by omega)
   rw[hjn] at Gp Bu ⊢
   go_wp2_with fail
   go_ret
   exact⟨_,rfl,zu Gp.o HB0.o.size,Bu.o,(TuFr.on HB0.o).trans (Bc.o.mono HB0.o.size)⟩

end Go.Proofs.YtfeebdcmlnapiaaGreat
