/-
  Walks.
-/
import Derived.Test.YtfeebdcmlnapiaaGreatTWalk1e
set_option maxRecDepth 100000
set_option maxHeartbeats 2000000
set_option linter.unusedVariables false
set_option linter.unusedSimpArgs false
namespace Go.Proofs.YtfeebdcmlnapiaaGreat
open Go.RowKit P1 P9 P11 P12 P18 K
theorem y4e (l:Zbs):Lib.strCells ⟨l.toArray⟩=B8 l:=by
 simp[Lib.strCells,B8]

theorem y4p {P:Program} {w:World} {ops:Array Oper} {o:Oper} {a:Act} {K:Act→World→Prop} {Q:Exit→Act→World→Prop} {E:Prop} (hgd:o.guard=none) (s x:Operand) (t u:TypeId)
  (ho:o.op=.call { callee:=.builtin .append,args:=#[s,x],argTypes:=#[t,u] })
  {base:Nat} {e:TypeId} (ht:P.underlying t=some (.slice e)) (hu:P.underlying u=some .string) (hi:(P.info? e).map (fun i=>(i.zero,i.size,i.bytes))=some (some (.int .u8 0),1,1))
  {v:Value} {n:Nat} {xs:Zvs} (hs:a.eval s=v) (hown:w.ownsRow base e 1 v n xs)
  {l:Zbs} (hx:a.eval x=.string ⟨l.toArray⟩) (h63:n+l.length≤1000000000) (hbase:base≤w.heap.size)
  (h:∀ v' w',w'.ownsRow base e 1 v' (n+l.length) (xs++B8 l)→w.grownBy w' v.ownBlock→K (a.put o.dst v') w') :
  if Region.wanted o (yielded ops a.tmps)=true then Oper.wp P o a w K Q else E:=by
 obtain⟨i,hi,hz,h1,h2⟩:=info_parts hi
 have hw:Region.wanted o (yielded ops a.tmps)=true:=by simp[Region.wanted,hgd]
 rw[if_pos hw]
 have hsz:(⟨l.toArray⟩:ByteArray).size=l.length:=rfl
 obtain⟨v',w',hr,r1,r2,-⟩:=Lib.run_append_own_string (P:=P) w base t u o.type e i ht hu hi hz h1 h2 v n xs hown ⟨l.toArray⟩ (by unfold maxLen;rw[hsz];omega) (by rw[hsz];omega) hbase
 rw[hsz,y4e] at r1
 unfold Oper.wp execOp
 simp only[ho,resolve,invoke,builtin,Sem.run_bind,Sem.run_pure,Result.andThen_ok,List.map_toArray,List.map_cons,List.map_nil,hs,hx,hr]
 exact h v' w' r1 r2

structure Tw (base g:Nat) (l:Zbs) (w:World):Prop where
 lo:base≤g
 blk:∃ oa cap,w.heap[g]? = some (.cells #[.slice oa l.length cap] 104 (0,0))∧w.ownsRow base 5 1 (.slice oa l.length cap) l.length (B8 l)

structure TwFr (base g:Nat) (w w':World):Prop where
 bel:Below base w w'
 keep:∀ (b:Nat) (cs:Array Value) (T:TypeId),b≠g→w.heap[b]? = some (.cells cs T (0,0))→T≠5→w'.heap[b]? = w.heap[b]?

theorem TwFr.trans {base g:Nat} {a b c:World} (h:TwFr base g a b) (k:TwFr base g b c):TwFr base g a c :=
 ⟨h.bel.trans (k.bel),fun p cs T hp hb hT=>by
  have h1:=h.keep p cs T hp hb hT
  exact (k.keep p cs T hp (h1.trans hb) hT).trans h1⟩

theorem TwFr.low {base g:Nat} {a b:World} (hB:base≤a.heap.size) (h:Bw a b):TwFr base g a b :=
 ⟨h.mono hB,fun p cs T _ hb _=>h.block p (ze hb)⟩

theorem Tw.glt {base g:Nat} {l:Zbs} {w:World} (h:Tw base g l w):g<w.heap.size:=by
 obtain⟨_,_,hb,_⟩:=h.blk
 exact ze hb

theorem Tw.bsz {base g:Nat} {l:Zbs} {w:World} (h:Tw base g l w):base≤w.heap.size:=Nat.le_of_lt (Nat.lt_of_le_of_lt h.lo h.glt)

theorem Tw.on {base g:Nat} {l:Zbs} {w w':World} (h:Tw base g l w) (hb:Bw w w'):Tw base g l w':=by
 obtain⟨oa,cap,h1,h2⟩:=h.blk
 exact⟨h.lo,oa,cap,(hb.block g (ze h1)).trans h1,own_below h2 hb⟩

theorem Tw.drew {base g:Nat} {l:Zbs} {w:World} (h:Tw base g l w):Tw base g l w.drew:=h.on zBr.drew

theorem Tw.alloc {base g:Nat} {l:Zbs} {w:World} (h:Tw base g l w) (o:Obj):Tw base g l (w.alloc o):=h.on (zBa)

theorem Tw.new (w:World):Tw w.heap.size w.heap.size [] (w.alloc (.cells #[.slice none 0 0] 104)) :=
 ⟨Nat.le_refl _,none,0,heap_alloc_new _ _,World.ownsRow_nil _ _ _ _⟩

theorem y3m {w:World} {B:Nat} {e:TypeId} {k:Nat} {v:Value} {n:Nat} {xs:Zvs} (h:w.ownsRow B e k v n xs) {g:Nat} {cs:Array Value} {e':TypeId} {fz:Nat × Nat} (hb:w.heap[g]? = some (.cells cs e' fz)) (hne:e'≠e):v.ownBlock≠some g:=by
 intro hg
 rcases h.2 with ⟨rfl,_⟩|⟨g',cap,cur,rfl,_,hg',_⟩
 ·cases hg
 ·simp only[Value.ownBlock,Option.some.injEq] at hg
  subst hg
  rw[hg'] at hb
  cases hb
  exact hne rfl

theorem Tw.app {base g:Nat} {l k:Zbs} {w w1 w2:World} {oa:Zoa} {cap:Nat} {oa':Zoa} {cap':Nat} (hlo:base≤g)
  (hb:w.heap[g]? = some (.cells #[.slice oa l.length cap] 104 (0,0))) (ho:w.ownsRow base 5 1 (.slice oa l.length cap) l.length (B8 l))
  (h1:Bw w w1) (h2:w2.ownsRow base 5 1 (.slice oa' (l.length+k.length) cap') (l.length+k.length) (B8 l++B8 k)) (hg:w1.grownBy w2 (Value.slice oa l.length cap).ownBlock) :
  Tw base g (l++k) (w2.setCell ⟨g,0,none⟩ (.slice oa' (l.length+k.length) cap'))∧TwFr base g w (w2.setCell ⟨g,0,none⟩ (.slice oa' (l.length+k.length) cap')):=by
 have hlt:=ze hb
 have hb1:=(h1.block g hlt).trans hb
 have ho1:=own_below ho h1
 have hne:=y3m ho1 hb1 (by decide)
 have hb2:=(hg.block g (ze hb1) (fun e=>hne e.symm)).trans hb1
 have hset:=z2q (k:=0) (.slice oa' (l.length+k.length) cap') hb2
 refine⟨⟨hlo,oa',cap',?_,?_⟩,?_,?_⟩
 ·rw[List.length_append]
  exact hset
 ·rw[List.length_append,y47]
  exact h2.kept (z1h w2 g 0 _) (Or.inr (fun e=>y3m h2 hb2 (by decide) e))
 ·refine ((h1.mono (by omega)).grown hg (by have:=h1.size;omega) (fun j hj=>(ho1.lt j hj).1)).setCell (by simpa using hlo) _
 ·intro b cs T hne' hbb hT
  have c1:=(h1.block b (ze hbb)).trans hbb
  have c2:=(hg.block b (ze c1) (fun e=>y3m ho1 c1 hT e.symm)).trans c1
  rw[(z1h w2 g 0 _).block b (ze c2) (fun e=>hne' (zSi e)),c2,hbb]

def XS (h:Nat) (cs:Array Value) (T:TypeId) (w:World):Prop:=w.heap[h]? = some (.cells cs T (0,0))

theorem XS.new (w:World) (cs:Array Value) (T:TypeId):XS w.heap.size cs T (w.alloc (.cells cs T)):=heap_alloc_new _ _

theorem XS.lt {h:Nat} {cs:Array Value} {T:TypeId} {w:World} (k:XS h cs T w):h<w.heap.size:=ze k

theorem XS.on {h:Nat} {cs:Array Value} {T:TypeId} {w w':World} (k:XS h cs T w) (hb:Bw w w'):XS h cs T w':=(hb.block h k.lt).trans k

theorem XS.alloc {h:Nat} {cs:Array Value} {T:TypeId} {w:World} (k:XS h cs T w) (o:Obj):XS h cs T (w.alloc o):=k.on (zBa)

theorem XS.drew {h:Nat} {cs:Array Value} {T:TypeId} {w:World} (k:XS h cs T w):XS h cs T w.drew:=k.on zBr.drew

theorem XS.cell {h:Nat} {cs:Array Value} {T:TypeId} {w:World} (k:XS h cs T w) (j:Nat) {u:Value} (hu:cs[j]? = some u):w.cell? ⟨h,j,none⟩=some u:=zb k j hu

theorem XS.tw {h base g:Nat} {cs:Array Value} {T:TypeId} {w w':World} (k:XS h cs T w) (hf:TwFr base g w w') (hne:h≠g) (hT:T≠5):XS h cs T w':=(hf.keep h cs T hne k hT).trans k

theorem y3p (base g:Nat) (l:Zbs) (oa:Zoa) (n cap:Nat) (zs:Zin) (hn:n≤1000) (hz:∀ z∈zs,0≤z∧z≤1000000000) (hl:l.length≤1000000) (w:World) (hT:Tw base g l w) (hat:IntsAt w oa n cap zs) :
  Calls Tryz.prog 100 #[.pointer (some ⟨g,0,none⟩),.slice oa n cap] w fun e w'=>e=.returned (.tuple #[])∧Tw base g (l++zs.flatMap varZ) w'∧TwFr base g w w':=by
 have hsz:=hT.bsz
 obtain⟨ob,cp,hb,ho⟩:=hT.blk
 have hlo:=hT.lo
 have hglt:=ze hb
 have c0:w.cell? ⟨g,0,none⟩=some (.slice ob l.length cp):=zb hb 0 rfl
 have f0:=zh hb 0
 have hlv:=y3q zs
 have hzl:=hat.len
 have HV:=ZZ (fun w hat=>y40 oa n cap zs (by omega) hz w hat)
 have HA:=ZZ hat
 have HB:=ZZ hb
 have HO:=ZZ ho
 have hkl:(zs.flatMap varZ).length≤10000:=by omega
 clear hat hb ho hz hT hlv hzl
 generalize zs.flatMap varZ=k at HV hkl ⊢
 go_enter Tryz.func100,Tryz.ntmps100
 go_wp2_with fail
 go_region_law (first
  | (refine y4p (by rfl) _ _ 97 9 (by rfl) Tryz.underlying97 Tryz.underlying9 infoByte (by rfl) (by exact own_below HO.o hbd1) (by rfl) (by omega) (by have:=hbd1.size;omega) ?_;intro v' w2 ho2 hg2;obtain⟨ov,cv,rfl⟩:=zi ho2;have c2:w2.cell? ⟨g,0,none⟩=some (.slice ob l.length cp):=zb ((hg2.block g (by have:=hbd1.size;omega) (fun e=>y3m (own_below HO.o hbd1) ((hbd1.block g hglt).trans HB.o) (by decide) e.symm)).trans ((hbd1.block g hglt).trans HB.o)) 0 rfl;have f2:w2.frozen? ⟨g,0,none⟩=false:=zh ((hg2.block g (by have:=hbd1.size;omega) (fun e=>y3m (own_below HO.o hbd1) ((hbd1.block g hglt).trans HB.o) (by decide) e.symm)).trans ((hbd1.block g hglt).trans HB.o)) 0)
  | (rw[if_pos (by rfl)];go_simp;go_at_call 148;refine (HV.o _ (HA.o.below zBr.drew)).mono ?_;rintro e w1 ⟨rfl,hb1⟩;have hbd1:=(Below.refl w.heap.size w).drew.trans (hb1.mono (by simp));have c1:=(hbd1.cell (p:=⟨g,0,none⟩) hglt).trans c0))
 all_goals
  refine bodyPost_end (results_none rfl _ _ _) rfl ?_
  exact⟨rfl,Tw.app hlo HB.o HO.o hbd1 ho2 hg2⟩

theorem y4f (base g:Nat) (l:Zbs) (x:Zbs) (hx:x.length≤20000) (hl:l.length≤1000000) (w:World) (hT:Tw base g l w) :
  Calls Tryz.prog 101 #[.pointer (some ⟨g,0,none⟩),.string ⟨x.toArray⟩] w fun e w'=>e=.returned (.tuple #[])∧Tw base g (l++y3a x) w'∧TwFr base g w w':=by
 have hsz:=hT.bsz
 obtain⟨ob,cp,hb,ho⟩:=hT.blk
 have hlo:=hT.lo
 have hglt:=ze hb
 have c0:w.cell? ⟨g,0,none⟩=some (.slice ob l.length cp):=zb hb 0 rfl
 have f0:=zh hb 0
 have HV:=ZZ (fun w=>y3w x hx w)
 have hkl:(y3a x).length≤20100:=by have:=(y3g x).1;omega
 have HB:=ZZ hb
 have HO:=ZZ ho
 clear hb ho hT
 generalize y3a x=k at HV hkl ⊢
 obtain⟨i0,hi,hz0,hz1,hz2⟩:=info_parts (P:=Tryz.prog) infoByte
 go_enter Tryz.func101,Tryz.ntmps101
 go_wp2_with fail
 refine (HV.o _).mono ?_
 rintro e w1 ⟨rfl,hb1⟩
 have c1:=(hb1.cell (p:=⟨g,0,none⟩) hglt).trans c0
 have hk0:(⟨k.toArray⟩:ByteArray).size=k.length:=rfl
 go_wp2_with (at_builtin;refine Lib.wpList_append_own_string _ rfl _ _ 97 9 rfl base 5 i0 Tryz.underlying97 Tryz.underlying9 hi hz0 hz1 hz2 _ _ _ rfl (own_below HO.o hb1) ⟨k.toArray⟩ rfl ?c3 ?c4 ?c5 ?_)
 case c3=>unfold maxLen;rw[hk0];omega
 case c4=>rw[hk0];omega
 case c5=>have:=hb1.size;omega
 intro v' w2 ho2 hg2 _
 rw[y4e] at ho2
 obtain⟨ov,cv,rfl⟩:=zi ho2
 have hbb:=(hg2.block g (by have:=hb1.size;omega) (fun e=>y3m (own_below HO.o hb1) ((hb1.block g hglt).trans HB.o) (by decide) e.symm)).trans ((hb1.block g hglt).trans HB.o)
 have c2:w2.cell? ⟨g,0,none⟩=some (.slice ob l.length cp):=zb hbb 0 rfl
 have f2:=zh hbb 0
 clear hbb
 go_wp2_with fail
 refine bodyPost_end (results_none rfl _ _ _) rfl ?_
 exact⟨rfl,Tw.app hlo HB.o HO.o hb1 ho2 hg2⟩

theorem y46 (base g:Nat) (l:Zbs) (w:World) (hT:Tw base g l w) :
  Calls Tryz.prog 52 #[.pointer (some ⟨g,0,none⟩)] w fun e w'=>e=.returned (.string ⟨l.toArray⟩)∧w=w':=by
 obtain⟨ob,cp,hb,ho⟩:=hT.blk
 have c0:w.cell? ⟨g,0,none⟩=some (.slice ob l.length cp):=zb hb 0 rfl
 have hconv:=y3j (P:=Tryz.prog) (src:=97) (dst:=9) Tryz.underlying97 Tryz.underlying5 Tryz.underlying9 ho
 clear hb ho hT
 go_enter Tryz.func52,Tryz.ntmps52
 go_wp2_with fail
 go_ret
 exact⟨rfl,rfl⟩

def RowG (w:World) (base:Nat) (v:Value) (xs:Zbs):Prop :=
 ∃ (g cap:Nat) (cur:Array Value) (fz:Nat × Nat),v=.slice (some ⟨g,0,none⟩) xs.length cap∧base≤g∧w.heap[g]? = some (.cells cur 5 fz)∧(∀ o,o<cur.size→fz.1≤o→fz.2≤o)∧xs.length≤cap∧cap≤maxLen∧cur.size=cap∧cur.toList.take xs.length=B8 xs

theorem RowG.lt {w:World} {base:Nat} {v:Value} {xs:Zbs} (h:RowG w base v xs):∀ q,v.ownBlock=some q→base≤q∧q<w.heap.size:=by
 obtain⟨g,cap,cur,fz,rfl,h1,h2,_⟩:=h
 intro q hq
 cases hq
 exact⟨h1,(Array.getElem?_eq_some_iff.1 h2).1⟩

theorem RowG.form {w:World} {base:Nat} {v:Value} {xs:Zbs} (h:RowG w base v xs):∃ g cap,v=.slice (some ⟨g,0,none⟩) xs.length cap:=by
 obtain⟨g,cap,cur,fz,rfl,_⟩:=h
 exact⟨g,cap,rfl⟩

theorem RowG.kept {w w':World} {base:Nat} {v:Value} {xs:Zbs} (h:RowG w base v xs) {row:Option Nat} (hg:w.grownBy w' row) (hne:v.ownBlock≠row):RowG w' base v xs:=by
 obtain⟨g,cap,cur,fz,rfl,h1,h2,h3⟩:=h
 exact⟨g,cap,cur,fz,rfl,h1,(hg.block g (Array.getElem?_eq_some_iff.1 h2).1 (by simpa [Value.ownBlock] using hne)).trans h2,h3⟩

theorem RowG.on {w w':World} {base:Nat} {v:Value} {xs:Zbs} (h:RowG w base v xs) (hb:Bw w w'):RowG w' base v xs:=by
 obtain⟨g,cap,cur,fz,rfl,h1,h2,h3⟩:=h
 exact⟨g,cap,cur,fz,rfl,h1,(hb.block g (Array.getElem?_eq_some_iff.1 h2).1).trans h2,h3⟩

theorem RowG.low {w:World} {base base':Nat} {v:Value} {xs:Zbs} (h:RowG w base v xs) (hb:base'≤base):RowG w base' v xs:=by
 obtain⟨g,cap,cur,fz,rfl,h1,h3⟩:=h
 exact⟨g,cap,cur,fz,rfl,zNt hb h1,h3⟩

theorem RowG.cells {w:World} {base g n cap:Nat} {xs:Zbs} (h:RowG w base (.slice (some ⟨g,0,none⟩) n cap) xs):∀ j u,(B8 xs)[j]? = some u→w.cell? ((⟨g,0,none⟩:Addr).add j)=some u:=by
 obtain⟨g',cap',cur,fz,e,_,h2,_,_,_,_,h7⟩:=h
 cases e
 intro j u hu
 rw[Addr.add_mid,Nat.zero_add]
 rw[← h7,List.getElem?_take] at hu
 split at hu
 ·unfold World.cell?
  rw[h2]
  simpa using hu
 ·cases hu

theorem RowG.new (w:World) (l:Zbs) (hl:l.length≤1048576):RowG (Lib.bytesWorld w 5 ⟨l.toArray⟩) w.heap.size (.slice (some ⟨w.heap.size,0,none⟩) l.length (grownCap w l.length 0 5)) l:=by
 have hge:=grownCap_ge w l.length 0 5
 have hle:=grownCap_le_maxLen w l.length 0 5 (by unfold maxLen;omega)
 have hsz:(⟨l.toArray⟩:ByteArray).size=l.length:=rfl
 have hcs:(Lib.bytesCells w 5 ⟨l.toArray⟩).size=grownCap w l.length 0 5:=by
  unfold Lib.bytesCells
  rw[Array.size_append,Array.size_map,Array.size_replicate,hsz]
  show l.toArray.size+_=_
  rw[List.size_toArray]
  omega
 refine⟨w.heap.size,_,_,_,rfl,Nat.le_refl _,Lib.bytesWorld_at_new w 5 ⟨l.toArray⟩,?_,hge,hle,hcs,?_⟩
 ·intro o ho h1
  simp only at h1
  omega
 ·unfold Lib.bytesCells
  simp[B8]

theorem y3x (P:Program) (g o:Nat) (t:TypeId) (fz:Nat × Nat):∀ (vs:Zvs) (i:Nat) (cur:Array Value) (w:World),w.heap[g]? = some (.cells cur t fz)→(∀ k,k<cur.size→fz.1≤k→fz.2≤k)→o+i+vs.length≤cur.size→(∀ v∈vs,v.oneCell'=true) →
  (storeCells ⟨g,o,none⟩ vs i).run P w=.ok () (w.setRow g (cur.toList.take (o+i)++vs++cur.toList.drop (o+i+vs.length)).toArray)
 | [],i,cur,w,hg,_,_,_=>by
  simp only[storeCells,List.append_nil,List.length_nil,Nat.add_zero,List.take_append_drop,Array.toArray_toList]
  rw[setRow_self w g cur t fz hg]
  rfl
 | v::rest,i,cur,w,hg,hfz,hl,h1=>by
  have hi:o+i<cur.size:=by simp at hl;omega
  have hadd:(⟨g,o,none⟩:Addr).add i=⟨g,o+i,none⟩:=by unfold Addr.add;split<;>simp_all
  have hcell:w.cell? ⟨g,o+i,none⟩=some cur[o+i]:=by simp[World.cell?,hg,hi]
  have hfro:w.frozen? ⟨g,o+i,none⟩=false:=by
   have hk:=hfz (o+i) hi
   obtain⟨lo,hi'⟩:=fz
   simp only[World.frozen?,hg,Bool.and_eq_false_iff,decide_eq_false_iff_not]
   simp only at hk
   by_cases hlo:lo≤o+i
   ·right
    have:=hk hlo
    omega
   ·left
    exact hlo
  have hst:(store ((⟨g,o,none⟩:Addr).add i) v).run P w=.ok () (w.setRow g (cur.setIfInBounds (o+i) v)):=by
   rw[hadd,run_store P w _ v _ (h1 v (by simp)),hcell]
   simp[hfro,setCell_eq_setRow w g (o+i) cur t fz v hg]
  have ih:=y3x P g o t fz rest (i+1) (cur.setIfInBounds (o+i) v) (w.setRow g (cur.setIfInBounds (o+i) v)) (setRow_heap w g cur _ t _ hg) (by simpa using hfz) (by simp at hl ⊢;omega) (fun x hx=>h1 x (by simp[hx]))
  simp only[storeCells,Sem.run_bind,hst,Result.andThen_ok,ih,setRow_setRow]
  congr 3
  have e:=list_seg_step cur.toList (o+i) v rest (by simp at hl ⊢;omega)
  simpa [Array.toList_setIfInBounds,Nat.add_assoc] using e

theorem y5v:(Tryz.prog.info? 5).map (fun i=>(i.zero,i.size,i.bytes))=some (some (.int .u8 0),1,1):=by kernel_rfl

theorem y5z (l:Zbs):∀ u∈B8 l,u.oneCell'=true:=by
 intro y hy
 simp only[B8,List.mem_map] at hy
 obtain⟨b,-,rfl⟩:=hy
 rfl

theorem y49 {W w:World} {ty:TypeId} {base n c:Nat} {v:Value} {xs l:Zbs} (hown:RowG W base v xs) (hbase:base≤W.heap.size) (hn:n=l.length) (hm:xs.length+l.length≤1048576) (hw:w=Lib.bytesWorld W 5 ⟨l.toArray⟩) :
  ∃ v' w',(Builtin.append_ #[97,97] ty #[v,.slice (some ⟨W.heap.size,0,none⟩) n c]).run Tryz.prog w=.ok v' w'∧RowG w' base v' (xs++l)∧W.grownBy w' v.ownBlock:=by
 subst hw
 subst hn
 have hbw:Bw W (Lib.bytesWorld W 5 ⟨l.toArray⟩):=Joins.below_bytesWorld W.heap.size W 5 ⟨l.toArray⟩ zLe
 have hgw:∀ row,W.grownBy (Lib.bytesWorld W 5 ⟨l.toArray⟩) row:=fun row=>(z0y hbw).but _
 obtain⟨i,hi,hz,hs1,hby⟩:=info_parts y5v
 have ho:=hown.on hbw
 have hnews:∀ j u,(B8 l)[j]? = some u→(Lib.bytesWorld W 5 ⟨l.toArray⟩).cell? ((⟨W.heap.size,0,none⟩:Addr).add j)=some u:=by
  intro j y hj
  have hjl:j<l.length:=by have:=(zGi.1 hj).1;rwa [y3e] at this
  have hc:=Lib.bytesWorld_cell W 5 ⟨l.toArray⟩ j (by show j<l.toArray.size;rw[List.size_toArray];exact hjl)
  rw[Addr.add_mid,Nat.zero_add,hc,← hj]
  simp[B8,hjl,List.getD]
 have hbl:base≤(Lib.bytesWorld W 5 ⟨l.toArray⟩).heap.size:=zNt hbase hbw.size
 generalize Lib.bytesWorld W 5 ⟨l.toArray⟩=w at hgw ho hnews hbl
 obtain⟨g,cap,cur,fz,rfl,hbg,hg,hfz,hnc,hcm,hcs,htake⟩:=ho
 have hlB:(B8 l).length=l.length * i.size:=by rw[y3e,hs1,Nat.mul_one]
 by_cases hroom:xs.length+l.length≤cap
 ·have hf:=run_firstCells_some (P:=Tryz.prog) w i.size l.length ⟨W.heap.size,0,none⟩ l.length c (B8 l) hlB hnews
  have hst:=y3x Tryz.prog g xs.length 5 fz (B8 l) 0 cur w hg hfz (by rw[y3e];omega) (y5z l)
  simp only[Nat.add_zero,y3e] at hst
  have hr:(Builtin.append_ #[97,97] ty #[.slice (some ⟨g,0,none⟩) xs.length cap,.slice (some ⟨W.heap.size,0,none⟩) l.length c]).run Tryz.prog w=.ok (.slice (some ⟨g,0,none⟩) (xs.length+l.length) cap) (w.setRow g (cur.toList.take xs.length++B8 l++cur.toList.drop (xs.length+l.length)).toArray):=by
   simp[Builtin.append_,run_underlying Tryz.underlying97,sizeOf,typeInfo,hi,hs1,Builtin.lenOf,hroom,Addr.add_lit,hst]
   rw[hs1] at hf
   simp[hf,hst]
  refine⟨_,_,hr,⟨g,cap,_,fz,by rw[List.length_append],hbg,setRow_heap w g cur _ 5 _ hg,?_,by rw[List.length_append];exact hroom,hcm,?_,?_⟩,z00 (hgw _) ⟨rfl,rfl,rfl,by simp,fun k _ hk=>setRow_other w g k _ (fun e=>hk (by simp[Value.ownBlock,e]))⟩⟩
  ·intro o ho2 h1
   refine hfz o ?_ h1
   simp only[List.size_toArray,List.length_append,List.length_take,List.length_drop,Array.length_toList,y3e] at ho2
   omega
  ·simp only[List.size_toArray,List.length_append,List.length_take,List.length_drop,Array.length_toList,y3e]
   omega
  ·rw[htake]
   rw[show (xs++l).length=(B8 xs++B8 l).length by rw[List.length_append,List.length_append,y3e,y3e],y47]
   exact List.take_left
 ·have holds:∀ j u,(B8 xs)[j]? = some u→w.cell? ((⟨g,0,none⟩:Addr).add j)=some u:=RowG.cells (base:=base) (n:=xs.length) (cap:=cap) ⟨g,cap,cur,fz,rfl,hbg,hg,hfz,hnc,hcm,hcs,htake⟩
  have hxl:(B8 xs).length=xs.length * i.size:=by rw[y3e,hs1,Nat.mul_one]
  have hr:=run_append_grow (P:=Tryz.prog) w 97 ty 5 i (.int .u8 0) Tryz.underlying97 hi hz ⟨g,0,none⟩ xs.length cap (B8 xs) hxl holds ⟨W.heap.size,0,none⟩ l.length c (B8 l) hlB hnews (by omega) (by omega) (by rw[hby];exact growslice_fits (by omega) (by omega))
  have hge:=grownCap_ge w (xs.length+l.length) cap 5
  have hcm2:grownCap w (xs.length+l.length) cap 5≤maxLen:=grownCap_le_maxLen w (xs.length+l.length) cap 5 (by unfold maxLen;omega)
  refine⟨_,_,hr,⟨w.heap.size,_,_,(0,0),by rw[List.length_append],hbl,heap_alloc_new w.drew _,fun o _ _=>Nat.zero_le _,by rw[List.length_append];exact hge,hcm2,?_,?_⟩,z00 (hgw _) ⟨rfl,rfl,rfl,by simp,fun k hk _=>heap_alloc_old w.drew _ hk⟩⟩
  ·have hz1:(Value.int IntKind.u8 0).cells.size=1:=rfl
   simp only[Array.size_append,List.size_toArray,size_zeroCells,hz1,y3e]
   omega
  ·simp only[Array.toList_append,List.append_assoc]
   rw[← List.append_assoc,show (xs++l).length=(B8 xs++B8 l).length by rw[List.length_append,List.length_append,y3e,y3e],y47]
   exact List.take_left

theorem y3v {w W:World} {ops:Array Oper} {rest:List Oper} {o:Oper} {a:Act} {Q:Exit→Act→World→Prop} (hgd:o.guard=none) (s x:Operand)
  (ho:o.op=.call { callee:=.builtin .append,args:=#[s,x],argTypes:=#[97,97] })
  {base n c:Nat} {v:Value} {xs l:Zbs} (hs:a.eval s=v) (hown:RowG W base v xs) (hbase:base≤W.heap.size) (hn:n=l.length)
  (hx:a.eval x=.slice (some ⟨W.heap.size,0,none⟩) n c) (hm:xs.length+l.length≤1048576) (hw:w=Lib.bytesWorld W 5 ⟨l.toArray⟩)
  (h:∀ v' w',RowG w' base v' (xs++l)→W.grownBy w' v.ownBlock→wpList Tryz.prog ops Q rest (a.put o.dst v') w'):wpList Tryz.prog ops Q (o::rest) a w:=by
 obtain⟨v',w',hr,r1,r2⟩:=y49 (ty:=o.type) (c:=c) hown hbase hn hm hw
 refine wpList_plain hgd fun _ hK=>?_
 unfold Oper.wp execOp
 simp only[ho,resolve,invoke,builtin,Sem.run_bind,Sem.run_pure,Result.andThen_ok,List.map_toArray,List.map_cons,List.map_nil,hs,hx,hr]
 exact hK _ _ (h v' w' r1 r2)

theorem y52 {w W:World} {ops:Array Oper} {o:Oper} {a:Act} {K:Act→World→Prop} {Q:Exit→Act→World→Prop} {E:Prop} (hgd:o.guard=none) (s x:Operand)
  (ho:o.op=.call { callee:=.builtin .append,args:=#[s,x],argTypes:=#[97,97] })
  {base n c:Nat} {v:Value} {xs l:Zbs} (hs:a.eval s=v) (hown:RowG W base v xs) (hbase:base≤W.heap.size) (hn:n=l.length)
  (hx:a.eval x=.slice (some ⟨W.heap.size,0,none⟩) n c) (hm:xs.length+l.length≤1048576) (hw:w=Lib.bytesWorld W 5 ⟨l.toArray⟩)
  (h:∀ v' w',RowG w' base v' (xs++l)→W.grownBy w' v.ownBlock→K (a.put o.dst v') w'):if Region.wanted o (yielded ops a.tmps)=true then Oper.wp Tryz.prog o a w K Q else E:=by
 obtain⟨v',w',hr,r1,r2⟩:=y49 (ty:=o.type) (c:=c) hown hbase hn hm hw
 have hwt:Region.wanted o (yielded ops a.tmps)=true:=by simp[Region.wanted,hgd]
 rw[if_pos hwt]
 unfold Oper.wp execOp
 simp only[ho,resolve,invoke,builtin,Sem.run_bind,Sem.run_pure,Result.andThen_ok,List.map_toArray,List.map_cons,List.map_nil,hs,hx,hr]
 exact h v' w' r1 r2

theorem y55 {w:World} {base:Nat} {v:Value} {l:Zbs} (hown:RowG w base v l):(convert 97 9 v).run Tryz.prog w=.ok (.string ⟨l.toArray⟩) w:=by
 obtain⟨g,cap,rfl⟩:=hown.form
 refine run_convert_bytes_back w 97 9 5 ⟨g,0,none⟩ cap l Tryz.underlying97 Tryz.underlying5 Tryz.underlying9 ?_
 intro j hj
 refine hown.cells j _ ?_
 simp[B8,hj]

end Go.Proofs.YtfeebdcmlnapiaaGreat
