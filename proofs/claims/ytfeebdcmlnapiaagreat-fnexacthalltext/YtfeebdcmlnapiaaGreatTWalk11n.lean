/-
  Walks.
-/
import Derived.Test.YtfeebdcmlnapiaaGreatTHeldB
open Go.Value renaming int->J
open Go.IntKind renaming i64->Y
set_option maxHeartbeats 4000000
set_option linter.unusedVariables false
set_option linter.unusedSimpArgs false
namespace Go.Proofs.YtfeebdcmlnapiaaGreat
open Go.RowKit P1 P17 K
theorem z6b:(Tryz.prog.info? 242).map (·.size)=some 4:=by kernel_rfl

structure HpAt (w:World) (B bh g cap:Nat) (l:List Wt):Prop where
 st:w.heap[bh]? = some (.cells #[.slice (some ⟨g,0,none⟩) l.length cap,.func (.func 249) #[] #[]] 250 (0,0))
 row:w.ownsRow B 242 4 (.slice (some ⟨g,0,none⟩) l.length cap) l.length (l.flatMap z0c)

theorem zfe {w:World} {B bh g cap:Nat} {l:List Wt} (h:HpAt w B bh g cap l):some g≠some bh:=fun e=>by
 have h1:=zSi e
 obtain⟨_,_,_,he,_,hg,_⟩:=(h.row.2.resolve_left (fun q=>by cases q.1))
 cases he
 rw[h1,h.st] at hg
 cases hg

theorem z6i (B bh g cap:Nat) (l:List Wt) (i j:Nat) (x y:Wt) (hx:l[i]? = some x) (hy:l[j]? = some y) (w:World) (hH:HpAt w B bh g cap l) :
  Calls Tryz.prog 250 #[.pointer (some ⟨bh,0,none⟩),J Y (i:Int),J Y (j:Int)] w fun r w'=>r=.returned (.tuple #[])∧HpAt w' B bh g cap (z1a l i j x y)∧w.grownBy w' (some g):=by
 have hi:i<l.length:=(zGi.1 hx).1
 have hj:j<l.length:=(zGi.1 hy).1
 have i0:(i:Int)<(l.length:Int):=by omega
 have j0:(j:Int)<(l.length:Int):=by omega
 have hone:∀ x,∀ u∈z0c x,u.oneCell'=true:=fun x u hu=>by
  simp only[z0c,List.mem_cons,List.not_mem_nil,or_false] at hu
  rcases hu with rfl|rfl|rfl|rfl<;>rfl
 have hidx1:∀ wx,(Instr.indexAt 247 (.slice (some ⟨g,0,none⟩) l.length cap) (J Y (i:Int))).run Tryz.prog wx=.ok (.pointer (some ⟨g,i * 4,none⟩)) wx:=fun wx=>by
  have:=run_indexAt_slice wx 247 242 4 Tryz.underlying247 z6b g 0 l.length cap i hi
  rwa [Nat.zero_add] at this
 have hidx2:∀ wx,(Instr.indexAt 247 (.slice (some ⟨g,0,none⟩) l.length cap) (J Y (j:Int))).run Tryz.prog wx=.ok (.pointer (some ⟨g,j * 4,none⟩)) wx:=fun wx=>by
  have:=run_indexAt_slice wx 247 242 4 Tryz.underlying247 z6b g 0 l.length cap j hj
  rwa [Nat.zero_add] at this
 have a0:=(z07 zq hH.row i hx hi 0 (u:=.bool x.r) rfl).1
 have a1:=(z07 zq hH.row i hx hi 1 (u:=J Y x.l) rfl).1
 have a2:=(z07 zq hH.row i hx hi 2 (u:=J Y x.d) rfl).1
 have a3:=(z07 zq hH.row i hx hi 3 (u:=J Y x.i) rfl).1
 have b0:=(z07 zq hH.row j hy hj 0 (u:=.bool y.r) rfl).1
 have b1:=(z07 zq hH.row j hy hj 1 (u:=J Y y.l) rfl).1
 have b2:=(z07 zq hH.row j hy hj 2 (u:=J Y y.d) rfl).1
 have b3:=(z07 zq hH.row j hy hj 3 (u:=J Y y.i) rfl).1
 rw[Nat.add_zero] at a0 b0
 have s0:=zb hH.st 0 rfl
 have s1:=zb hH.st 1 rfl
 have f0:w.frozen? ⟨g,i * 4,none⟩=false:=hH.row.frozenAt _
 have h0:w.frozen? ⟨g,j * 4,none⟩=false:=hH.row.frozenAt _
 have f1:w.frozen? ⟨g,i * 4+1,none⟩=false:=hH.row.frozenAt _
 have h1:w.frozen? ⟨g,j * 4+1,none⟩=false:=hH.row.frozenAt _
 have f2:w.frozen? ⟨g,i * 4+2,none⟩=false:=hH.row.frozenAt _
 have h2:w.frozen? ⟨g,j * 4+2,none⟩=false:=hH.row.frozenAt _
 have f3:w.frozen? ⟨g,i * 4+3,none⟩=false:=hH.row.frozenAt _
 have h3:w.frozen? ⟨g,j * 4+3,none⟩=false:=hH.row.frozenAt _
 have HH:=ZZ hH
 have HX:=ZZ hx
 have HY:=ZZ hy
 clear hH hx hy
 by_cases hij:i=j
 ·subst hij
  have hxy:x=y:=by
   have:=HX.o.symm.trans HY.o
   cases this
   rfl
  subst hxy
  go_enter Tryz.func250,Tryz.ntmps250
  go_wp2_with fail
  go_region
  go_wp2_with fail
  obtain⟨o1,k1⟩:=z4h (z0c x) w (i * 4) (l.flatMap z0c) HH.o.row
  rw[z5v zq l i x hi] at o1
  obtain⟨o2,k2⟩:=z4h (z0c x) (w.setCells g (i * 4) (z0c x)) (i * 4) ((l.set i x).flatMap z0c) o1
  rw[z5v zq (l.set i x) i x (by rw[List.length_set];exact hj)] at o2
  have hne:=zfe HH.o
  have k12:=z00 k1 k2
  obtain⟨W2,hW2⟩:∃ W2,((((((((w.setCell ⟨g,i * 4,none⟩ (.bool x.r)).setCell ⟨g,i * 4+1,none⟩ (J Y x.l)).setCell ⟨g,i * 4+2,none⟩ (J Y x.d)).setCell ⟨g,i * 4+3,none⟩ (J Y x.i)).setCell ⟨g,i * 4,none⟩ (.bool x.r)).setCell ⟨g,i * 4+1,none⟩ (J Y x.l)).setCell ⟨g,i * 4+2,none⟩ (J Y x.d)).setCell ⟨g,i * 4+3,none⟩ (J Y x.i))=W2:=⟨_,rfl⟩
  rw[show (w.setCells g (i * 4) (z0c x)).setCells g (i * 4) (z0c x)=W2 from hW2] at o2 k12
  rw[hW2]
  clear k1 k2 o1 hW2
  have hst:=(k12.block bh (ze HH.o.st) (fun e=>hne e.symm)).trans HH.o.st
  go_end0
  refine⟨rfl,⟨?_,?_⟩,?_⟩
  ·rw[z3s]
   exact hst
  ·rw[z3s]
   exact o2
  ·exact z00 k12 (z0y zBr.drew)
 ·have hji:¬ j=i:=fun q=>hij q.symm
  have n00:¬ (j * 4=i * 4):=by omega
  have n01:¬ (j * 4+1=i * 4):=by omega
  have n02:¬ (j * 4+2=i * 4):=by omega
  have n03:¬ (j * 4+3=i * 4):=by omega
  have n10:¬ (j * 4=i * 4+1):=by omega
  have n11:¬ (j * 4+1=i * 4+1):=by omega
  have n12:¬ (j * 4+2=i * 4+1):=by omega
  have n13:¬ (j * 4+3=i * 4+1):=by omega
  have n20:¬ (j * 4=i * 4+2):=by omega
  have n21:¬ (j * 4+1=i * 4+2):=by omega
  have n22:¬ (j * 4+2=i * 4+2):=by omega
  have n23:¬ (j * 4+3=i * 4+2):=by omega
  have n30:¬ (j * 4=i * 4+3):=by omega
  have n31:¬ (j * 4+1=i * 4+3):=by omega
  have n32:¬ (j * 4+2=i * 4+3):=by omega
  have n33:¬ (j * 4+3=i * 4+3):=by omega
  go_enter Tryz.func250,Tryz.ntmps250
  go_wp2_with fail
  go_region
  go_wp2_with fail
  obtain⟨o1,k1⟩:=z4h (z0c y) w (i * 4) (l.flatMap z0c) HH.o.row
  rw[z5v zq l i y hi] at o1
  obtain⟨o2,k2⟩:=z4h (z0c x) (w.setCells g (i * 4) (z0c y)) (j * 4) ((l.set i y).flatMap z0c) o1
  rw[z5v zq (l.set i y) j x (by rw[List.length_set];exact hj)] at o2
  have hne:=zfe HH.o
  have k12:=z00 k1 k2
  obtain⟨W2,hW2⟩:∃ W2,((((((((w.setCell ⟨g,i * 4,none⟩ (.bool y.r)).setCell ⟨g,i * 4+1,none⟩ (J Y y.l)).setCell ⟨g,i * 4+2,none⟩ (J Y y.d)).setCell ⟨g,i * 4+3,none⟩ (J Y y.i)).setCell ⟨g,j * 4,none⟩ (.bool x.r)).setCell ⟨g,j * 4+1,none⟩ (J Y x.l)).setCell ⟨g,j * 4+2,none⟩ (J Y x.d)).setCell ⟨g,j * 4+3,none⟩ (J Y x.i))=W2:=⟨_,rfl⟩
  rw[show (w.setCells g (i * 4) (z0c y)).setCells g (j * 4) (z0c x)=W2 from hW2] at o2 k12
  rw[hW2]
  clear k1 k2 o1 hW2
  have hst:=(k12.block bh (ze HH.o.st) (fun e=>hne e.symm)).trans HH.o.st
  go_end0
  refine⟨rfl,⟨?_,?_⟩,?_⟩
  ·rw[z3s]
   exact hst
  ·rw[z3s]
   exact o2
  ·exact z00 k12 (z0y zBr.drew)

theorem zht:(Tryz.prog.info? 242).map (fun i=>(i.zero,i.size,i.bytes))=some (some (.agg #[.bool false,J Y 0,J Y 0,J Y 0]),4,32):=by kernel_rfl

theorem z7u {w2:World} (m:InW (Bw w2)) {w3:World} (h:Below m.w.heap.size m.w w3):Bw w2 w3:=zTr m.h h

structure HpV (w:World) (B bh:Nat) (v:Value) (l:List Wt):Prop where
 st:w.heap[bh]? = some (.cells #[v,.func (.func 249) #[] #[]] 250 (0,0))
 row:w.ownsRow B 242 4 v l.length (l.flatMap z0c)

theorem HpV.at_ {w:World} {B bh g cap n:Nat} {l:List Wt} (h:HpV w B bh (.slice (some ⟨g,0,none⟩) n cap) l) (hn:l.length=n):HpAt w B bh g cap l:=by subst hn;exact⟨h.st,h.row⟩

theorem HpAt.v {w:World} {B bh g cap:Nat} {l:List Wt} (h:HpAt w B bh g cap l):HpV w B bh (.slice (some ⟨g,0,none⟩) l.length cap) l:=⟨h.st,h.row⟩

theorem zku {w:World} {B bh:Nat} {v:Value} {l:List Wt} (h:HpV w B bh v l):v.ownBlock≠some bh:=fun e=>by
 rcases h.row.2 with ⟨hv,_⟩|⟨g,cap,cur,hv,hb,hg,_⟩
 ·rw[hv] at e;cases e
 ·rw[hv] at e
  have h1:g=bh:=zSi e
  rw[h1,h.st] at hg
  cases hg

structure HpFr (w w':World) (bh:Nat) (r r':Option Nat):Prop where
 os:w'.os=w.os
 tape:w'.tape=w.tape
 output:w'.output=w.output
 size:w.heap.size≤w'.heap.size
 block:∀ k,k<w.heap.size→k≠bh→r≠some k→w'.heap[k]? = w.heap[k]?
 new:r'=r∨∃ g,r'=some g∧w.heap.size≤g

theorem HpFr.refl (w:World) (bh:Nat) (r:Option Nat):HpFr w w bh r r:=⟨rfl,rfl,rfl,Nat.le_refl _,fun _ _ _ _=>rfl,.inl rfl⟩

theorem HpFr.trans {w w1 w2:World} {bh:Nat} {r r1 r2:Option Nat} (h:HpFr w w1 bh r r1) (k:HpFr w1 w2 bh r1 r2):HpFr w w2 bh r r2:=by
 refine⟨k.os.trans h.os,k.tape.trans h.tape,k.output.trans h.output,zNt h.size k.size,fun i hi hb hr=>?_,?_⟩
 ·refine (k.block i (zLt hi h.size) hb (fun e=>?_)).trans (h.block i hi hb hr)
  rcases h.new with q|⟨g,q,hg⟩
  ·rw[q] at e;exact hr e
  ·rw[q] at e;have:=zSi e;omega
 ·rcases k.new with q|⟨g,q,hg⟩
  ·rcases h.new with p|⟨g,p,hg⟩
   ·exact .inl (q.trans p)
   ·exact .inr ⟨g,q.trans p,hg⟩
  ·exact .inr ⟨g,q,zNt h.size hg⟩

theorem HpFr.row {w w':World} {bh:Nat} {r:Option Nat} (h:w.grownBy w' r):HpFr w w' bh r r :=
 ⟨h.os,h.tape,h.output,h.size,fun i hi hb hr=>h.block i hi (fun e=>hr e.symm),.inl rfl⟩

theorem HpFr.var {w w':World} {bh:Nat} {r:Option Nat} (h:w.grownBy w' (some bh)):HpFr w w' bh r r :=
 ⟨h.os,h.tape,h.output,h.size,fun i hi hb hr=>h.block i hi (fun e=>hb (zSi e)),.inl rfl⟩

theorem HpFr.on {w w':World} {bh:Nat} {r:Option Nat} (h:Bw w w'):HpFr w w' bh r r :=
 ⟨h.os,h.tape,h.output,h.size,fun i hi hb hr=>h.block i hi,.inl rfl⟩

theorem HpFr.push {w w':World} {bh:Nat} {r r':Option Nat} (h:w.grownBy w' r) (hn:r'=r∨r'=some w.heap.size):HpFr w w' bh r r' :=
 ⟨h.os,h.tape,h.output,h.size,fun i hi hb hr=>h.block i hi (fun e=>hr e.symm),hn.imp id (fun e=>⟨_,e,Nat.le_refl _⟩)⟩

theorem ze1 {P:Program} {w:World} {ops:Array Oper} {o:Oper} {a:Act} {K:Act→World→Prop} {Q:Exit→Act→World→Prop} {E:Prop} (hgd:o.guard=none) (s x:Operand) (t:TypeId)
  (ho:o.op=.call { callee:=.builtin .append,args:=#[s,x],argTypes:=#[t,t] })
  {base k:Nat} (hk0:0<k) {e:TypeId} {z:Value} {bytes:Nat} (ht:P.underlying t=some (.slice e)) (hi:(P.info? e).map (fun i=>(i.zero,i.size,i.bytes))=some (some z,k,bytes)) (hzs:z.cells.size=k)
  {v:Value} {n:Nat} {xs:Zvs} (hs:a.eval s=v) (hown:w.ownsRow base e k v n xs)
  {b c:Nat} {cs:Array Value} (hx:a.eval x=.slice (some ⟨b,0,none⟩) 1 c) (hm:cs.toList.length=k) (hb:w.heap[b]? = some (.cells cs e (0,0))) (hu:∀ u∈cs.toList,u.oneCell'=true)
  (hbase:base≤w.heap.size) (h63:n+1≤maxLen) (hbytes:(n+1) * bytes≤140737488355328)
  (h:∀ v' w',w'.ownsRow base e k v' (n+1) (xs++cs.toList)→w.grownBy w' v.ownBlock→(v'.ownBlock=v.ownBlock∨v'.ownBlock=some w.heap.size)→K (a.put o.dst v') w') :
  if Region.wanted o (yielded ops a.tmps)=true then Oper.wp P o a w K Q else E:=by
 obtain⟨i,hi,hz,h1,h2⟩:=info_parts hi
 have hw:Region.wanted o (yielded ops a.tmps)=true:=by simp[Region.wanted,hgd]
 rw[if_pos hw]
 obtain⟨v',w',hr,k2,k3,k4,k5⟩:=run_append_own_at (P:=P) w base t o.type e i z k bytes ht hi hz h1 h2 hzs hk0 v n xs hown ⟨b,0,none⟩ 1 c cs.toList (by rw[hm];omega) (World.news_of_block hb) hu h63 hbytes hbase
 unfold Oper.wp execOp
 simp only[ho,resolve,invoke,builtin,Sem.run_bind,Sem.run_pure,Result.andThen_ok,List.map_toArray,List.map_cons,List.map_nil,hs,hx,hr]
 exact h v' w' k2 k3 k5

theorem zgp (B bh:Nat) (v:Value) (l:List Wt) (w:World) (hH:HpV w B bh v l) :
  Calls Tryz.prog 230 #[.pointer (some ⟨bh,0,none⟩)] w fun r w'=>r=.returned (.bool l.isEmpty)∧w'=w:=by
 obtain⟨o,c,rfl⟩:=zi hH.row
 have s0:=zb hH.st 0 rfl
 have hl:((l.length:Int)==0)=l.isEmpty:=by
  cases l with
  | nil=>rfl
  | cons y r=>simp;omega
 clear hH
 go_enter Tryz.func230,Tryz.ntmps230
 go_wp2_with fail
 go_ret
 exact⟨by rw[← hl];first|rfl|simp,rfl⟩

theorem zok {W0 w3:World} {bh:Nat} {r r':Option Nat} {X:Obj} (hg:(W0.alloc X).drew.grownBy w3 r) (hn:r'=r∨r'=some (W0.alloc X).drew.heap.size):HpFr W0 w3 bh r r' :=
 (HpFr.on (((Below.refl W0.heap.size W0).alloc zLe X).drew)).trans (HpFr.push hg hn)

theorem zml {W0 w3:World} {B bh:Nat} {v:Value} {l:List Wt} {X:Obj} (h:HpV W0 B bh v l) (hg:(W0.alloc X).drew.grownBy w3 v.ownBlock):w3.heap[bh]? = some (.cells #[v,.func (.func 249) #[] #[]] 250 (0,0)):=by
 have hlt:=ze h.st
 have hb:=((Below.refl W0.heap.size W0).alloc zLe X).drew
 refine (hg.block bh (zLt hlt hb.size) (fun e=>zku h e.symm)).trans ?_
 exact (hb.block bh hlt).trans h.st

theorem zff {w w':World} {B:Nat} {e e':TypeId} {k n:Nat} {v:Value} {xs:Zvs} {b:Nat} {cs:Array Value} {fz:Nat × Nat} (h:w.ownsRow B e k v n xs) (hg:w.grownBy w' (some b)) (hb:w.heap[b]? = some (.cells cs e' fz)) (hne:e≠e'):w'.ownsRow B e k v n xs:=by
 refine h.kept hg (.inr (fun q=>?_))
 rcases h.2 with ⟨hv,_⟩|⟨g,cap,cur,hv,_,hh,_⟩
 ·rw[hv] at q;cases q
 ·rw[hv] at q
  have h1:g=b:=zSi q
  rw[h1,hb] at hh
  cases hh
  exact hne rfl

theorem HpAt.on {w w':World} {B bh g cap:Nat} {l:List Wt} (h:HpAt w B bh g cap l) (hb:Bw w w'):HpAt w' B bh g cap l:=⟨(hb.block bh (ze h.st)).trans h.st,own_below h.row hb⟩

theorem zkv {w3:World} {B bh:Nat} {v:Value} {n cv:Nat} {ov:Zoa} {l:List Wt} {x:Wt} (hn:n=l.length) (hst:w3.heap[bh]? = some (.cells #[v,.func (.func 249) #[] #[]] 250 (0,0))) (ho:w3.ownsRow B 242 4 (.slice ov (n+1) cv) (n+1) (l.flatMap z0c++z0c x)) :
  ∃ g,ov=some ⟨g,0,none⟩∧HpAt (w3.setCell ⟨bh,0,none⟩ (.slice ov (n+1) cv)) B bh g cv (l++[x])∧w3.grownBy (w3.setCell ⟨bh,0,none⟩ (.slice ov (n+1) cv)) (some bh):=by
 subst hn
 obtain⟨hr,hg⟩:=zx [.slice ov (l.length+1) cv] w3 _ 0 hst
 have ho2:=zff ho hg hst (by decide)
 rcases ho.2 with ⟨_,q⟩|⟨g,cap,cur,q,_⟩
 ·omega
 ·injection q with q1 q2 q3
  subst q1
  refine⟨g,rfl,⟨?_,?_⟩,hg⟩
  ·rw[List.length_append]
   exact hr
  ·rw[List.length_append,List.flatMap_append,List.flatMap_cons,List.flatMap_nil,List.append_nil]
   exact ho2

theorem zbx (B bh:Nat) (v:Value) (l:List Wt) (x:Wt) (hl:l.length≤1000) (hok:HeapOk hvW l) (w:World) (hB:B≤w.heap.size) (hH:HpV w B bh v l) :
  Calls Tryz.prog 233 #[.pointer (some ⟨bh,0,none⟩),wtv x] w fun r w'=>∃ v' l',r=.returned (.tuple #[])∧HpV w' B bh v' l'∧HeapOk hvW l'∧l'.Perm (x::l)∧HpFr w w' bh v.ownBlock v'.ownBlock:=by
 obtain⟨W0,hW0,hb0,hX0⟩:=bxN w #[.bool x.r,J Y x.l,J Y x.d,J Y x.i] 242
 have hlt:=ze hH.st
 have hH0:HpV W0 B bh v l:=⟨(hb0.block bh hlt).trans hH.st,own_below hH.row hb0⟩
 obtain⟨o,c,rfl⟩:=zi hH.row
 have s0:=zb hH0.st 0 rfl
 have s1:=zb hH0.st 1 rfl
 have x0:=zb hX0 0 rfl
 have x1:=zb hX0 1 rfl
 have x2:=zb hX0 2 rfl
 have x3:=zb hX0 3 rfl
 have HH0:=ZZ hH0
 have HB0:=ZZ hb0
 have HW0:=ZZ hW0
 have Ab:=ZZ hok
 have hs0:=hb0.size
 have hlt0:=ze hH0.st
 clear hH hW0 hb0 hX0 hok hH0
 go_enter Tryz.func233,Tryz.ntmps233
 go_upto_region 1 with fail
 rw[HW0.o]
 clear HW0
 refine (fun (KEY:Hd ?G1)=>?main1) (ZZ ?key1)
 case main1 =>
  go_region_law (refine ze1 (by rfl) _ _ 247 (by rfl) (by decide) Tryz.underlying247 zht (by rfl) (cs:=#[.bool x.r,J Y x.l,J Y x.d,J Y x.i]) (by rfl) (by exact own_below HH0.o.row (zBa).drew) (by rfl) (by rfl) (by exact heap_alloc_new _ _) (by simp[Value.oneCell']) (by simp;omega) (by unfold maxLen;omega) (by omega) ?_;intro v' w3 ho3 hg3 hn3;obtain⟨ov,cv,rfl⟩:=zi ho3;have hst3:=zml HH0.o hg3;have y0:=zb hst3 0 rfl;have f0:=zh hst3 0;have hfr3:HpFr W0 w3 bh (Value.slice o l.length c).ownBlock (Value.slice ov (l.length+1) cv).ownBlock:=zok hg3 hn3)
  all_goals
   obtain⟨g,rfl,hA4,hg4⟩:=zkv (x:=x) rfl hst3 ho3
   have Ck:=ZZ ((HpFr.on (bh:=bh) HB0.o).trans (hfr3.trans (HpFr.var hg4)))
   generalize w3.setCell ⟨bh,0,none⟩ (.slice (some ⟨g,0,none⟩) (l.length+1) cv)=w4 at hA4 hg4 Ck ⊢
   have BL:=ZZ hA4
   clear hA4 hg4 hfr3 hst3 y0 f0 ho3 hg3 hn3
   revert BL
   revert Ck
   revert w4
   revert cv
   revert g
   exact KEY.o
 case key1 =>
  intro g cv w4 Ck BL
  have Gj:=ZZ (Up.start Ab.o x)
  have Kh:=ZZ (show (l++[x]).Perm (x::l) from List.perm_append_comm (l₁:=l) (l₂:=[x]))
  clear x0 x1 x2 x3 s0 s1 HH0 HB0 Ab
  have t0:=zb BL.o.st 0 rfl
  have hlen:(l++[x]).length=l.length+1:=by simp
  rw[hlen] at t0
  obtain⟨N,hN⟩:∃ N,l.length=N:=⟨_,rfl⟩
  rw[hN] at Gj Ck hlen hl t0 ⊢
  have hw1:IntKind.i64.wrap ((N:Int)+1 - 1)=(N:Int):=by rw[IntKind.wrap_i64];omega
  go_upto_region 3 with fail
  clear t0 hw1
  go_loopw [4] (fun i wr=>∃ (q:Nat) (m:List Wt),i=J Y (q:Int)∧m.length=N+1∧q≤N∧Up hvW m q∧m.Perm (x::l)∧HpAt wr B bh g cv m∧HpFr w wr bh (Value.slice o N c).ownBlock (some g)) (fun i _=>(intOf i).toNat)
  case atStart=>exact⟨N,l++[x],rfl,hlen,Nat.le_refl _,Gj.o,Kh.o,BL.o,Ck.o⟩
  case round =>
   obtain⟨q,m,rfl,hm,hq,hup,hpm,hA,hfr⟩:=hrel
   have JB:=ZZ hup
   have DL:=ZZ hpm
   have BP:=ZZ hA
   have EH:=ZZ hfr
   have CP:=ZZ hm
   clear hup hpm hfr Gj Kh BL Ck hlen hA hm
   by_cases h0:q=0
   ·subst h0
    go_wp2_with fail
    go_end0
    exact⟨_,m,rfl,BP.o.v,JB.o.top,DL.o,by rw[hN];exact EH.o⟩
   ·have q0:(0:Int)<(q:Int):=by omega
    obtain⟨pp,hpp⟩:∃ pp,(q - 1) / 2=pp:=⟨_,rfl⟩
    have hpq:pp<q:=by omega
    have hd1:IntKind.i64.wrap ((q:Int) - 1)=(q:Int) - 1:=by rw[IntKind.wrap_i64];omega
    have hd2:((q:Int) - 1) / 2=(pp:Int):=by omega
    have hd3:((q:Int) - 1).tdiv 2=(pp:Int):=by rw[Int.tdiv_eq_ediv_of_nonneg (by omega)];exact hd2
    obtain⟨a,ha⟩:∃ a,m[q]? = some a:=⟨_,List.getElem?_eq_getElem (by have:=CP.o;omega)⟩
    obtain⟨b',hb'⟩:∃ b',m[pp]? = some b':=⟨_,List.getElem?_eq_getElem (by have:=CP.o;omega)⟩
    have hqm:q<m.length:=by have:=CP.o;omega
    have hpm':pp<m.length:=by have:=CP.o;omega
    have EI:=ZZ hpp
    have DY:=ZZ ha
    have Br:=ZZ hb'
    have hidx1:∀ wx,(Instr.indexAt 247 (.slice (some ⟨g,0,none⟩) m.length cv) (J Y (q:Int))).run Tryz.prog wx=.ok (.pointer (some ⟨g,q * 4,none⟩)) wx:=fun wx=>by
     have:=run_indexAt_slice wx 247 242 4 Tryz.underlying247 z6b g 0 m.length cv q hqm
     rwa [Nat.zero_add] at this
    have hidx2:∀ wx,(Instr.indexAt 247 (.slice (some ⟨g,0,none⟩) m.length cv) (J Y (pp:Int))).run Tryz.prog wx=.ok (.pointer (some ⟨g,pp * 4,none⟩)) wx:=fun wx=>by
     have:=run_indexAt_slice wx 247 242 4 Tryz.underlying247 z6b g 0 m.length cv pp hpm'
     rwa [Nat.zero_add] at this
    have a0:=(z07 zq BP.o.row q ha hqm 0 (u:=.bool a.r) rfl).1
    have a1:=(z07 zq BP.o.row q ha hqm 1 (u:=J Y a.l) rfl).1
    have a2:=(z07 zq BP.o.row q ha hqm 2 (u:=J Y a.d) rfl).1
    have a3:=(z07 zq BP.o.row q ha hqm 3 (u:=J Y a.i) rfl).1
    have b0:=(z07 zq BP.o.row pp hb' hpm' 0 (u:=.bool b'.r) rfl).1
    have b1:=(z07 zq BP.o.row pp hb' hpm' 1 (u:=J Y b'.l) rfl).1
    have b2:=(z07 zq BP.o.row pp hb' hpm' 2 (u:=J Y b'.d) rfl).1
    have b3:=(z07 zq BP.o.row pp hb' hpm' 3 (u:=J Y b'.i) rfl).1
    rw[Nat.add_zero] at a0 b0
    have s0:=zb BP.o.st 0 rfl
    have s1:=zb BP.o.st 1 rfl
    have Cs:=ZZ (fun wx=>zan a b' wx)
    have hlth:=ze BP.o.st
    have hltg:g<wr.heap.size:=(BP.o.row.lt g rfl).2
    clear hpp ha hb'
    go_upto_region 5 with fail
    clear hd1 hd2 hd3
    cases hah:hvW a b'
    ·rw[hah] at Cs
     refine zn (F:=Bw wr) (by kernel_rfl) (by kernel_rfl) zBr.drew ?_
     have hne:Nonempty (InW (Bw wr)):=⟨⟨_,zBr⟩⟩
     have c0:=ciW a0
     have c1:=ciW a1
     have c2:=ciW a2
     have c3:=ciW a3
     have d0:=ciW b0
     have d1:=ciW b1
     have d2:=ciW b2
     have d3:=ciW b3
     have e0:=ciW s0
     have e1:=ciW s1
     repeat (go_big_quiet_step (first
      | (go_at_call 249;refine (Cs.o _).mono ?_;rintro e w3 ⟨rfl,hb3⟩;exact⟨rfl,⟨w3,z7u _ hb3⟩,rfl⟩)))
     refine wpQuiet_nil ?_
     intro _ hw'
     obtain⟨nq,hw''⟩:=hw'
     subst hw''
     have hb5:Bw wr nq.w:=nq.h
     clear hne c0 c1 c2 c3 d0 d1 d2 d3 e0 e1
     generalize nq.w=w5 at hb5 ⊢
     have EY:=ZZ (BP.o.on hb5)
     have Gl:=ZZ (EH.o.trans (HpFr.on (bh:=bh) hb5))
     clear a0 a1 a2 a3 b0 b1 b2 b3 s0 s1
     go_wp2_with fail
     try simp only[Exit.inBlock,Exit.then]
     refine bodyPost_ret (results_none rfl _ _ _) rfl ?_
     exact⟨_,m,rfl,EY.o.v,JB.o.rest DY.o (by rw[EI.o];exact Br.o) hah,DL.o,by rw[hN];exact Gl.o⟩
    ·rw[hah] at Cs
     refine zn (F:=Bw wr) (by kernel_rfl) (by kernel_rfl) zBr.drew ?_
     have hne:Nonempty (InW (Bw wr)):=⟨⟨_,zBr⟩⟩
     have c0:=ciW a0
     have c1:=ciW a1
     have c2:=ciW a2
     have c3:=ciW a3
     have d0:=ciW b0
     have d1:=ciW b1
     have d2:=ciW b2
     have d3:=ciW b3
     have e0:=ciW s0
     have e1:=ciW s1
     repeat (go_big_quiet_step (first
      | (go_at_call 249;refine (Cs.o _).mono ?_;rintro e w3 ⟨rfl,hb3⟩;exact⟨rfl,⟨w3,z7u _ hb3⟩,rfl⟩)))
     refine wpQuiet_nil ?_
     intro _ hw'
     obtain⟨nq,hw''⟩:=hw'
     subst hw''
     have hb5:Bw wr nq.w:=nq.h
     clear hne c0 c1 c2 c3 d0 d1 d2 d3 e0 e1
     generalize nq.w=w5 at hb5 ⊢
     have Dq:=ZZ (z6i B bh g cv m q pp a b' DY.o Br.o w5 (BP.o.on hb5))
     clear a0 a1 a2 a3 b0 b1 b2 b3 s0 s1
     go_wp2_with (go_at_call 250;(with_reducible refine Dq.o.mono ?_);rintro r w6 ⟨rfl,hA6,hg6⟩)
     go_roundw
     case rel=>exact⟨pp,z1a m q pp a b',rfl,by rw[z3s];exact CP.o,by omega,(by have:=JB.o.rise hvW_ord (by omega) DY.o (by rw[EI.o];exact Br.o) hah;rw[EI.o] at this;exact this),(swap_perm DY.o Br.o).trans DL.o,hA6,EH.o.trans ((HpFr.on (bh:=bh) hb5).trans (HpFr.row hg6))⟩
     case measure=>simp[intOf];omega

structure TopOf (m:List Wt) (q t bl:Nat) (x y:Wt):Prop where
 tq:t=q∨(0<t∧(t - 1) / 2=q)
 ty:m[t]? = some y
 xy:hvW x y=false
 ch:∀ (i:Nat) (u:Wt),0<i→(i - 1) / 2=q→i<bl→m[i]? = some u→hvW u y=false

theorem TopOf.start {m:List Wt} {q:Nat} {x:Wt} (hx:m[q]? = some x):TopOf m q q (2 * q+1) x x :=
 ⟨.inl rfl,hx,hvW_ord.self x,fun i u h0 hp hb=>by omega⟩

theorem TopOf.take {m:List Wt} {q t bl:Nat} {x y z:Wt} (h:TopOf m q t bl x y) (hb0:2 * q+1≤bl) (hb:bl≤2 * q+2) (hz:m[bl]? = some z) (ha:hvW z y=true):TopOf m q bl (bl+1) x z:=by
 have hyz:=hvW_ord.asym z y ha
 refine⟨.inr ⟨by omega,by omega⟩,hz,hvW_ord.nt x y z h.xy hyz,fun i u h0 hp hi hu=>?_⟩
 by_cases e:i=bl
 ·subst e
  rw[hz] at hu;cases hu
  exact hvW_ord.self _
 ·exact hvW_ord.nt u y z (h.ch i u h0 hp (by omega) hu) hyz

theorem TopOf.pass {m:List Wt} {q t bl:Nat} {x y z:Wt} (h:TopOf m q t bl x y) (hz:m[bl]? = some z) (ha:hvW z y=false):TopOf m q t (bl+1) x y:=by
 refine⟨h.tq,h.ty,h.xy,fun i u h0 hp hi hu=>?_⟩
 by_cases e:i=bl
 ·subst e
  rw[hz] at hu;cases hu
  exact ha
 ·exact h.ch i u h0 hp (by omega) hu

theorem TopOf.all {m:List Wt} {q t bl:Nat} {x y:Wt} (h:TopOf m q t bl x y) (hb:2 * q+2<bl∨m.length≤bl):∀ (i:Nat) (u:Wt),0<i→(i - 1) / 2=q→m[i]? = some u→hvW u y=false:=fun i u h0 hp hu=>by
 have:=(zGi.1 hu).1
 exact h.ch i u h0 hp (by omega) hu

theorem ziy (B bh g cap:Nat) (l:List Wt) (hl:l.length≤1000) (hpos:0<l.length) (hdn:Down hvW l 0) (w:World) (hH:HpAt w B bh g cap l) :
  Calls Tryz.prog 251 #[.pointer (some ⟨bh,0,none⟩)] w fun r w'=>∃ l',r=.returned (.tuple #[])∧HpAt w' B bh g cap l'∧HeapOk hvW l'∧l'.Perm l∧HpFr w w' bh (some g) (some g):=by
 have HH:=ZZ hH
 have Ki:=ZZ hdn
 clear hH hdn
 obtain⟨N,hN⟩:∃ N,l.length=N:=⟨_,rfl⟩
 have HN:=ZZ hN
 rw[hN] at hl hpos
 clear hN
 go_enter Tryz.func251,Tryz.ntmps251
 go_wp2_with fail
 go_loopw [2] (fun i wr=>∃ (q:Nat) (m:List Wt),i=J Y (q:Int)∧m.length=N∧q<N∧Down hvW m q∧m.Perm l∧HpAt wr B bh g cap m∧HpFr w wr bh (some g) (some g)) (fun i _=>N - (intOf i).toNat)
 case atStart=>exact⟨0,l,rfl,HN.o,hpos,Ki.o,List.Perm.refl _,HH.o,HpFr.refl _ _ _⟩
 case round =>
  obtain⟨q,m,rfl,hm,hq,hdw,hpm,hA,hfr⟩:=hrel
  have GR:=ZZ hdw
  have DL:=ZZ hpm
  have BP:=ZZ hA
  have EH:=ZZ hfr
  have CP:=ZZ hm
  clear hdw hpm hfr hA hm HH Ki HN
  obtain⟨x,hx⟩:∃ x,m[q]? = some x:=⟨_,List.getElem?_eq_getElem (by have:=CP.o;omega)⟩
  have HX:=ZZ hx
  have HT0:=ZZ (TopOf.start hx)
  clear hx
  have hw1:IntKind.i64.wrap (2 * (q:Int))=2 * (q:Int):=by rw[IntKind.wrap_i64];omega
  have hw2:IntKind.i64.wrap (2 * (q:Int)+1)=2 * (q:Int)+1:=by rw[IntKind.wrap_i64];omega
  generalize wr=w1 at BP EH ⊢
  go_wp2_with fail
  go_loopw [3,4] (fun it ib wr=>∃ (t bl:Nat) (y:Wt),it=J Y (t:Int)∧ib=J Y (bl:Int)∧2 * q+1≤bl∧bl≤2 * q+3∧TopOf m q t bl x y∧Bw w1 wr) (fun _ ib _=>2 * q+3 - (intOf ib).toNat)
  case atStart=>exact⟨q,2 * q+1,x,rfl,by simp,Nat.le_refl _,by omega,HT0.o,zBr⟩
  case round =>
   obtain⟨t,bl,y,rfl,rfl,hb1,hb3,htop,hbw⟩:=hrel
   have Ba:=ZZ htop
   have BB:=ZZ (BP.o.on hbw)
   have Bc:=ZZ (EH.o.trans (HpFr.on (bh:=bh) hbw))
   have CQ:=ZZ hbw
   have s0:=zb BB.o.st 0 rfl
   have s1:=zb BB.o.st 1 rfl
   have hlth:=ze BB.o.st
   have hltg:g<wr.heap.size:=(BB.o.row.lt g rfl).2
   clear htop hbw HT0
   have hw3:IntKind.i64.wrap (2 * (q:Int)+2)=2 * (q:Int)+2:=by rw[IntKind.wrap_i64];omega
   by_cases hbq:bl≤2 * q+2
   ·have gb1:(bl:Int)≤2 * (q:Int)+2:=by omega
    by_cases hbm:bl<m.length
    ·have gb2:(bl:Int)<(m.length:Int):=by omega
     obtain⟨z,hz⟩:∃ z,m[bl]? = some z:=⟨_,List.getElem?_eq_getElem hbm⟩
     have htm:t<m.length:=(zGi.1 Ba.o.ty).1
     have HZ:=ZZ hz
     have hty:=Ba.o.ty
     have hidx1:∀ wx,(Instr.indexAt 247 (.slice (some ⟨g,0,none⟩) m.length cap) (J Y (bl:Int))).run Tryz.prog wx=.ok (.pointer (some ⟨g,bl * 4,none⟩)) wx:=fun wx=>by
      have:=run_indexAt_slice wx 247 242 4 Tryz.underlying247 z6b g 0 m.length cap bl hbm
      rwa [Nat.zero_add] at this
     have hidx2:∀ wx,(Instr.indexAt 247 (.slice (some ⟨g,0,none⟩) m.length cap) (J Y (t:Int))).run Tryz.prog wx=.ok (.pointer (some ⟨g,t * 4,none⟩)) wx:=fun wx=>by
      have:=run_indexAt_slice wx 247 242 4 Tryz.underlying247 z6b g 0 m.length cap t htm
      rwa [Nat.zero_add] at this
     have a0:=(z07 zq BB.o.row bl hz hbm 0 (u:=.bool z.r) rfl).1
     have a1:=(z07 zq BB.o.row bl hz hbm 1 (u:=J Y z.l) rfl).1
     have a2:=(z07 zq BB.o.row bl hz hbm 2 (u:=J Y z.d) rfl).1
     have a3:=(z07 zq BB.o.row bl hz hbm 3 (u:=J Y z.i) rfl).1
     have b0:=(z07 zq BB.o.row t hty htm 0 (u:=.bool y.r) rfl).1
     have b1:=(z07 zq BB.o.row t hty htm 1 (u:=J Y y.l) rfl).1
     have b2:=(z07 zq BB.o.row t hty htm 2 (u:=J Y y.d) rfl).1
     have b3:=(z07 zq BB.o.row t hty htm 3 (u:=J Y y.i) rfl).1
     rw[Nat.add_zero] at a0 b0
     have Cs:=ZZ (fun wx=>zan z y wx)
     clear hz hty
     go_upto_region 5 with fail
     have hw4:IntKind.i64.wrap ((bl:Int)+1)=(bl:Int)+1:=by rw[IntKind.wrap_i64];omega
     cases hah:hvW z y
     ·rw[hah] at Cs
      refine zn (F:=Bw wr) (by kernel_rfl) (by kernel_rfl) zBr.drew ?_
      have hne:Nonempty (InW (Bw wr)):=⟨⟨_,zBr⟩⟩
      have c0:=ciW a0
      have d0:=ciW b0
      have c1:=ciW a1
      have d1:=ciW b1
      have c2:=ciW a2
      have d2:=ciW b2
      have c3:=ciW a3
      have d3:=ciW b3
      have e0:=ciW s0
      have e1:=ciW s1
      repeat (go_big_quiet_step (first
       | (go_at_call 249;refine (Cs.o _).mono ?_;rintro e w3 ⟨rfl,hb3⟩;exact⟨rfl,⟨w3,z7u _ hb3⟩,rfl⟩)))
      refine wpQuiet_nil ?_
      intro _ hw'
      obtain⟨nq,hw''⟩:=hw'
      subst hw''
      have hb5:Bw wr nq.w:=nq.h
      clear hne c0 c1 c2 c3 d0 d1 d2 d3 e0 e1 a0 a1 a2 a3 b0 b1 b2 b3 s0 s1
      generalize nq.w=w5 at hb5 ⊢
      go_wp2_with fail
      go_roundw
      case rel=>exact⟨t,bl+1,y,rfl,by go_num,by omega,by omega,Ba.o.pass HZ.o hah,zTr CQ.o hb5⟩
      case measure=>simp[intOf];omega
     ·rw[hah] at Cs
      refine zn (F:=Bw wr) (by kernel_rfl) (by kernel_rfl) zBr.drew ?_
      have hne:Nonempty (InW (Bw wr)):=⟨⟨_,zBr⟩⟩
      have c0:=ciW a0
      have d0:=ciW b0
      have c1:=ciW a1
      have d1:=ciW b1
      have c2:=ciW a2
      have d2:=ciW b2
      have c3:=ciW a3
      have d3:=ciW b3
      have e0:=ciW s0
      have e1:=ciW s1
      repeat (go_big_quiet_step (first
       | (go_at_call 249;refine (Cs.o _).mono ?_;rintro e w3 ⟨rfl,hb3⟩;exact⟨rfl,⟨w3,z7u _ hb3⟩,rfl⟩)))
      refine wpQuiet_nil ?_
      intro _ hw'
      obtain⟨nq,hw''⟩:=hw'
      subst hw''
      have hb5:Bw wr nq.w:=nq.h
      clear hne c0 c1 c2 c3 d0 d1 d2 d3 e0 e1 a0 a1 a2 a3 b0 b1 b2 b3 s0 s1
      generalize nq.w=w5 at hb5 ⊢
      go_wp2_with fail
      go_roundw
      case rel=>exact⟨bl,bl+1,z,rfl,by go_num,by omega,by omega,Ba.o.take hb1 hbq HZ.o hah,zTr CQ.o hb5⟩
      case measure=>simp[intOf];omega
    ·have gb2:¬ (bl:Int)<(m.length:Int):=by omega
     have Ar:=ZZ (Ba.o.all (.inr (by omega)))
     rcases Ba.o.tq with htq|⟨ht0,htp⟩
     ·have gt:((t:Int)==(q:Int))=true:=by rw[htq];simp
      have hyx:y=x:=by have:=Ba.o.ty;rw[htq,HX.o] at this;exact (zSi this).symm
      go_wp2_with fail
      try simp only[Exit.inBlock,Exit.then]
      refine bodyPost_ret (results_none rfl _ _ _) rfl ?_
      exact⟨rfl,m,BB.o,GR.o.rest HX.o (fun u hu=>by rw[← hyx];exact Ar.o (2 * q+1) u (by omega) (by omega) hu) (fun u hu=>by rw[← hyx];exact Ar.o (2 * q+2) u (by omega) (by omega) hu),DL.o,Bc.o⟩
     ·have gt:((t:Int)==(q:Int))=false:=by rw[beq_eq_false_iff_ne];omega
      have Dq:=ZZ (z6i B bh g cap m q t x y HX.o Ba.o.ty wr BB.o)
      have htN:t<N:=by have:=(zGi.1 Ba.o.ty).1;have:=CP.o;omega
      go_wp2_with (go_at_call 250;(with_reducible refine Dq.o.mono ?_);rintro r w6 ⟨rfl,hA6,hg6⟩)
      go_roundw
      case rel=>exact⟨t,z1a m q t x y,rfl,by rw[z3s];exact CP.o,htN,GR.o.sink hvW_ord ht0 htp HX.o Ba.o.ty Ba.o.xy Ar.o,(swap_perm HX.o Ba.o.ty).trans DL.o,hA6,Bc.o.trans (HpFr.row hg6)⟩
      case measure=>simp[intOf];omega
   ·have gb1:¬ (bl:Int)≤2 * (q:Int)+2:=by omega
    have Ar:=ZZ (Ba.o.all (.inl (by omega)))
    rcases Ba.o.tq with htq|⟨ht0,htp⟩
    ·have gt:((t:Int)==(q:Int))=true:=by rw[htq];simp
     have hyx:y=x:=by have:=Ba.o.ty;rw[htq,HX.o] at this;exact (zSi this).symm
     go_wp2_with fail
     try simp only[Exit.inBlock,Exit.then]
     refine bodyPost_ret (results_none rfl _ _ _) rfl ?_
     exact⟨rfl,m,BB.o,GR.o.rest HX.o (fun u hu=>by rw[← hyx];exact Ar.o (2 * q+1) u (by omega) (by omega) hu) (fun u hu=>by rw[← hyx];exact Ar.o (2 * q+2) u (by omega) (by omega) hu),DL.o,Bc.o⟩
    ·have gt:((t:Int)==(q:Int))=false:=by rw[beq_eq_false_iff_ne];omega
     have Dq:=ZZ (z6i B bh g cap m q t x y HX.o Ba.o.ty wr BB.o)
     have htN:t<N:=by have:=(zGi.1 Ba.o.ty).1;have:=CP.o;omega
     go_wp2_with (go_at_call 250;(with_reducible refine Dq.o.mono ?_);rintro r w6 ⟨rfl,hA6,hg6⟩)
     go_roundw
     case rel=>exact⟨t,z1a m q t x y,rfl,by rw[z3s];exact CP.o,htN,GR.o.sink hvW_ord ht0 htp HX.o Ba.o.ty Ba.o.xy Ar.o,(swap_perm HX.o Ba.o.ty).trans DL.o,hA6,Bc.o.trans (HpFr.row hg6)⟩
     case measure=>simp[intOf];omega

theorem ziz (B bh g cap:Nat) (w:World) (hH:HpAt w B bh g cap []) :
  Calls Tryz.prog 251 #[.pointer (some ⟨bh,0,none⟩)] w fun r w'=>r=.returned (.tuple #[])∧w'=w:=by
 have s0:w.cell? ⟨bh,0,none⟩=some (.slice (some ⟨g,0,none⟩) 0 cap):=zb hH.st 0 rfl
 clear hH
 go_enter Tryz.func251,Tryz.ntmps251
 go_wp2_with fail
 go_loopw [2] (fun i wr=>i=J Y 0∧wr=w) (fun _ _=>0)
 case atStart=>exact⟨rfl,rfl⟩
 case round =>
  obtain⟨rfl,rfl⟩:=hrel
  go_wp2_with fail
  go_loopw [3,4] (fun it ib wx=>it=J Y 0∧ib=J Y 1∧wx=wr) (fun _ _ _=>0)
  case atStart=>exact⟨rfl,rfl,rfl⟩
  case round =>
   obtain⟨rfl,rfl,hw⟩:=hrel
   subst hw
   go_wp2_with fail
   try simp only[Exit.inBlock,Exit.then]
   refine bodyPost_ret (results_none rfl _ _ _) rfl ?_
   exact⟨rfl,rfl⟩

theorem zkw (l:List Wt):∀ (n:Nat),(l.take n).flatMap z0c=(l.flatMap z0c).take (n * 4):=by
 induction l with
 | nil=>intro n;simp
 | cons x r ih =>
  intro n
  cases n with
  | zero=>simp
  | succ n =>
   rw[List.take_succ_cons,List.flatMap_cons,List.flatMap_cons,ih n,show (n+1) * 4=(z0c x).length+n * 4 from by rw[zq];omega,List.take_length_add_append]

theorem zhu {w:World} {B:Nat} {e:TypeId} {k g n n1 cap:Nat} {xs:Zvs} (h:w.ownsRow B e k (.slice (some ⟨g,0,none⟩) n1 cap) n1 xs) (hn:n≤n1):w.ownsRow B e k (.slice (some ⟨g,0,none⟩) n cap) n (xs.take (n * k)):=by
 have hm:n * k≤n1 * k:=Nat.mul_le_mul_right k hn
 refine⟨by rw[List.length_take,h.1];omega,.inr ?_⟩
 rcases h.2 with ⟨q,_⟩|⟨g',cap',cur,q,h1,h2,h3,h4,h5,h6⟩
 ·cases q
 ·cases q
  refine⟨g,cap,cur,rfl,h1,h2,by omega,h4,h5,?_⟩
  rw[← h6,List.take_take]
  congr 1
  omega

theorem zo8 {w3:World} {B bh g cap n:Nat} {m:List Wt} (h:HpAt w3 B bh g cap m) (hn:n≤m.length):HpAt (w3.setCell ⟨bh,0,none⟩ (.slice (some ⟨g,0,none⟩) n cap)) B bh g cap (m.take n)∧w3.grownBy (w3.setCell ⟨bh,0,none⟩ (.slice (some ⟨g,0,none⟩) n cap)) (some bh):=by
 obtain⟨hr,hg⟩:=zx [.slice (some ⟨g,0,none⟩) n cap] w3 _ 0 h.st
 have hl:(m.take n).length=n:=by rw[List.length_take];omega
 refine⟨⟨?_,?_⟩,hg⟩
 ·rw[hl]
  exact hr
 ·rw[hl,zkw]
  exact zhu (zff h.row hg h.st (by decide)) hn

theorem zdi {w w5 W6:World} {B bh g cap:Nat} {l l':List Wt} {t:Wt} (hA:HpAt w5 B bh g cap l') (hO:HeapOk hvW l') (hP:(t::l').Perm l) (hM:∀ y∈l',hvW y t=false) (hF:HpFr w w5 bh (some g) (some g)) (hg:w5.grownBy W6 (some w.heap.size)) (hb:bh<w.heap.size) (hgr:g<w.heap.size) :
  ∃ u l',Ending.returned (wtv t)=.returned (wtv u)∧HpAt W6 B bh g cap l'∧HeapOk hvW l'∧(u::l').Perm l∧(∀ y∈l',hvW y u=false)∧HpFr w W6 bh (some g) (some g):=by
 refine⟨t,l',rfl,⟨(hg.block bh (ze hA.st) (fun e=>by have:=zSi e;omega)).trans hA.st,hA.row.kept hg (.inr (fun e=>by have h1:g=w.heap.size:=zSi e;omega))⟩,hO,hP,hM,?_⟩
 refine⟨hg.os.trans hF.os,hg.tape.trans hF.tape,hg.output.trans hF.output,zNt hF.size hg.size,fun k hk h1 h2=>?_,.inl rfl⟩
 exact (hg.block k (zLt hk hF.size) (fun e=>by have:=zSi e;omega)).trans (hF.block k hk h1 h2)

theorem zkx (B bh g cap n:Nat) (l:List Wt) (hl:l.length≤1000) (hn:l.length=n+1) (hok:HeapOk hvW l) (w:World) (hB:B≤w.heap.size) (hH:HpAt w B bh g cap l) :
  Calls Tryz.prog 231 #[.pointer (some ⟨bh,0,none⟩)] w fun r w'=>∃ t l',r=.returned (wtv t)∧HpAt w' B bh g cap l'∧HeapOk hvW l'∧(t::l').Perm l∧(∀ y∈l',hvW y t=false)∧HpFr w w' bh (some g) (some g):=by
 obtain⟨t,ht⟩:∃ t,l[0]? = some t:=⟨_,List.getElem?_eq_getElem (by omega)⟩
 obtain⟨z,hz⟩:∃ z,l[n]? = some z:=⟨_,List.getElem?_eq_getElem (by omega)⟩
 have Kj:=ZZ (Down.start hok hn ht hz)
 have EI:=ZZ (zmk hn ht hz)
 have L6:=ZZ (hok.most hvW_ord ht)
 obtain⟨W0,hW0,hb0,hR0⟩:=bxN w #[.bool false,J Y 0,J Y 0,J Y 0] 242
 have hlth:=ze hH.st
 have hltg:g<w.heap.size:=(hH.row.lt g rfl).2
 have hA0:=hH.on hb0
 have s0:W0.cell? ⟨bh,0,none⟩=some (.slice (some ⟨g,0,none⟩) (n+1) cap):=by
  have:=zb hA0.st 0 rfl
  rw[hn] at this
  exact this
 have Dq:=ZZ (show Calls Tryz.prog 250 #[.pointer (some ⟨bh,0,none⟩),J Y 0,J Y (n:Int)] W0 _ from z6i B bh g cap l 0 n t z ht hz W0 hA0)
 have hsj:=zbw (i:=0) (x:=t) hz
 obtain⟨m1,hm1⟩:∃ m1,z1a l 0 n t z=m1:=⟨_,rfl⟩
 have hml:m1.length=n+1:=by rw[← hm1,z3s,hn]
 rw[hm1] at Kj EI Dq hsj
 have HB0:=ZZ hb0
 have Ad:=ZZ hR0
 have HW0:=ZZ hW0
 clear hb0 hR0 hW0 hH hA0 hm1 ht hz hok
 have hw1:IntKind.i64.wrap ((n:Int)+1 - 1)=(n:Int):=by rw[IntKind.wrap_i64];omega
 have hle:l.length≤1000:=hl
 rw[hn] at hl
 go_enter Tryz.func231,Tryz.ntmps231
 go_upto_region 1 with fail
 rw[HW0.o]
 clear HW0
 go_upto_region 3 with (go_at_call 250;(with_reducible refine Dq.o.mono ?_);rintro r w2 ⟨rfl,hA2,hg2⟩)
 have hs0:=HB0.o.size
 have HR2:=ZZ ((hg2.block w.heap.size (ze Ad.o) (fun e=>by have:=zSi e;omega)).trans Ad.o)
 have Aj:=ZZ ((HpFr.on (bh:=bh) (r:=some g) HB0.o).trans (HpFr.row hg2))
 have HA2:=ZZ hA2
 have hnm:n<m1.length:=by omega
 have hidx:∀ wx,(Instr.indexAt 247 (.slice (some ⟨g,0,none⟩) (n+1) cap) (J Y (n:Int))).run Tryz.prog wx=.ok (.pointer (some ⟨g,n * 4,none⟩)) wx:=fun wx=>by
  have:=run_indexAt_slice wx 247 242 4 Tryz.underlying247 z6b g 0 (n+1) cap n (by omega)
  rwa [Nat.zero_add] at this
 have a0:=(z07 zq hA2.row n hsj hnm 0 (u:=.bool t.r) rfl).1
 have a1:=(z07 zq hA2.row n hsj hnm 1 (u:=J Y t.l) rfl).1
 have a2:=(z07 zq hA2.row n hsj hnm 2 (u:=J Y t.d) rfl).1
 have a3:=(z07 zq hA2.row n hsj hnm 3 (u:=J Y t.i) rfl).1
 rw[Nat.add_zero] at a0
 have s2:w2.cell? ⟨bh,0,none⟩=some (.slice (some ⟨g,0,none⟩) (n+1) cap):=by
  have:=zb hA2.st 0 rfl
  rw[hml] at this
  exact this
 clear hA2 hg2 s0 Ad HB0 Dq hw1
 go_upto_region 4 with fail
 obtain⟨W3,hW3,hb3,hF3⟩:=bxN w2 #[.bool t.r,J Y t.l,J Y t.d,J Y t.i] 242
 rw[hW3]
 have hA3:=HA2.o.on hb3
 have HR3:=ZZ ((hb3.block w.heap.size (ze HR2.o)).trans HR2.o)
 have Kk:=ZZ (Aj.o.trans (HpFr.on (bh:=bh) hb3))
 have hs23:=Aj.o.size
 have hlt2:=ze HR2.o
 obtain⟨hA4,hg4⟩:=zo8 (n:=n) hA3 (by omega)
 have s3:W3.cell? ⟨bh,0,none⟩=some (.slice (some ⟨g,0,none⟩) (n+1) cap):=by
  have:=zb hA3.st 0 rfl
  rw[hml] at this
  exact this
 have f3:W3.frozen? ⟨bh,0,none⟩=false:=zh hA3.st 0
 have hcap:n+1≤cap:=by
  rcases hA3.row.2 with ⟨q,_⟩|⟨_,_,_,q,_,_,h3,_⟩
  ·cases q
  ·cases q;omega
 have hc1:(n:Int)≤(cap:Int):=by omega
 have BL:=ZZ hA4
 have HR4:=ZZ ((hg4.block w.heap.size (ze HR3.o) (fun e=>by have:=zSi e;omega)).trans HR3.o)
 have GU:=ZZ ((hg4.block w2.heap.size (ze hF3) (fun e=>by have:=zSi e;omega)).trans hF3)
 have Kl:=ZZ (Kk.o.trans (HpFr.var hg4))
 obtain⟨W4,hW4⟩:∃ W4,W3.setCell ⟨bh,0,none⟩ (.slice (some ⟨g,0,none⟩) n cap)=W4:=⟨_,rfl⟩
 rw[hW4] at BL HR4 GU Kl
 have Cw:=ZZ hW4
 have hgV:g≠w2.heap.size:=by omega
 have hbV:bh≠w2.heap.size:=by omega
 obtain⟨V,hV⟩:∃ V,w2.heap.size=V:=⟨_,rfl⟩
 rw[hV] at GU hgV hbV hlt2 ⊢
 have hVw:w.heap.size<V:=by omega
 clear hA4 hg4 hA3 hF3 hb3 hW3 hW4 HR3 Kk HA2 HR2 Aj a0 a1 a2 a3 s2 hidx hs23 hV
 go_upto_region 5 with fail
 rw[Cw.o]
 clear Cw s3 f3
 have fin:∀ (w5:World) (l':List Wt),HpAt w5 B bh g cap l'→HeapOk hvW l'→l'.Perm (m1.take n)→HpFr W4 w5 bh (some g) (some g)→(w5.heap[w.heap.size]? = some (.cells #[.bool false,J Y 0,J Y 0,J Y 0] 242 (0,0))∧w5.heap[V]? = some (.cells #[.bool t.r,J Y t.l,J Y t.d,J Y t.i] 242 (0,0))∧HpFr w w5 bh (some g) (some g)):=fun w5 l' hA hO hP hF =>
  ⟨(hF.block w.heap.size (ze HR4.o) (by omega) (fun e=>by have:=zSi e;omega)).trans HR4.o,(hF.block V (ze GU.o) (by omega) (fun e=>by have:=zSi e;omega)).trans GU.o,Kl.o.trans hF⟩
 have FIN:=ZZ fin
 clear fin
 have key:∀ (l':List Wt),l'.Perm (m1.take n)→(t::l').Perm l∧∀ y∈l',hvW y t=false:=fun l' hP=>by
  have h1:(t::l').Perm l:=(List.Perm.cons t hP).trans EI.o
  refine⟨h1,fun y hy=>?_⟩
  have h2:y∈l:=h1.mem_iff.1 (List.mem_cons_of_mem _ hy)
  obtain⟨i,hi⟩:=List.mem_iff_getElem?.1 h2
  exact L6.o i y hi
 have KEY:=ZZ key
 clear key
 cases n with
 | zero =>
  have hnil:m1.take 0=[]:=List.take_zero
  rw[hnil] at BL
  have Gm:=ZZ (ziz B bh g cap W4 BL.o)
  obtain⟨hR5,hV5,hF5⟩:=FIN.o W4 [] BL.o (fun i x y h0 hx=>by simp at hx) (by rw[hnil]) (HpFr.refl _ _ _)
  obtain⟨hk1,hk2⟩:=KEY.o [] (by rw[hnil])
  have v0:=zb hV5 0 rfl
  have v1:=zb hV5 1 rfl
  have v2:=zb hV5 2 rfl
  have v3:=zb hV5 3 rfl
  have z0:=zb hR5 0 rfl
  have z1:=zb hR5 1 rfl
  have z2:=zb hR5 2 rfl
  have z3:=zb hR5 3 rfl
  have y0:=zh hR5 0
  have y1:=zh hR5 1
  have y2:=zh hR5 2
  have y3:=zh hR5 3
  obtain⟨hr6,hg6⟩:=zx [.bool t.r,J Y t.l,J Y t.d,J Y t.i] W4 _ 0 hR5
  have CE:=ZZ hr6
  have Gn:=ZZ hg6
  have Gl:=ZZ hF5
  have BV:=ZZ hk1
  clear hR5 hV5 hF5 hr6 hg6 hk1 hk2 FIN KEY
  go_wp2_with (go_at_call 251;(with_reducible refine Gm.o.mono ?_);rintro r w5 ⟨rfl,rfl⟩)
  obtain⟨W6,hW6⟩:∃ W6,(((w5.setCell ⟨w.heap.size,0,none⟩ (.bool t.r)).setCell ⟨w.heap.size,1,none⟩ (J Y t.l)).setCell ⟨w.heap.size,2,none⟩ (J Y t.d)).setCell ⟨w.heap.size,3,none⟩ (J Y t.i)=W6:=⟨_,rfl⟩
  have hr:=CE.o
  have hg:=Gn.o
  rw[show w5.setCells w.heap.size 0 [.bool t.r,J Y t.l,J Y t.d,J Y t.i]=W6 from hW6] at hr hg
  rw[hW6]
  have q0:W6.cell? ⟨w.heap.size,0,none⟩=some (.bool t.r):=zb hr 0 rfl
  have q1:W6.cell? ⟨w.heap.size,1,none⟩=some (J Y t.l):=zb hr 1 rfl
  have q2:W6.cell? ⟨w.heap.size,2,none⟩=some (J Y t.d):=zb hr 2 rfl
  have q3:W6.cell? ⟨w.heap.size,3,none⟩=some (J Y t.i):=zb hr 3 rfl
  refine bodyPost_ret (v:=wtv t) (by simp[results,Tryz.results231,go_sem,q0,q1,q2,q3]) rfl ?_
  exact zdi BL.o (fun i x y h0 hx=>by simp at hx) BV.o (fun y hy=>by cases hy) Gl.o hg (by omega) (by omega)
 | succ k =>
  have hpos:0<(m1.take (k+1)).length:=by rw[List.length_take];omega
  have hle1:(m1.take (k+1)).length≤1000:=by rw[List.length_take];omega
  have Gm:=ZZ (ziy B bh g cap (m1.take (k+1)) hle1 hpos Kj.o W4 BL.o)
  go_upto_region 6 with (go_at_call 251;(with_reducible refine Gm.o.mono ?_);rintro r w5 ⟨l',rfl,hA5,hO5,hP5,hF5'⟩)
  obtain⟨hR5,hV5,hF5⟩:=FIN.o w5 l' hA5 hO5 hP5 hF5'
  obtain⟨hk1,hk2⟩:=KEY.o l' hP5
  have v0:=zb hV5 0 rfl
  have v1:=zb hV5 1 rfl
  have v2:=zb hV5 2 rfl
  have v3:=zb hV5 3 rfl
  have z0:=zb hR5 0 rfl
  have z1:=zb hR5 1 rfl
  have z2:=zb hR5 2 rfl
  have z3:=zb hR5 3 rfl
  have y0:=zh hR5 0
  have y1:=zh hR5 1
  have y2:=zh hR5 2
  have y3:=zh hR5 3
  obtain⟨hr6,hg6⟩:=zx [.bool t.r,J Y t.l,J Y t.d,J Y t.i] w5 _ 0 hR5
  have CE:=ZZ hr6
  have Gn:=ZZ hg6
  have Gl:=ZZ hF5
  have BV:=ZZ hk1
  have Dy:=ZZ hk2
  have EY:=ZZ hA5
  have Ez:=ZZ hO5
  clear hR5 hV5 hF5 hr6 hg6 hk1 hk2 FIN KEY hA5 hO5 hP5 hF5'
  go_wp2_with fail
  obtain⟨W6,hW6⟩:∃ W6,(((w5.setCell ⟨w.heap.size,0,none⟩ (.bool t.r)).setCell ⟨w.heap.size,1,none⟩ (J Y t.l)).setCell ⟨w.heap.size,2,none⟩ (J Y t.d)).setCell ⟨w.heap.size,3,none⟩ (J Y t.i)=W6:=⟨_,rfl⟩
  have hr:=CE.o
  have hg:=Gn.o
  rw[show w5.setCells w.heap.size 0 [.bool t.r,J Y t.l,J Y t.d,J Y t.i]=W6 from hW6] at hr hg
  rw[hW6]
  have q0:W6.cell? ⟨w.heap.size,0,none⟩=some (.bool t.r):=zb hr 0 rfl
  have q1:W6.cell? ⟨w.heap.size,1,none⟩=some (J Y t.l):=zb hr 1 rfl
  have q2:W6.cell? ⟨w.heap.size,2,none⟩=some (J Y t.d):=zb hr 2 rfl
  have q3:W6.cell? ⟨w.heap.size,3,none⟩=some (J Y t.i):=zb hr 3 rfl
  refine bodyPost_ret (v:=wtv t) (by simp[results,Tryz.results231,go_sem,q0,q1,q2,q3]) rfl ?_
  exact zdi EY.o Ez.o BV.o Dy.o Gl.o hg (by omega) (by omega)

end Go.Proofs.YtfeebdcmlnapiaaGreat
