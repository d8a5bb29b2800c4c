/-
  Walks and mathematics of Ev5, Apart, Evs1.
-/
import Derived.Test.YtgebcpkpdbdfoaaGreatQEv2
import Derived.Test.YtgebcpkpdbdfoaaGreatQIntsMark
import Derived.Test.YtgebcpkpdbdfoaaGreatQFlat
import Derived.Test.YtgebcpkpdbdfoaaGreatQItemsArg
import Derived.ChangeSlices
import Derived.WideShapes
import Derived.Test.YtgebcpkpdbdfoaaGreatQBox
import Derived.Maps.OwnSet
import Derived.Test.YtgebcpkpdbdfoaaGreatQBase
import Derived.Test.YtgebcpkpdbdfoaaGreatQPlain1
import Derived.WalkSmall
import Derived.Deep.RegionHeld3
import Derived.Deep.QuietTactic
import Derived.BigQuiet
set_option linter.unusedVariables false
set_option linter.unusedSimpArgs false
namespace Go.Proofs.YtgebcpkpdbdfoaaGreat
open Go.RowKit P1 P9 P12 K

structure EvOwn (w:World) (base:Nat) (vl vp:Value) (n m:Nat) (zl zp:List Int):Prop where
 l:w.ownsRow base 3 1 vl n (zl.map zu)
 p:w.ownsRow base 3 1 vp m (zp.map zu)
 ne:∀ k,vl.ownBlock=some k→vp.ownBlock≠some k

theorem EvOwn.on {w w':World} {base:Nat} {vl vp:Value} {n m:Nat} {zl zp:List Int} (h:EvOwn w base vl vp n m zl zp) (hb:Below w.heap.size w w'):EvOwn w' base vl vp n m zl zp :=
 ⟨own_below h.l hb,own_below h.p hb,h.ne⟩
theorem EvOwn.down {w:World} {base base':Nat} {vl vp:Value} {n m:Nat} {zl zp:List Int} (h:EvOwn w base vl vp n m zl zp) (hb:base'≤base):EvOwn w base' vl vp n m zl zp :=
 ⟨zq h.l hb,zq h.p hb,h.ne⟩
theorem EvOwn.kept {w w':World} {base:Nat} {vl vp:Value} {n m:Nat} {zl zp:List Int} {b:Nat} (h:EvOwn w base vl vp n m zl zp) (hg:w.grownBy w' (some b)) (hlt:b < base):EvOwn w' base vl vp n m zl zp :=
 ⟨h.l.kept hg (Or.inr (fun q=>by have:=h.l.lt b q;omega)),h.p.kept hg (Or.inr (fun q=>by have:=h.p.lt b q;omega)),h.ne⟩

structure EvMarks (w:World) (base:Nat) (vl vp:Value) (n m k:Nat):Prop where
 l:w.ownsRow base 3 1 vl n ((zib k n).map zu)
 p:w.ownsRow base 3 1 vp m ((zib (k+n) m).map zu)
 ne:∀ k,vl.ownBlock=some k→vp.ownBlock≠some k

theorem EvMarks.on {w w':World} {base:Nat} {vl vp:Value} {n m k:Nat} (h:EvMarks w base vl vp n m k) (hb:Below w.heap.size w w'):EvMarks w' base vl vp n m k :=
 ⟨own_below h.l hb,own_below h.p hb,h.ne⟩

end Go.Proofs.YtgebcpkpdbdfoaaGreat

namespace Go.Proofs.YtgebcpkpdbdfoaaGreat
open Go.RowKit K

theorem z9m {w:World} {b1 b2:Nat} {e1 e2:TypeId} {k1 k2:Nat} {v1 v2:Value} {n1 n2:Nat} {xs1 xs2:List Value} (h1:w.ownsRow b1 e1 k1 v1 n1 xs1) (h2:w.ownsRow b2 e2 k2 v2 n2 xs2) (hne:e1≠e2):∀ g,v1.ownBlock=some g→v2.ownBlock≠some g:=by
 intro g q1 q2
 rcases h1.2 with ⟨rfl,-⟩ | ⟨g1,cap1,cur1,rfl,-,hb1,-⟩
 ·cases q1
 ·cases q1
  rcases h2.2 with ⟨rfl,-⟩ | ⟨g2,cap2,cur2,rfl,-,hb2,-⟩
  ·cases q2
  ·cases q2
   rw[hb1] at hb2
   cases hb2
   exact hne rfl

theorem z5n {w w':World} {b1 b2:Nat} {e1 e2:TypeId} {k1 k2:Nat} {v1 v2:Value} {n1 n2:Nat} {xs1 xs2:List Value} (h1:w.ownsRow b1 e1 k1 v1 n1 xs1) (h2:w.ownsRow b2 e2 k2 v2 n2 xs2) (hne:e1≠e2) (hg:w.grownBy w' v2.ownBlock):w'.ownsRow b1 e1 k1 v1 n1 xs1:=by
 refine h1.kept hg ?_
 cases hv:v1.ownBlock with
 | none=>exact Or.inl rfl
 | some g=>exact Or.inr (fun e=>z9m h1 h2 hne g hv e.symm)

theorem z2k {H:Type} {P:Program} {kt:TypeId} {R:Value→Option (DataW H × List MemPlace)} {w:World} {b n:Nat} {D:DataW H} (h:w.ownsMap P kt R b n D) {base:Nat} {e:TypeId} {k:Nat} {v:Value} {m:Nat} {xs:List Value} (ho:w.ownsRow base e k v m xs):some b≠v.ownBlock:=by
 intro q
 obtain⟨es,clock,hb,-⟩:=h
 rcases ho.2 with ⟨rfl,-⟩ | ⟨g,cap,cur,rfl,-,hgb,-⟩
 ·cases q
 ·cases q
  rw[hgb] at hb
  cases hb

theorem z5u {P:Program} {W0:World} {ops:Array Oper} {rest:List Oper} {o:Oper} {a:Act} {Q:Exit→Act→World→Prop} (hgd:o.guard=none) (s x:Operand) (t:TypeId)
  (ho:o.op=.call { callee:=.builtin .append,args:=#[s,x],argTypes:=#[t,t] })
  {base k:Nat} (hk0:0 < k) {e:TypeId} {z:Value} {bytes:Nat} (ht:P.underlying t=some (.slice e)) (hi:(P.info? e).map (fun i=>(i.zero,i.size,i.bytes))=some (some z,k,bytes)) (hzs:z.cells.size=k)
  {v:Value} {n:Nat} {xs:List Value} (hs:a.eval s=v) (hown:W0.ownsRow base e k v n xs)
  {cs:Array Value} (hx:a.eval x=.slice (some ⟨W0.heap.size,0,none⟩) 1 1) (hm:cs.toList.length=k) (hu:∀ u∈cs.toList,u.oneCell'=true)
  (hbase:base≤W0.heap.size) (h63:n+1≤maxLen) (hbytes:(n+1) * bytes≤140737488355328)
  (h:∀ v' w',w'.ownsRow base e k v' (n+1) (xs++cs.toList)→(W0.alloc (.cells cs e)).grownBy w' v.ownBlock→wpList P ops Q rest (a.put o.dst v') w'):wpList P ops Q (o :: rest) a (W0.alloc (.cells cs e)):=by
 obtain⟨i,hi,hz,h1,h2⟩:=info_parts hi
 refine wpList_append_own _ hgd s x t ho base e i z k bytes ht hi hz h1 h2 hzs hk0 v n xs hs (hown.alloc _) ⟨W0.heap.size,0,none⟩ 1 1 cs.toList hx (by rw[hm];omega) (World.news_of_block (heap_alloc_new W0 _)) hu h63 hbytes (by simp;omega) ?_
 intro v' w' hown' hgrow _
 exact h v' w' hown' hgrow

end Go.Proofs.YtgebcpkpdbdfoaaGreat

namespace Go.Proofs.YtgebcpkpdbdfoaaGreat
open Go.RowKit P1 P5 P9 P12 P14 K

abbrev evv (e:EvV) (xl xp:Value):Value:=z2g e.id e.kind e.sender e.user e.member e.depth xl xp e.text

theorem z1p:(Tryz.prog.info? 47).map (·.size)=some 9:=by kernel_rfl

theorem zgm:(Tryz.prog.info? 47).map (fun i=>(i.zero,i.size,i.bytes))=some (some (.agg #[.int .i64 0,.int .i64 0,.int .i64 0,.int .i64 0,.int .i64 0,.slice none 0 0,.string ⟨#[]⟩,.slice none 0 0,.int .i64 0]),9,112):=by kernel_rfl

theorem EvAt.cs {w:World} {b o:Nat} {e:EvV} {xa:Option Addr} {xc:Nat} {ya:Option Addr} {yc:Nat} (h:EvAt w b o e xa xc ya yc) :
  w.cell? ⟨b,o,none⟩=some (.int .i64 e.id)∧w.cell? ⟨b,o+1,none⟩=some (.int .i64 e.kind)∧w.cell? ⟨b,o+2,none⟩=some (.int .i64 e.sender)∧w.cell? ⟨b,o+3,none⟩=some (.int .i64 e.user)∧w.cell? ⟨b,o+4,none⟩=some (.int .i64 e.member) ∧
   w.cell? ⟨b,o+5,none⟩=some (.slice xa e.levels.length xc)∧w.cell? ⟨b,o+6,none⟩=some (.string ⟨e.text.toArray⟩)∧w.cell? ⟨b,o+7,none⟩=some (.slice ya e.prev.length yc)∧w.cell? ⟨b,o+8,none⟩=some (.int .i64 e.depth) :=
 ⟨h.cell 0 _ rfl,h.cell 1 _ rfl,h.cell 2 _ rfl,h.cell 3 _ rfl,h.cell 4 _ rfl,h.cell 5 _ rfl,h.cell 6 _ rfl,h.cell 7 _ rfl,h.cell 8 _ rfl⟩

def evw (e:EvV):Nat:=e.levels.length+e.text.length+e.prev.length
def evW (es:List EvV):Nat:=(es.map evw).sum

theorem zgn:∀ {es:List EvV} {e:EvV},e∈es→evw e≤evW es
 | x :: r,e,h=>by
  unfold evW
  rw[List.map_cons,List.sum_cons]
  rcases List.mem_cons.1 h with rfl | h
  ·omega
  ·have:=zgn h
   unfold evW at this
   omega

structure FineE (es:List EvV):Prop where
 len:es.length≤1048576
 all:evW es≤1048576

theorem FineE.one {es:List EvV} (h:FineE es) {e:EvV} (he:e∈es):e.levels.length≤1048576∧e.text.length≤1048576∧e.prev.length≤1048576:=by
 have h1:=zgn he
 have h2:=h.all
 unfold evw at h1
 omega

structure Within (lo hi:Nat) (w w':World):Prop where
 os:w'.os=w.os
 tape:w'.tape=w.tape
 output:w'.output=w.output
 size:w.heap.size≤w'.heap.size
 block:∀ i,i < w.heap.size→(i < lo∨hi≤i)→w'.heap[i]? = w.heap[i]?

theorem Within.refl (lo hi:Nat) (w:World):Within lo hi w w:=⟨rfl,rfl,rfl,Nat.le_refl _,fun _ _ _=>rfl⟩
theorem Within.trans {lo hi:Nat} {a b c:World} (h:Within lo hi a b) (k:Within lo hi b c):Within lo hi a c :=
 ⟨k.os.trans h.os,k.tape.trans h.tape,k.output.trans h.output,Nat.le_trans h.size k.size,fun i hi' ho=>(k.block i (Nat.lt_of_lt_of_le hi' h.size) ho).trans (h.block i hi' ho)⟩
theorem Within.below {lo hi:Nat} {a b:World} (h:Below a.heap.size a b):Within lo hi a b:=⟨h.os,h.tape,h.output,h.size,fun i hi' _=>h.block i hi'⟩
theorem Within.row {lo hi:Nat} {a b:World} {row:Option Nat} (h:a.grownBy b row) (hr:∀ q,row=some q→lo≤q∧q < hi):Within lo hi a b :=
 ⟨h.os,h.tape,h.output,h.size,fun i hi' ho=>h.block i hi' (fun e=>by have:=hr i e.symm;omega)⟩
theorem Within.under {lo hi B:Nat} {W a b:World} (h:Within lo hi a b) (hb:Below B W a) (hB:B≤lo) (hs:B≤a.heap.size):Below B W b :=
 ⟨h.os.trans hb.os,h.tape.trans hb.tape,h.output.trans hb.output,Nat.le_trans hb.size h.size,fun i hi'=>(h.block i (by omega) (.inl (by omega))).trans (hb.block i hi')⟩
theorem Within.own {lo hi:Nat} {a b:World} (h:Within lo hi a b) {base:Nat} {e:TypeId} {k:Nat} {v:Value} {n:Nat} {xs:List Value} (ho:a.ownsRow base e k v n xs) (hout:∀ q,v.ownBlock=some q→q < lo∨hi≤q):b.ownsRow base e k v n xs:=by
 obtain⟨h1,h2⟩:=ho
 refine⟨h1,?_⟩
 rcases h2 with h2 | ⟨g,cap,cur,rfl,hg,hb,r⟩
 ·exact Or.inl h2
 ·exact Or.inr ⟨g,cap,cur,rfl,hg,(h.block g (zf hb) (hout g rfl)).trans hb,r⟩
theorem Within.blk {lo hi:Nat} {a b:World} (h:Within lo hi a b) {g:Nat} {o:Obj} (hb:a.heap[g]? = some o) (hout:g < lo∨hi≤g):b.heap[g]? = some o:=(h.block g (zf hb) hout).trans hb

theorem zlm {w w':World} {b1 b2:Nat} {e:TypeId} {v1 v2:Value} {n1 n2:Nat} {xs1 xs2 ys2:List Value} (h1:w.ownsRow b1 e 1 v1 n1 xs1) (h2:w.ownsRow b2 e 1 v2 n2 xs2) (h2':w'.ownsRow b2 e 1 v2 n2 ys2) (hg:w.grownBy w' v2.ownBlock):∃ ys1,w'.ownsRow b1 e 1 v1 n1 ys1:=by
 rcases h1.2 with ⟨rfl,rfl⟩ | ⟨g,cap,cur,rfl,hb,hgb,hnc,hcm,hcs,htk⟩
 ·exact⟨[],World.ownsRow_nil _ _ _ _⟩
 ·by_cases hq:v2.ownBlock=some g
  ·rcases h2'.2 with ⟨rfl,-⟩ | ⟨g2,cap2,cur2,rfl,hb2,hgb2,hnc2,hcm2,hcs2,htk2⟩
   ·cases hq
   ·cases hq
    rcases h2.2 with ⟨he,-⟩ | ⟨g3,cap3,cur3,he,hb3,hgb3,hnc3,hcm3,hcs3,htk3⟩
    ·cases he
    ·cases he
     rw[hgb] at hgb3
     cases hgb3
     refine⟨cur2.toList.take (n1 * 1),?_,Or.inr ⟨_,cap,cur2,rfl,hb,hgb2,hnc,hcm,?_,rfl⟩⟩
     ·rw[List.length_take]
      simp only[Array.length_toList]
      omega
     ·omega
  ·exact⟨xs1,h1.kept hg (Or.inr (fun e=>hq e.symm))⟩

theorem zae:∀ (vs:List Value) (cs:Array Value) (o:Nat),(z5s cs o vs).size=cs.size
 | [],_,_=>rfl
 | v :: r,cs,o=>by rw[z5s,zae r];simp

theorem zjy {w:World} {b o:Nat} {cs:Array Value} {ty:TypeId} (h:w.heap[b]? = some (.cells cs ty (0,0))) (hs:o+9≤cs.size) :
  ∃ u0 u1 u2 u3 u4 u5 u6 u7 u8,w.cell? ⟨b,o,none⟩=some u0∧w.cell? ⟨b,o+1,none⟩=some u1∧w.cell? ⟨b,o+2,none⟩=some u2∧w.cell? ⟨b,o+3,none⟩=some u3∧w.cell? ⟨b,o+4,none⟩=some u4∧w.cell? ⟨b,o+5,none⟩=some u5∧w.cell? ⟨b,o+6,none⟩=some u6∧w.cell? ⟨b,o+7,none⟩=some u7∧w.cell? ⟨b,o+8,none⟩=some u8 :=
 ⟨_,_,_,_,_,_,_,_,_,za h o (Array.getElem?_eq_getElem (by omega)),za h (o+1) (Array.getElem?_eq_getElem (by omega)),za h (o+2) (Array.getElem?_eq_getElem (by omega)),za h (o+3) (Array.getElem?_eq_getElem (by omega)),za h (o+4) (Array.getElem?_eq_getElem (by omega)),za h (o+5) (Array.getElem?_eq_getElem (by omega)),za h (o+6) (Array.getElem?_eq_getElem (by omega)),za h (o+7) (Array.getElem?_eq_getElem (by omega)),za h (o+8) (Array.getElem?_eq_getElem (by omega))⟩

def EvIn (w:World) (lo:Nat) (cs:Array Value) (i:Nat) (e:EvV):Prop :=
 ∃ a b,(∀ j u,(evL e (some ⟨a,0,none⟩) e.levels.length (some ⟨b,0,none⟩) e.prev.length)[j]? = some u→cs[i * 9+j]? = some u) ∧
  w.ownsRow lo 3 1 (.slice (some ⟨a,0,none⟩) e.levels.length e.levels.length) e.levels.length (e.levels.map zu) ∧
  w.ownsRow lo 3 1 (.slice (some ⟨b,0,none⟩) e.prev.length e.prev.length) e.prev.length (e.prev.map zu)

def EvsIn (w:World) (lo g n:Nat) (es:List EvV) (j:Nat):Prop :=
 ∃ cs,w.heap[g]? = some (.cells cs 47 (0,0))∧cs.size=n * 9∧∀ i e,i < j→es[i]? = some e→EvIn w lo cs i e

theorem EvIn.on {w w':World} {lo:Nat} {cs:Array Value} {i:Nat} {e:EvV} (h:EvIn w lo cs i e) (hb:Below w.heap.size w w'):EvIn w' lo cs i e:=by
 obtain⟨a,b,h1,h2,h3⟩:=h
 exact⟨a,b,h1,own_below h2 hb,own_below h3 hb⟩

theorem EvIn.set {w w':World} {lo g:Nat} {cs cs':Array Value} {i:Nat} {e:EvV} {cx:Array Value} (h:EvIn w lo cs i e) (hblk:w.heap[g]? = some (.cells cx 47 (0,0))) (hg:w.grownBy w' (some g)) (hcs:∀ j,j < 9→cs'[i * 9+j]? = cs[i * 9+j]?):EvIn w' lo cs' i e:=by
 obtain⟨a,b,h1,h2,h3⟩:=h
 have ne:∀ {v:Value} {n:Nat} {xs:List Value},w.ownsRow lo 3 1 v n xs→v.ownBlock≠some g:=by
  intro v n xs ho q
  rcases ho.2 with ⟨rfl,-⟩ | ⟨g2,cap,cur,rfl,-,hgb,-⟩
  ·cases q
  ·cases q
   rw[hblk] at hgb
   cases hgb
 refine⟨a,b,fun j u hu=>?_,h2.kept hg (Or.inr (fun q=>ne h2 q)),h3.kept hg (Or.inr (fun q=>ne h3 q))⟩
 have hj:j < 9:=by simpa [evL] using (List.getElem?_eq_some_iff.1 hu).1
 rw[hcs j hj]
 exact h1 j u hu

theorem EvsIn.at_ {w:World} {lo g n:Nat} {es:List EvV} (h:EvsIn w lo g n es n) (hn:es.length=n) (hm:n≤maxLen) (hf:∀ e∈es,(∀ z∈e.levels,(Lit.int .i64 z).wf=true)∧(∀ z∈e.prev,(Lit.int .i64 z).wf=true)∧e.text.length≤maxLen):EvsAt w (some ⟨g,0,none⟩) n n es:=by
 obtain⟨cs,hb,hs,hin⟩:=h
 refine⟨hn,Nat.le_refl _,hm,fun i e he=>?_⟩
 have hi:i < n:=by rw[← hn];exact (List.getElem?_eq_some_iff.1 he).1
 obtain⟨a,b,h1,h2,h3⟩:=hin i e hi he
 obtain⟨f1,f2,f3⟩:=hf e (List.mem_of_getElem? he)
 obtain⟨_,_,q1,k1⟩:=z0b h2 f1
 cases q1
 obtain⟨_,_,q2,k2⟩:=z0b h3 f2
 cases q2
 refine⟨g,0,_,_,_,_,rfl,⟨fun j u hu=>?_,k1,k2,f3⟩⟩
 rw[Nat.zero_add]
 exact za hb _ (h1 j u hu)

structure RowS (w:World) (lo hi:Nat) (v:Value) (n:Nat):Prop where
 own:∃ xs,w.ownsRow lo 3 1 v n xs
 top:∀ q,v.ownBlock=some q→q < hi

theorem RowS.on {w w':World} {lo hi:Nat} {v:Value} {n:Nat} (h:RowS w lo hi v n) (hb:Below w.heap.size w w'):RowS w' lo hi v n:=by
 obtain⟨⟨xs,h1⟩,h2⟩:=h
 exact⟨⟨xs,own_below h1 hb⟩,h2⟩
theorem RowS.cells {w w':World} {lo hi g:Nat} {v:Value} {n:Nat} {cx:Array Value} (h:RowS w lo hi v n) (hblk:w.heap[g]? = some (.cells cx 47 (0,0))) (hg:w.grownBy w' (some g)):RowS w' lo hi v n:=by
 obtain⟨⟨xs,h1⟩,h2⟩:=h
 refine⟨⟨xs,h1.kept hg (Or.inr (fun q=>?_))⟩,h2⟩
 rcases h1.2 with ⟨rfl,-⟩ | ⟨g2,cap,cur,rfl,-,hgb,-⟩
 ·cases q
 ·cases q
  rw[hblk] at hgb
  cases hgb
theorem RowS.row {w w':World} {lo hi:Nat} {v v2:Value} {n n2:Nat} {xs2 ys2:List Value} (h:RowS w lo hi v n) (h2:w.ownsRow lo 3 1 v2 n2 xs2) (h2':w'.ownsRow lo 3 1 v2 n2 ys2) (hg:w.grownBy w' v2.ownBlock):RowS w' lo hi v n:=by
 obtain⟨⟨xs,h1⟩,h3⟩:=h
 exact⟨zlm h1 h2 h2' hg,h3⟩

structure EvSh (w:World) (lo hi g:Nat) (es:List EvV):Prop where
 lo_:lo≤g
 hi_:g < hi
 blk:∃ cs,w.heap[g]? = some (.cells cs 47 (0,0))∧cs.size=es.length * 9∧∀ i e,es[i]? = some e→∃ vl vp,cs[i * 9+5]? = some vl∧cs[i * 9+7]? = some vp∧RowS w lo hi vl e.levels.length∧RowS w lo hi vp e.prev.length

theorem EvSh.on {w w':World} {lo hi g:Nat} {es:List EvV} (h:EvSh w lo hi g es) (hb:Below w.heap.size w w'):EvSh w' lo hi g es:=by
 obtain⟨h1,h2,cs,h3,h4,h5⟩:=h
 refine⟨h1,h2,cs,(hb.block g (zf h3)).trans h3,h4,fun i e he=>?_⟩
 obtain⟨vl,vp,q1,q2,q3,q4⟩:=h5 i e he
 exact⟨vl,vp,q1,q2,q3.on hb,q4.on hb⟩

theorem EvSh.cell {w:World} {lo hi g:Nat} {es:List EvV} (h:EvSh w lo hi g es) {j c:Nat} (hc:c < 9) (h5:c≠5) (h7:c≠7) (u:Value):EvSh (w.setCell ⟨g,j * 9+c,none⟩ u) lo hi g es:=by
 obtain⟨h1,h2,cs,h3,h4,hx⟩:=h
 refine⟨h1,h2,_,z2m (k:=j * 9+c) u h3,by simpa using h4,fun i e he=>?_⟩
 obtain⟨vl,vp,q1,q2,q3,q4⟩:=hx i e he
 have hg:=z01 w g (j * 9+c) u
 exact⟨vl,vp,by rw[Array.getElem?_setIfInBounds_ne (by omega)];exact q1,by rw[Array.getElem?_setIfInBounds_ne (by omega)];exact q2,q3.cells h3 hg,q4.cells h3 hg⟩

theorem EvSh.row {w w':World} {lo hi g:Nat} {es:List EvV} (h:EvSh w lo hi g es) {v2:Value} {n2:Nat} {xs2 ys2:List Value} (h2:w.ownsRow lo 3 1 v2 n2 xs2) (h2':w'.ownsRow lo 3 1 v2 n2 ys2) (hg:w.grownBy w' v2.ownBlock):EvSh w' lo hi g es:=by
 obtain⟨h1,hh,cs,h3,h4,hx⟩:=h
 have hne:some g≠v2.ownBlock:=by
  intro q
  rcases h2.2 with ⟨rfl,-⟩ | ⟨g2,cap,cur,rfl,-,hgb,-⟩
  ·cases q
  ·cases q
   rw[h3] at hgb
   cases hgb
 refine⟨h1,hh,cs,(hg.block g (zf h3) hne).trans h3,h4,fun i e he=>?_⟩
 obtain⟨vl,vp,q1,q2,q3,q4⟩:=hx i e he
 exact⟨vl,vp,q1,q2,q3.row h2 h2' hg,q4.row h2 h2' hg⟩

theorem EvSh.get {w:World} {lo hi g:Nat} {es:List EvV} (h:EvSh w lo hi g es) {j:Nat} {e:EvV} (he:es[j]? = some e) :
  ∃ u0 u1 u2 u3 u4 vl u6 vp u8,w.cell? ⟨g,j * 9,none⟩=some u0∧w.cell? ⟨g,j * 9+1,none⟩=some u1∧w.cell? ⟨g,j * 9+2,none⟩=some u2∧w.cell? ⟨g,j * 9+3,none⟩=some u3∧w.cell? ⟨g,j * 9+4,none⟩=some u4∧w.cell? ⟨g,j * 9+5,none⟩=some vl∧w.cell? ⟨g,j * 9+6,none⟩=some u6∧w.cell? ⟨g,j * 9+7,none⟩=some vp∧w.cell? ⟨g,j * 9+8,none⟩=some u8 ∧
   (∀ m,w.frozen? ⟨g,m,none⟩=false)∧RowS w lo hi vl e.levels.length∧RowS w lo hi vp e.prev.length:=by
 obtain⟨h1,h2,cs,h3,h4,hx⟩:=h
 obtain⟨vl,vp,q1,q2,q3,q4⟩:=hx j e he
 have hj:j < es.length:=(List.getElem?_eq_some_iff.1 he).1
 obtain⟨u0,u1,u2,u3,u4,u5,u6,u7,u8,c0,c1,c2,c3,c4,c5,c6,c7,c8⟩:=zjy (o:=j * 9) h3 (by omega)
 exact⟨u0,u1,u2,u3,u4,vl,u6,vp,u8,c0,c1,c2,c3,c4,za h3 _ q1,c6,za h3 _ q2,c8,fun m=>zn h3 m,q3,q4⟩

end Go.Proofs.YtgebcpkpdbdfoaaGreat
