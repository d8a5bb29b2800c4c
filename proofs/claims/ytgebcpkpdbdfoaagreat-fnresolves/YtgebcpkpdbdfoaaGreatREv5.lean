/-
  Walks.
-/
import Derived.Test.YtgebcpkpdbdfoaaGreatREv2
import Derived.Test.YtgebcpkpdbdfoaaGreatRIntsMark
import Derived.Test.YtgebcpkpdbdfoaaGreatRFlat
import Derived.Test.YtgebcpkpdbdfoaaGreatRItemsArg
import Derived.ChangeSlices
import Derived.WideShapes
import Derived.Test.YtgebcpkpdbdfoaaGreatRBox
import Derived.Maps.OwnSet
import Derived.Test.YtgebcpkpdbdfoaaGreatRBase
import Derived.Lib.ItoaNum
import Derived.Lib.ItoaMem
import Derived.Lib.ItoaLen
import Derived.WalkSmall
import Derived.Deep.RegionHeld3
import Derived.Deep.QuietTactic
import Derived.BigQuiet
import Derived.Test.YtgebcpkpdbdfoaaGreatRPlain9
set_option linter.unusedVariables false
set_option linter.unusedSimpArgs false
namespace Go.Proofs.YtgebcpkpdbdfoaaGreat
open Go.RowKit P9 P12 K

structure EvOwn (w:World) (base:Nat) (vl vp:Value) (n m:Nat) (zl zp:List Int):Prop where
 l:w.ownsRow base 3 1 vl n (zl.map zu)
 p:w.ownsRow base 3 1 vp m (zp.map zu)
 ne:∀ k,vl.ownBlock=some k→vp.ownBlock≠some k

theorem EvOwn.on {w w':World} {base:Nat} {vl vp:Value} {n m:Nat} {zl zp:List Int} (h:EvOwn w base vl vp n m zl zp) (hb:Below w.heap.size w w'):EvOwn w' base vl vp n m zl zp :=
 ⟨own_below h.l hb,own_below h.p hb,h.ne⟩

theorem EvOwn.down {w:World} {base base':Nat} {vl vp:Value} {n m:Nat} {zl zp:List Int} (h:EvOwn w base vl vp n m zl zp) (hb:base'≤base):EvOwn w base' vl vp n m zl zp :=
 ⟨zq h.l hb,zq h.p hb,h.ne⟩

theorem EvOwn.kept {w w':World} {base:Nat} {vl vp:Value} {n m:Nat} {zl zp:List Int} {b:Nat} (h:EvOwn w base vl vp n m zl zp) (hg:w.grownBy w' (some b)) (hlt:b<base):EvOwn w' base vl vp n m zl zp :=
 ⟨h.l.kept hg (Or.inr (fun q=>by have:=h.l.lt b q;omega)),h.p.kept hg (Or.inr (fun q=>by have:=h.p.lt b q;omega)),h.ne⟩

end Go.Proofs.YtgebcpkpdbdfoaaGreat

namespace Go.Proofs.YtgebcpkpdbdfoaaGreat
open Go.RowKit K

theorem z9m {w:World} {b1 b2:Nat} {e1 e2:TypeId} {k1 k2:Nat} {v1 v2:Value} {n1 n2:Nat} {xs1 xs2:List Value} (h1:w.ownsRow b1 e1 k1 v1 n1 xs1) (h2:w.ownsRow b2 e2 k2 v2 n2 xs2) (hne:e1≠e2):∀ g,v1.ownBlock=some g→v2.ownBlock≠some g:=by
 intro g q1 q2
 rcases h1.2 with ⟨rfl,-⟩|⟨g1,cap1,cur1,rfl,-,hb1,-⟩
 ·cases q1
 ·cases q1
  rcases h2.2 with ⟨rfl,-⟩|⟨g2,cap2,cur2,rfl,-,hb2,-⟩
  ·cases q2
  ·cases q2
   rw[hb1] at hb2
   cases hb2
   exact hne rfl

theorem z5n {w w':World} {b1 b2:Nat} {e1 e2:TypeId} {k1 k2:Nat} {v1 v2:Value} {n1 n2:Nat} {xs1 xs2:List Value} (h1:w.ownsRow b1 e1 k1 v1 n1 xs1) (h2:w.ownsRow b2 e2 k2 v2 n2 xs2) (hne:e1≠e2) (hg:w.grownBy w' v2.ownBlock):w'.ownsRow b1 e1 k1 v1 n1 xs1:=by
 refine h1.kept hg ?_
 cases hv:v1.ownBlock with
 | none=>exact Or.inl rfl
 | some g=>exact Or.inr (fun e=>z9m h1 h2 hne g hv e.symm)

theorem z2k {H:Type} {P:Program} {kt:TypeId} {R:Value→Option (DataW H × List MemPlace)} {w:World} {b n:Nat} {D:DataW H} (h:w.ownsMap P kt R b n D) {base:Nat} {e:TypeId} {k:Nat} {v:Value} {m:Nat} {xs:List Value} (ho:w.ownsRow base e k v m xs):some b≠v.ownBlock:=by
 intro q
 obtain⟨es,clock,hb,-⟩:=h
 rcases ho.2 with ⟨rfl,-⟩|⟨g,cap,cur,rfl,-,hgb,-⟩
 ·cases q
 ·cases q
  rw[hgb] at hb
  cases hb

theorem z5u {P:Program} {W0:World} {ops:Array Oper} {rest:List Oper} {o:Oper} {a:Act} {Q:Exit→Act→World→Prop} (hgd:o.guard=none) (s x:Operand) (t:TypeId)
  (ho:o.op=.call { callee:=.builtin .append,args:=#[s,x],argTypes:=#[t,t] })
  {base k:Nat} (hk0:0<k) {e:TypeId} {z:Value} {bytes:Nat} (ht:P.underlying t=some (.slice e)) (hi:(P.info? e).map (fun i=>(i.zero,i.size,i.bytes))=some (some z,k,bytes)) (hzs:z.cells.size=k)
  {v:Value} {n:Nat} {xs:List Value} (hs:a.eval s=v) (hown:W0.ownsRow base e k v n xs)
  {cs:Array Value} (hx:a.eval x=.slice (some ⟨W0.heap.size,0,none⟩) 1 1) (hm:cs.toList.length=k) (hu:∀ u∈cs.toList,u.oneCell'=true)
  (hbase:base≤W0.heap.size) (h63:n+1≤maxLen) (hbytes:(n+1) * bytes≤140737488355328)
  (h:∀ v' w',w'.ownsRow base e k v' (n+1) (xs++cs.toList)→(W0.alloc (.cells cs e)).grownBy w' v.ownBlock→wpList P ops Q rest (a.put o.dst v') w'):wpList P ops Q (o::rest) a (W0.alloc (.cells cs e)):=by
 obtain⟨i,hi,hz,h1,h2⟩:=info_parts hi
 refine wpList_append_own _ hgd s x t ho base e i z k bytes ht hi hz h1 h2 hzs hk0 v n xs hs (hown.alloc _) ⟨W0.heap.size,0,none⟩ 1 1 cs.toList hx (by rw[hm];omega) (World.news_of_block (heap_alloc_new W0 _)) hu h63 hbytes (by simp;omega) ?_
 intro v' w' hown' hgrow _
 exact h v' w' hown' hgrow

end Go.Proofs.YtgebcpkpdbdfoaaGreat

namespace Go.Proofs.YtgebcpkpdbdfoaaGreat
open Go.RowKit P5 P9 P12 P14 K

abbrev evv (e:EvV) (xl xp:Value):Value:=z2g e.id e.kind e.sender e.user e.member e.depth xl xp e.text

theorem z1p:(Tryz.prog.info? 47).map (·.size)=some 9:=by kernel_rfl

theorem zgm:(Tryz.prog.info? 47).map (fun i=>(i.zero,i.size,i.bytes))=some (some (.agg #[.int .i64 0,.int .i64 0,.int .i64 0,.int .i64 0,.int .i64 0,.slice none 0 0,.string ⟨#[]⟩,.slice none 0 0,.int .i64 0]),9,112):=by kernel_rfl

theorem EvAt.cs {w:World} {b o:Nat} {e:EvV} {xa:Option Addr} {xc:Nat} {ya:Option Addr} {yc:Nat} (h:EvAt w b o e xa xc ya yc) :
  w.cell? ⟨b,o,none⟩=some (.int .i64 e.id)∧w.cell? ⟨b,o+1,none⟩=some (.int .i64 e.kind)∧w.cell? ⟨b,o+2,none⟩=some (.int .i64 e.sender)∧w.cell? ⟨b,o+3,none⟩=some (.int .i64 e.user)∧w.cell? ⟨b,o+4,none⟩=some (.int .i64 e.member) ∧
   w.cell? ⟨b,o+5,none⟩=some (.slice xa e.levels.length xc)∧w.cell? ⟨b,o+6,none⟩=some (.string ⟨e.text.toArray⟩)∧w.cell? ⟨b,o+7,none⟩=some (.slice ya e.prev.length yc)∧w.cell? ⟨b,o+8,none⟩=some (.int .i64 e.depth) :=
 ⟨h.cell 0 _ rfl,h.cell 1 _ rfl,h.cell 2 _ rfl,h.cell 3 _ rfl,h.cell 4 _ rfl,h.cell 5 _ rfl,h.cell 6 _ rfl,h.cell 7 _ rfl,h.cell 8 _ rfl⟩

def evw (e:EvV):Nat:=e.levels.length+e.text.length+e.prev.length

def evW (es:List EvV):Nat:=(es.map evw).sum

theorem zgn:∀ {es:List EvV} {e:EvV},e∈es→evw e≤evW es
 | x::r,e,h=>by
  unfold evW
  rw[List.map_cons,List.sum_cons]
  rcases List.mem_cons.1 h with rfl|h
  ·omega
  ·have:=zgn h
   unfold evW at this
   omega

structure FineE (es:List EvV):Prop where
 len:es.length≤1048576
 all:evW es≤1048576

theorem FineE.one {es:List EvV} (h:FineE es) {e:EvV} (he:e∈es):e.levels.length≤1048576∧e.text.length≤1048576∧e.prev.length≤1048576:=by
 have h1:=zgn he
 have h2:=h.all
 unfold evw at h1
 omega

theorem zae:∀ (vs:List Value) (cs:Array Value) (o:Nat),(z5s cs o vs).size=cs.size
 | [],_,_=>rfl
 | v::r,cs,o=>by rw[z5s,zae r];simp

def EvIn (w:World) (lo:Nat) (cs:Array Value) (i:Nat) (e:EvV):Prop :=
 ∃ a b,(∀ j u,(evL e (some ⟨a,0,none⟩) e.levels.length (some ⟨b,0,none⟩) e.prev.length)[j]? = some u→cs[i * 9+j]? = some u) ∧
  w.ownsRow lo 3 1 (.slice (some ⟨a,0,none⟩) e.levels.length e.levels.length) e.levels.length (e.levels.map zu) ∧
  w.ownsRow lo 3 1 (.slice (some ⟨b,0,none⟩) e.prev.length e.prev.length) e.prev.length (e.prev.map zu)

theorem EvIn.on {w w':World} {lo:Nat} {cs:Array Value} {i:Nat} {e:EvV} (h:EvIn w lo cs i e) (hb:Below w.heap.size w w'):EvIn w' lo cs i e:=by
 obtain⟨a,b,h1,h2,h3⟩:=h
 exact⟨a,b,h1,own_below h2 hb,own_below h3 hb⟩

theorem EvIn.set {w w':World} {lo g:Nat} {cs cs':Array Value} {i:Nat} {e:EvV} {cx:Array Value} (h:EvIn w lo cs i e) (hblk:w.heap[g]? = some (.cells cx 47 (0,0))) (hg:w.grownBy w' (some g)) (hcs:∀ j,j<9→cs'[i * 9+j]? = cs[i * 9+j]?):EvIn w' lo cs' i e:=by
 obtain⟨a,b,h1,h2,h3⟩:=h
 have ne:∀ {v:Value} {n:Nat} {xs:List Value},w.ownsRow lo 3 1 v n xs→v.ownBlock≠some g:=by
  intro v n xs ho q
  rcases ho.2 with ⟨rfl,-⟩|⟨g2,cap,cur,rfl,-,hgb,-⟩
  ·cases q
  ·cases q
   rw[hblk] at hgb
   cases hgb
 refine⟨a,b,fun j u hu=>?_,h2.kept hg (Or.inr (fun q=>ne h2 q)),h3.kept hg (Or.inr (fun q=>ne h3 q))⟩
 have hj:j<9:=by simpa [evL] using (List.getElem?_eq_some_iff.1 hu).1
 rw[hcs j hj]
 exact h1 j u hu

end Go.Proofs.YtgebcpkpdbdfoaaGreat
