/-
  Walks.
-/
import Derived.WalkSpells
import Derived.Deep.AppendLies
import Derived.Deep.Slices
import Derived.Test.YtfeebdcmlnapiaaGreatRows
import Derived.WalkSmall
import Derived.Deep.MidRow
set_option linter.unusedVariables false
namespace Go.Proofs.YtfeebdcmlnapiaaGreat.P5

structure zoh where
 name:List UInt8
 text:List UInt8
 kept:Int
deriving DecidableEq

def leftOf (f:zoh) (n:Int):Nat:=(max (min n (f.text.length:Int)) f.kept).toNat

end Go.Proofs.YtfeebdcmlnapiaaGreat.P5

namespace Go.Proofs.YtfeebdcmlnapiaaGreat.K
open Go.RowKit

def Hd (p:Prop):Prop:=p
theorem Hd.o {p:Prop} (h:Hd p):p:=h
theorem ZZ {p:Prop} (h:p):Hd p:=h

abbrev Bw (w w':World):Prop:=Below w.heap.size w w'

def B8 (l:List UInt8):List Value:=l.map (fun b=>Value.int .u8 (b.toNat:Int))

theorem y3e (l:List UInt8):(B8 l).length=l.length:=by simp[B8]

theorem y4s (l:List UInt8) (b:UInt8) (x:Int) (h:x=(b.toNat:Int)):B8 l++[.int .u8 x]=B8 (l++[b]):=by
 simp[B8,h]

theorem y47 (l k:List UInt8):B8 (l++k)=B8 l++B8 k:=by simp[B8]

theorem y0t {P:Program} {W0:World} {ops:Array Oper} {rest:List Oper} {o:Oper} {a:Act} {Q:Exit→Act→World→Prop} (hgd:o.guard=none) (s x:Operand) (t:TypeId)
  (ho:o.op=.call { callee:=.builtin .append,args:=#[s,x],argTypes:=#[t,t] })
  {base:Nat} {e:TypeId} {z:Value} {bytes:Nat} (ht:P.underlying t=some (.slice e)) (hi:(P.info? e).map (fun i=>(i.zero,i.size,i.bytes))=some (some z,1,bytes)) (hzs:z.cells.size=1)
  {v:Value} {n:Nat} {xs:List Value} (hs:a.eval s=v) (hown:W0.ownsRow base e 1 v n xs)
  {u:Value} (hx:a.eval x=.slice (some ⟨W0.heap.size,0,none⟩) 1 1) (hu:u.oneCell'=true)
  {W:World} (hbel:Below base W W0) (hbase:base≤W0.heap.size) (h63:n+1≤maxLen) (hbytes:(n+1) * bytes≤140737488355328)
  (h:∀ v' w',w'.ownsRow base e 1 v' (n+1) (xs++[u])→Below base W w'→W0.heap.size≤w'.heap.size→wpList P ops Q rest (a.put o.dst v') w'):wpList P ops Q (o::rest) a (W0.alloc (.cells #[u] e)):=by
 obtain⟨i,hi,hz,h1,h2⟩:=info_parts hi
 refine wpList_append_own _ hgd s x t ho base e i z 1 bytes ht hi hz h1 h2 hzs (by decide) v n xs hs (hown.alloc _) ⟨W0.heap.size,0,none⟩ 1 1 [u] hx rfl ?_ ?_ h63 hbytes (by simp;omega) ?_
 ·intro j y hj
  match j,hj with
  | 0,hj=>simp at hj;subst hj;simp[Addr.add]
 ·intro y hy;simp at hy;subst hy;exact hu
 ·intro v' w' hown' hgrow _
  refine h v' w' hown' ?_ ?_
  ·refine (hbel.alloc hbase _).grown hgrow (by simp;omega) ?_
   intro k hk
   exact (hown.lt k hk).1
  ·have:=hgrow.size;simp at this;omega

theorem y3j {P:Program} {w:World} {src dst e:TypeId} (hs:P.underlying src=some (.slice e)) (he:P.underlying e=some (.int .u8)) (hd:P.underlying dst=some .string)
  {base n:Nat} {v:Value} {l:List UInt8} (hown:w.ownsRow base e 1 v n (B8 l)) :
  (convert src dst v).run P w=.ok (.string ⟨l.toArray⟩) w:=by
 have hn:l.length=n:=by have:=hown.1;simp[B8] at this;exact this
 rcases hown.2 with ⟨rfl,rfl⟩|⟨g,cap,cur,rfl,_,hg,_⟩
 ·have:l=[]:=List.eq_nil_of_length_eq_zero hn
  subst this
  rw[run_convert_bytes_string w src dst e none 0 0 hs he hd]
  simp[Conv.bytesToString]
  rfl
 ·subst hn
  refine run_convert_bytes_back w src dst e ⟨g,0,none⟩ cap l hs he hd ?_
  intro j hj
  refine hown.cells (g:=g) rfl j _ ?_
  simp[B8,hj]

theorem y4t {P:Program} (w:World) {src dst e:TypeId} (hs:P.underlying src=some (.slice e)) (he:P.underlying e=some (.int .u8)) (hd:P.underlying dst=some .string) (b:UInt8) :
  (convert src dst (.slice (some ⟨w.heap.size,0,none⟩) 1 1)).run P (w.alloc (.cells #[.int .u8 (b.toNat:Int)] e))=.ok (.string ⟨#[b]⟩) (w.alloc (.cells #[.int .u8 (b.toNat:Int)] e)) :=
 y3j (l:=[b]) hs he hd (World.ownsRow_lit (base:=w.heap.size) (size:=1) w #[.int .u8 (b.toNat:Int)] 1 (Nat.le_refl _) (by decide) rfl)

theorem own_below {w w':World} {base:Nat} {e:TypeId} {size:Nat} {v:Value} {n:Nat} {xs:List Value} (h:w.ownsRow base e size v n xs) (hb:Below w.heap.size w w'):w'.ownsRow base e size v n xs:=by
 obtain⟨h1,h2⟩:=h
 refine⟨h1,?_⟩
 rcases h2 with h2|⟨g,cap,cur,hv,hg,hh,r⟩
 ·exact Or.inl h2
 ·refine Or.inr ⟨g,cap,cur,hv,hg,?_,r⟩
  rw[hb.block g ?_];exact hh
  rcases Nat.lt_or_ge g w.heap.size with hlt|hge
  ·exact hlt
  ·rw[Array.getElem?_eq_none hge] at hh;cases hh

theorem z00 {a b c:World} {row:Option Nat} (h:a.grownBy b row) (k:b.grownBy c row):a.grownBy c row :=
 ⟨k.os.trans h.os,k.tape.trans h.tape,k.output.trans h.output,Nat.le_trans h.size k.size,fun i hi hne=>(k.block i (Nat.lt_of_lt_of_le hi h.size) hne).trans (h.block i hi hne)⟩

theorem z0y {a b:World} {row:Option Nat} (h:Below a.heap.size a b):a.grownBy b row:=⟨h.os,h.tape,h.output,h.size,fun i hi _=>h.block i hi⟩

theorem bxN (w:World) (cs:Array Value) (T:TypeId):∃ W,w.alloc (.cells cs T)=W∧Below w.heap.size w W∧W.heap[w.heap.size]? = some (.cells cs T (0,0)):=⟨_,rfl,(Below.refl _ _).alloc (Nat.le_refl _) _,heap_alloc_new _ _⟩

theorem zBr {B:Nat} {w:World}:Below B w w:=Below.refl B w
theorem zLe {n:Nat}:n≤n:=Nat.le_refl n
theorem zBa {w:World} {o:Obj}:Below w.heap.size w (w.alloc o):=(Below.refl _ _).alloc (Nat.le_refl _) _
theorem zTr {w W w':World} (h:Below w.heap.size w W) (k:Below W.heap.size W w'):Below w.heap.size w w':=h.trans (k.mono h.size)
theorem zGi {α:Type} {l:List α} {i:Nat} {a:α}:l[i]? = some a↔∃ h:i<l.length,l[i]=a:=List.getElem?_eq_some_iff
theorem zLt {a b c:Nat} (h:a<b) (k:b≤c):a<c:=Nat.lt_of_lt_of_le h k
theorem zNt {a b c:Nat} (h:a≤b) (k:b≤c):a≤c:=Nat.le_trans h k
theorem zSi {α:Type} {a b:α} (h:some a=some b):a=b:=Option.some.inj h
theorem zTl {α:Type} {l:List α} {i:Nat} (h:l.length≤i):l.take i=l:=List.take_of_length_le h
theorem zMg {α:Type} {l:List α} {i:Nat} {a:α} (h:l[i]? = some a):a∈l:=List.mem_of_getElem? h
abbrev Zoa:=Option Addr
abbrev Zii:=List (Int × Int)
abbrev Zis:=List (List (Int × Int))
abbrev Zin:=List Int
abbrev Zbs:=List UInt8
abbrev Zvs:=List Value

end Go.Proofs.YtfeebdcmlnapiaaGreat.K

namespace Go.Proofs.YtfeebdcmlnapiaaGreat.K
open Go.RowKit

theorem z3b {α:Type} (f:α→List Value) (k:Nat) (hk:∀ x,(f x).length=k):∀ xs:List α,(xs.flatMap f).length=xs.length * k
 | []=>by simp
 | x::xs=>by
  rw[List.flatMap_cons,List.length_append,hk,z3b f k hk xs,List.length_cons,Nat.add_mul,Nat.one_mul,Nat.add_comm]

theorem flat_get {α:Type} (f:α→List Value) (k:Nat) (hk:∀ x,(f x).length=k):∀ (xs:List α) (i j:Nat) (hi:i<xs.length),j<k→(xs.flatMap f)[i * k+j]? = (f xs[i])[j]?
 | x::xs,0,j,_,hj=>by
  rw[List.flatMap_cons,List.getElem?_append_left (by rw[hk];omega)]
  simp
 | x::xs,i+1,j,hi,hj=>by
  rw[List.flatMap_cons,List.getElem?_append_right (by rw[hk,Nat.add_mul];omega),hk,show (i+1) * k+j - k=i * k+j by rw[Nat.add_mul];omega]
  rw[flat_get f k hk xs i j (by simpa using hi) hj]
  simp

theorem zjm {w:World} {base:Nat} {e:TypeId} {size g n cap:Nat} {xs:List Value} (h:w.ownsRow base e size (.slice (some ⟨g,0,none⟩) n cap) n xs) (j:Nat) (u:Value) (hu:xs[j]? = some u):w.cell? ⟨g,j,none⟩=some u:=by
 have:=h.cells (g:=g) rfl j u hu
 have ha:(⟨g,0,none⟩:Addr).add j=⟨g,j,none⟩:=by unfold Addr.add;split<;>simp_all
 rwa [ha] at this

end Go.Proofs.YtfeebdcmlnapiaaGreat.K

namespace Go.Proofs.YtfeebdcmlnapiaaGreat
open Go.RowKit P5 K
theorem zw {w:World} {p:Addr} {u:Value} (h:w.cell? p=some u):p.block<w.heap.size:=by
 rcases Nat.lt_or_ge p.block w.heap.size with h1|h1
 ·exact h1
 ·simp[World.cell?,Array.getElem?_eq_none h1] at h

theorem cell_spot {w:World} {p:Addr} {u:Value} (h:w.cell? p=some u):p.spot=none:=by
 unfold World.cell? at h
 split at h
 ·split at h
  ·cases h
  ·simp_all
 ·cases h

theorem run_indexAt_slice {P:Program} (wx:World) (t e:TypeId) (k:Nat) (ht:P.underlying t=some (.slice e)) (hi:(P.info? e).map (·.size)=some k) (b o n cap i:Nat) (h:i<n) :
  (Instr.indexAt t (.slice (some ⟨b,o,none⟩) n cap) (.int .i64 (i:Int))).run P wx=.ok (.pointer (some ⟨b,o+i * k,none⟩)) wx:=by
 cases hq:P.info? e with
 | none=>simp[hq] at hi
 | some x =>
  have hs:x.size=k:=by simpa [hq] using hi
  have h1:(0:Int)≤(i:Int)∧(i:Int)<(n:Int):=by omega
  simp[Instr.indexAt,asIntOf,Sem.run_bind,run_underlying ht wx,sizeOf,typeInfo,hq,hs,h1,h,Addr.add_mid]

theorem y17 {w:World} {base:Nat} {e:TypeId} {g n cap:Nat} {xs:Zvs} (h:w.ownsRow base e 3 (.slice (some ⟨g,0,none⟩) n cap) n xs) (j:Nat) (hj:j<n) :
  (∃ u,w.cell? ⟨g,j * 3,none⟩=some u)∧(∃ u,w.cell? ⟨g,j * 3+1,none⟩=some u)∧(∃ u,w.cell? ⟨g,j * 3+2,none⟩=some u):=by
 have hl:=h.1
 exact⟨⟨_,by rw[h.cellAt (j * 3) (by omega),List.getElem?_eq_getElem (by omega)]⟩,⟨_,by rw[h.cellAt (j * 3+1) (by omega),List.getElem?_eq_getElem (by omega)]⟩,⟨_,by rw[h.cellAt (j * 3+2) (by omega),List.getElem?_eq_getElem (by omega)]⟩⟩

theorem z3x {w:World} {base:Nat} {e:TypeId} {size:Nat} {v:Value} {n:Nat} {xs:Zvs} (h:w.ownsRow base e size v n xs) {p:Addr} (hp:p.block<base) (u:Value):(w.setCell p u).ownsRow base e size v n xs:=by
 obtain⟨h1,h2⟩:=h
 refine⟨h1,?_⟩
 rcases h2 with h2|⟨g,cap,cur,hv,hg,hh,r⟩
 ·exact Or.inl h2
 ·exact Or.inr ⟨g,cap,cur,hv,hg,(Below.heap_setCell w p u g (by omega)).trans hh,r⟩

theorem zu {w:World} {base base':Nat} {e:TypeId} {size:Nat} {v:Value} {n:Nat} {xs:Zvs} (h:w.ownsRow base e size v n xs) (hb:base'≤base):w.ownsRow base' e size v n xs:=by
 obtain⟨h1,h2⟩:=h
 refine⟨h1,?_⟩
 rcases h2 with h2|⟨g,cap,cur,hv,hg,r⟩
 ·exact Or.inl h2
 ·exact Or.inr ⟨g,cap,cur,hv,by omega,r⟩

end Go.Proofs.YtfeebdcmlnapiaaGreat
