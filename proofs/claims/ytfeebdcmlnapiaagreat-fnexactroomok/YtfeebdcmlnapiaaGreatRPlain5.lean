/-
  Walks.
-/
import Derived.WalkKit
import Derived.WalkSpells
import Derived.Laws.IdiomStrings
import Derived.Deep.AppendLies
namespace Go.Proofs.YtfeebdcmlnapiaaGreat.P5

structure zoh where
 name:List UInt8
 text:List UInt8
 kept:Int
deriving DecidableEq

def leftOf (f:zoh) (n:Int):Nat:=(max (min n (f.text.length:Int)) f.kept).toNat

end Go.Proofs.YtfeebdcmlnapiaaGreat.P5

namespace Go.Proofs.YtfeebdcmlnapiaaGreat.K
open Go.RowKit

theorem hide {p:Prop} (h:p):Hid p:=h

abbrev Bw (w w':World):Prop:=Below w.heap.size w w'

theorem own_below {w w':World} {base:Nat} {e:TypeId} {size:Nat} {v:Value} {n:Nat} {xs:List Value} (h:w.ownsRow base e size v n xs) (hb:Below w.heap.size w w'):w'.ownsRow base e size v n xs:=by
 obtain⟨h1,h2⟩:=h
 refine⟨h1,?_⟩
 rcases h2 with h2|⟨g,cap,cur,hv,hg,hh,r⟩
 ·exact Or.inl h2
 ·refine Or.inr ⟨g,cap,cur,hv,hg,?_,r⟩
  rw[hb.block g ?_];exact hh
  rcases Nat.lt_or_ge g w.heap.size with hlt|hge
  ·exact hlt
  ·rw[Array.getElem?_eq_none hge] at hh;cases hh

theorem z00 {a b c:World} {row:Option Nat} (h:a.grownBy b row) (k:b.grownBy c row):a.grownBy c row :=
 ⟨k.os.trans h.os,k.tape.trans h.tape,k.output.trans h.output,Nat.le_trans h.size k.size,fun i hi hne=>(k.block i (Nat.lt_of_lt_of_le hi h.size) hne).trans (h.block i hi hne)⟩

theorem z0y {a b:World} {row:Option Nat} (h:Below a.heap.size a b):a.grownBy b row:=⟨h.os,h.tape,h.output,h.size,fun i hi _=>h.block i hi⟩

end Go.Proofs.YtfeebdcmlnapiaaGreat.K
