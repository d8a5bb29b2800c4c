/-
  Walks and mathematics of Flat, ArgFlat, Walk3a, Flat2.
-/
import Derived.Test.YtgebcpkpdbdfoaaGreatQPlain5
import Derived.Deep.Slices
import Derived.ChangeSame
import Derived.Test.YtgebcpkpdbdfoaaGreatRows
import Derived.WalkSmall
import Derived.Deep.MidRow
import Derived.Laws.OwnMore
set_option linter.unusedVariables false
namespace Go.Proofs.YtgebcpkpdbdfoaaGreat.K
open Go.RowKit

theorem z3c {α:Type} (f:α→List Value) (k:Nat) (hk:∀ x,(f x).length=k):∀ xs:List α,(xs.flatMap f).length=xs.length * k
 | []=>by simp
 | x :: xs=>by
  rw[List.flatMap_cons,List.length_append,hk,z3c f k hk xs,List.length_cons,Nat.add_mul,Nat.one_mul,Nat.add_comm]

theorem flat_get {α:Type} (f:α→List Value) (k:Nat) (hk:∀ x,(f x).length=k):∀ (xs:List α) (i j:Nat) (hi:i < xs.length),j < k→(xs.flatMap f)[i * k+j]? = (f xs[i])[j]?
 | x :: xs,0,j,_,hj=>by
  rw[List.flatMap_cons,List.getElem?_append_left (by rw[hk];omega)]
  simp
 | x :: xs,i+1,j,hi,hj=>by
  rw[List.flatMap_cons,List.getElem?_append_right (by rw[hk,Nat.add_mul];omega),hk,show (i+1) * k+j - k=i * k+j by rw[Nat.add_mul];omega]
  rw[flat_get f k hk xs i j (by simpa using hi) hj]
  simp

theorem zmd {w:World} {base:Nat} {e:TypeId} {size g n cap:Nat} {xs:List Value} (h:w.ownsRow base e size (.slice (some ⟨g,0,none⟩) n cap) n xs) (j:Nat) (u:Value) (hu:xs[j]? = some u):w.cell? ⟨g,j,none⟩=some u:=by
 have:=h.cells (g:=g) rfl j u hu
 have ha:(⟨g,0,none⟩:Addr).add j=⟨g,j,none⟩:=by unfold Addr.add;split <;> simp_all
 rwa [ha] at this

end Go.Proofs.YtgebcpkpdbdfoaaGreat.K

namespace Go.Proofs.YtgebcpkpdbdfoaaGreat
open Go.RowKit Go.Deep Go.ChangeShapes Go.WideShapes P5 K

def zme (f:z6f):List Value:=[.string ⟨f.name.toArray⟩,.string ⟨f.text.toArray⟩,.int .i64 f.kept]

section
variable {H:Type} {enc:TypeId × Value→H} {P:Program} {w:World} {base:Nat} {spare:Nat→Bool} {held:Bool}

end

end Go.Proofs.YtgebcpkpdbdfoaaGreat

namespace Go.Proofs.YtgebcpkpdbdfoaaGreat
open Go.RowKit P5 K

theorem z0d {w:World} {p:Addr} {u:Value} (h:w.cell? p=some u):p.block < w.heap.size:=by
 rcases Nat.lt_or_ge p.block w.heap.size with h1 | h1
 ·exact h1
 ·simp[World.cell?,Array.getElem?_eq_none h1] at h

structure FilesAt (w:World) (oa:Option Addr) (n cap:Nat) (fs:List z6f):Prop where
 len:fs.length=n
 room:n≤cap
 most:cap≤maxLen
 at_:∀ (i:Nat) (f:z6f),fs[i]? = some f→∃ b o,oa=some ⟨b,o,none⟩∧∀ (j:Nat) u,(zme f)[j]? = some u→w.cell? ⟨b,o+i * 3+j,none⟩=some u

theorem FilesAt.below {w w':World} {oa:Option Addr} {n cap:Nat} {fs:List z6f} (h:FilesAt w oa n cap fs) (hb:Below w.heap.size w w'):FilesAt w' oa n cap fs :=
 ⟨h.len,h.room,h.most,fun i f hf=>by
  obtain⟨b,o,ha,hc⟩:=h.at_ i f hf
  refine⟨b,o,ha,fun j u hu=>?_⟩
  have h1:=hc j u hu
  rw[hb.cell (z0d h1)]
  exact h1⟩

theorem run_indexAt_slice {P:Program} (wx:World) (t e:TypeId) (k:Nat) (ht:P.underlying t=some (.slice e)) (hi:(P.info? e).map (·.size)=some k) (b o n cap i:Nat) (h:i < n) :
  (Instr.indexAt t (.slice (some ⟨b,o,none⟩) n cap) (.int .i64 (i:Int))).run P wx=.ok (.pointer (some ⟨b,o+i * k,none⟩)) wx:=by
 cases hq:P.info? e with
 | none=>simp[hq] at hi
 | some x =>
  have hs:x.size=k:=by simpa [hq] using hi
  have h1:(0:Int)≤(i:Int)∧(i:Int) < (n:Int):=by omega
  simp[Instr.indexAt,asIntOf,Sem.run_bind,run_underlying ht wx,sizeOf,typeInfo,hq,hs,h1,h,Addr.add_mid]

theorem FilesAt.get {w:World} {oa:Option Addr} {n cap:Nat} {fs:List z6f} (h:FilesAt w oa n cap fs) {P:Program} {t e:TypeId} (ht:P.underlying t=some (.slice e)) (hi:(P.info? e).map (·.size)=some 3) (i:Nat) (hin:i < n) :
  ∃ f b q,fs[i]? = some f∧(∀ wx,(Instr.indexAt t (.slice oa n cap) (.int .i64 (i:Int))).run P wx=.ok (.pointer (some ⟨b,q,none⟩)) wx)∧b < w.heap.size ∧
   w.cell? ⟨b,q,none⟩=some (.string ⟨f.name.toArray⟩)∧w.cell? ⟨b,q+1,none⟩=some (.string ⟨f.text.toArray⟩)∧w.cell? ⟨b,q+2,none⟩=some (.int .i64 f.kept):=by
 obtain⟨f,hf⟩:∃ f,fs[i]? = some f:=⟨_,List.getElem?_eq_getElem (by rw[h.len];exact hin)⟩
 obtain⟨b,o,rfl,hc⟩:=h.at_ i f hf
 refine⟨f,b,o+i * 3,hf,fun wx=>run_indexAt_slice wx t e 3 ht hi b o n cap i hin,?_,hc 0 _ rfl,hc 1 _ rfl,hc 2 _ rfl⟩
 exact z0d (hc 0 _ rfl)

end Go.Proofs.YtgebcpkpdbdfoaaGreat

namespace Go.Proofs.YtgebcpkpdbdfoaaGreat
open Go.RowKit P5 K

theorem z8c {w:World} {base:Nat} {e:TypeId} {size:Nat} {v:Value} {n:Nat} {xs:List Value} (h:w.ownsRow base e size v n xs) {p:Addr} (hp:p.block < base) (u:Value):(w.setCell p u).ownsRow base e size v n xs:=by
 obtain⟨h1,h2⟩:=h
 refine⟨h1,?_⟩
 rcases h2 with h2 | ⟨g,cap,cur,hv,hg,hh,r⟩
 ·exact Or.inl h2
 ·exact Or.inr ⟨g,cap,cur,hv,hg,(Below.heap_setCell w p u g (by omega)).trans hh,r⟩

theorem zq {w:World} {base base':Nat} {e:TypeId} {size:Nat} {v:Value} {n:Nat} {xs:List Value} (h:w.ownsRow base e size v n xs) (hb:base'≤base):w.ownsRow base' e size v n xs:=by
 obtain⟨h1,h2⟩:=h
 refine⟨h1,?_⟩
 rcases h2 with h2 | ⟨g,cap,cur,hv,hg,r⟩
 ·exact Or.inl h2
 ·exact Or.inr ⟨g,cap,cur,hv,by omega,r⟩

end Go.Proofs.YtgebcpkpdbdfoaaGreat
