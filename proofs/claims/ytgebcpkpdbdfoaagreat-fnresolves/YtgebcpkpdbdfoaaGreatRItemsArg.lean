/-
  Walks.
-/
import Derived.Test.YtgebcpkpdbdfoaaGreatRFlat
import Derived.Deep.Slices
import Derived.ChangeSame
import Derived.Deep.RegionHeld3
import Derived.Deep.QuietTactic
import Derived.BigQuiet
set_option linter.unusedVariables false
set_option linter.unusedSimpArgs false
namespace Go.Proofs.YtgebcpkpdbdfoaaGreat
open Go.RowKit Go.Deep Go.ChangeShapes Go.WideShapes K

def z06 (x:Int × Int):List Value:=[.int .i64 x.1,.int .i64 x.2]

def ival (x:Int × Int):Value:=.agg #[.int .i64 x.1,.int .i64 x.2]

theorem z2s (x:Int × Int):(z06 x).length=2:=rfl

def z6g (x:Int × Int):Prop:=(Lit.int .i64 x.1).wf=true∧(Lit.int .i64 x.2).wf=true

structure ItemsAt (w:World) (oa:Option Addr) (n cap:Nat) (s:List (Int × Int)):Prop where
 len:s.length=n
 room:n≤cap
 most:cap≤maxLen
 at_:∀ (i:Nat) (x:Int × Int),s[i]? = some x→∃ b o,oa=some ⟨b,o,none⟩∧∀ (j:Nat) u,(z06 x)[j]? = some u→w.cell? ⟨b,o+i * 2+j,none⟩=some u

theorem ItemsAt.below {w w':World} {oa:Option Addr} {n cap:Nat} {s:List (Int × Int)} (h:ItemsAt w oa n cap s) (hb:Below w.heap.size w w'):ItemsAt w' oa n cap s :=
 ⟨h.len,h.room,h.most,fun i f hf=>by
  obtain⟨b,o,ha,hc⟩:=h.at_ i f hf
  refine⟨b,o,ha,fun j u hu=>?_⟩
  have h1:=hc j u hu
  rw[hb.cell (z0d h1)]
  exact h1⟩

theorem zi8 (w:World):ItemsAt w none 0 0 []:=⟨rfl,Nat.le_refl _,by unfold maxLen;omega,fun i x hx=>by simp at hx⟩

theorem ItemsAt.get {w:World} {oa:Option Addr} {n cap:Nat} {s:List (Int × Int)} (h:ItemsAt w oa n cap s) {P:Program} {t e:TypeId} (ht:P.underlying t=some (.slice e)) (hi:(P.info? e).map (·.size)=some 2) (i:Nat) (hin:i<n) :
  ∃ x b q,s[i]? = some x∧(∀ wx,(Instr.indexAt t (.slice oa n cap) (.int .i64 (i:Int))).run P wx=.ok (.pointer (some ⟨b,q,none⟩)) wx)∧b<w.heap.size ∧
   w.cell? ⟨b,q,none⟩=some (.int .i64 x.1)∧w.cell? ⟨b,q+1,none⟩=some (.int .i64 x.2):=by
 obtain⟨f,hf⟩:∃ f,s[i]? = some f:=⟨_,List.getElem?_eq_getElem (by rw[h.len];exact hin)⟩
 obtain⟨b,o,rfl,hc⟩:=h.at_ i f hf
 refine⟨f,b,o+i * 2,hf,fun wx=>run_indexAt_slice wx t e 2 ht hi b o n cap i hin,?_,hc 0 _ rfl,hc 1 _ rfl⟩
 exact z0d (hc 0 _ rfl)

theorem z03 {w:World} {base:Nat} {e:TypeId} {v:Value} {n:Nat} {s:List (Int × Int)} (h:w.ownsRow base e 2 v n (s.flatMap z06)) :
  ∃ oa cap,v=.slice oa n cap∧ItemsAt w oa n cap s:=by
 have hlen:s.length=n:=by
  have:=h.1
  rw[z3c z06 2 z2s] at this
  omega
 rcases h.2 with ⟨rfl,rfl⟩|⟨g,cap,cur,rfl,hb,hg,hnc,hcm,hcs,htake⟩
 ·have:s=[]:=List.eq_nil_of_length_eq_zero hlen
  subst this
  exact⟨none,0,rfl,zi8 w⟩
 ·refine⟨some ⟨g,0,none⟩,cap,rfl,⟨hlen,hnc,hcm,fun i f hf=>⟨g,0,rfl,fun j u hu=>?_⟩⟩⟩
  have hi:i<s.length:=(List.getElem?_eq_some_iff.1 hf).1
  have hfe:s[i]=f:=(List.getElem?_eq_some_iff.1 hf).2
  have hj:j<2:=by simpa [z06] using (List.getElem?_eq_some_iff.1 hu).1
  have h3:=flat_get z06 2 z2s s i j hi hj
  rw[hfe,hu] at h3
  rw[Nat.zero_add]
  rw[h.cellAt (i * 2+j) (by omega),h3]

theorem zh6 {P:Program} {w:World} {ops:Array Oper} {o:Oper} {a:Act} {K:Act→World→Prop} {Q:Exit→Act→World→Prop} {E:Prop} (hgd:o.guard=none) (s x:Operand) (t:TypeId)
  (ho:o.op=.call { callee:=.builtin .append,args:=#[s,x],argTypes:=#[t,t] })
  {base:Nat} {e:TypeId} {z:Value} {bytes:Nat} (ht:P.underlying t=some (.slice e)) (hi:(P.info? e).map (fun i=>(i.zero,i.size,i.bytes))=some (some z,2,bytes)) (hzs:z.cells.size=2)
  {v:Value} {n:Nat} {xs:List Value} (hs:a.eval s=v) (hown:w.ownsRow base e 2 v n xs)
  {b c:Nat} {cs:Array Value} (hx:a.eval x=.slice (some ⟨b,0,none⟩) 1 c) (hm:cs.toList.length=2) (hb:w.heap[b]? = some (.cells cs e (0,0))) (hu:∀ u∈cs.toList,u.oneCell'=true)
  (hbase:base≤w.heap.size) (h63:n+1≤maxLen) (hbytes:(n+1) * bytes≤140737488355328)
  (h:∀ v' w',w'.ownsRow base e 2 v' (n+1) (xs++cs.toList)→w.grownBy w' v.ownBlock→K (a.put o.dst v') w') :
  if Region.wanted o (yielded ops a.tmps)=true then Oper.wp P o a w K Q else E:=by
 obtain⟨i,hi,hz,h1,h2⟩:=info_parts hi
 have hw:Region.wanted o (yielded ops a.tmps)=true:=by simp[Region.wanted,hgd]
 rw[if_pos hw]
 refine wp_append_own w s x t ho base e i z 2 bytes ht hi hz h1 h2 hzs (by decide) v n xs hs hown ⟨b,0,none⟩ 1 c cs.toList hx (by rw[hm]) (World.news_of_block hb) hu h63 hbytes hbase ?_
 intro v' w' hown' hgrow _
 exact h v' w' hown' hgrow

section
variable {H:Type} {enc:TypeId × Value→H} {P:Program} {w:World} {base:Nat} {held:Bool}

end

end Go.Proofs.YtgebcpkpdbdfoaaGreat

namespace Go.Proofs.YtgebcpkpdbdfoaaGreat
open Go.RowKit P5 K

structure IntsAt (w:World) (oa:Option Addr) (n cap:Nat) (zs:List Int):Prop where
 len:zs.length=n
 room:n≤cap
 most:cap≤maxLen
 fits:∀ z∈zs,(Lit.int .i64 z).wf=true
 at_:∀ (i:Nat) (z:Int),zs[i]? = some z→∃ b o,oa=some ⟨b,o,none⟩∧w.cell? ⟨b,o+i,none⟩=some (.int .i64 z)

theorem IntsAt.below {w w':World} {oa:Option Addr} {n cap:Nat} {zs:List Int} (h:IntsAt w oa n cap zs) (hb:Below w.heap.size w w'):IntsAt w' oa n cap zs :=
 ⟨h.len,h.room,h.most,h.fits,fun i z hz=>by
  obtain⟨b,o,ha,hc⟩:=h.at_ i z hz
  exact⟨b,o,ha,by rw[hb.cell (z0d hc)];exact hc⟩⟩

theorem IntsAt.get {w:World} {oa:Option Addr} {n cap:Nat} {zs:List Int} (h:IntsAt w oa n cap zs) {P:Program} {t e:TypeId} (ht:P.underlying t=some (.slice e)) (hi:(P.info? e).map (·.size)=some 1) (i:Nat) (hin:i<n) :
  ∃ z b q,zs[i]? = some z∧(∀ wx,(Instr.indexAt t (.slice oa n cap) (.int .i64 (i:Int))).run P wx=.ok (.pointer (some ⟨b,q,none⟩)) wx)∧b<w.heap.size∧w.cell? ⟨b,q,none⟩=some (.int .i64 z)∧(Lit.int .i64 z).wf=true:=by
 obtain⟨z,hz⟩:∃ z,zs[i]? = some z:=⟨_,List.getElem?_eq_getElem (by rw[h.len];exact hin)⟩
 obtain⟨b,o,rfl,hc⟩:=h.at_ i z hz
 refine⟨z,b,o+i,hz,fun wx=>?_,z0d hc,hc,h.fits z (List.mem_of_getElem? hz)⟩
 have:=run_indexAt_slice wx t e 1 ht hi b o n cap i hin
 rwa [Nat.mul_one] at this

def zu (z:Int):Value:=.int .i64 z

theorem z0b {w:World} {base:Nat} {e:TypeId} {v:Value} {n:Nat} {zs:List Int} (h:w.ownsRow base e 1 v n (zs.map zu)) (hf:∀ z∈zs,(Lit.int .i64 z).wf=true) :
  ∃ oa cap,v=.slice oa n cap∧IntsAt w oa n cap zs:=by
 have hlen:zs.length=n:=by have:=h.1;simpa using this
 rcases h.2 with ⟨rfl,rfl⟩|⟨g,cap,cur,rfl,hb,hg,hnc,hcm,hcs,htake⟩
 ·have:zs=[]:=List.eq_nil_of_length_eq_zero hlen
  subst this
  exact⟨none,0,rfl,⟨rfl,Nat.le_refl _,by unfold maxLen;omega,hf,fun i f hf=>by simp at hf⟩⟩
 ·refine⟨some ⟨g,0,none⟩,cap,rfl,⟨hlen,hnc,hcm,hf,fun i z hz=>⟨g,0,rfl,?_⟩⟩⟩
  have hi:i<zs.length:=(List.getElem?_eq_some_iff.1 hz).1
  rw[Nat.zero_add,h.cellAt i (by omega)]
  simp[hz,zu]

theorem z0m:(Tryz.prog.info? 3).map (·.size)=some 1:=by kernel_rfl

theorem z11:(Tryz.prog.info? 3).map (fun i=>(i.zero,i.size,i.bytes))=some (some (.int .i64 0),1,8):=by kernel_rfl

end Go.Proofs.YtgebcpkpdbdfoaaGreat
