/-
  Walks.
-/
import Derived.Test.YtgebcpkpdbdfoaaGreatRPlain9
import Derived.Test.YtgebcpkpdbdfoaaGreatRFlat
import Derived.Test.YtgebcpkpdbdfoaaGreatRItemsArg
import Derived.Test.YtgebcpkpdbdfoaaGreatRBox
import Derived.Test.YtgebcpkpdbdfoaaGreatRIntsMark
import Derived.Test.YtgebcpkpdbdfoaaGreatRBase
import Derived.Lib.SmallJoins
import Derived.ChangeSlices
import Derived.WideShapes
import Derived.Deep.Slices
import Derived.ChangeSame
import Derived.Test.YtgebcpkpdbdfoaaGreatRPlain5
set_option linter.unusedVariables false
set_option linter.unusedSimpArgs false
namespace Go.Proofs.YtgebcpkpdbdfoaaGreat
open Go.RowKit P9 P12 K

abbrev zh (id kd sn us mb dp:Int) (xl xp:Value) (tx:List UInt8):Array Value:=#[.int .i64 id,.int .i64 kd,.int .i64 sn,.int .i64 us,.int .i64 mb,xl,.string ⟨tx.toArray⟩,xp,.int .i64 dp]

abbrev z2g (id kd sn us mb dp:Int) (xl xp:Value) (tx:List UInt8):Value:=.agg #[.int .i64 id,.int .i64 kd,.int .i64 sn,.int .i64 us,.int .i64 mb,xl,.string ⟨tx.toArray⟩,xp,.int .i64 dp]

structure EV (w:World) (b:Nat) (id kd sn us mb dp:Int) (xl xp:Value) (tx:List UInt8):Prop where
 c0:w.cell? ⟨b,0,none⟩=some (.int .i64 id)
 c1:w.cell? ⟨b,1,none⟩=some (.int .i64 kd)
 c2:w.cell? ⟨b,2,none⟩=some (.int .i64 sn)
 c3:w.cell? ⟨b,3,none⟩=some (.int .i64 us)
 c4:w.cell? ⟨b,4,none⟩=some (.int .i64 mb)
 c5:w.cell? ⟨b,5,none⟩=some xl
 c6:w.cell? ⟨b,6,none⟩=some (.string ⟨tx.toArray⟩)
 c7:w.cell? ⟨b,7,none⟩=some xp
 c8:w.cell? ⟨b,8,none⟩=some (.int .i64 dp)

section
variable {w w':World} {b:Nat} {id kd sn us mb dp:Int} {xl xp:Value} {tx:List UInt8}

theorem EV.lt (h:EV w b id kd sn us mb dp xl xp tx):b<w.heap.size:=z0d h.c0

theorem EV.on (h:EV w b id kd sn us mb dp xl xp tx) (hb:Below w.heap.size w w'):EV w' b id kd sn us mb dp xl xp tx :=
 ⟨(hb.cell h.lt).trans h.c0,(hb.cell h.lt).trans h.c1,(hb.cell h.lt).trans h.c2,(hb.cell h.lt).trans h.c3,(hb.cell h.lt).trans h.c4,(hb.cell h.lt).trans h.c5,(hb.cell h.lt).trans h.c6,(hb.cell h.lt).trans h.c7,(hb.cell h.lt).trans h.c8⟩

theorem EV.drew (h:EV w b id kd sn us mb dp xl xp tx):EV w.drew b id kd sn us mb dp xl xp tx:=h.on (Below.refl _ _).drew

theorem EV.new (w:World) (id kd sn us mb dp:Int) (xl xp:Value) (tx:List UInt8) (ty:TypeId):EV (w.alloc (.cells #[.int .i64 id,.int .i64 kd,.int .i64 sn,.int .i64 us,.int .i64 mb,xl,.string ⟨tx.toArray⟩,xp,.int .i64 dp] ty)) w.heap.size id kd sn us mb dp xl xp tx:=⟨by simp,by simp,by simp,by simp,by simp,by simp,by simp,by simp,by simp⟩
end

def EB (w:World) (b:Nat) (id kd sn us mb dp:Int) (xl xp:Value) (tx:List UInt8):Prop:=w.heap[b]? = some (.cells (zh id kd sn us mb dp xl xp tx) 47 (0,0))

section
variable {w w':World} {b:Nat} {id kd sn us mb dp:Int} {xl xp:Value} {tx:List UInt8}

theorem EB.new (w:World) (id kd sn us mb dp:Int) (xl xp:Value) (tx:List UInt8):EB (w.alloc (.cells (zh id kd sn us mb dp xl xp tx) 47)) w.heap.size id kd sn us mb dp xl xp tx:=heap_alloc_new _ _

theorem EB.lt (h:EB w b id kd sn us mb dp xl xp tx):b<w.heap.size:=zf h

theorem EB.on {B:Nat} (h:EB w b id kd sn us mb dp xl xp tx) (hb:Below B w w') (hlt:b<B):EB w' b id kd sn us mb dp xl xp tx:=(hb.block b hlt).trans h

theorem EB.kept {row:Option Nat} (h:EB w b id kd sn us mb dp xl xp tx) (hg:w.grownBy w' row) (hne:row≠some b):EB w' b id kd sn us mb dp xl xp tx:=(hg.block b h.lt (fun e=>hne e.symm)).trans h

theorem EB.ev (h:EB w b id kd sn us mb dp xl xp tx):EV w b id kd sn us mb dp xl xp tx:=⟨za h 0 rfl,za h 1 rfl,za h 2 rfl,za h 3 rfl,za h 4 rfl,za h 5 rfl,za h 6 rfl,za h 7 rfl,za h 8 rfl⟩

theorem EB.free (h:EB w b id kd sn us mb dp xl xp tx) (j:Nat):w.frozen? ⟨b,j,none⟩=false:=zn h j

theorem EB.set (h:EB w b id kd sn us mb dp xl xp tx) {k:Nat} {p:Nat} (v:Value) (hne:p≠b):EB (w.setCell ⟨p,k,none⟩ v) b id kd sn us mb dp xl xp tx:=h.kept (z01 w p k v) (fun e=>hne (Option.some.inj e))

theorem EB.put0 (h:EB w b id kd sn us mb dp xl xp tx) (v:Int):EB (w.setCell ⟨b,0,none⟩ (.int .i64 v)) b v kd sn us mb dp xl xp tx:=z2m _ h

theorem EB.put1 (h:EB w b id kd sn us mb dp xl xp tx) (v:Int):EB (w.setCell ⟨b,1,none⟩ (.int .i64 v)) b id v sn us mb dp xl xp tx:=z2m _ h

theorem EB.put2 (h:EB w b id kd sn us mb dp xl xp tx) (v:Int):EB (w.setCell ⟨b,2,none⟩ (.int .i64 v)) b id kd v us mb dp xl xp tx:=z2m _ h

theorem EB.put3 (h:EB w b id kd sn us mb dp xl xp tx) (v:Int):EB (w.setCell ⟨b,3,none⟩ (.int .i64 v)) b id kd sn v mb dp xl xp tx:=z2m _ h

theorem EB.put4 (h:EB w b id kd sn us mb dp xl xp tx) (v:Int):EB (w.setCell ⟨b,4,none⟩ (.int .i64 v)) b id kd sn us v dp xl xp tx:=z2m _ h

theorem EB.put5 (h:EB w b id kd sn us mb dp xl xp tx) (v:Value):EB (w.setCell ⟨b,5,none⟩ v) b id kd sn us mb dp v xp tx:=z2m _ h

theorem EB.put6 (h:EB w b id kd sn us mb dp xl xp tx) (v:List UInt8):EB (w.setCell ⟨b,6,none⟩ (.string ⟨v.toArray⟩)) b id kd sn us mb dp xl xp v:=z2m _ h

theorem EB.put7 (h:EB w b id kd sn us mb dp xl xp tx) (v:Value):EB (w.setCell ⟨b,7,none⟩ v) b id kd sn us mb dp xl v tx:=z2m _ h

theorem EB.put8 (h:EB w b id kd sn us mb dp xl xp tx) (v:Int):EB (w.setCell ⟨b,8,none⟩ (.int .i64 v)) b id kd sn us mb v xl xp tx:=z2m _ h

theorem EB.all (h:EB w b id kd sn us mb dp xl xp tx) (id' kd' sn' us' mb' dp':Int) (xl' xp':Value) (tx':List UInt8):∃ W',(((((((((w.setCell ⟨b,0,none⟩ (.int .i64 id')).setCell ⟨b,1,none⟩ (.int .i64 kd')).setCell ⟨b,2,none⟩ (.int .i64 sn')).setCell ⟨b,3,none⟩ (.int .i64 us')).setCell ⟨b,4,none⟩ (.int .i64 mb')).setCell ⟨b,5,none⟩ xl').setCell ⟨b,6,none⟩ (.string ⟨tx'.toArray⟩)).setCell ⟨b,7,none⟩ xp').setCell ⟨b,8,none⟩ (.int .i64 dp'))=W'∧EB W' b id' kd' sn' us' mb' dp' xl' xp' tx'∧w.grownBy W' (some b) :=
 ⟨_,rfl,(((((((((h.put0 id').put1 kd').put2 sn').put3 us').put4 mb').put5 xl').put6 tx').put7 xp').put8 dp'),zm (zm (zm (zm (zm (zm (zm (zm (z01 _ _ _ _) (z01 _ _ _ _)) (z01 _ _ _ _)) (z01 _ _ _ _)) (z01 _ _ _ _)) (z01 _ _ _ _)) (z01 _ _ _ _)) (z01 _ _ _ _)) (z01 _ _ _ _)⟩
end

section
variable {w w':World} {b:Nat} {id kd sn us mb dp:Int} {xl xp:Value} {tx:List UInt8}

end

end Go.Proofs.YtgebcpkpdbdfoaaGreat

namespace Go.Proofs.YtgebcpkpdbdfoaaGreat
open Go.RowKit Go.Deep Go.ChangeShapes Go.WideShapes P5 K

theorem z4b (W:World):IntsAt W none 0 0 []:=⟨rfl,Nat.le_refl _,by unfold maxLen;omega,fun z hz=>by simp at hz,fun i z hz=>by simp at hz⟩

end Go.Proofs.YtgebcpkpdbdfoaaGreat

namespace Go.Proofs.YtgebcpkpdbdfoaaGreat
open Go.RowKit Go.Deep Go.ChangeShapes Go.WideShapes P5 P12 K

def evL (e:EvV) (xa:Option Addr) (xc:Nat) (ya:Option Addr) (yc:Nat):List Value :=
 [.int .i64 e.id,.int .i64 e.kind,.int .i64 e.sender,.int .i64 e.user,.int .i64 e.member,.slice xa e.levels.length xc,.string ⟨e.text.toArray⟩,.slice ya e.prev.length yc,.int .i64 e.depth]

structure EvAt (w:World) (b o:Nat) (e:EvV) (xa:Option Addr) (xc:Nat) (ya:Option Addr) (yc:Nat):Prop where
 cell:∀ (j:Nat) (u:Value),(evL e xa xc ya yc)[j]? = some u→w.cell? ⟨b,o+j,none⟩=some u
 lev:IntsAt w xa e.levels.length xc e.levels
 prv:IntsAt w ya e.prev.length yc e.prev
 txt:e.text.length≤maxLen

theorem EvAt.lt {w:World} {b o:Nat} {e:EvV} {xa:Option Addr} {xc:Nat} {ya:Option Addr} {yc:Nat} (h:EvAt w b o e xa xc ya yc):b<w.heap.size:=z0d (h.cell 0 _ rfl)

theorem EvAt.below {w w':World} {b o:Nat} {e:EvV} {xa:Option Addr} {xc:Nat} {ya:Option Addr} {yc:Nat} (h:EvAt w b o e xa xc ya yc) (hb:Below w.heap.size w w'):EvAt w' b o e xa xc ya yc :=
 ⟨fun j u hu=>(hb.cell (by exact h.lt)).trans (h.cell j u hu),h.lev.below hb,h.prv.below hb,h.txt⟩

structure EvsAt (w:World) (oa:Option Addr) (n cap:Nat) (es:List EvV):Prop where
 len:es.length=n
 room:n≤cap
 most:cap≤maxLen
 at_:∀ (i:Nat) (e:EvV),es[i]? = some e→∃ b o xa xc ya yc,oa=some ⟨b,o,none⟩∧EvAt w b (o+i * 9) e xa xc ya yc

theorem EvsAt.below {w w':World} {oa:Option Addr} {n cap:Nat} {es:List EvV} (h:EvsAt w oa n cap es) (hb:Below w.heap.size w w'):EvsAt w' oa n cap es :=
 ⟨h.len,h.room,h.most,fun i e he=>by
  obtain⟨b,o,xa,xc,ya,yc,h1,h2⟩:=h.at_ i e he
  exact⟨b,o,xa,xc,ya,yc,h1,h2.below hb⟩⟩

theorem EvsAt.get {w:World} {oa:Option Addr} {n cap:Nat} {es:List EvV} (h:EvsAt w oa n cap es) {P:Program} {t e:TypeId} (ht:P.underlying t=some (.slice e)) (hi:(P.info? e).map (·.size)=some 9) (i:Nat) (hin:i<n) :
  ∃ ev b q xa xc ya yc,es[i]? = some ev∧(∀ wx,(Instr.indexAt t (.slice oa n cap) (.int .i64 (i:Int))).run P wx=.ok (.pointer (some ⟨b,q,none⟩)) wx)∧EvAt w b q ev xa xc ya yc:=by
 obtain⟨ev,hev⟩:∃ ev,es[i]? = some ev:=⟨_,List.getElem?_eq_getElem (by rw[h.len];exact hin)⟩
 obtain⟨b,o,xa,xc,ya,yc,rfl,h2⟩:=h.at_ i ev hev
 exact⟨ev,b,o+i * 9,xa,xc,ya,yc,hev,fun wx=>run_indexAt_slice wx t e 9 ht hi b o n cap i hin,h2⟩

section
variable {H:Type} {enc:TypeId × Value→H} {P:Program} {w:World} {base:Nat} {held:Bool}

end

end Go.Proofs.YtgebcpkpdbdfoaaGreat
