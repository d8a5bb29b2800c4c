/-
  Walks.
-/
import Derived.BigQuiet
import Derived.Below
import Derived.Test.YtfeebdcmlnapiaaGreatTItemsArg
import Derived.Test.YtfeebdcmlnapiaaGreatTPlain1
set_option linter.unusedVariables false
set_option linter.unusedSimpArgs false
namespace Go.Proofs.YtfeebdcmlnapiaaGreat.K
open Go

structure InW (F:World→Prop) where
 w:World
 h:F w

theorem zn {P:Program} {F:World→Prop} {id:Nat} {Q:Exit→Act→World→Prop} {a:Act} {w:World} {l:List Oper} (hm:P.follows .mixedOrders=true) (hB:Region.lexB .any l.toArray=true) (hF:F w.drew)
  (h:wpQuiet P l.toArray (fun w'=>∃ n:InW F,w'=n.w) (fun a'=>∀ w',(∃ n:InW F,w'=n.w)→Q .normal a' w') l a):(Code.region id l.toArray true).wp P Q a w :=
 wp_region_quiet (C:=fun w'=>∃ n:InW F,w'=n.w) hm hB ⟨⟨_,hF⟩,rfl⟩ (by simpa using h)

theorem ciW {w:World} {a:Addr} {u:Value} (h:w.cell? a=some u):∀ m:InW (fun w'=>RowKit.Below w.heap.size w w'),m.w.cell? a=some u:=fun m=>(m.h.cell (World.block_lt_of_cell? _ _ h)).trans h

abbrev iwW {w2:World} {m:InW (fun w'=>RowKit.Below w2.heap.size w2 w')} {w3:World} (h:RowKit.Below m.w.heap.size m.w w3):InW (fun w'=>RowKit.Below w2.heap.size w2 w'):=⟨w3,m.h.trans (h.mono m.h.size)⟩

end Go.Proofs.YtfeebdcmlnapiaaGreat.K

namespace Go.Proofs.YtfeebdcmlnapiaaGreat
open Go.RowKit P5 P9 K

theorem z3o {z:Int} (h0:-1000000000≤z) (h1:z≤1000000000000):(Lit.int .i64 z).wf=true:=by
 simp[Lit.wf,IntKind.min,IntKind.max,IntKind.signed,IntKind.bits]
 omega

end Go.Proofs.YtfeebdcmlnapiaaGreat
