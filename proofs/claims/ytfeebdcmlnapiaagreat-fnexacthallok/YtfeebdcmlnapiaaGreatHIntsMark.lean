/-
  Walks.
-/
import Derived.BigQuiet
import Derived.Test.YtfeebdcmlnapiaaGreatHItemsArg
import Derived.Test.YtfeebdcmlnapiaaGreatHPlain9
set_option linter.unusedVariables false
set_option linter.unusedSimpArgs false
namespace Go.Proofs.YtfeebdcmlnapiaaGreat.K
open Go

structure InW (F:World→Prop) where
 w:World
 h:F w

theorem zn {P:Program} {F:World→Prop} {id:Nat} {Q:Exit→Act→World→Prop} {a:Act} {w:World} {l:List Oper} (hm:P.follows .mixedOrders=true) (hB:Region.lexB .any l.toArray=true) (hF:F w.drew)
  (h:wpQuiet P l.toArray (fun w'=>∃ n:InW F,w'=n.w) (fun a'=>∀ w',(∃ n:InW F,w'=n.w)→Q .normal a' w') l a):(Code.region id l.toArray true).wp P Q a w :=
 wp_region_quiet (C:=fun w'=>∃ n:InW F,w'=n.w) hm hB ⟨⟨_,hF⟩,rfl⟩ (by simpa using h)

end Go.Proofs.YtfeebdcmlnapiaaGreat.K

namespace Go.Proofs.YtfeebdcmlnapiaaGreat
open Go.RowKit P5 P9 K

theorem z3o {z:Int} (h0:-1000000000≤z) (h1:z≤1000000000000):(Lit.int .i64 z).wf=true:=by
 simp[Lit.wf,IntKind.min,IntKind.max,IntKind.signed,IntKind.bits]
 omega

end Go.Proofs.YtfeebdcmlnapiaaGreat
