/-
  Walks.
-/
import Derived.Test.YtfeebdcmlnapiaaGreatRows
import Derived.Test.YtfeebdcmlnapiaaGreatHPlain5
import Derived.Test.YtfeebdcmlnapiaaGreatHPlain9
import Derived.Test.YtfeebdcmlnapiaaGreatHItemsArg
set_option linter.unusedVariables false
set_option linter.unusedSimpArgs false
namespace Go.Proofs.YtfeebdcmlnapiaaGreat
open Go.RowKit K

abbrev bl (s:ByteArray):List UInt8:=s.data.toList

end Go.Proofs.YtfeebdcmlnapiaaGreat

namespace Go.Proofs.YtfeebdcmlnapiaaGreat
open Go.RowKit K

theorem z01 (x a b:Int) (h0:a≤x) (h1:x≤b) (w:World) :
  Calls Tryz.prog 39 #[.int .i64 x,.int .i64 a,.int .i64 b] w fun e w'=>e=.returned (.bool true)∧w=w':=by
 go_enter Tryz.func39,Tryz.ntmps39
 go_wp2
 go_ret
 exact⟨rfl,rfl⟩

theorem z05 (x a b:Int) (h:x<a∨b<x) (w:World) :
  Calls Tryz.prog 39 #[.int .i64 x,.int .i64 a,.int .i64 b] w fun e w'=>e=.returned (.bool false)∧w=w':=by
 by_cases h0:x<a
 ·go_enter Tryz.func39,Tryz.ntmps39
  go_wp2
  go_ret
  exact⟨rfl,rfl⟩
 ·have h1:¬ x≤b:=by omega
  have h2:a≤x:=by omega
  clear h h0
  go_enter Tryz.func39,Tryz.ntmps39
  go_wp2
  go_ret
  exact⟨rfl,rfl⟩

end Go.Proofs.YtfeebdcmlnapiaaGreat

namespace Go.Proofs.YtfeebdcmlnapiaaGreat
open Go.RowKit P9 K

theorem z4m (x a b:Int) (w:World) :
  Calls Tryz.prog 39 #[.int .i64 x,.int .i64 a,.int .i64 b] w fun e w'=>e=.returned (.bool (decide (a≤x)&&decide (x≤b)))∧w'=w:=by
 by_cases h:a≤x∧x≤b
 ·rw[decide_eq_true h.1,decide_eq_true h.2]
  exact (z01 x a b h.1 h.2 w).mono fun e w' ⟨h1,h2⟩=>⟨h1,h2.symm⟩
 ·have:(decide (a≤x)&&decide (x≤b))=false:=by simp;omega
  rw[this]
  exact (z05 x a b (by omega) w).mono fun e w' ⟨h1,h2⟩=>⟨h1,h2.symm⟩

theorem z5m (x a b:Int) (h0:a≤x) (h1:x≤b) (w:World) :
  Calls Tryz.prog 93 #[.int .i64 x,.int .i64 a,.int .i64 b] w fun e w'=>e=.returned (.bool true)∧w=w':=by
 go_enter Tryz.func93,Tryz.ntmps93
 go_wp2
 go_ret
 exact⟨rfl,rfl⟩

theorem z7j (x a b:Int) (h:x<a∨b<x) (w:World) :
  Calls Tryz.prog 93 #[.int .i64 x,.int .i64 a,.int .i64 b] w fun e w'=>e=.returned (.bool false)∧w=w':=by
 by_cases h0:x<a
 ·go_enter Tryz.func93,Tryz.ntmps93
  go_wp2
  go_ret
  exact⟨rfl,rfl⟩
 ·have h1:¬ x≤b:=by omega
  have h2:a≤x:=by omega
  clear h h0
  go_enter Tryz.func93,Tryz.ntmps93
  go_wp2
  go_ret
  exact⟨rfl,rfl⟩

theorem z6f (x a b:Int) (w:World) :
  Calls Tryz.prog 93 #[.int .i64 x,.int .i64 a,.int .i64 b] w fun e w'=>e=.returned (.bool (decide (a≤x)&&decide (x≤b)))∧w=w':=by
 by_cases h:a≤x∧x≤b
 ·rw[decide_eq_true h.1,decide_eq_true h.2]
  exact z5m x a b h.1 h.2 w
 ·have:(decide (a≤x)&&decide (x≤b))=false:=by simp;omega
  rw[this]
  exact z7j x a b (by omega) w

def Drew (w w':World):Prop:=∃ q,w'=w.drewN q

theorem Drew.more {w w':World} (h:Drew w w') (q:Nat):Drew w (w'.drewN q):=by
 obtain⟨k,rfl⟩:=h
 exact⟨k+q,by simp⟩

theorem Drew.below {w w':World} (h:Drew w w'):Below w.heap.size w w':=by
 obtain⟨k,rfl⟩:=h
 exact below_drewN (Below.refl _ _) _

theorem IntsAt.drew {w w':World} {oa:Option Addr} {n cap:Nat} {zs:List Int} (h:IntsAt w oa n cap zs) (hd:Drew w w'):IntsAt w' oa n cap zs:=h.below hd.below

end Go.Proofs.YtfeebdcmlnapiaaGreat
