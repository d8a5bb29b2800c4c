/-
  Walks.
-/
import Derived.Test.YtfeebdcmlnapiaaGreatTBase
import Derived.Deep.RegionWith
import Derived.Deep.RegionHeld3
import Derived.Deep.QuietTactic
import Derived.BigQuiet
import Derived.WalkSmall
import Derived.Lib.Strings
import Derived.Test.YtfeebdcmlnapiaaGreatTPlain1
import Derived.Lib.SmallJoins
set_option linter.unusedVariables false
set_option linter.unusedSimpArgs false
namespace Go.Proofs.YtfeebdcmlnapiaaGreat
open Go.RowKit P1 K

theorem y3h (x:Int) (h0:0≤x) (h1:x≤1000000000) (w:World) :
  Calls Tryz.prog 48 #[.int .i64 x] w fun e w'=>e=.returned (.string ⟨(varB x.toNat).toArray⟩)∧Below w.heap.size w w':=by
 obtain⟨n,rfl⟩:=Int.eq_ofNat_of_zero_le h0
 exact y3z n (by omega) w

end Go.Proofs.YtfeebdcmlnapiaaGreat

namespace Go.Proofs.YtfeebdcmlnapiaaGreat
open Go.RowKit P1 P9 P11 K

theorem y4g (x y:List UInt8):(⟨x.toArray⟩:ByteArray)++⟨y.toArray⟩=⟨(x++y).toArray⟩:=by
 apply ByteArray.ext
 simp

theorem y4h (l:List UInt8):(⟨l.toArray⟩:ByteArray).size=l.length:=rfl

theorem y3g (l:List UInt8):(y3a l).length≤l.length+10∧l.length≤(y3a l).length:=by
 have:=y3b l.length
 simp only[y3a,List.length_append]
 omega

theorem y41 (l:List UInt8) (hl:l.length≤1048576) (w:World) :
  Calls Tryz.prog 49 #[.string ⟨l.toArray⟩] w fun e w'=>e=.returned (.string ⟨(y3a l).toArray⟩)∧Below w.heap.size w w':=by
 have hv:=y3b l.length
 have C:=y4g (varB l.length) l
 have HV:=hide (y3z l.length (by omega))
 go_enter Tryz.func49,Tryz.ntmps49
 go_wp2_with (go_at_call 48;refine (HV.out _).mono ?_;rintro e w1 ⟨rfl,hb1⟩)
 go_ret
 exact⟨rfl,hb1⟩

end Go.Proofs.YtfeebdcmlnapiaaGreat
