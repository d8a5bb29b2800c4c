/-
  Walks.
-/
import Derived.Test.YtfeebdcmlnapiaaGreatTEv2
import Derived.Test.YtfeebdcmlnapiaaGreatTBase
import Derived.Laws.Small
set_option linter.unusedVariables false
set_option linter.unusedSimpArgs false
namespace Go.Proofs.YtfeebdcmlnapiaaGreat
open Go.RowKit P1 P9 P11 P12 K
attribute [local go_sem ↓] Go.wp_at_zero Go.wp_at_succ

def z1b (n lo hi:Int):Int:=if n<lo then lo else if hi<n then hi else n

theorem z5u {n lo hi:Int} (h:lo≤hi):decide (n=z1b n lo hi)=inR n lo hi:=by
 unfold z1b
 rw[Bool.eq_iff_iff,decide_eq_true_iff,inR_iff]
 split
 ·omega
 ·split<;>omega

set_option maxHeartbeats 1000000 in
theorem z04 (n lo hi:Int) (h:lo≤hi) (w:World) :
  Calls Tryz.prog 168 #[.int .i64 n,.int .i64 lo,.int .i64 hi] w fun e w'=>e=.returned (.int .i64 (z1b n lo hi))∧w=w':=by
 rcases (show hi<n∧lo<hi∨hi<n∧lo=hi∨n≤hi∧lo<n∨n≤hi∧n=lo∨n≤hi∧n<lo by omega) with ⟨c,d⟩|⟨c,d⟩|⟨c,d⟩|⟨c,d⟩|⟨c,d⟩
 ·have d2:¬ hi<lo:=by omega
  rw[show z1b n lo hi=hi by unfold z1b;rw[if_neg (by omega),if_pos c]]
  go_enter Tryz.func168,Tryz.ntmps168
  go_wp2_with fail
  go_ret
  exact⟨by first|rfl|(simp;done)|(simp;omega),rfl⟩
 ·subst d
  rw[show z1b n lo lo=lo by unfold z1b;rw[if_neg (by omega),if_pos c]]
  go_enter Tryz.func168,Tryz.ntmps168
  go_wp2_with fail
  go_ret
  exact⟨by first|rfl|(simp;done)|(simp;omega),rfl⟩
 ·have c2:¬ hi<n:=by omega
  have d2:¬ n<lo:=by omega
  rw[show z1b n lo hi=n by unfold z1b;rw[if_neg d2,if_neg c2]]
  go_enter Tryz.func168,Tryz.ntmps168
  go_wp2_with fail
  go_ret
  exact⟨by first|rfl|(simp;done)|(simp;omega),rfl⟩
 ·subst d
  have c2:¬ hi<n:=by omega
  rw[show z1b n n hi=n by unfold z1b;rw[if_neg (by omega),if_neg c2]]
  go_enter Tryz.func168,Tryz.ntmps168
  go_wp2_with fail
  go_ret
  exact⟨by first|rfl|(simp;done)|(simp;omega),rfl⟩
 ·have c2:¬ hi<n:=by omega
  have d2:¬ lo<n:=by omega
  rw[show z1b n lo hi=lo by unfold z1b;rw[if_pos d]]
  go_enter Tryz.func168,Tryz.ntmps168
  go_wp2_with fail
  go_ret
  exact⟨by first|rfl|(simp;done)|(simp;omega),rfl⟩

abbrev nval (id kd sn us mb dp:Int):Value:=.agg #[.int .i64 id,.int .i64 kd,.int .i64 sn,.int .i64 us,.int .i64 mb,.int .i64 dp]

set_option maxHeartbeats 1000000 in
theorem zgw (id kd sn us mb dp:Int) (oa:Option Addr) (n cl:Nat) (tx:List UInt8) (ob:Option Addr) (m cp:Nat) (w:World) :
  Calls Tryz.prog 132 #[z3e id kd sn us mb dp (.slice oa n cl) (.slice ob m cp) tx] w fun e w'=>e=.returned (nval id kd sn us mb dp)∧Below w.heap.size w w':=by
 have HB:=hide (((Below.refl w.heap.size w).alloc (Nat.le_refl _) (.cells #[.int .i64 id,.int .i64 kd,.int .i64 sn,.int .i64 us,.int .i64 mb,.slice oa n cl,.string ⟨tx.toArray⟩,.slice ob m cp,.int .i64 dp] 62)).alloc (by simp) (.cells #[.int .i64 id,.int .i64 kd,.int .i64 sn,.int .i64 us,.int .i64 mb,.int .i64 dp] 177))
 go_enter Tryz.func132,Tryz.ntmps132
 go_wp2_with fail
 refine bodyPost_ret (v:=nval id kd sn us mb dp) (by simp[results,Tryz.results132,go_sem]) rfl ⟨rfl,?_⟩
 repeat (refine Below.setCell ?_ (by simp) _)
 exact HB.out

def limI (id kd sn us mb dp:Int):Value:=nval (z1b id 1 1000000) (z1b kd 1 5) (z1b sn 1 5) (if kd=2 then z1b us 1 5 else 0) (if kd=2 then z1b mb 0 3 else 0) (z1b dp 0 1000000)

end Go.Proofs.YtfeebdcmlnapiaaGreat
