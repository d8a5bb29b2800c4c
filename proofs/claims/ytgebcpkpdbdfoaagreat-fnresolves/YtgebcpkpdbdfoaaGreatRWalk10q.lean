/-
  Walks.
-/
import Derived.Test.YtgebcpkpdbdfoaaGreatRWalk12g
import Derived.Test.YtgebcpkpdbdfoaaGreatRDraw1
import Derived.Test.YtgebcpkpdbdfoaaGreatRWalk10e
import Derived.Test.YtgebcpkpdbdfoaaGreatRIntsMark
set_option linter.unusedVariables false
set_option linter.unusedSimpArgs false
namespace Go.Proofs.YtgebcpkpdbdfoaaGreat
open Go.RowKit P5 P9 P12 P14 P15 K

theorem EvsR.at_ {w:World} {B:Nat} {v:Value} {es:List EvV} (h:EvsR w B v es):∃ oa cap,v=.slice oa es.length cap∧EvsAt w oa es.length cap es:=by
 obtain⟨xs,h1,h2,h3⟩:=h
 refine z7j (z2t h1 h2) (fun i e he=>?_)
 obtain⟨vl,vp,q1,q2,q3,q4,q5,q6⟩:=h3 i e he
 obtain⟨xa,xc,rfl,hl⟩:=z0e q2 q4
 obtain⟨ya,yc,rfl,hq⟩:=z0e q3 q5
 exact⟨xa,xc,ya,yc,q1,hl,hq,q6⟩

end Go.Proofs.YtgebcpkpdbdfoaaGreat

namespace Go.Proofs.YtgebcpkpdbdfoaaGreat
open Go.RowKit P5 P9 P12 P14 P15 K

set_option maxHeartbeats 4000000 in
theorem ze8 (oa:Option Addr) (n cap:Nat) (s:St) (ob:Option Addr) (m cb:Nat) (t:St) (w:World) (hat:ItemsAt w oa n cap s) (hbt:ItemsAt w ob m cb t) :
  Calls Tryz.prog 12 #[.slice oa n cap,.slice ob m cb] w fun e w'=>e=.returned (.bool (decide (s=t)))∧Drew w w':=by
 have hmx:=Nat.le_trans hat.room hat.most
 unfold maxLen at hmx
 have HN:=hide hat.len
 have HM:=hide hbt.len
 have HAT:=hide hat
 have Ce:=hide hbt
 clear hat hbt
 by_cases hnm:n=m
 ·subst hnm
  go_enter Tryz.func12,Tryz.ntmps12
  go_wp2_with fail
  go_loopw [5] (fun i wr=>∃ (j:Nat),i=.int .i64 (j:Int)∧j≤n∧s.take j=t.take j∧Drew w wr) (fun i _=>n - (intOf i).toNat)
  case atStart=>exact⟨0,rfl,Nat.zero_le _,rfl,⟨0,rfl⟩⟩
  case round =>
   obtain⟨j,rfl,hj,hsame,hdr⟩:=hrel
   obtain⟨dn,rfl⟩:=hdr
   by_cases hlt:j<n
   ·have j0:(j:Int)<(n:Int):=by omega
    obtain⟨x,b,q,hx,hidx,hb,c0,c1⟩:=HAT.out.get Tryz.underlying28 z2d j hlt
    obtain⟨y,b2,q2,hy,hidx2,hb2,d0,d1⟩:=Ce.out.get Tryz.underlying28 z2d j (by omega)
    by_cases hxy:x=y
    ·subst hxy
     have HT:=hide (show s.take (j+1)=t.take (j+1) by rw[z4g hx,z4g hy,hsame])
     clear hx hy hsame
     go_wp2_with fail
     go_quiet (fail)
     go_wp2_with fail
     go_roundw
     case rel=>exact⟨j+1,by go_num,by omega,HT.out,⟨_,rfl⟩⟩
     case measure=>simp[intOf];omega
    ·have hne:s≠t:=by
      intro h
      subst h
      rw[hx] at hy
      exact hxy (Option.some.inj hy)
     have HE:=hide (show decide (s=t)=false from decide_eq_false hne)
     by_cases h1:x.1=y.1
     ·have h2:¬ x.2=y.2:=fun h2=>hxy (Prod.ext h1 h2)
      have e1:(x.1==y.1)=true:=by simpa using h1
      have e2:(x.2==y.2)=false:=by simpa using h2
      clear hx hy hsame hne
      go_wp2_with fail
      go_quiet (fail)
      go_wp2_with fail
      go_ret
      exact⟨by rw[HE.out];rfl,z6u ⟨dn,rfl⟩ ⟨_,rfl⟩⟩
     ·have e1:(x.1==y.1)=false:=by simpa using h1
      clear hx hy hsame hne
      go_wp2_with fail
      go_quiet (fail)
      go_wp2_with fail
      go_ret
      exact⟨by rw[HE.out];rfl,z6u ⟨dn,rfl⟩ ⟨_,rfl⟩⟩
   ·have hjn:j=n:=by omega
    have HE:=hide (show decide (s=t)=true by
     refine decide_eq_true ?_
     have h1:=hsame
     rw[hjn] at h1
     rw[List.take_of_length_le (by rw[HN.out];omega),List.take_of_length_le (by rw[HM.out];omega)] at h1
     exact h1)
    clear hsame
    go_wp2_with fail
    go_ret
    exact⟨by rw[HE.out];rfl,⟨dn,rfl⟩⟩
 ·have gnm:((n:Int)==(m:Int))=false:=by rw[beq_eq_false_iff_ne];omega
  have HE:=hide (show decide (s=t)=false from decide_eq_false (fun h=>hnm (by rw[← HN.out,← HM.out,h])))
  go_enter Tryz.func12,Tryz.ntmps12
  go_wp2_with fail
  go_ret
  exact⟨by rw[HE.out];rfl,⟨0,rfl⟩⟩

end Go.Proofs.YtgebcpkpdbdfoaaGreat
