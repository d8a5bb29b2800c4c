/-
  Walks.
-/
import Derived.Test.YtfeebdcmlnapiaaGreatTWalk10a
import Derived.Test.YtfeebdcmlnapiaaGreatTWalk10f
set_option maxHeartbeats 8000000
set_option linter.unusedVariables false
set_option linter.unusedSimpArgs false
namespace Go.Proofs.YtfeebdcmlnapiaaGreat
open Go.RowKit P1 P5 P9 P11 P12 P14 K
theorem z2k (oa:Zoa) (n cap:Nat) (es:List EvV) (ob:Zoa) (m cb:Nat) (s:Zii) (u:Int) (w:World) (hat:EvsAt w oa n cap es) (hbt:ItemsAt w ob m cb s) :
  Calls Tryz.prog 127 #[.slice oa n cap,.slice ob m cb,.int .i64 u] w fun e w'=>e=.returned (.int .i64 (z10 es s u))∧Bw w w':=by
 have HA:=ZZ (z2u ob m cb s (10+u) w hbt)
 have HF:=ZZ (z4i oa n cap es (stAt s (10+u)) w hat)
 have HI:=ZZ (fun w=>z4n u 1 5 w)
 clear hat hbt
 unfold z10
 cases hin:inR u 1 5 with
 | false =>
  rw[hin] at HI
  clear HA HF
  go_enter Tryz.func127,Tryz.ntmps127
  go_wp2_with (go_at_call 39;refine (HI.o _).mono ?_;rintro e w' ⟨rfl,rfl⟩)
  go_ret
  exact⟨rfl,zBr⟩
 | true =>
  obtain⟨hu1,hu2⟩:=inR_iff.1 hin
  rw[hin] at HI
  simp only[if_true]
  cases hf:zf es (stAt s (10+u)) with
  | none =>
   rw[z16 hf] at HF
   generalize stAt s (10+u)=id at HA HF
   clear hf hin
   go_enter Tryz.func127,Tryz.ntmps127
   go_wp2_with (first
    | (go_at_call 39;refine (HI.o _).mono ?_;rintro e' w' ⟨rfl,rfl⟩)
    | (go_at_call 124;refine HA.o.mono ?_;rintro e' w' ⟨rfl,rfl⟩)
    | (go_at_call 123;refine HF.o.mono ?_;rintro e' w1 ⟨xa,xc,ya,yc,rfl,hx1,hy1,hb1⟩))
   go_ret
   exact⟨rfl,hb1.trans (((Below.refl w1.heap.size w1).alloc zLe _).mono hb1.size)⟩
  | some e =>
   rw[z15 hf] at HF
   generalize stAt s (10+u)=id at HA HF
   clear hf hin
   simp only
   by_cases h1:e.kind=2
   ·have g1:(e.kind != 2)=false:=by simp[h1]
    by_cases h2:e.user=u
    ·have g2:(e.user != u)=false:=by simp[h2]
     rw[if_pos ⟨h1,h2⟩]
     clear h1 h2
     go_enter Tryz.func127,Tryz.ntmps127
     go_wp2_with (first
      | (go_at_call 39;refine (HI.o _).mono ?_;rintro e' w' ⟨rfl,rfl⟩)
      | (go_at_call 124;refine HA.o.mono ?_;rintro e' w' ⟨rfl,rfl⟩)
      | (go_at_call 123;refine HF.o.mono ?_;rintro e' w1 ⟨xa,xc,ya,yc,rfl,hx1,hy1,hb1⟩))
     go_ret
     exact⟨rfl,hb1.trans (((Below.refl w1.heap.size w1).alloc zLe _).mono hb1.size)⟩
    ·have g2:(e.user != u)=true:=by simp[h2]
     rw[if_neg (fun h=>h2 h.2)]
     clear h1 h2
     go_enter Tryz.func127,Tryz.ntmps127
     go_wp2_with (first
      | (go_at_call 39;refine (HI.o _).mono ?_;rintro e' w' ⟨rfl,rfl⟩)
      | (go_at_call 124;refine HA.o.mono ?_;rintro e' w' ⟨rfl,rfl⟩)
      | (go_at_call 123;refine HF.o.mono ?_;rintro e' w1 ⟨xa,xc,ya,yc,rfl,hx1,hy1,hb1⟩))
     go_ret
     exact⟨rfl,hb1.trans (((Below.refl w1.heap.size w1).alloc zLe _).mono hb1.size)⟩
   ·have g1:(e.kind != 2)=true:=by simp[h1]
    rw[if_neg (fun h=>h1 h.1)]
    clear h1
    go_enter Tryz.func127,Tryz.ntmps127
    go_wp2_with (first
     | (go_at_call 39;refine (HI.o _).mono ?_;rintro e' w' ⟨rfl,rfl⟩)
     | (go_at_call 124;refine HA.o.mono ?_;rintro e' w' ⟨rfl,rfl⟩)
     | (go_at_call 123;refine HF.o.mono ?_;rintro e' w1 ⟨xa,xc,ya,yc,rfl,hx1,hy1,hb1⟩))
    go_ret
    exact⟨rfl,hb1.trans (((Below.refl w1.heap.size w1).alloc zLe _).mono hb1.size)⟩

theorem zg {w w1:World} (h:Bw w w1) (o:Obj):Bw w (w1.alloc o):=h.trans (((Below.refl w1.heap.size w1).alloc zLe o).mono h.size)

def madeOf (es:List EvV) (s:Zii) (u:Int):Int :=
 match zf es (stAt s 1) with
 | none=>0
 | some c=>if c.kind=1∧c.sender=u then 100 else 0

theorem zlr (es:List EvV) (s:Zii) (u:Int):z0e es s u=if inR u 1 5 then (match zf es (stAt s 2) with|none=>madeOf es s u|some p=>if p.kind=3∧p.levels.length=5 then p.levels.getD (u.toNat - 1) 0 else madeOf es s u) else 0:=rfl

theorem z1m (oa:Zoa) (n cap:Nat) (es:List EvV) (ob:Zoa) (m cb:Nat) (s:Zii) (u:Int) (w:World) (hat:EvsAt w oa n cap es) (hbt:ItemsAt w ob m cb s) :
  Calls Tryz.prog 128 #[.slice oa n cap,.slice ob m cb,.int .i64 u] w fun e w'=>e=.returned (.int .i64 (z0e es s u))∧Bw w w':=by
 have HA2:=ZZ (z2u ob m cb s 2 w hbt)
 have Aj:=ZZ (z4i oa n cap es (stAt s 2) w hat)
 have HA1:=ZZ (fun w hbt=>z2u ob m cb s 1 w hbt)
 have Aa:=ZZ (fun w hat=>z4i oa n cap es (stAt s 1) w hat)
 have HI:=ZZ (fun w=>z4n u 1 5 w)
 have HAT:=ZZ hat
 have AA:=ZZ hbt
 clear hat hbt
 rw[zlr]
 cases hin:inR u 1 5 with
 | false =>
  rw[hin] at HI
  go_enter Tryz.func128,Tryz.ntmps128
  go_wp2_with (go_at_call 39;refine (HI.o _).mono ?_;rintro e w' ⟨rfl,rfl⟩)
  go_ret
  exact⟨rfl,zBr⟩
 | true =>
  obtain⟨hu1,hu2⟩:=inR_iff.1 hin
  rw[hin] at HI
  simp only[if_true]
  have BN:=ZZ (show madeOf es s u=(match zf es (stAt s 1) with|none=>0|some c=>if c.kind=1∧c.sender=u then 100 else 0) from rfl)
  clear hin
  cases hf:zf es (stAt s 2) with
  | none =>
   rw[z16 hf] at Aj
   generalize stAt s 2=id at HA2 Aj
   clear hf
   simp only
   cases hc:zf es (stAt s 1) with
   | none =>
    rw[hc] at BN
    have hMD:madeOf es s u=0:=BN.o
    rw[hMD]
    rw[z16 hc] at Aa
    generalize stAt s 1=id1 at HA1 Aa hc
    clear hc BN hMD
    go_enter Tryz.func128,Tryz.ntmps128
    go_wp2_with (first
     | (go_at_call 39;refine (HI.o _).mono ?_;rintro e' w' ⟨rfl,rfl⟩)
     | (go_at_call 124;(with_reducible refine HA2.o.mono ?_);rintro e' w' ⟨rfl,rfl⟩)
     | (go_at_call 123;(with_reducible refine Aj.o.mono ?_);rintro e' w1 ⟨xa,xc,ya,yc,rfl,hx1,hy1,hb1⟩)
     | (go_at_call 124;refine (HA1.o _ (AA.o.below (zg hb1 _))).mono ?_;rintro e' w' ⟨rfl,rfl⟩)
     | (go_at_call 123;refine (Aa.o _ (HAT.o.below (zg hb1 _))).mono ?_;rintro e' w2 ⟨xa2,xc2,ya2,yc2,rfl,hx2,hy2,hb2⟩))
    go_ret
    exact⟨rfl,zg ((zg hb1 _).trans (hb2.mono (zg hb1 _).size)) _⟩
   | some c =>
    rw[hc] at BN
    have hMD:madeOf es s u=if c.kind=1∧c.sender=u then 100 else 0:=BN.o
    rw[hMD]
    rw[z15 hc] at Aa
    generalize stAt s 1=id1 at HA1 Aa hc
    clear hc BN hMD
    by_cases k1:c.kind=1
    ·have m1:(c.kind==1)=true:=by simpa using k1
     by_cases k2:c.sender=u
     ·have m2:(c.sender==u)=true:=by simpa using k2
      rw[if_pos ⟨k1,k2⟩]
      clear k1 k2
      go_enter Tryz.func128,Tryz.ntmps128
      go_wp2_with (first
       | (go_at_call 39;refine (HI.o _).mono ?_;rintro e' w' ⟨rfl,rfl⟩)
       | (go_at_call 124;(with_reducible refine HA2.o.mono ?_);rintro e' w' ⟨rfl,rfl⟩)
       | (go_at_call 123;(with_reducible refine Aj.o.mono ?_);rintro e' w1 ⟨xa,xc,ya,yc,rfl,hx1,hy1,hb1⟩)
       | (go_at_call 124;refine (HA1.o _ (AA.o.below (zg hb1 _))).mono ?_;rintro e' w' ⟨rfl,rfl⟩)
       | (go_at_call 123;refine (Aa.o _ (HAT.o.below (zg hb1 _))).mono ?_;rintro e' w2 ⟨xa2,xc2,ya2,yc2,rfl,hx2,hy2,hb2⟩))
      go_ret
      exact⟨rfl,zg ((zg hb1 _).trans (hb2.mono (zg hb1 _).size)) _⟩
     ·have m2:(c.sender==u)=false:=by simpa using k2
      rw[if_neg (fun h=>k2 h.2)]
      clear k1 k2
      go_enter Tryz.func128,Tryz.ntmps128
      go_wp2_with (first
       | (go_at_call 39;refine (HI.o _).mono ?_;rintro e' w' ⟨rfl,rfl⟩)
       | (go_at_call 124;(with_reducible refine HA2.o.mono ?_);rintro e' w' ⟨rfl,rfl⟩)
       | (go_at_call 123;(with_reducible refine Aj.o.mono ?_);rintro e' w1 ⟨xa,xc,ya,yc,rfl,hx1,hy1,hb1⟩)
       | (go_at_call 124;refine (HA1.o _ (AA.o.below (zg hb1 _))).mono ?_;rintro e' w' ⟨rfl,rfl⟩)
       | (go_at_call 123;refine (Aa.o _ (HAT.o.below (zg hb1 _))).mono ?_;rintro e' w2 ⟨xa2,xc2,ya2,yc2,rfl,hx2,hy2,hb2⟩))
      go_ret
      exact⟨rfl,zg ((zg hb1 _).trans (hb2.mono (zg hb1 _).size)) _⟩
    ·have m1:(c.kind==1)=false:=by simpa using k1
     rw[if_neg (fun h=>k1 h.1)]
     clear k1
     go_enter Tryz.func128,Tryz.ntmps128
     go_wp2_with (first
      | (go_at_call 39;refine (HI.o _).mono ?_;rintro e' w' ⟨rfl,rfl⟩)
      | (go_at_call 124;(with_reducible refine HA2.o.mono ?_);rintro e' w' ⟨rfl,rfl⟩)
      | (go_at_call 123;(with_reducible refine Aj.o.mono ?_);rintro e' w1 ⟨xa,xc,ya,yc,rfl,hx1,hy1,hb1⟩)
      | (go_at_call 124;refine (HA1.o _ (AA.o.below (zg hb1 _))).mono ?_;rintro e' w' ⟨rfl,rfl⟩)
      | (go_at_call 123;refine (Aa.o _ (HAT.o.below (zg hb1 _))).mono ?_;rintro e' w2 ⟨xa2,xc2,ya2,yc2,rfl,hx2,hy2,hb2⟩))
     go_ret
     exact⟨rfl,zg ((zg hb1 _).trans (hb2.mono (zg hb1 _).size)) _⟩
  | some p =>
   rw[z15 hf] at Aj
   generalize stAt s 2=id at HA2 Aj
   clear hf
   simp only at Aj ⊢
   by_cases h1:p.kind=3
   ·have g1:(p.kind==3)=true:=by simpa using h1
    by_cases h2:p.levels.length=5
    ·rw[if_pos ⟨h1,h2⟩]
     obtain⟨j,hj⟩:∃ j:Nat,u=(j:Int)+1:=⟨u.toNat - 1,by omega⟩
     have hju:u.toNat - 1=j:=by omega
     rw[hju]
     have HL:=ZZ h2
     have hjl:j<5:=by omega
     have HJ:=ZZ hj
     have g2:((p.levels.length:Int)==5)=true:=by simp;omega
     clear h1 hju h2 hj
     go_enter Tryz.func128,Tryz.ntmps128
     go_wp2_with (first
      | (go_at_call 39;refine (HI.o _).mono ?_;rintro e' w' ⟨rfl,rfl⟩)
      | (go_at_call 124;(with_reducible refine HA2.o.mono ?_);rintro e' w' ⟨rfl,rfl⟩)
      | (go_at_call 123;(with_reducible refine Aj.o.mono ?_);rintro e' w1 ⟨xa,xc,ya,yc,rfl,hx1,hy1,hb1⟩;obtain⟨zz,bz,qz,hz,hidz,hbz,cz,wz⟩:=hx1.get Tryz.underlying60 z0f j (by have:=HL.o;omega);rw[show (j:Int)=u - 1 by have:=HJ.o;omega] at hidz;have cz':=(((Below.refl w1.heap.size w1).alloc zLe (.cells (zk p.id p.kind p.sender p.user p.member p.depth (.slice xa p.levels.length xc) (.slice ya p.prev.length yc) p.text) 62)).cell hbz).trans cz))
     go_wp2_with fail
     go_ret
     refine⟨?_,zg hb1 _⟩
     rw[List.getD_eq_getElem?_getD,hz]
     rfl
    ·have g2:((p.levels.length:Int)==5)=false:=by simp;omega
     rw[if_neg (fun h=>h2 h.2)]
     clear h1 h2
     cases hc:zf es (stAt s 1) with
     | none =>
      rw[hc] at BN
      have hMD:madeOf es s u=0:=BN.o
      rw[hMD]
      rw[z16 hc] at Aa
      generalize stAt s 1=id1 at HA1 Aa hc
      clear hc BN hMD
      go_enter Tryz.func128,Tryz.ntmps128
      go_wp2_with (first
       | (go_at_call 39;refine (HI.o _).mono ?_;rintro e' w' ⟨rfl,rfl⟩)
       | (go_at_call 124;(with_reducible refine HA2.o.mono ?_);rintro e' w' ⟨rfl,rfl⟩)
       | (go_at_call 123;(with_reducible refine Aj.o.mono ?_);rintro e' w1 ⟨xa,xc,ya,yc,rfl,hx1,hy1,hb1⟩)
       | (go_at_call 124;refine (HA1.o _ (AA.o.below (zg hb1 _))).mono ?_;rintro e' w' ⟨rfl,rfl⟩)
       | (go_at_call 123;refine (Aa.o _ (HAT.o.below (zg hb1 _))).mono ?_;rintro e' w2 ⟨xa2,xc2,ya2,yc2,rfl,hx2,hy2,hb2⟩))
      go_ret
      exact⟨rfl,zg ((zg hb1 _).trans (hb2.mono (zg hb1 _).size)) _⟩
     | some c =>
      rw[hc] at BN
      have hMD:madeOf es s u=if c.kind=1∧c.sender=u then 100 else 0:=BN.o
      rw[hMD]
      rw[z15 hc] at Aa
      generalize stAt s 1=id1 at HA1 Aa hc
      clear hc BN hMD
      by_cases k1:c.kind=1
      ·have m1:(c.kind==1)=true:=by simpa using k1
       by_cases k2:c.sender=u
       ·have m2:(c.sender==u)=true:=by simpa using k2
        rw[if_pos ⟨k1,k2⟩]
        clear k1 k2
        go_enter Tryz.func128,Tryz.ntmps128
        go_wp2_with (first
         | (go_at_call 39;refine (HI.o _).mono ?_;rintro e' w' ⟨rfl,rfl⟩)
         | (go_at_call 124;(with_reducible refine HA2.o.mono ?_);rintro e' w' ⟨rfl,rfl⟩)
         | (go_at_call 123;(with_reducible refine Aj.o.mono ?_);rintro e' w1 ⟨xa,xc,ya,yc,rfl,hx1,hy1,hb1⟩)
         | (go_at_call 124;refine (HA1.o _ (AA.o.below (zg hb1 _))).mono ?_;rintro e' w' ⟨rfl,rfl⟩)
         | (go_at_call 123;refine (Aa.o _ (HAT.o.below (zg hb1 _))).mono ?_;rintro e' w2 ⟨xa2,xc2,ya2,yc2,rfl,hx2,hy2,hb2⟩))
        go_ret
        exact⟨rfl,zg ((zg hb1 _).trans (hb2.mono (zg hb1 _).size)) _⟩
       ·have m2:(c.sender==u)=false:=by simpa using k2
        rw[if_neg (fun h=>k2 h.2)]
        clear k1 k2
        go_enter Tryz.func128,Tryz.ntmps128
        go_wp2_with (first
         | (go_at_call 39;refine (HI.o _).mono ?_;rintro e' w' ⟨rfl,rfl⟩)
         | (go_at_call 124;(with_reducible refine HA2.o.mono ?_);rintro e' w' ⟨rfl,rfl⟩)
         | (go_at_call 123;(with_reducible refine Aj.o.mono ?_);rintro e' w1 ⟨xa,xc,ya,yc,rfl,hx1,hy1,hb1⟩)
         | (go_at_call 124;refine (HA1.o _ (AA.o.below (zg hb1 _))).mono ?_;rintro e' w' ⟨rfl,rfl⟩)
         | (go_at_call 123;refine (Aa.o _ (HAT.o.below (zg hb1 _))).mono ?_;rintro e' w2 ⟨xa2,xc2,ya2,yc2,rfl,hx2,hy2,hb2⟩))
        go_ret
        exact⟨rfl,zg ((zg hb1 _).trans (hb2.mono (zg hb1 _).size)) _⟩
      ·have m1:(c.kind==1)=false:=by simpa using k1
       rw[if_neg (fun h=>k1 h.1)]
       clear k1
       go_enter Tryz.func128,Tryz.ntmps128
       go_wp2_with (first
        | (go_at_call 39;refine (HI.o _).mono ?_;rintro e' w' ⟨rfl,rfl⟩)
        | (go_at_call 124;(with_reducible refine HA2.o.mono ?_);rintro e' w' ⟨rfl,rfl⟩)
        | (go_at_call 123;(with_reducible refine Aj.o.mono ?_);rintro e' w1 ⟨xa,xc,ya,yc,rfl,hx1,hy1,hb1⟩)
        | (go_at_call 124;refine (HA1.o _ (AA.o.below (zg hb1 _))).mono ?_;rintro e' w' ⟨rfl,rfl⟩)
        | (go_at_call 123;refine (Aa.o _ (HAT.o.below (zg hb1 _))).mono ?_;rintro e' w2 ⟨xa2,xc2,ya2,yc2,rfl,hx2,hy2,hb2⟩))
       go_ret
       exact⟨rfl,zg ((zg hb1 _).trans (hb2.mono (zg hb1 _).size)) _⟩
   ·have g1:(p.kind==3)=false:=by simpa using h1
    rw[if_neg (fun h=>h1 h.1)]
    clear h1
    cases hc:zf es (stAt s 1) with
    | none =>
     rw[hc] at BN
     have hMD:madeOf es s u=0:=BN.o
     rw[hMD]
     rw[z16 hc] at Aa
     generalize stAt s 1=id1 at HA1 Aa hc
     clear hc BN hMD
     go_enter Tryz.func128,Tryz.ntmps128
     go_wp2_with (first
      | (go_at_call 39;refine (HI.o _).mono ?_;rintro e' w' ⟨rfl,rfl⟩)
      | (go_at_call 124;(with_reducible refine HA2.o.mono ?_);rintro e' w' ⟨rfl,rfl⟩)
      | (go_at_call 123;(with_reducible refine Aj.o.mono ?_);rintro e' w1 ⟨xa,xc,ya,yc,rfl,hx1,hy1,hb1⟩)
      | (go_at_call 124;refine (HA1.o _ (AA.o.below (zg hb1 _))).mono ?_;rintro e' w' ⟨rfl,rfl⟩)
      | (go_at_call 123;refine (Aa.o _ (HAT.o.below (zg hb1 _))).mono ?_;rintro e' w2 ⟨xa2,xc2,ya2,yc2,rfl,hx2,hy2,hb2⟩))
     go_ret
     exact⟨rfl,zg ((zg hb1 _).trans (hb2.mono (zg hb1 _).size)) _⟩
    | some c =>
     rw[hc] at BN
     have hMD:madeOf es s u=if c.kind=1∧c.sender=u then 100 else 0:=BN.o
     rw[hMD]
     rw[z15 hc] at Aa
     generalize stAt s 1=id1 at HA1 Aa hc
     clear hc BN hMD
     by_cases k1:c.kind=1
     ·have m1:(c.kind==1)=true:=by simpa using k1
      by_cases k2:c.sender=u
      ·have m2:(c.sender==u)=true:=by simpa using k2
       rw[if_pos ⟨k1,k2⟩]
       clear k1 k2
       go_enter Tryz.func128,Tryz.ntmps128
       go_wp2_with (first
        | (go_at_call 39;refine (HI.o _).mono ?_;rintro e' w' ⟨rfl,rfl⟩)
        | (go_at_call 124;(with_reducible refine HA2.o.mono ?_);rintro e' w' ⟨rfl,rfl⟩)
        | (go_at_call 123;(with_reducible refine Aj.o.mono ?_);rintro e' w1 ⟨xa,xc,ya,yc,rfl,hx1,hy1,hb1⟩)
        | (go_at_call 124;refine (HA1.o _ (AA.o.below (zg hb1 _))).mono ?_;rintro e' w' ⟨rfl,rfl⟩)
        | (go_at_call 123;refine (Aa.o _ (HAT.o.below (zg hb1 _))).mono ?_;rintro e' w2 ⟨xa2,xc2,ya2,yc2,rfl,hx2,hy2,hb2⟩))
       go_ret
       exact⟨rfl,zg ((zg hb1 _).trans (hb2.mono (zg hb1 _).size)) _⟩
      ·have m2:(c.sender==u)=false:=by simpa using k2
       rw[if_neg (fun h=>k2 h.2)]
       clear k1 k2
       go_enter Tryz.func128,Tryz.ntmps128
       go_wp2_with (first
        | (go_at_call 39;refine (HI.o _).mono ?_;rintro e' w' ⟨rfl,rfl⟩)
        | (go_at_call 124;(with_reducible refine HA2.o.mono ?_);rintro e' w' ⟨rfl,rfl⟩)
        | (go_at_call 123;(with_reducible refine Aj.o.mono ?_);rintro e' w1 ⟨xa,xc,ya,yc,rfl,hx1,hy1,hb1⟩)
        | (go_at_call 124;refine (HA1.o _ (AA.o.below (zg hb1 _))).mono ?_;rintro e' w' ⟨rfl,rfl⟩)
        | (go_at_call 123;refine (Aa.o _ (HAT.o.below (zg hb1 _))).mono ?_;rintro e' w2 ⟨xa2,xc2,ya2,yc2,rfl,hx2,hy2,hb2⟩))
       go_ret
       exact⟨rfl,zg ((zg hb1 _).trans (hb2.mono (zg hb1 _).size)) _⟩
     ·have m1:(c.kind==1)=false:=by simpa using k1
      rw[if_neg (fun h=>k1 h.1)]
      clear k1
      go_enter Tryz.func128,Tryz.ntmps128
      go_wp2_with (first
       | (go_at_call 39;refine (HI.o _).mono ?_;rintro e' w' ⟨rfl,rfl⟩)
       | (go_at_call 124;(with_reducible refine HA2.o.mono ?_);rintro e' w' ⟨rfl,rfl⟩)
       | (go_at_call 123;(with_reducible refine Aj.o.mono ?_);rintro e' w1 ⟨xa,xc,ya,yc,rfl,hx1,hy1,hb1⟩)
       | (go_at_call 124;refine (HA1.o _ (AA.o.below (zg hb1 _))).mono ?_;rintro e' w' ⟨rfl,rfl⟩)
       | (go_at_call 123;refine (Aa.o _ (HAT.o.below (zg hb1 _))).mono ?_;rintro e' w2 ⟨xa2,xc2,ya2,yc2,rfl,hx2,hy2,hb2⟩))
      go_ret
      exact⟨rfl,zg ((zg hb1 _).trans (hb2.mono (zg hb1 _).size)) _⟩

theorem znd {s:Zii} {j:Nat} {x:Int × Int} (h:s[j]? = some x):z3u (s.drop j)=(decide (x.1≤10)&&z3u (s.drop (j+1))):=by
 obtain⟨hj,rfl⟩:=zGi.1 h
 rw[List.drop_eq_getElem_cons hj]
 simp only[z3u,List.all_cons]

theorem zeq (oa:Zoa) (n cap:Nat) (s:Zii) (w:World) (hat:ItemsAt w oa n cap s) :
  Calls Tryz.prog 201 #[.slice oa n cap] w fun e w'=>e=.returned (.bool (z3u s))∧w=w':=by
 have hn:=hat.len
 have hm:=zNt hat.room hat.most
 unfold maxLen at hm
 have HN:=ZZ hn
 have HAT:=ZZ hat
 clear hn hat
 go_enter Tryz.func201,Tryz.ntmps201
 go_wp2_with fail
 go_loop [3] (fun i=>∃ (j:Nat),i=.int .i64 (j:Int)∧j≤n∧z3u (s.drop j)=z3u s) (fun i=>n - (intOf i).toNat)
 case atStart=>exact⟨0,rfl,Nat.zero_le _,rfl⟩
 case round =>
  obtain⟨j,rfl,hj,hrest⟩:=hrel
  by_cases hlt:j<n
  ·have j0:(j:Int)<(n:Int):=by omega
   obtain⟨x,b,q,hx,hidx,hb,c0,c1⟩:=HAT.o.get Tryz.underlying74 z1i j hlt
   rw[znd hx] at hrest
   clear hx
   by_cases hk:x.1≤10
   ·have g:¬ (10:Int)<x.1:=by omega
    rw[decide_eq_true hk,Bool.true_and] at hrest
    have HR:=ZZ hrest
    clear hk hrest
    go_wp2_with fail
    go_round
    case rel=>exact⟨j+1,by go_num,by omega,HR.o⟩
    case measure=>simp[intOf];omega
   ·have g:(10:Int)<x.1:=by omega
    rw[decide_eq_false hk,Bool.false_and] at hrest
    have HR:=ZZ hrest
    clear hk hrest
    go_wp2_with fail
    go_ret
    exact⟨by rw[← HR.o];rfl,rfl⟩
  ·have hjn:j=n:=by omega
   have HR:=ZZ (show z3u s=true by rw[← hrest,hjn,← HN.o,List.drop_length];rfl)
   clear hrest
   go_wp2_with fail
   go_ret
   exact⟨by rw[HR.o];rfl,rfl⟩

structure ArgsE (w:World) (oa:Zoa) (n cap:Nat) (es:List EvV) (ob:Zoa) (m cb:Nat) (s:Zii):Prop where
 evs:EvsAt w oa n cap es
 its:ItemsAt w ob m cb s

theorem ArgsE.on {w w':World} {oa:Zoa} {n cap:Nat} {es:List EvV} {ob:Zoa} {m cb:Nat} {s:Zii} (h:ArgsE w oa n cap es ob m cb s) (hb:Bw w w'):ArgsE w' oa n cap es ob m cb s:=⟨h.evs.below hb,h.its.below hb⟩

theorem z3z (a b:Int):decide (a=b)=(a==b):=rfl

theorem z0h {a b:Int} {r:Bool} (h:(a==b)=r):(a != b)=!r:=by rw[← h];rfl

theorem zjt (es:List EvV) (s:Zii) (e:EvV):z6r es s e=if (e.member==2)=true then (((z10 es s e.user==1)||(z10 es s e.user==2))||((evKn es (stAt s 1)).2&&(((evKn es (stAt s 1)).1.sender==e.sender)&&z3u s))) else if (e.member==0)=true then ((z10 es s e.user==1)||(z10 es s e.user==2)) else false:=by
 unfold z6r
 simp only[beq_iff_eq,z3z]
 cases hf:zf es (stAt s 1) with
 | none=>rw[z16 hf];simp
 | some c=>rw[z15 hf];simp

theorem zg6 (oa:Zoa) (n cap:Nat) (es:List EvV) (ob:Zoa) (m cb:Nat) (s:Zii) (e:EvV) (xl xp:Value) (w:World) (hat:ArgsE w oa n cap es ob m cb s) :
  Calls Tryz.prog 166 #[.slice oa n cap,.slice ob m cb,evv e xl xp] w fun r w'=>r=.returned (.bool (z6r es s e))∧Bw w w':=by
 have hb0:=(Below.refl w.heap.size w).alloc zLe (.cells (zk e.id e.kind e.sender e.user e.member e.depth xl xp e.text) 62)
 have HB0:=ZZ hb0
 have HM:=ZZ (z2k oa n cap es ob m cb s e.user _ (hat.evs.below hb0) (hat.its.below hb0))
 have HA:=ZZ (fun w hbt=>z2u ob m cb s 1 w hbt)
 have HF:=ZZ (fun w hat=>z4i oa n cap es (stAt s 1) w hat)
 have HE:=ZZ (fun w hbt=>zeq ob m cb s w hbt)
 have HAT:=ZZ hat
 have A8:=ZZ (EB.new w e.id e.kind e.sender e.user e.member e.depth xl xp e.text)
 clear hat hb0
 rw[zjt]
 generalize z10 es s e.user=now at HM ⊢
 generalize z3u s=bare at HE ⊢
 generalize evKn es (stAt s 1)=R at HF ⊢
 generalize stAt s 1=id at HA HF
 obtain⟨c,ok⟩:=R
 simp only at HF ⊢
 have rest:(e.member==2)=false→Calls Tryz.prog 166 #[.slice oa n cap,.slice ob m cb,evv e xl xp] w fun r w'=>r=.returned (.bool (if (e.member==0)=true then ((now==1)||(now==2)) else false))∧Bw w w':=by
  intro gm
  cases g0:(e.member==0)
  ·rw[if_neg (by simp)]
   go_enter Tryz.func166,Tryz.ntmps166
   go_wp2_with fail
   refine HM.o.mono ?_
   rintro r w1 ⟨rfl,hb1⟩
   have hBw1:=zTr HB0.o hb1
   have BS:=ZZ (A8.o.on hb1 A8.o.lt)
   obtain⟨a0,a1,a2,a3,a4,a5,a6,a7,a8⟩:=BS.o.ev
   go_wp2_with fail
   go_ret
   exact⟨rfl,hBw1⟩
  ·rw[if_pos rfl]
   cases g1:(now==1)<;>cases g2:(now==2)
   all_goals
    go_enter Tryz.func166,Tryz.ntmps166
    go_wp2_with fail
    refine HM.o.mono ?_
    rintro r w1 ⟨rfl,hb1⟩
    have hBw1:=zTr HB0.o hb1
    have BS:=ZZ (A8.o.on hb1 A8.o.lt)
    obtain⟨a0,a1,a2,a3,a4,a5,a6,a7,a8⟩:=BS.o.ev
    go_wp2_with fail
    go_ret
    exact⟨rfl,hBw1⟩
 cases gm:(e.member==2)
 ·rw[if_neg (by simp)]
  exact rest gm
 ·rw[if_pos rfl]
  clear rest
  cases g1:(now==1)<;>cases g2:(now==2)<;>cases ok<;>cases g3:(c.sender==e.sender)
  all_goals
   go_enter Tryz.func166,Tryz.ntmps166
   go_wp2_with fail
   refine HM.o.mono ?_
   rintro r w1 ⟨rfl,hb1⟩
   have hBw1:=zTr HB0.o hb1
   have BS:=ZZ (A8.o.on hb1 A8.o.lt)
   obtain⟨a0,a1,a2,a3,a4,a5,a6,a7,a8⟩:=BS.o.ev
   go_wp2_with fail
   refine (HA.o _ (HAT.o.its.below hBw1)).mono ?_
   rintro r w2 ⟨rfl,rfl⟩
   go_wp2_with fail
   refine (HF.o _ (HAT.o.evs.below hBw1)).mono ?_
   rintro r w2 ⟨xa,xc,ya,yc,rfl,hx2,hy2,hb2⟩
   have hB2:=zTr hBw1 hb2
   have ES:=ZZ (BS.o.on hb2 BS.o.lt)
   have hlt2:=ES.o.lt
   have hB3:=zg hB2 (.cells (zk c.id c.kind c.sender c.user c.member c.depth (.slice xa c.levels.length xc) (.slice ya c.prev.length yc) c.text) 62)
   clear a0 a1 a2 a3 a4 a5 a6 a7 a8
   obtain⟨a0,a1,a2,a3,a4,a5,a6,a7,a8⟩:=ES.o.ev
   go_wp2_with (go_at_call 201;refine (HE.o _ (HAT.o.its.below hB3)).mono ?_;rintro r w4 ⟨rfl,rfl⟩)
   go_ret
   exact⟨by simp,hB3⟩

end Go.Proofs.YtfeebdcmlnapiaaGreat
