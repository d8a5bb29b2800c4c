/-
  Walks.
-/
import Derived.Test.YtfeebdcmlnapiaaGreatTWalk10m
import Derived.Test.YtfeebdcmlnapiaaGreatTEv4
set_option maxRecDepth 100000
set_option maxHeartbeats 16000000
set_option linter.unusedVariables false
set_option linter.unusedSimpArgs false
namespace Go.Proofs.YtfeebdcmlnapiaaGreat
open Go.RowKit P1 P5 P9 P11 P12 P14 K
theorem zge (es:List EvV) (s:Zii) (e:EvV):z5b es s e=if (e.user==e.sender)=true then z6r es s e else ((z10 es s e.sender==2)&&(if (e.member==1)=true then (z10 es s e.user==0) else if (e.member==0)=true then (((z10 es s e.user==1)||(z10 es s e.user==2))&&(decide (50≤z0e es s e.sender)&&decide (z0e es s e.user<z0e es s e.sender))) else if (e.member==3)=true then ((!(z10 es s e.user==3))&&(decide (50≤z0e es s e.sender)&&decide (z0e es s e.user<z0e es s e.sender))) else false)):=by
 unfold z5b
 simp only[beq_iff_eq,z3z,decide_not]

theorem zdx (oa:Zoa) (n cap:Nat) (es:List EvV) (ob:Zoa) (m cb:Nat) (s:Zii) (e:EvV) (xl xp:Value) (w:World) (hat:ArgsE w oa n cap es ob m cb s) :
  Calls Tryz.prog 125 #[.slice oa n cap,.slice ob m cb,evv e xl xp] w fun r w'=>r=.returned (.bool (z5b es s e))∧Bw w w':=by
 have hb0:=(Below.refl w.heap.size w).alloc zLe (.cells (zk e.id e.kind e.sender e.user e.member e.depth xl xp e.text) 62)
 have HB0:=ZZ hb0
 have HS:=ZZ (zg6 oa n cap es ob m cb s e xl xp _ (hat.on hb0))
 have BF:=ZZ (fun w (h:ArgsE w oa n cap es ob m cb s)=>z2k oa n cap es ob m cb s e.user w h.evs h.its)
 have AQ:=ZZ (fun w (h:ArgsE w oa n cap es ob m cb s)=>z2k oa n cap es ob m cb s e.sender w h.evs h.its)
 have BG:=ZZ (fun w (h:ArgsE w oa n cap es ob m cb s)=>z1m oa n cap es ob m cb s e.user w h.evs h.its)
 have AR:=ZZ (fun w (h:ArgsE w oa n cap es ob m cb s)=>z1m oa n cap es ob m cb s e.sender w h.evs h.its)
 have HAT:=ZZ hat
 have A8:=ZZ (EB.new w e.id e.kind e.sender e.user e.member e.depth xl xp e.text)
 clear hat hb0
 rw[zge]
 generalize z6r es s e=self at HS ⊢
 generalize z10 es s e.user=now at BF ⊢
 generalize z10 es s e.sender=who at AQ ⊢
 generalize z0e es s e.user=theirs at BG ⊢
 generalize z0e es s e.sender=mine at AR ⊢
 cases gs:(e.user==e.sender)
 case true =>
  rw[if_pos rfl]
  go_enter Tryz.func125,Tryz.ntmps125
  go_wp2_with (go_at_call 166;refine HS.o.mono ?_;rintro r w1 ⟨rfl,hb1⟩)
  go_ret
  exact⟨rfl,zTr HB0.o hb1⟩
 case false =>
  rw[if_neg (by simp)]
  by_cases h50:(50:Int)≤mine
  ·by_cases hgt:theirs<mine
   ·rw[decide_eq_true h50,decide_eq_true hgt]
    cases gw:(who==2)
    ·have gw2:(who != 2)=true:=z0h gw
     have B0:=HB0
     have E0:=A8
     obtain⟨a0,a1,a2,a3,a4,a5,a6,a7,a8⟩:=E0.o.ev
     go_enter Tryz.func125,Tryz.ntmps125
     go_wp2_with fail
     refine (BF.o _ (HAT.o.on B0.o)).mono ?_
     rintro r w1 ⟨rfl,hbq⟩
     have B1:=ZZ (zTr B0.o hbq)
     have E1:=ZZ (E0.o.on hbq E0.o.lt)
     clear hbq a0 a1 a2 a3 a4 a5 a6 a7 a8
     obtain⟨a0,a1,a2,a3,a4,a5,a6,a7,a8⟩:=E1.o.ev
     go_wp2_with fail
     refine (AR.o _ (HAT.o.on B1.o)).mono ?_
     rintro r w2 ⟨rfl,hbq⟩
     have B2:=ZZ (zTr B1.o hbq)
     have E2:=ZZ (E1.o.on hbq E1.o.lt)
     clear hbq a0 a1 a2 a3 a4 a5 a6 a7 a8
     obtain⟨a0,a1,a2,a3,a4,a5,a6,a7,a8⟩:=E2.o.ev
     go_wp2_with fail
     refine (BG.o _ (HAT.o.on B2.o)).mono ?_
     rintro r w3 ⟨rfl,hbq⟩
     have B3:=ZZ (zTr B2.o hbq)
     have E3:=ZZ (E2.o.on hbq E2.o.lt)
     clear hbq a0 a1 a2 a3 a4 a5 a6 a7 a8
     obtain⟨a0,a1,a2,a3,a4,a5,a6,a7,a8⟩:=E3.o.ev
     go_wp2_with fail
     refine (AQ.o _ (HAT.o.on B3.o)).mono ?_
     rintro r w4 ⟨rfl,hbq⟩
     have B4:=ZZ (zTr B3.o hbq)
     have E4:=ZZ (E3.o.on hbq E3.o.lt)
     clear hbq a0 a1 a2 a3 a4 a5 a6 a7 a8
     obtain⟨a0,a1,a2,a3,a4,a5,a6,a7,a8⟩:=E4.o.ev
     go_wp2_with fail
     all_goals go_ret
     all_goals exact⟨by first|rfl|(simp;done)|(simp;omega),B4.o⟩
    ·have gw2:(who != 2)=false:=z0h gw
     cases m1:(e.member==1)
     ·cases m0:(e.member==0)
      ·cases m3:(e.member==3)
       ·have B0:=HB0
        have E0:=A8
        obtain⟨a0,a1,a2,a3,a4,a5,a6,a7,a8⟩:=E0.o.ev
        go_enter Tryz.func125,Tryz.ntmps125
        go_wp2_with fail
        refine (BF.o _ (HAT.o.on B0.o)).mono ?_
        rintro r w1 ⟨rfl,hbq⟩
        have B1:=ZZ (zTr B0.o hbq)
        have E1:=ZZ (E0.o.on hbq E0.o.lt)
        clear hbq a0 a1 a2 a3 a4 a5 a6 a7 a8
        obtain⟨a0,a1,a2,a3,a4,a5,a6,a7,a8⟩:=E1.o.ev
        go_wp2_with fail
        refine (AR.o _ (HAT.o.on B1.o)).mono ?_
        rintro r w2 ⟨rfl,hbq⟩
        have B2:=ZZ (zTr B1.o hbq)
        have E2:=ZZ (E1.o.on hbq E1.o.lt)
        clear hbq a0 a1 a2 a3 a4 a5 a6 a7 a8
        obtain⟨a0,a1,a2,a3,a4,a5,a6,a7,a8⟩:=E2.o.ev
        go_wp2_with fail
        refine (BG.o _ (HAT.o.on B2.o)).mono ?_
        rintro r w3 ⟨rfl,hbq⟩
        have B3:=ZZ (zTr B2.o hbq)
        have E3:=ZZ (E2.o.on hbq E2.o.lt)
        clear hbq a0 a1 a2 a3 a4 a5 a6 a7 a8
        obtain⟨a0,a1,a2,a3,a4,a5,a6,a7,a8⟩:=E3.o.ev
        go_wp2_with fail
        refine (AQ.o _ (HAT.o.on B3.o)).mono ?_
        rintro r w4 ⟨rfl,hbq⟩
        have B4:=ZZ (zTr B3.o hbq)
        have E4:=ZZ (E3.o.on hbq E3.o.lt)
        clear hbq a0 a1 a2 a3 a4 a5 a6 a7 a8
        obtain⟨a0,a1,a2,a3,a4,a5,a6,a7,a8⟩:=E4.o.ev
        go_wp2_with fail
        all_goals go_ret
        all_goals exact⟨by first|rfl|(simp;done)|(simp;omega),B4.o⟩
       ·cases n3:(now==3)
        ·have n3':(now != 3)=true:=z0h n3
         have B0:=HB0
         have E0:=A8
         obtain⟨a0,a1,a2,a3,a4,a5,a6,a7,a8⟩:=E0.o.ev
         go_enter Tryz.func125,Tryz.ntmps125
         go_wp2_with fail
         refine (BF.o _ (HAT.o.on B0.o)).mono ?_
         rintro r w1 ⟨rfl,hbq⟩
         have B1:=ZZ (zTr B0.o hbq)
         have E1:=ZZ (E0.o.on hbq E0.o.lt)
         clear hbq a0 a1 a2 a3 a4 a5 a6 a7 a8
         obtain⟨a0,a1,a2,a3,a4,a5,a6,a7,a8⟩:=E1.o.ev
         go_wp2_with fail
         refine (AR.o _ (HAT.o.on B1.o)).mono ?_
         rintro r w2 ⟨rfl,hbq⟩
         have B2:=ZZ (zTr B1.o hbq)
         have E2:=ZZ (E1.o.on hbq E1.o.lt)
         clear hbq a0 a1 a2 a3 a4 a5 a6 a7 a8
         obtain⟨a0,a1,a2,a3,a4,a5,a6,a7,a8⟩:=E2.o.ev
         go_wp2_with fail
         refine (BG.o _ (HAT.o.on B2.o)).mono ?_
         rintro r w3 ⟨rfl,hbq⟩
         have B3:=ZZ (zTr B2.o hbq)
         have E3:=ZZ (E2.o.on hbq E2.o.lt)
         clear hbq a0 a1 a2 a3 a4 a5 a6 a7 a8
         obtain⟨a0,a1,a2,a3,a4,a5,a6,a7,a8⟩:=E3.o.ev
         go_wp2_with fail
         refine (AQ.o _ (HAT.o.on B3.o)).mono ?_
         rintro r w4 ⟨rfl,hbq⟩
         have B4:=ZZ (zTr B3.o hbq)
         have E4:=ZZ (E3.o.on hbq E3.o.lt)
         clear hbq a0 a1 a2 a3 a4 a5 a6 a7 a8
         obtain⟨a0,a1,a2,a3,a4,a5,a6,a7,a8⟩:=E4.o.ev
         go_wp2_with fail
         all_goals go_ret
         all_goals exact⟨by first|rfl|(simp;done)|(simp;omega),B4.o⟩
        ·have n3':(now != 3)=false:=z0h n3
         have B0:=HB0
         have E0:=A8
         obtain⟨a0,a1,a2,a3,a4,a5,a6,a7,a8⟩:=E0.o.ev
         go_enter Tryz.func125,Tryz.ntmps125
         go_wp2_with fail
         refine (BF.o _ (HAT.o.on B0.o)).mono ?_
         rintro r w1 ⟨rfl,hbq⟩
         have B1:=ZZ (zTr B0.o hbq)
         have E1:=ZZ (E0.o.on hbq E0.o.lt)
         clear hbq a0 a1 a2 a3 a4 a5 a6 a7 a8
         obtain⟨a0,a1,a2,a3,a4,a5,a6,a7,a8⟩:=E1.o.ev
         go_wp2_with fail
         refine (AR.o _ (HAT.o.on B1.o)).mono ?_
         rintro r w2 ⟨rfl,hbq⟩
         have B2:=ZZ (zTr B1.o hbq)
         have E2:=ZZ (E1.o.on hbq E1.o.lt)
         clear hbq a0 a1 a2 a3 a4 a5 a6 a7 a8
         obtain⟨a0,a1,a2,a3,a4,a5,a6,a7,a8⟩:=E2.o.ev
         go_wp2_with fail
         refine (BG.o _ (HAT.o.on B2.o)).mono ?_
         rintro r w3 ⟨rfl,hbq⟩
         have B3:=ZZ (zTr B2.o hbq)
         have E3:=ZZ (E2.o.on hbq E2.o.lt)
         clear hbq a0 a1 a2 a3 a4 a5 a6 a7 a8
         obtain⟨a0,a1,a2,a3,a4,a5,a6,a7,a8⟩:=E3.o.ev
         go_wp2_with fail
         refine (AQ.o _ (HAT.o.on B3.o)).mono ?_
         rintro r w4 ⟨rfl,hbq⟩
         have B4:=ZZ (zTr B3.o hbq)
         have E4:=ZZ (E3.o.on hbq E3.o.lt)
         clear hbq a0 a1 a2 a3 a4 a5 a6 a7 a8
         obtain⟨a0,a1,a2,a3,a4,a5,a6,a7,a8⟩:=E4.o.ev
         go_wp2_with fail
         all_goals go_ret
         all_goals exact⟨by first|rfl|(simp;done)|(simp;omega),B4.o⟩
      ·cases n1:(now==1)<;>cases n2:(now==2)
       all_goals
        have B0:=HB0
        have E0:=A8
        obtain⟨a0,a1,a2,a3,a4,a5,a6,a7,a8⟩:=E0.o.ev
        go_enter Tryz.func125,Tryz.ntmps125
        go_wp2_with fail
        refine (BF.o _ (HAT.o.on B0.o)).mono ?_
        rintro r w1 ⟨rfl,hbq⟩
        have B1:=ZZ (zTr B0.o hbq)
        have E1:=ZZ (E0.o.on hbq E0.o.lt)
        clear hbq a0 a1 a2 a3 a4 a5 a6 a7 a8
        obtain⟨a0,a1,a2,a3,a4,a5,a6,a7,a8⟩:=E1.o.ev
        go_wp2_with fail
        refine (AR.o _ (HAT.o.on B1.o)).mono ?_
        rintro r w2 ⟨rfl,hbq⟩
        have B2:=ZZ (zTr B1.o hbq)
        have E2:=ZZ (E1.o.on hbq E1.o.lt)
        clear hbq a0 a1 a2 a3 a4 a5 a6 a7 a8
        obtain⟨a0,a1,a2,a3,a4,a5,a6,a7,a8⟩:=E2.o.ev
        go_wp2_with fail
        refine (BG.o _ (HAT.o.on B2.o)).mono ?_
        rintro r w3 ⟨rfl,hbq⟩
        have B3:=ZZ (zTr B2.o hbq)
        have E3:=ZZ (E2.o.on hbq E2.o.lt)
        clear hbq a0 a1 a2 a3 a4 a5 a6 a7 a8
        obtain⟨a0,a1,a2,a3,a4,a5,a6,a7,a8⟩:=E3.o.ev
        go_wp2_with fail
        refine (AQ.o _ (HAT.o.on B3.o)).mono ?_
        rintro r w4 ⟨rfl,hbq⟩
        have B4:=ZZ (zTr B3.o hbq)
        have E4:=ZZ (E3.o.on hbq E3.o.lt)
        clear hbq a0 a1 a2 a3 a4 a5 a6 a7 a8
        obtain⟨a0,a1,a2,a3,a4,a5,a6,a7,a8⟩:=E4.o.ev
        go_wp2_with fail
        all_goals go_ret
        all_goals exact⟨by first|rfl|(simp;done)|(simp;omega),B4.o⟩
     ·cases n0:(now==0)
      all_goals
       have B0:=HB0
       have E0:=A8
       obtain⟨a0,a1,a2,a3,a4,a5,a6,a7,a8⟩:=E0.o.ev
       go_enter Tryz.func125,Tryz.ntmps125
       go_wp2_with fail
       refine (BF.o _ (HAT.o.on B0.o)).mono ?_
       rintro r w1 ⟨rfl,hbq⟩
       have B1:=ZZ (zTr B0.o hbq)
       have E1:=ZZ (E0.o.on hbq E0.o.lt)
       clear hbq a0 a1 a2 a3 a4 a5 a6 a7 a8
       obtain⟨a0,a1,a2,a3,a4,a5,a6,a7,a8⟩:=E1.o.ev
       go_wp2_with fail
       refine (AR.o _ (HAT.o.on B1.o)).mono ?_
       rintro r w2 ⟨rfl,hbq⟩
       have B2:=ZZ (zTr B1.o hbq)
       have E2:=ZZ (E1.o.on hbq E1.o.lt)
       clear hbq a0 a1 a2 a3 a4 a5 a6 a7 a8
       obtain⟨a0,a1,a2,a3,a4,a5,a6,a7,a8⟩:=E2.o.ev
       go_wp2_with fail
       refine (BG.o _ (HAT.o.on B2.o)).mono ?_
       rintro r w3 ⟨rfl,hbq⟩
       have B3:=ZZ (zTr B2.o hbq)
       have E3:=ZZ (E2.o.on hbq E2.o.lt)
       clear hbq a0 a1 a2 a3 a4 a5 a6 a7 a8
       obtain⟨a0,a1,a2,a3,a4,a5,a6,a7,a8⟩:=E3.o.ev
       go_wp2_with fail
       refine (AQ.o _ (HAT.o.on B3.o)).mono ?_
       rintro r w4 ⟨rfl,hbq⟩
       have B4:=ZZ (zTr B3.o hbq)
       have E4:=ZZ (E3.o.on hbq E3.o.lt)
       clear hbq a0 a1 a2 a3 a4 a5 a6 a7 a8
       obtain⟨a0,a1,a2,a3,a4,a5,a6,a7,a8⟩:=E4.o.ev
       go_wp2_with fail
       all_goals go_ret
       all_goals exact⟨by first|rfl|(simp;done)|(simp;omega),B4.o⟩
   ·rw[decide_eq_true h50,decide_eq_false hgt]
    cases gw:(who==2)
    ·have gw2:(who != 2)=true:=z0h gw
     have B0:=HB0
     have E0:=A8
     obtain⟨a0,a1,a2,a3,a4,a5,a6,a7,a8⟩:=E0.o.ev
     go_enter Tryz.func125,Tryz.ntmps125
     go_wp2_with fail
     refine (BF.o _ (HAT.o.on B0.o)).mono ?_
     rintro r w1 ⟨rfl,hbq⟩
     have B1:=ZZ (zTr B0.o hbq)
     have E1:=ZZ (E0.o.on hbq E0.o.lt)
     clear hbq a0 a1 a2 a3 a4 a5 a6 a7 a8
     obtain⟨a0,a1,a2,a3,a4,a5,a6,a7,a8⟩:=E1.o.ev
     go_wp2_with fail
     refine (AR.o _ (HAT.o.on B1.o)).mono ?_
     rintro r w2 ⟨rfl,hbq⟩
     have B2:=ZZ (zTr B1.o hbq)
     have E2:=ZZ (E1.o.on hbq E1.o.lt)
     clear hbq a0 a1 a2 a3 a4 a5 a6 a7 a8
     obtain⟨a0,a1,a2,a3,a4,a5,a6,a7,a8⟩:=E2.o.ev
     go_wp2_with fail
     refine (BG.o _ (HAT.o.on B2.o)).mono ?_
     rintro r w3 ⟨rfl,hbq⟩
     have B3:=ZZ (zTr B2.o hbq)
     have E3:=ZZ (E2.o.on hbq E2.o.lt)
     clear hbq a0 a1 a2 a3 a4 a5 a6 a7 a8
     obtain⟨a0,a1,a2,a3,a4,a5,a6,a7,a8⟩:=E3.o.ev
     go_wp2_with fail
     refine (AQ.o _ (HAT.o.on B3.o)).mono ?_
     rintro r w4 ⟨rfl,hbq⟩
     have B4:=ZZ (zTr B3.o hbq)
     have E4:=ZZ (E3.o.on hbq E3.o.lt)
     clear hbq a0 a1 a2 a3 a4 a5 a6 a7 a8
     obtain⟨a0,a1,a2,a3,a4,a5,a6,a7,a8⟩:=E4.o.ev
     go_wp2_with fail
     all_goals go_ret
     all_goals exact⟨by first|rfl|(simp;done)|(simp;omega),B4.o⟩
    ·have gw2:(who != 2)=false:=z0h gw
     cases m1:(e.member==1)
     ·cases m0:(e.member==0)
      ·cases m3:(e.member==3)
       ·have B0:=HB0
        have E0:=A8
        obtain⟨a0,a1,a2,a3,a4,a5,a6,a7,a8⟩:=E0.o.ev
        go_enter Tryz.func125,Tryz.ntmps125
        go_wp2_with fail
        refine (BF.o _ (HAT.o.on B0.o)).mono ?_
        rintro r w1 ⟨rfl,hbq⟩
        have B1:=ZZ (zTr B0.o hbq)
        have E1:=ZZ (E0.o.on hbq E0.o.lt)
        clear hbq a0 a1 a2 a3 a4 a5 a6 a7 a8
        obtain⟨a0,a1,a2,a3,a4,a5,a6,a7,a8⟩:=E1.o.ev
        go_wp2_with fail
        refine (AR.o _ (HAT.o.on B1.o)).mono ?_
        rintro r w2 ⟨rfl,hbq⟩
        have B2:=ZZ (zTr B1.o hbq)
        have E2:=ZZ (E1.o.on hbq E1.o.lt)
        clear hbq a0 a1 a2 a3 a4 a5 a6 a7 a8
        obtain⟨a0,a1,a2,a3,a4,a5,a6,a7,a8⟩:=E2.o.ev
        go_wp2_with fail
        refine (BG.o _ (HAT.o.on B2.o)).mono ?_
        rintro r w3 ⟨rfl,hbq⟩
        have B3:=ZZ (zTr B2.o hbq)
        have E3:=ZZ (E2.o.on hbq E2.o.lt)
        clear hbq a0 a1 a2 a3 a4 a5 a6 a7 a8
        obtain⟨a0,a1,a2,a3,a4,a5,a6,a7,a8⟩:=E3.o.ev
        go_wp2_with fail
        refine (AQ.o _ (HAT.o.on B3.o)).mono ?_
        rintro r w4 ⟨rfl,hbq⟩
        have B4:=ZZ (zTr B3.o hbq)
        have E4:=ZZ (E3.o.on hbq E3.o.lt)
        clear hbq a0 a1 a2 a3 a4 a5 a6 a7 a8
        obtain⟨a0,a1,a2,a3,a4,a5,a6,a7,a8⟩:=E4.o.ev
        go_wp2_with fail
        all_goals go_ret
        all_goals exact⟨by first|rfl|(simp;done)|(simp;omega),B4.o⟩
       ·cases n3:(now==3)
        ·have n3':(now != 3)=true:=z0h n3
         have B0:=HB0
         have E0:=A8
         obtain⟨a0,a1,a2,a3,a4,a5,a6,a7,a8⟩:=E0.o.ev
         go_enter Tryz.func125,Tryz.ntmps125
         go_wp2_with fail
         refine (BF.o _ (HAT.o.on B0.o)).mono ?_
         rintro r w1 ⟨rfl,hbq⟩
         have B1:=ZZ (zTr B0.o hbq)
         have E1:=ZZ (E0.o.on hbq E0.o.lt)
         clear hbq a0 a1 a2 a3 a4 a5 a6 a7 a8
         obtain⟨a0,a1,a2,a3,a4,a5,a6,a7,a8⟩:=E1.o.ev
         go_wp2_with fail
         refine (AR.o _ (HAT.o.on B1.o)).mono ?_
         rintro r w2 ⟨rfl,hbq⟩
         have B2:=ZZ (zTr B1.o hbq)
         have E2:=ZZ (E1.o.on hbq E1.o.lt)
         clear hbq a0 a1 a2 a3 a4 a5 a6 a7 a8
         obtain⟨a0,a1,a2,a3,a4,a5,a6,a7,a8⟩:=E2.o.ev
         go_wp2_with fail
         refine (BG.o _ (HAT.o.on B2.o)).mono ?_
         rintro r w3 ⟨rfl,hbq⟩
         have B3:=ZZ (zTr B2.o hbq)
         have E3:=ZZ (E2.o.on hbq E2.o.lt)
         clear hbq a0 a1 a2 a3 a4 a5 a6 a7 a8
         obtain⟨a0,a1,a2,a3,a4,a5,a6,a7,a8⟩:=E3.o.ev
         go_wp2_with fail
         refine (AQ.o _ (HAT.o.on B3.o)).mono ?_
         rintro r w4 ⟨rfl,hbq⟩
         have B4:=ZZ (zTr B3.o hbq)
         have E4:=ZZ (E3.o.on hbq E3.o.lt)
         clear hbq a0 a1 a2 a3 a4 a5 a6 a7 a8
         obtain⟨a0,a1,a2,a3,a4,a5,a6,a7,a8⟩:=E4.o.ev
         go_wp2_with fail
         all_goals go_ret
         all_goals exact⟨by first|rfl|(simp;done)|(simp;omega),B4.o⟩
        ·have n3':(now != 3)=false:=z0h n3
         have B0:=HB0
         have E0:=A8
         obtain⟨a0,a1,a2,a3,a4,a5,a6,a7,a8⟩:=E0.o.ev
         go_enter Tryz.func125,Tryz.ntmps125
         go_wp2_with fail
         refine (BF.o _ (HAT.o.on B0.o)).mono ?_
         rintro r w1 ⟨rfl,hbq⟩
         have B1:=ZZ (zTr B0.o hbq)
         have E1:=ZZ (E0.o.on hbq E0.o.lt)
         clear hbq a0 a1 a2 a3 a4 a5 a6 a7 a8
         obtain⟨a0,a1,a2,a3,a4,a5,a6,a7,a8⟩:=E1.o.ev
         go_wp2_with fail
         refine (AR.o _ (HAT.o.on B1.o)).mono ?_
         rintro r w2 ⟨rfl,hbq⟩
         have B2:=ZZ (zTr B1.o hbq)
         have E2:=ZZ (E1.o.on hbq E1.o.lt)
         clear hbq a0 a1 a2 a3 a4 a5 a6 a7 a8
         obtain⟨a0,a1,a2,a3,a4,a5,a6,a7,a8⟩:=E2.o.ev
         go_wp2_with fail
         refine (BG.o _ (HAT.o.on B2.o)).mono ?_
         rintro r w3 ⟨rfl,hbq⟩
         have B3:=ZZ (zTr B2.o hbq)
         have E3:=ZZ (E2.o.on hbq E2.o.lt)
         clear hbq a0 a1 a2 a3 a4 a5 a6 a7 a8
         obtain⟨a0,a1,a2,a3,a4,a5,a6,a7,a8⟩:=E3.o.ev
         go_wp2_with fail
         refine (AQ.o _ (HAT.o.on B3.o)).mono ?_
         rintro r w4 ⟨rfl,hbq⟩
         have B4:=ZZ (zTr B3.o hbq)
         have E4:=ZZ (E3.o.on hbq E3.o.lt)
         clear hbq a0 a1 a2 a3 a4 a5 a6 a7 a8
         obtain⟨a0,a1,a2,a3,a4,a5,a6,a7,a8⟩:=E4.o.ev
         go_wp2_with fail
         all_goals go_ret
         all_goals exact⟨by first|rfl|(simp;done)|(simp;omega),B4.o⟩
      ·cases n1:(now==1)<;>cases n2:(now==2)
       all_goals
        have B0:=HB0
        have E0:=A8
        obtain⟨a0,a1,a2,a3,a4,a5,a6,a7,a8⟩:=E0.o.ev
        go_enter Tryz.func125,Tryz.ntmps125
        go_wp2_with fail
        refine (BF.o _ (HAT.o.on B0.o)).mono ?_
        rintro r w1 ⟨rfl,hbq⟩
        have B1:=ZZ (zTr B0.o hbq)
        have E1:=ZZ (E0.o.on hbq E0.o.lt)
        clear hbq a0 a1 a2 a3 a4 a5 a6 a7 a8
        obtain⟨a0,a1,a2,a3,a4,a5,a6,a7,a8⟩:=E1.o.ev
        go_wp2_with fail
        refine (AR.o _ (HAT.o.on B1.o)).mono ?_
        rintro r w2 ⟨rfl,hbq⟩
        have B2:=ZZ (zTr B1.o hbq)
        have E2:=ZZ (E1.o.on hbq E1.o.lt)
        clear hbq a0 a1 a2 a3 a4 a5 a6 a7 a8
        obtain⟨a0,a1,a2,a3,a4,a5,a6,a7,a8⟩:=E2.o.ev
        go_wp2_with fail
        refine (BG.o _ (HAT.o.on B2.o)).mono ?_
        rintro r w3 ⟨rfl,hbq⟩
        have B3:=ZZ (zTr B2.o hbq)
        have E3:=ZZ (E2.o.on hbq E2.o.lt)
        clear hbq a0 a1 a2 a3 a4 a5 a6 a7 a8
        obtain⟨a0,a1,a2,a3,a4,a5,a6,a7,a8⟩:=E3.o.ev
        go_wp2_with fail
        refine (AQ.o _ (HAT.o.on B3.o)).mono ?_
        rintro r w4 ⟨rfl,hbq⟩
        have B4:=ZZ (zTr B3.o hbq)
        have E4:=ZZ (E3.o.on hbq E3.o.lt)
        clear hbq a0 a1 a2 a3 a4 a5 a6 a7 a8
        obtain⟨a0,a1,a2,a3,a4,a5,a6,a7,a8⟩:=E4.o.ev
        go_wp2_with fail
        all_goals go_ret
        all_goals exact⟨by first|rfl|(simp;done)|(simp;omega),B4.o⟩
     ·cases n0:(now==0)
      all_goals
       have B0:=HB0
       have E0:=A8
       obtain⟨a0,a1,a2,a3,a4,a5,a6,a7,a8⟩:=E0.o.ev
       go_enter Tryz.func125,Tryz.ntmps125
       go_wp2_with fail
       refine (BF.o _ (HAT.o.on B0.o)).mono ?_
       rintro r w1 ⟨rfl,hbq⟩
       have B1:=ZZ (zTr B0.o hbq)
       have E1:=ZZ (E0.o.on hbq E0.o.lt)
       clear hbq a0 a1 a2 a3 a4 a5 a6 a7 a8
       obtain⟨a0,a1,a2,a3,a4,a5,a6,a7,a8⟩:=E1.o.ev
       go_wp2_with fail
       refine (AR.o _ (HAT.o.on B1.o)).mono ?_
       rintro r w2 ⟨rfl,hbq⟩
       have B2:=ZZ (zTr B1.o hbq)
       have E2:=ZZ (E1.o.on hbq E1.o.lt)
       clear hbq a0 a1 a2 a3 a4 a5 a6 a7 a8
       obtain⟨a0,a1,a2,a3,a4,a5,a6,a7,a8⟩:=E2.o.ev
       go_wp2_with fail
       refine (BG.o _ (HAT.o.on B2.o)).mono ?_
       rintro r w3 ⟨rfl,hbq⟩
       have B3:=ZZ (zTr B2.o hbq)
       have E3:=ZZ (E2.o.on hbq E2.o.lt)
       clear hbq a0 a1 a2 a3 a4 a5 a6 a7 a8
       obtain⟨a0,a1,a2,a3,a4,a5,a6,a7,a8⟩:=E3.o.ev
       go_wp2_with fail
       refine (AQ.o _ (HAT.o.on B3.o)).mono ?_
       rintro r w4 ⟨rfl,hbq⟩
       have B4:=ZZ (zTr B3.o hbq)
       have E4:=ZZ (E3.o.on hbq E3.o.lt)
       clear hbq a0 a1 a2 a3 a4 a5 a6 a7 a8
       obtain⟨a0,a1,a2,a3,a4,a5,a6,a7,a8⟩:=E4.o.ev
       go_wp2_with fail
       all_goals go_ret
       all_goals exact⟨by first|rfl|(simp;done)|(simp;omega),B4.o⟩
  ·rw[decide_eq_false h50]
   cases gw:(who==2)
   ·have gw2:(who != 2)=true:=z0h gw
    have B0:=HB0
    have E0:=A8
    obtain⟨a0,a1,a2,a3,a4,a5,a6,a7,a8⟩:=E0.o.ev
    go_enter Tryz.func125,Tryz.ntmps125
    go_wp2_with fail
    refine (BF.o _ (HAT.o.on B0.o)).mono ?_
    rintro r w1 ⟨rfl,hbq⟩
    have B1:=ZZ (zTr B0.o hbq)
    have E1:=ZZ (E0.o.on hbq E0.o.lt)
    clear hbq a0 a1 a2 a3 a4 a5 a6 a7 a8
    obtain⟨a0,a1,a2,a3,a4,a5,a6,a7,a8⟩:=E1.o.ev
    go_wp2_with fail
    refine (AR.o _ (HAT.o.on B1.o)).mono ?_
    rintro r w2 ⟨rfl,hbq⟩
    have B2:=ZZ (zTr B1.o hbq)
    have E2:=ZZ (E1.o.on hbq E1.o.lt)
    clear hbq a0 a1 a2 a3 a4 a5 a6 a7 a8
    obtain⟨a0,a1,a2,a3,a4,a5,a6,a7,a8⟩:=E2.o.ev
    go_wp2_with fail
    refine (AQ.o _ (HAT.o.on B2.o)).mono ?_
    rintro r w4 ⟨rfl,hbq⟩
    have B3:=ZZ (zTr B2.o hbq)
    have E3:=ZZ (E2.o.on hbq E2.o.lt)
    clear hbq a0 a1 a2 a3 a4 a5 a6 a7 a8
    obtain⟨a0,a1,a2,a3,a4,a5,a6,a7,a8⟩:=E3.o.ev
    go_wp2_with fail
    all_goals go_ret
    all_goals exact⟨by first|rfl|(simp;done)|(simp;omega),B3.o⟩
   ·have gw2:(who != 2)=false:=z0h gw
    cases m1:(e.member==1)
    ·cases m0:(e.member==0)
     ·cases m3:(e.member==3)
      ·have B0:=HB0
       have E0:=A8
       obtain⟨a0,a1,a2,a3,a4,a5,a6,a7,a8⟩:=E0.o.ev
       go_enter Tryz.func125,Tryz.ntmps125
       go_wp2_with fail
       refine (BF.o _ (HAT.o.on B0.o)).mono ?_
       rintro r w1 ⟨rfl,hbq⟩
       have B1:=ZZ (zTr B0.o hbq)
       have E1:=ZZ (E0.o.on hbq E0.o.lt)
       clear hbq a0 a1 a2 a3 a4 a5 a6 a7 a8
       obtain⟨a0,a1,a2,a3,a4,a5,a6,a7,a8⟩:=E1.o.ev
       go_wp2_with fail
       refine (AR.o _ (HAT.o.on B1.o)).mono ?_
       rintro r w2 ⟨rfl,hbq⟩
       have B2:=ZZ (zTr B1.o hbq)
       have E2:=ZZ (E1.o.on hbq E1.o.lt)
       clear hbq a0 a1 a2 a3 a4 a5 a6 a7 a8
       obtain⟨a0,a1,a2,a3,a4,a5,a6,a7,a8⟩:=E2.o.ev
       go_wp2_with fail
       refine (AQ.o _ (HAT.o.on B2.o)).mono ?_
       rintro r w4 ⟨rfl,hbq⟩
       have B3:=ZZ (zTr B2.o hbq)
       have E3:=ZZ (E2.o.on hbq E2.o.lt)
       clear hbq a0 a1 a2 a3 a4 a5 a6 a7 a8
       obtain⟨a0,a1,a2,a3,a4,a5,a6,a7,a8⟩:=E3.o.ev
       go_wp2_with fail
       all_goals go_ret
       all_goals exact⟨by first|rfl|(simp;done)|(simp;omega),B3.o⟩
      ·cases n3:(now==3)
       ·have n3':(now != 3)=true:=z0h n3
        have B0:=HB0
        have E0:=A8
        obtain⟨a0,a1,a2,a3,a4,a5,a6,a7,a8⟩:=E0.o.ev
        go_enter Tryz.func125,Tryz.ntmps125
        go_wp2_with fail
        refine (BF.o _ (HAT.o.on B0.o)).mono ?_
        rintro r w1 ⟨rfl,hbq⟩
        have B1:=ZZ (zTr B0.o hbq)
        have E1:=ZZ (E0.o.on hbq E0.o.lt)
        clear hbq a0 a1 a2 a3 a4 a5 a6 a7 a8
        obtain⟨a0,a1,a2,a3,a4,a5,a6,a7,a8⟩:=E1.o.ev
        go_wp2_with fail
        refine (AR.o _ (HAT.o.on B1.o)).mono ?_
        rintro r w2 ⟨rfl,hbq⟩
        have B2:=ZZ (zTr B1.o hbq)
        have E2:=ZZ (E1.o.on hbq E1.o.lt)
        clear hbq a0 a1 a2 a3 a4 a5 a6 a7 a8
        obtain⟨a0,a1,a2,a3,a4,a5,a6,a7,a8⟩:=E2.o.ev
        go_wp2_with fail
        refine (AQ.o _ (HAT.o.on B2.o)).mono ?_
        rintro r w4 ⟨rfl,hbq⟩
        have B3:=ZZ (zTr B2.o hbq)
        have E3:=ZZ (E2.o.on hbq E2.o.lt)
        clear hbq a0 a1 a2 a3 a4 a5 a6 a7 a8
        obtain⟨a0,a1,a2,a3,a4,a5,a6,a7,a8⟩:=E3.o.ev
        go_wp2_with fail
        all_goals go_ret
        all_goals exact⟨by first|rfl|(simp;done)|(simp;omega),B3.o⟩
       ·have n3':(now != 3)=false:=z0h n3
        have B0:=HB0
        have E0:=A8
        obtain⟨a0,a1,a2,a3,a4,a5,a6,a7,a8⟩:=E0.o.ev
        go_enter Tryz.func125,Tryz.ntmps125
        go_wp2_with fail
        refine (BF.o _ (HAT.o.on B0.o)).mono ?_
        rintro r w1 ⟨rfl,hbq⟩
        have B1:=ZZ (zTr B0.o hbq)
        have E1:=ZZ (E0.o.on hbq E0.o.lt)
        clear hbq a0 a1 a2 a3 a4 a5 a6 a7 a8
        obtain⟨a0,a1,a2,a3,a4,a5,a6,a7,a8⟩:=E1.o.ev
        go_wp2_with fail
        refine (AR.o _ (HAT.o.on B1.o)).mono ?_
        rintro r w2 ⟨rfl,hbq⟩
        have B2:=ZZ (zTr B1.o hbq)
        have E2:=ZZ (E1.o.on hbq E1.o.lt)
        clear hbq a0 a1 a2 a3 a4 a5 a6 a7 a8
        obtain⟨a0,a1,a2,a3,a4,a5,a6,a7,a8⟩:=E2.o.ev
        go_wp2_with fail
        refine (AQ.o _ (HAT.o.on B2.o)).mono ?_
        rintro r w4 ⟨rfl,hbq⟩
        have B3:=ZZ (zTr B2.o hbq)
        have E3:=ZZ (E2.o.on hbq E2.o.lt)
        clear hbq a0 a1 a2 a3 a4 a5 a6 a7 a8
        obtain⟨a0,a1,a2,a3,a4,a5,a6,a7,a8⟩:=E3.o.ev
        go_wp2_with fail
        all_goals go_ret
        all_goals exact⟨by first|rfl|(simp;done)|(simp;omega),B3.o⟩
     ·cases n1:(now==1)<;>cases n2:(now==2)
      all_goals
       have B0:=HB0
       have E0:=A8
       obtain⟨a0,a1,a2,a3,a4,a5,a6,a7,a8⟩:=E0.o.ev
       go_enter Tryz.func125,Tryz.ntmps125
       go_wp2_with fail
       refine (BF.o _ (HAT.o.on B0.o)).mono ?_
       rintro r w1 ⟨rfl,hbq⟩
       have B1:=ZZ (zTr B0.o hbq)
       have E1:=ZZ (E0.o.on hbq E0.o.lt)
       clear hbq a0 a1 a2 a3 a4 a5 a6 a7 a8
       obtain⟨a0,a1,a2,a3,a4,a5,a6,a7,a8⟩:=E1.o.ev
       go_wp2_with fail
       refine (AR.o _ (HAT.o.on B1.o)).mono ?_
       rintro r w2 ⟨rfl,hbq⟩
       have B2:=ZZ (zTr B1.o hbq)
       have E2:=ZZ (E1.o.on hbq E1.o.lt)
       clear hbq a0 a1 a2 a3 a4 a5 a6 a7 a8
       obtain⟨a0,a1,a2,a3,a4,a5,a6,a7,a8⟩:=E2.o.ev
       go_wp2_with fail
       refine (AQ.o _ (HAT.o.on B2.o)).mono ?_
       rintro r w4 ⟨rfl,hbq⟩
       have B3:=ZZ (zTr B2.o hbq)
       have E3:=ZZ (E2.o.on hbq E2.o.lt)
       clear hbq a0 a1 a2 a3 a4 a5 a6 a7 a8
       obtain⟨a0,a1,a2,a3,a4,a5,a6,a7,a8⟩:=E3.o.ev
       go_wp2_with fail
       all_goals go_ret
       all_goals exact⟨by first|rfl|(simp;done)|(simp;omega),B3.o⟩
    ·cases n0:(now==0)
     all_goals
      have B0:=HB0
      have E0:=A8
      obtain⟨a0,a1,a2,a3,a4,a5,a6,a7,a8⟩:=E0.o.ev
      go_enter Tryz.func125,Tryz.ntmps125
      go_wp2_with fail
      refine (BF.o _ (HAT.o.on B0.o)).mono ?_
      rintro r w1 ⟨rfl,hbq⟩
      have B1:=ZZ (zTr B0.o hbq)
      have E1:=ZZ (E0.o.on hbq E0.o.lt)
      clear hbq a0 a1 a2 a3 a4 a5 a6 a7 a8
      obtain⟨a0,a1,a2,a3,a4,a5,a6,a7,a8⟩:=E1.o.ev
      go_wp2_with fail
      refine (AR.o _ (HAT.o.on B1.o)).mono ?_
      rintro r w2 ⟨rfl,hbq⟩
      have B2:=ZZ (zTr B1.o hbq)
      have E2:=ZZ (E1.o.on hbq E1.o.lt)
      clear hbq a0 a1 a2 a3 a4 a5 a6 a7 a8
      obtain⟨a0,a1,a2,a3,a4,a5,a6,a7,a8⟩:=E2.o.ev
      go_wp2_with fail
      refine (AQ.o _ (HAT.o.on B2.o)).mono ?_
      rintro r w4 ⟨rfl,hbq⟩
      have B3:=ZZ (zTr B2.o hbq)
      have E3:=ZZ (E2.o.on hbq E2.o.lt)
      clear hbq a0 a1 a2 a3 a4 a5 a6 a7 a8
      obtain⟨a0,a1,a2,a3,a4,a5,a6,a7,a8⟩:=E3.o.ev
      go_wp2_with fail
      all_goals go_ret
      all_goals exact⟨by first|rfl|(simp;done)|(simp;omega),B3.o⟩

def usersL:Zin:=[1,2,3,4,5]

theorem zm3 {es:List EvV} {s:Zii} {e:EvV} {j:Nat} (hj:j<5):(usersL.drop j).all (z3y es s e)=(z3y es s e ((j:Int)+1)&&(usersL.drop (j+1)).all (z3y es s e)):=by
 match j,hj with
 | 0,_=>rfl
 | 1,_=>rfl
 | 2,_=>rfl
 | 3,_=>rfl
 | 4,_=>rfl

theorem zf3 (oa:Zoa) (n cap:Nat) (es:List EvV) (ob:Zoa) (m cb:Nat) (s:Zii) (e:EvV) (xa:Zoa) (xc:Nat) (xp:Value) (hlen:e.levels.length=5) (w:World) (hat:ArgsE w oa n cap es ob m cb s) (hx:IntsAt w xa e.levels.length xc e.levels) :
  Calls Tryz.prog 126 #[.slice oa n cap,.slice ob m cb,evv e (.slice xa e.levels.length xc) xp] w fun r w'=>r=.returned (.bool (z6m es s e))∧Bw w w':=by
 have hb0:=(Below.refl w.heap.size w).alloc zLe (.cells (zk e.id e.kind e.sender e.user e.member e.depth (.slice xa e.levels.length xc) xp e.text) 62)
 have HB0:=ZZ hb0
 have AQ:=ZZ (fun w (h:ArgsE w oa n cap es ob m cb s)=>z2k oa n cap es ob m cb s e.sender w h.evs h.its)
 have AR:=ZZ (fun w (h:ArgsE w oa n cap es ob m cb s)=>z1m oa n cap es ob m cb s e.sender w h.evs h.its)
 have BG:=ZZ (fun u w (h:ArgsE w oa n cap es ob m cb s)=>z1m oa n cap es ob m cb s u w h.evs h.its)
 have HAT:=ZZ hat
 have HX:=ZZ hx
 have A8:=ZZ (EB.new w e.id e.kind e.sender e.user e.member e.depth (.slice xa e.levels.length xc) xp e.text)
 clear hat hb0 hx
 have hp:z6m es s e=(((z10 es s e.sender==2)&&decide (50≤z0e es s e.sender))&&usersL.all (z3y es s e)):=rfl
 rw[hp]
 have Ay:=ZZ (show ∀ u,z3y es s e u=((e.levels.getD (u.toNat - 1) 0==z0e es s u)||(decide (e.levels.getD (u.toNat - 1) 0≤z0e es s e.sender)&&(decide (z0e es s u<z0e es s e.sender)||(u==e.sender)))) from fun u=>rfl)
 obtain⟨mine,hmine⟩:∃ x,z0e es s e.sender=x:=⟨_,rfl⟩
 rw[hmine] at AR Ay ⊢
 generalize z10 es s e.sender=who at AQ ⊢
 have HLEN:=ZZ hlen
 clear hp hlen hmine
 have B0:=HB0
 have E0:=A8
 obtain⟨a0,a1,a2,a3,a4,a5,a6,a7,a8⟩:=E0.o.ev
 cases gw:(who==2)
 ·have gw2:(who != 2)=true:=z0h gw
  go_enter Tryz.func126,Tryz.ntmps126
  go_wp2_with fail
  refine (AR.o _ (HAT.o.on B0.o)).mono ?_
  rintro r w1 ⟨rfl,hbq⟩
  have B1:=ZZ (zTr B0.o hbq)
  have E1:=ZZ (E0.o.on hbq E0.o.lt)
  clear hbq a0 a1 a2 a3 a4 a5 a6 a7 a8
  obtain⟨a0,a1,a2,a3,a4,a5,a6,a7,a8⟩:=E1.o.ev
  go_wp2_with fail
  refine (AQ.o _ (HAT.o.on B1.o)).mono ?_
  rintro r w2 ⟨rfl,hbq⟩
  have B2:=ZZ (zTr B1.o hbq)
  have E2:=ZZ (E1.o.on hbq E1.o.lt)
  clear hbq a0 a1 a2 a3 a4 a5 a6 a7 a8
  obtain⟨a0,a1,a2,a3,a4,a5,a6,a7,a8⟩:=E2.o.ev
  go_wp2_with fail
  all_goals go_ret
  all_goals exact⟨rfl,B2.o⟩
 ·have gw2:(who != 2)=false:=z0h gw
  by_cases h50:(50:Int)≤mine
  ·have h50':¬ mine<50:=by omega
   rw[decide_eq_true h50]
   go_enter Tryz.func126,Tryz.ntmps126
   go_wp2_with fail
   refine (AR.o _ (HAT.o.on B0.o)).mono ?_
   rintro r w1 ⟨rfl,hbq⟩
   have B1:=ZZ (zTr B0.o hbq)
   have E1:=ZZ (E0.o.on hbq E0.o.lt)
   clear hbq a0 a1 a2 a3 a4 a5 a6 a7 a8
   obtain⟨a0,a1,a2,a3,a4,a5,a6,a7,a8⟩:=E1.o.ev
   go_wp2_with fail
   refine (AQ.o _ (HAT.o.on B1.o)).mono ?_
   rintro r w2 ⟨rfl,hbq⟩
   have B2:=ZZ (zTr B1.o hbq)
   have E2:=ZZ (E1.o.on hbq E1.o.lt)
   clear hbq a0 a1 a2 a3 a4 a5 a6 a7 a8
   obtain⟨a0,a1,a2,a3,a4,a5,a6,a7,a8⟩:=E2.o.ev
   go_wp2_with fail
   clear a0 a1 a2 a3 a4 a5 a6 a7 a8
   go_loopw [8] (fun i wr=>∃ (j:Nat),i=.int .i64 ((j:Int)+1)∧j≤5∧(usersL.drop j).all (z3y es s e)=usersL.all (z3y es s e)∧EB wr w.heap.size e.id e.kind e.sender e.user e.member e.depth (.slice xa e.levels.length xc) xp e.text∧Bw w wr) (fun i _=>6 - (intOf i).toNat)
   case atStart=>exact⟨0,rfl,by omega,rfl,E2.o,B2.o⟩
   case round =>
    obtain⟨j,rfl,hj,hrest,hev,hbel⟩:=hrel
    have B3:=ZZ hbel
    have E3:=ZZ hev
    clear hbel hev
    by_cases hlt:j<5
    ·have j0:(j:Int)+1≤5:=by omega
     rw[zm3 hlt,Ay.o] at hrest
     obtain⟨z,bz,qz,hz,hidz,hbz,cz,wz⟩:=HX.o.get Tryz.underlying60 z0f j (by have:=HLEN.o;omega)
     have hgz:e.levels.getD (((j:Int)+1).toNat - 1) 0=z:=by
      rw[show ((j:Int)+1).toNat - 1=j by omega,List.getD_eq_getElem?_getD,hz]
      rfl
     rw[hgz] at hrest
     have Ke:=ZZ (BG.o ((j:Int)+1))
     generalize z0e es s ((j:Int)+1)=old at hrest Ke
     clear hgz hz
     obtain⟨a0,a1,a2,a3,a4,a5,a6,a7,a8⟩:=E3.o.ev
     go_wp2_with fail
     refine (Ke.o _ (HAT.o.on B3.o)).mono ?_
     rintro r w4 ⟨rfl,hbq⟩
     have B4:=ZZ (zTr B3.o hbq)
     have E4:=ZZ (E3.o.on hbq E3.o.lt)
     have cz4:=(B4.o.cell hbz).trans cz
     clear hbq a0 a1 a2 a3 a4 a5 a6 a7 a8
     obtain⟨a0,a1,a2,a3,a4,a5,a6,a7,a8⟩:=E4.o.ev
     cases ge:(z==old)
     ·rw[ge,Bool.false_or] at hrest
      by_cases hz1:z≤mine
      ·have hz1':¬ mine<z:=by omega
       rw[decide_eq_true hz1,Bool.true_and] at hrest
       by_cases ho1:old<mine
       ·have ho1':¬ mine≤old:=by omega
        rw[decide_eq_true ho1,Bool.true_or,Bool.true_and] at hrest
        have HR:=ZZ hrest
        clear hrest
        go_wp2_with fail
        go_roundw
        case rel=>exact⟨j+1,by go_num,by omega,HR.o,E4.o,B4.o⟩
        case measure=>simp[intOf];omega
       ·have ho1':mine≤old:=by omega
        rw[decide_eq_false ho1,Bool.false_or] at hrest
        cases gu:((j:Int)+1==e.sender)
        ·have gu':((j:Int)+1 != e.sender)=true:=z0h gu
         rw[gu,Bool.false_and] at hrest
         have HR:=ZZ hrest
         clear hrest
         go_wp2_with fail
         go_ret
         exact⟨by rw[← HR.o];rfl,B4.o⟩
        ·have gu':((j:Int)+1 != e.sender)=false:=z0h gu
         rw[gu,Bool.true_and] at hrest
         have HR:=ZZ hrest
         clear hrest
         go_wp2_with fail
         go_roundw
         case rel=>exact⟨j+1,by go_num,by omega,HR.o,E4.o,B4.o⟩
         case measure=>simp[intOf];omega
      ·have hz1':mine<z:=by omega
       rw[decide_eq_false hz1,Bool.false_and,Bool.false_and] at hrest
       have HR:=ZZ hrest
       clear hrest
       go_wp2_with fail
       go_ret
       exact⟨by rw[← HR.o];rfl,B4.o⟩
     ·rw[ge,Bool.true_or,Bool.true_and] at hrest
      have HR:=ZZ hrest
      clear hrest
      go_wp2_with fail
      go_roundw
      case rel=>exact⟨j+1,by go_num,by omega,HR.o,E4.o,B4.o⟩
      case measure=>simp[intOf];omega
    ·have hj5:j=5:=by omega
     have HR:=ZZ (show usersL.all (z3y es s e)=true by rw[← hrest,hj5];rfl)
     clear hrest
     go_wp2_with fail
     go_ret
     exact⟨by rw[HR.o];rfl,B3.o⟩
  ·have h50':mine<50:=by omega
   rw[decide_eq_false h50]
   go_enter Tryz.func126,Tryz.ntmps126
   go_wp2_with fail
   refine (AR.o _ (HAT.o.on B0.o)).mono ?_
   rintro r w1 ⟨rfl,hbq⟩
   have B1:=ZZ (zTr B0.o hbq)
   have E1:=ZZ (E0.o.on hbq E0.o.lt)
   clear hbq a0 a1 a2 a3 a4 a5 a6 a7 a8
   obtain⟨a0,a1,a2,a3,a4,a5,a6,a7,a8⟩:=E1.o.ev
   go_wp2_with fail
   refine (AQ.o _ (HAT.o.on B1.o)).mono ?_
   rintro r w2 ⟨rfl,hbq⟩
   have B2:=ZZ (zTr B1.o hbq)
   have E2:=ZZ (E1.o.on hbq E1.o.lt)
   clear hbq a0 a1 a2 a3 a4 a5 a6 a7 a8
   obtain⟨a0,a1,a2,a3,a4,a5,a6,a7,a8⟩:=E2.o.ev
   go_wp2_with fail
   go_ret
   exact⟨rfl,B2.o⟩

theorem z95 {e:EvV} (h:evOk e=true) (k:e.kind=3):e.levels.length=5:=by
 simp only[evOk,zo,Bool.and_eq_true] at h
 have h1:=h.1.2.2.2.1
 unfold z13 at h1
 rw[if_pos k] at h1
 simp only[lvOk,Bool.and_eq_true,decide_eq_true_eq] at h1
 exact h1.2

theorem zbl (es:List EvV) (s:Zii) (e:EvV):allowed es s e=(evOk e&&(if (e.kind==1)=true then decide (s=[]) else (((evKn es (stAt s 1)).2&&((evKn es (stAt s 1)).1.kind==1))&&(if (e.kind==2)=true then z5b es s e else if (e.kind==3)=true then z6m es s e else if (e.kind==4)=true then ((z10 es s e.sender==2)&&decide (50≤z0e es s e.sender)) else (z10 es s e.sender==2))))):=by
 unfold allowed
 simp only[beq_iff_eq,z3z]
 cases hf:zf es (stAt s 1) with
 | none=>rw[z16 hf];simp
 | some c=>rw[z15 hf];simp

theorem z7t (oa:Zoa) (n cap:Nat) (es:List EvV) (ob:Zoa) (m cb:Nat) (s:Zii) (e:EvV) (xa:Zoa) (xc:Nat) (ya:Zoa) (yc:Nat) (htx:e.text.length≤1048576) (w:World) (hat:ArgsE w oa n cap es ob m cb s) (hx:IntsAt w xa e.levels.length xc e.levels) (hy:IntsAt w ya e.prev.length yc e.prev) :
  Calls Tryz.prog 73 #[.slice oa n cap,.slice ob m cb,evv e (.slice xa e.levels.length xc) (.slice ya e.prev.length yc)] w fun r w'=>r=.returned (.bool (allowed es s e))∧Bw w w':=by
 have hb0:=(Below.refl w.heap.size w).alloc zLe (.cells (zk e.id e.kind e.sender e.user e.member e.depth (.slice xa e.levels.length xc) (.slice ya e.prev.length yc) e.text) 62)
 have B0:=ZZ hb0
 have Ab:=ZZ (z7s e.id e.kind e.sender e.user e.member e.depth xa e.levels.length xc e.text ya e.prev.length yc e.levels e.prev htx _ (hx.below hb0) (hy.below hb0))
 have G7:=ZZ (fun w (h:ArgsE w oa n cap es ob m cb s)=>zdx oa n cap es ob m cb s e (.slice xa e.levels.length xc) (.slice ya e.prev.length yc) w h)
 have Kg:=ZZ (fun hl w (h:ArgsE w oa n cap es ob m cb s) hx=>zf3 oa n cap es ob m cb s e xa xc (.slice ya e.prev.length yc) hl w h hx)
 have AQ:=ZZ (fun w (h:ArgsE w oa n cap es ob m cb s)=>z2k oa n cap es ob m cb s e.sender w h.evs h.its)
 have AR:=ZZ (fun w (h:ArgsE w oa n cap es ob m cb s)=>z1m oa n cap es ob m cb s e.sender w h.evs h.its)
 have HA:=ZZ (fun w (h:ArgsE w oa n cap es ob m cb s)=>z2u ob m cb s 1 w h.its)
 have HF:=ZZ (fun w (h:ArgsE w oa n cap es ob m cb s)=>z4i oa n cap es (stAt s 1) w h.evs)
 have HAT:=ZZ hat
 have HX:=ZZ hx
 have HM:=ZZ hat.its.len
 have E0:=ZZ (EB.new w e.id e.kind e.sender e.user e.member e.depth (.slice xa e.levels.length xc) (.slice ya e.prev.length yc) e.text)
 have KQ:=ZZ (show evOk e=true→e.kind=3→e.levels.length=5 from fun h k=>z95 h k)
 clear hat hb0 hx hy
 rw[zbl]
 have hev:evOk (⟨e.id,e.kind,e.sender,e.user,e.member,e.levels,e.text,e.prev,e.depth⟩:EvV)=evOk e:=rfl
 rw[hev] at Ab
 clear hev
 generalize z5b es s e=rM at G7 ⊢
 generalize z6m es s e=rP at Kg ⊢
 generalize z10 es s e.sender=who at AQ ⊢
 generalize z0e es s e.sender=mine at AR ⊢
 generalize evKn es (stAt s 1)=R at HF ⊢
 generalize stAt s 1=id at HA HF
 obtain⟨c,ok⟩:=R
 simp only at HF ⊢
 cases hok:evOk e
 ·rw[Bool.false_and]
  rw[hok] at Ab
  obtain⟨a0,a1,a2,a3,a4,a5,a6,a7,a8⟩:=E0.o.ev
  go_enter Tryz.func73,Tryz.ntmps73
  go_wp2_with fail
  refine Ab.o.mono ?_
  rintro r w1 ⟨rfl,hbq⟩
  have B1:=ZZ (zTr B0.o hbq)
  have E1:=ZZ (E0.o.on hbq E0.o.lt)
  clear hbq a0 a1 a2 a3 a4 a5 a6 a7 a8
  obtain⟨a0,a1,a2,a3,a4,a5,a6,a7,a8⟩:=E1.o.ev
  go_wp2_with fail
  go_ret
  exact⟨rfl,B1.o⟩
 ·rw[Bool.true_and]
  have hok2:=hok
  rw[hok] at Ab
  have Jp:=ZZ hok2
  clear hok hok2
  cases k1:(e.kind==1)
  ·rw[if_neg (by simp)]
   cases ok
   ·rw[Bool.false_and,Bool.false_and]
    obtain⟨a0,a1,a2,a3,a4,a5,a6,a7,a8⟩:=E0.o.ev
    go_enter Tryz.func73,Tryz.ntmps73
    go_wp2_with fail
    refine Ab.o.mono ?_
    rintro r w1 ⟨rfl,hbq⟩
    have B1:=ZZ (zTr B0.o hbq)
    have E1:=ZZ (E0.o.on hbq E0.o.lt)
    clear hbq a0 a1 a2 a3 a4 a5 a6 a7 a8
    obtain⟨a0,a1,a2,a3,a4,a5,a6,a7,a8⟩:=E1.o.ev
    go_wp2_with fail
    refine (HA.o _ (HAT.o.on B1.o)).mono ?_
    rintro r w1' ⟨rfl,rfl⟩
    go_wp2_with fail
    refine (HF.o _ (HAT.o.on B1.o)).mono ?_
    rintro r w2 ⟨xa2,xc2,ya2,yc2,rfl,hx2,hy2,hbq⟩
    have hlt2:=zLt E1.o.lt hbq.size
    have B2:=ZZ (zg (zTr B1.o hbq) (.cells (zk c.id c.kind c.sender c.user c.member c.depth (.slice xa2 c.levels.length xc2) (.slice ya2 c.prev.length yc2) c.text) 62))
    have E2:=ZZ (E1.o.on hbq E1.o.lt)
    clear hbq hx2 hy2 a0 a1 a2 a3 a4 a5 a6 a7 a8
    obtain⟨a0,a1,a2,a3,a4,a5,a6,a7,a8⟩:=E2.o.ev
    go_wp2_with fail
    go_ret
    exact⟨rfl,B2.o⟩
   ·cases kc:(c.kind==1)
    ·have kc2:(c.kind != 1)=true:=z0h kc
     rw[Bool.and_false,Bool.false_and]
     obtain⟨a0,a1,a2,a3,a4,a5,a6,a7,a8⟩:=E0.o.ev
     go_enter Tryz.func73,Tryz.ntmps73
     go_wp2_with fail
     refine Ab.o.mono ?_
     rintro r w1 ⟨rfl,hbq⟩
     have B1:=ZZ (zTr B0.o hbq)
     have E1:=ZZ (E0.o.on hbq E0.o.lt)
     clear hbq a0 a1 a2 a3 a4 a5 a6 a7 a8
     obtain⟨a0,a1,a2,a3,a4,a5,a6,a7,a8⟩:=E1.o.ev
     go_wp2_with fail
     refine (HA.o _ (HAT.o.on B1.o)).mono ?_
     rintro r w1' ⟨rfl,rfl⟩
     go_wp2_with fail
     refine (HF.o _ (HAT.o.on B1.o)).mono ?_
     rintro r w2 ⟨xa2,xc2,ya2,yc2,rfl,hx2,hy2,hbq⟩
     have hlt2:=zLt E1.o.lt hbq.size
     have B2:=ZZ (zg (zTr B1.o hbq) (.cells (zk c.id c.kind c.sender c.user c.member c.depth (.slice xa2 c.levels.length xc2) (.slice ya2 c.prev.length yc2) c.text) 62))
     have E2:=ZZ (E1.o.on hbq E1.o.lt)
     clear hbq hx2 hy2 a0 a1 a2 a3 a4 a5 a6 a7 a8
     obtain⟨a0,a1,a2,a3,a4,a5,a6,a7,a8⟩:=E2.o.ev
     go_wp2_with fail
     all_goals go_ret
     all_goals exact⟨rfl,B2.o⟩
    ·have kc2:(c.kind != 1)=false:=z0h kc
     rw[Bool.and_true,Bool.true_and]
     cases k2:(e.kind==2)
     ·rw[if_neg (by simp)]
      cases k3:(e.kind==3)
      ·rw[if_neg (by simp)]
       cases k4:(e.kind==4)
       ·rw[if_neg (by simp)]
        obtain⟨a0,a1,a2,a3,a4,a5,a6,a7,a8⟩:=E0.o.ev
        go_enter Tryz.func73,Tryz.ntmps73
        go_wp2_with fail
        refine Ab.o.mono ?_
        rintro r w1 ⟨rfl,hbq⟩
        have B1:=ZZ (zTr B0.o hbq)
        have E1:=ZZ (E0.o.on hbq E0.o.lt)
        clear hbq a0 a1 a2 a3 a4 a5 a6 a7 a8
        obtain⟨a0,a1,a2,a3,a4,a5,a6,a7,a8⟩:=E1.o.ev
        go_wp2_with fail
        refine (HA.o _ (HAT.o.on B1.o)).mono ?_
        rintro r w1' ⟨rfl,rfl⟩
        go_wp2_with fail
        refine (HF.o _ (HAT.o.on B1.o)).mono ?_
        rintro r w2 ⟨xa2,xc2,ya2,yc2,rfl,hx2,hy2,hbq⟩
        have hlt2:=zLt E1.o.lt hbq.size
        have B2:=ZZ (zg (zTr B1.o hbq) (.cells (zk c.id c.kind c.sender c.user c.member c.depth (.slice xa2 c.levels.length xc2) (.slice ya2 c.prev.length yc2) c.text) 62))
        have E2:=ZZ (E1.o.on hbq E1.o.lt)
        clear hbq hx2 hy2 a0 a1 a2 a3 a4 a5 a6 a7 a8
        obtain⟨a0,a1,a2,a3,a4,a5,a6,a7,a8⟩:=E2.o.ev
        go_wp2_with fail
        refine (AQ.o _ (HAT.o.on B2.o)).mono ?_
        rintro r w3 ⟨rfl,hbq⟩
        have B3:=ZZ (zTr B2.o hbq)
        clear a0 a1 a2 a3 a4 a5 a6 a7 a8
        go_wp2_with fail
        go_ret
        exact⟨rfl,B3.o⟩
       ·rw[if_pos rfl]
        cases gw:(who==2)
        ·rw[Bool.false_and]
         obtain⟨a0,a1,a2,a3,a4,a5,a6,a7,a8⟩:=E0.o.ev
         go_enter Tryz.func73,Tryz.ntmps73
         go_wp2_with fail
         refine Ab.o.mono ?_
         rintro r w1 ⟨rfl,hbq⟩
         have B1:=ZZ (zTr B0.o hbq)
         have E1:=ZZ (E0.o.on hbq E0.o.lt)
         clear hbq a0 a1 a2 a3 a4 a5 a6 a7 a8
         obtain⟨a0,a1,a2,a3,a4,a5,a6,a7,a8⟩:=E1.o.ev
         go_wp2_with fail
         refine (HA.o _ (HAT.o.on B1.o)).mono ?_
         rintro r w1' ⟨rfl,rfl⟩
         go_wp2_with fail
         refine (HF.o _ (HAT.o.on B1.o)).mono ?_
         rintro r w2 ⟨xa2,xc2,ya2,yc2,rfl,hx2,hy2,hbq⟩
         have hlt2:=zLt E1.o.lt hbq.size
         have B2:=ZZ (zg (zTr B1.o hbq) (.cells (zk c.id c.kind c.sender c.user c.member c.depth (.slice xa2 c.levels.length xc2) (.slice ya2 c.prev.length yc2) c.text) 62))
         have E2:=ZZ (E1.o.on hbq E1.o.lt)
         clear hbq hx2 hy2 a0 a1 a2 a3 a4 a5 a6 a7 a8
         obtain⟨a0,a1,a2,a3,a4,a5,a6,a7,a8⟩:=E2.o.ev
         go_wp2_with fail
         refine (AQ.o _ (HAT.o.on B2.o)).mono ?_
         rintro r w3 ⟨rfl,hbq⟩
         have B3:=ZZ (zTr B2.o hbq)
         clear a0 a1 a2 a3 a4 a5 a6 a7 a8
         go_wp2_with fail
         go_ret
         exact⟨rfl,B3.o⟩
        ·rw[Bool.true_and]
         obtain⟨a0,a1,a2,a3,a4,a5,a6,a7,a8⟩:=E0.o.ev
         go_enter Tryz.func73,Tryz.ntmps73
         go_wp2_with fail
         refine Ab.o.mono ?_
         rintro r w1 ⟨rfl,hbq⟩
         have B1:=ZZ (zTr B0.o hbq)
         have E1:=ZZ (E0.o.on hbq E0.o.lt)
         clear hbq a0 a1 a2 a3 a4 a5 a6 a7 a8
         obtain⟨a0,a1,a2,a3,a4,a5,a6,a7,a8⟩:=E1.o.ev
         go_wp2_with fail
         refine (HA.o _ (HAT.o.on B1.o)).mono ?_
         rintro r w1' ⟨rfl,rfl⟩
         go_wp2_with fail
         refine (HF.o _ (HAT.o.on B1.o)).mono ?_
         rintro r w2 ⟨xa2,xc2,ya2,yc2,rfl,hx2,hy2,hbq⟩
         have hlt2:=zLt E1.o.lt hbq.size
         have B2:=ZZ (zg (zTr B1.o hbq) (.cells (zk c.id c.kind c.sender c.user c.member c.depth (.slice xa2 c.levels.length xc2) (.slice ya2 c.prev.length yc2) c.text) 62))
         have E2:=ZZ (E1.o.on hbq E1.o.lt)
         clear hbq hx2 hy2 a0 a1 a2 a3 a4 a5 a6 a7 a8
         obtain⟨a0,a1,a2,a3,a4,a5,a6,a7,a8⟩:=E2.o.ev
         go_wp2_with fail
         refine (AQ.o _ (HAT.o.on B2.o)).mono ?_
         rintro r w3 ⟨rfl,hbq⟩
         have B3:=ZZ (zTr B2.o hbq)
         clear a0 a1 a2 a3 a4 a5 a6 a7 a8
         have E3:=ZZ ((E2.o.on (zBa) E2.o.lt).on hbq (E2.o.on (zBa) E2.o.lt).lt)
         obtain⟨a0,a1,a2,a3,a4,a5,a6,a7,a8⟩:=E3.o.ev
         go_wp2_with fail
         refine (AR.o _ (HAT.o.on B3.o)).mono ?_
         rintro r w4 ⟨rfl,hbq4⟩
         have B4:=ZZ (zTr B3.o hbq4)
         clear a0 a1 a2 a3 a4 a5 a6 a7 a8
         go_wp2_with fail
         go_ret
         exact⟨rfl,B4.o⟩
      ·rw[if_pos rfl]
       have h5:=KQ.o Jp.o (by simpa using k3)
       have Jq:=ZZ (Kg.o h5)
       clear h5
       obtain⟨a0,a1,a2,a3,a4,a5,a6,a7,a8⟩:=E0.o.ev
       go_enter Tryz.func73,Tryz.ntmps73
       go_wp2_with fail
       refine Ab.o.mono ?_
       rintro r w1 ⟨rfl,hbq⟩
       have B1:=ZZ (zTr B0.o hbq)
       have E1:=ZZ (E0.o.on hbq E0.o.lt)
       clear hbq a0 a1 a2 a3 a4 a5 a6 a7 a8
       obtain⟨a0,a1,a2,a3,a4,a5,a6,a7,a8⟩:=E1.o.ev
       go_wp2_with fail
       refine (HA.o _ (HAT.o.on B1.o)).mono ?_
       rintro r w1' ⟨rfl,rfl⟩
       go_wp2_with fail
       refine (HF.o _ (HAT.o.on B1.o)).mono ?_
       rintro r w2 ⟨xa2,xc2,ya2,yc2,rfl,hx2,hy2,hbq⟩
       have hlt2:=zLt E1.o.lt hbq.size
       have B2:=ZZ (zg (zTr B1.o hbq) (.cells (zk c.id c.kind c.sender c.user c.member c.depth (.slice xa2 c.levels.length xc2) (.slice ya2 c.prev.length yc2) c.text) 62))
       have E2:=ZZ (E1.o.on hbq E1.o.lt)
       clear hbq hx2 hy2 a0 a1 a2 a3 a4 a5 a6 a7 a8
       obtain⟨a0,a1,a2,a3,a4,a5,a6,a7,a8⟩:=E2.o.ev
       go_wp2_with fail
       refine (Jq.o _ (HAT.o.on B2.o) (HX.o.below B2.o)).mono ?_
       rintro r w3 ⟨rfl,hbq⟩
       have B3:=ZZ (zTr B2.o hbq)
       clear a0 a1 a2 a3 a4 a5 a6 a7 a8
       go_wp2_with fail
       go_ret
       exact⟨rfl,B3.o⟩
     ·rw[if_pos rfl]
      obtain⟨a0,a1,a2,a3,a4,a5,a6,a7,a8⟩:=E0.o.ev
      go_enter Tryz.func73,Tryz.ntmps73
      go_wp2_with fail
      refine Ab.o.mono ?_
      rintro r w1 ⟨rfl,hbq⟩
      have B1:=ZZ (zTr B0.o hbq)
      have E1:=ZZ (E0.o.on hbq E0.o.lt)
      clear hbq a0 a1 a2 a3 a4 a5 a6 a7 a8
      obtain⟨a0,a1,a2,a3,a4,a5,a6,a7,a8⟩:=E1.o.ev
      go_wp2_with fail
      refine (HA.o _ (HAT.o.on B1.o)).mono ?_
      rintro r w1' ⟨rfl,rfl⟩
      go_wp2_with fail
      refine (HF.o _ (HAT.o.on B1.o)).mono ?_
      rintro r w2 ⟨xa2,xc2,ya2,yc2,rfl,hx2,hy2,hbq⟩
      have hlt2:=zLt E1.o.lt hbq.size
      have B2:=ZZ (zg (zTr B1.o hbq) (.cells (zk c.id c.kind c.sender c.user c.member c.depth (.slice xa2 c.levels.length xc2) (.slice ya2 c.prev.length yc2) c.text) 62))
      have E2:=ZZ (E1.o.on hbq E1.o.lt)
      clear hbq hx2 hy2 a0 a1 a2 a3 a4 a5 a6 a7 a8
      obtain⟨a0,a1,a2,a3,a4,a5,a6,a7,a8⟩:=E2.o.ev
      go_wp2_with fail
      refine (G7.o _ (HAT.o.on B2.o)).mono ?_
      rintro r w3 ⟨rfl,hbq⟩
      have B3:=ZZ (zTr B2.o hbq)
      clear a0 a1 a2 a3 a4 a5 a6 a7 a8
      go_wp2_with fail
      go_ret
      exact⟨rfl,B3.o⟩
  ·rw[if_pos rfl]
   have hs:decide (s=[])=((m:Int)==0):=by
    have:=HM.o
    cases s with
    | nil=>simp at this;subst this;rfl
    | cons x r=>simp at this;simp;omega
   rw[hs]
   clear hs
   obtain⟨a0,a1,a2,a3,a4,a5,a6,a7,a8⟩:=E0.o.ev
   go_enter Tryz.func73,Tryz.ntmps73
   go_wp2_with fail
   refine Ab.o.mono ?_
   rintro r w1 ⟨rfl,hbq⟩
   have B1:=ZZ (zTr B0.o hbq)
   have E1:=ZZ (E0.o.on hbq E0.o.lt)
   clear hbq a0 a1 a2 a3 a4 a5 a6 a7 a8
   obtain⟨a0,a1,a2,a3,a4,a5,a6,a7,a8⟩:=E1.o.ev
   go_wp2_with fail
   go_ret
   exact⟨rfl,B1.o⟩

end Go.Proofs.YtfeebdcmlnapiaaGreat
