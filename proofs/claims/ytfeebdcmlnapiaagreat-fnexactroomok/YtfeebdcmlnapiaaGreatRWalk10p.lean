/-
  Walks.
-/
import Derived.Test.YtfeebdcmlnapiaaGreatRWalk10o
import Derived.Test.YtfeebdcmlnapiaaGreatREv4
set_option linter.unusedVariables false
set_option linter.unusedSimpArgs false
namespace Go.Proofs.YtfeebdcmlnapiaaGreat
open Go.RowKit P5 P9 P12 P14 K

theorem z95 {e:EvV} (h:evOk e=true) (k:e.kind=3):e.levels.length=5:=by
 simp only[evOk,zo,Bool.and_eq_true] at h
 have h1:=h.1.2.2.2.1
 unfold z13 at h1
 rw[if_pos k] at h1
 simp only[lvOk,Bool.and_eq_true,decide_eq_true_eq] at h1
 exact h1.2

theorem zbl (es:List EvV) (s:List (Int × Int)) (e:EvV):allowed es s e=(evOk e&&(if (e.kind==1)=true then decide (s=[]) else (((evKn es (stAt s 1)).2&&((evKn es (stAt s 1)).1.kind==1))&&(if (e.kind==2)=true then z5b es s e else if (e.kind==3)=true then z6m es s e else if (e.kind==4)=true then ((z10 es s e.sender==2)&&decide (50≤z0e es s e.sender)) else (z10 es s e.sender==2))))):=by
 unfold allowed
 simp only[beq_iff_eq,z3z]
 cases hf:zf es (stAt s 1) with
 | none=>rw[z16 hf];simp
 | some c=>rw[z15 hf];simp

set_option maxHeartbeats 16000000 in
theorem z7t (oa:Option Addr) (n cap:Nat) (es:List EvV) (ob:Option Addr) (m cb:Nat) (s:List (Int × Int)) (e:EvV) (xa:Option Addr) (xc:Nat) (ya:Option Addr) (yc:Nat) (htx:e.text.length≤1048576) (w:World) (hat:ArgsE w oa n cap es ob m cb s) (hx:IntsAt w xa e.levels.length xc e.levels) (hy:IntsAt w ya e.prev.length yc e.prev) :
  Calls Tryz.prog 73 #[.slice oa n cap,.slice ob m cb,evv e (.slice xa e.levels.length xc) (.slice ya e.prev.length yc)] w fun r w'=>r=.returned (.bool (allowed es s e))∧Below w.heap.size w w':=by
 have hb0:=(Below.refl w.heap.size w).alloc (Nat.le_refl _) (.cells (zk e.id e.kind e.sender e.user e.member e.depth (.slice xa e.levels.length xc) (.slice ya e.prev.length yc) e.text) 62)
 have B0:=hide hb0
 have Ab:=hide (z7s e.id e.kind e.sender e.user e.member e.depth xa e.levels.length xc e.text ya e.prev.length yc e.levels e.prev htx _ (hx.below hb0) (hy.below hb0))
 have G7:=hide (fun w (h:ArgsE w oa n cap es ob m cb s)=>zdx oa n cap es ob m cb s e (.slice xa e.levels.length xc) (.slice ya e.prev.length yc) w h)
 have Kg:=hide (fun hl w (h:ArgsE w oa n cap es ob m cb s) hx=>zf3 oa n cap es ob m cb s e xa xc (.slice ya e.prev.length yc) hl w h hx)
 have AQ:=hide (fun w (h:ArgsE w oa n cap es ob m cb s)=>z2k oa n cap es ob m cb s e.sender w h.evs h.its)
 have AR:=hide (fun w (h:ArgsE w oa n cap es ob m cb s)=>z1m oa n cap es ob m cb s e.sender w h.evs h.its)
 have HA:=hide (fun w (h:ArgsE w oa n cap es ob m cb s)=>z2u ob m cb s 1 w h.its)
 have HF:=hide (fun w (h:ArgsE w oa n cap es ob m cb s)=>z4i oa n cap es (stAt s 1) w h.evs)
 have HAT:=hide hat
 have HX:=hide hx
 have HM:=hide hat.its.len
 have E0:=hide (EB.new w e.id e.kind e.sender e.user e.member e.depth (.slice xa e.levels.length xc) (.slice ya e.prev.length yc) e.text)
 have KQ:=hide (show evOk e=true→e.kind=3→e.levels.length=5 from fun h k=>z95 h k)
 clear hat hb0 hx hy
 rw[zbl]
 have hev:evOk (⟨e.id,e.kind,e.sender,e.user,e.member,e.levels,e.text,e.prev,e.depth⟩:EvV)=evOk e:=rfl
 rw[hev] at Ab
 clear hev
 generalize z5b es s e=rM at G7 ⊢
 generalize z6m es s e=rP at Kg ⊢
 generalize z10 es s e.sender=who at AQ ⊢
 generalize z0e es s e.sender=mine at AR ⊢
 generalize evKn es (stAt s 1)=R at HF ⊢
 generalize stAt s 1=id at HA HF
 obtain⟨c,ok⟩:=R
 simp only at HF ⊢
 cases hok:evOk e
 ·rw[Bool.false_and]
  rw[hok] at Ab
  obtain⟨a0,a1,a2,a3,a4,a5,a6,a7,a8⟩:=E0.out.ev
  go_enter Tryz.func73,Tryz.ntmps73
  go_wp2_with fail
  refine Ab.out.mono ?_
  rintro r w1 ⟨rfl,hbq⟩
  have B1:=hide (B0.out.trans (hbq.mono B0.out.size))
  have E1:=hide (E0.out.on hbq E0.out.lt)
  clear hbq a0 a1 a2 a3 a4 a5 a6 a7 a8
  obtain⟨a0,a1,a2,a3,a4,a5,a6,a7,a8⟩:=E1.out.ev
  go_wp2_with fail
  go_ret
  exact⟨rfl,B1.out⟩
 ·rw[Bool.true_and]
  have hok2:=hok
  rw[hok] at Ab
  have Jp:=hide hok2
  clear hok hok2
  cases k1:(e.kind==1)
  ·rw[if_neg (by simp)]
   cases ok
   ·rw[Bool.false_and,Bool.false_and]
    obtain⟨a0,a1,a2,a3,a4,a5,a6,a7,a8⟩:=E0.out.ev
    go_enter Tryz.func73,Tryz.ntmps73
    go_wp2_with fail
    refine Ab.out.mono ?_
    rintro r w1 ⟨rfl,hbq⟩
    have B1:=hide (B0.out.trans (hbq.mono B0.out.size))
    have E1:=hide (E0.out.on hbq E0.out.lt)
    clear hbq a0 a1 a2 a3 a4 a5 a6 a7 a8
    obtain⟨a0,a1,a2,a3,a4,a5,a6,a7,a8⟩:=E1.out.ev
    go_wp2_with fail
    refine (HA.out _ (HAT.out.on B1.out)).mono ?_
    rintro r w1' ⟨rfl,rfl⟩
    go_wp2_with fail
    refine (HF.out _ (HAT.out.on B1.out)).mono ?_
    rintro r w2 ⟨xa2,xc2,ya2,yc2,rfl,hx2,hy2,hbq⟩
    have hlt2:=Nat.lt_of_lt_of_le E1.out.lt hbq.size
    have B2:=hide (zg (B1.out.trans (hbq.mono B1.out.size)) (.cells (zk c.id c.kind c.sender c.user c.member c.depth (.slice xa2 c.levels.length xc2) (.slice ya2 c.prev.length yc2) c.text) 62))
    have E2:=hide (E1.out.on hbq E1.out.lt)
    clear hbq hx2 hy2 a0 a1 a2 a3 a4 a5 a6 a7 a8
    obtain⟨a0,a1,a2,a3,a4,a5,a6,a7,a8⟩:=E2.out.ev
    go_wp2_with fail
    go_ret
    exact⟨rfl,B2.out⟩
   ·cases kc:(c.kind==1)
    ·have kc2:(c.kind != 1)=true:=z0h kc
     rw[Bool.and_false,Bool.false_and]
     obtain⟨a0,a1,a2,a3,a4,a5,a6,a7,a8⟩:=E0.out.ev
     go_enter Tryz.func73,Tryz.ntmps73
     go_wp2_with fail
     refine Ab.out.mono ?_
     rintro r w1 ⟨rfl,hbq⟩
     have B1:=hide (B0.out.trans (hbq.mono B0.out.size))
     have E1:=hide (E0.out.on hbq E0.out.lt)
     clear hbq a0 a1 a2 a3 a4 a5 a6 a7 a8
     obtain⟨a0,a1,a2,a3,a4,a5,a6,a7,a8⟩:=E1.out.ev
     go_wp2_with fail
     refine (HA.out _ (HAT.out.on B1.out)).mono ?_
     rintro r w1' ⟨rfl,rfl⟩
     go_wp2_with fail
     refine (HF.out _ (HAT.out.on B1.out)).mono ?_
     rintro r w2 ⟨xa2,xc2,ya2,yc2,rfl,hx2,hy2,hbq⟩
     have hlt2:=Nat.lt_of_lt_of_le E1.out.lt hbq.size
     have B2:=hide (zg (B1.out.trans (hbq.mono B1.out.size)) (.cells (zk c.id c.kind c.sender c.user c.member c.depth (.slice xa2 c.levels.length xc2) (.slice ya2 c.prev.length yc2) c.text) 62))
     have E2:=hide (E1.out.on hbq E1.out.lt)
     clear hbq hx2 hy2 a0 a1 a2 a3 a4 a5 a6 a7 a8
     obtain⟨a0,a1,a2,a3,a4,a5,a6,a7,a8⟩:=E2.out.ev
     go_wp2_with fail
     all_goals go_ret
     all_goals exact⟨rfl,B2.out⟩
    ·have kc2:(c.kind != 1)=false:=z0h kc
     rw[Bool.and_true,Bool.true_and]
     cases k2:(e.kind==2)
     ·rw[if_neg (by simp)]
      cases k3:(e.kind==3)
      ·rw[if_neg (by simp)]
       cases k4:(e.kind==4)
       ·rw[if_neg (by simp)]
        obtain⟨a0,a1,a2,a3,a4,a5,a6,a7,a8⟩:=E0.out.ev
        go_enter Tryz.func73,Tryz.ntmps73
        go_wp2_with fail
        refine Ab.out.mono ?_
        rintro r w1 ⟨rfl,hbq⟩
        have B1:=hide (B0.out.trans (hbq.mono B0.out.size))
        have E1:=hide (E0.out.on hbq E0.out.lt)
        clear hbq a0 a1 a2 a3 a4 a5 a6 a7 a8
        obtain⟨a0,a1,a2,a3,a4,a5,a6,a7,a8⟩:=E1.out.ev
        go_wp2_with fail
        refine (HA.out _ (HAT.out.on B1.out)).mono ?_
        rintro r w1' ⟨rfl,rfl⟩
        go_wp2_with fail
        refine (HF.out _ (HAT.out.on B1.out)).mono ?_
        rintro r w2 ⟨xa2,xc2,ya2,yc2,rfl,hx2,hy2,hbq⟩
        have hlt2:=Nat.lt_of_lt_of_le E1.out.lt hbq.size
        have B2:=hide (zg (B1.out.trans (hbq.mono B1.out.size)) (.cells (zk c.id c.kind c.sender c.user c.member c.depth (.slice xa2 c.levels.length xc2) (.slice ya2 c.prev.length yc2) c.text) 62))
        have E2:=hide (E1.out.on hbq E1.out.lt)
        clear hbq hx2 hy2 a0 a1 a2 a3 a4 a5 a6 a7 a8
        obtain⟨a0,a1,a2,a3,a4,a5,a6,a7,a8⟩:=E2.out.ev
        go_wp2_with fail
        refine (AQ.out _ (HAT.out.on B2.out)).mono ?_
        rintro r w3 ⟨rfl,hbq⟩
        have B3:=hide (B2.out.trans (hbq.mono B2.out.size))
        clear a0 a1 a2 a3 a4 a5 a6 a7 a8
        go_wp2_with fail
        go_ret
        exact⟨rfl,B3.out⟩
       ·rw[if_pos rfl]
        cases gw:(who==2)
        ·rw[Bool.false_and]
         obtain⟨a0,a1,a2,a3,a4,a5,a6,a7,a8⟩:=E0.out.ev
         go_enter Tryz.func73,Tryz.ntmps73
         go_wp2_with fail
         refine Ab.out.mono ?_
         rintro r w1 ⟨rfl,hbq⟩
         have B1:=hide (B0.out.trans (hbq.mono B0.out.size))
         have E1:=hide (E0.out.on hbq E0.out.lt)
         clear hbq a0 a1 a2 a3 a4 a5 a6 a7 a8
         obtain⟨a0,a1,a2,a3,a4,a5,a6,a7,a8⟩:=E1.out.ev
         go_wp2_with fail
         refine (HA.out _ (HAT.out.on B1.out)).mono ?_
         rintro r w1' ⟨rfl,rfl⟩
         go_wp2_with fail
         refine (HF.out _ (HAT.out.on B1.out)).mono ?_
         rintro r w2 ⟨xa2,xc2,ya2,yc2,rfl,hx2,hy2,hbq⟩
         have hlt2:=Nat.lt_of_lt_of_le E1.out.lt hbq.size
         have B2:=hide (zg (B1.out.trans (hbq.mono B1.out.size)) (.cells (zk c.id c.kind c.sender c.user c.member c.depth (.slice xa2 c.levels.length xc2) (.slice ya2 c.prev.length yc2) c.text) 62))
         have E2:=hide (E1.out.on hbq E1.out.lt)
         clear hbq hx2 hy2 a0 a1 a2 a3 a4 a5 a6 a7 a8
         obtain⟨a0,a1,a2,a3,a4,a5,a6,a7,a8⟩:=E2.out.ev
         go_wp2_with fail
         refine (AQ.out _ (HAT.out.on B2.out)).mono ?_
         rintro r w3 ⟨rfl,hbq⟩
         have B3:=hide (B2.out.trans (hbq.mono B2.out.size))
         clear a0 a1 a2 a3 a4 a5 a6 a7 a8
         go_wp2_with fail
         go_ret
         exact⟨rfl,B3.out⟩
        ·rw[Bool.true_and]
         obtain⟨a0,a1,a2,a3,a4,a5,a6,a7,a8⟩:=E0.out.ev
         go_enter Tryz.func73,Tryz.ntmps73
         go_wp2_with fail
         refine Ab.out.mono ?_
         rintro r w1 ⟨rfl,hbq⟩
         have B1:=hide (B0.out.trans (hbq.mono B0.out.size))
         have E1:=hide (E0.out.on hbq E0.out.lt)
         clear hbq a0 a1 a2 a3 a4 a5 a6 a7 a8
         obtain⟨a0,a1,a2,a3,a4,a5,a6,a7,a8⟩:=E1.out.ev
         go_wp2_with fail
         refine (HA.out _ (HAT.out.on B1.out)).mono ?_
         rintro r w1' ⟨rfl,rfl⟩
         go_wp2_with fail
         refine (HF.out _ (HAT.out.on B1.out)).mono ?_
         rintro r w2 ⟨xa2,xc2,ya2,yc2,rfl,hx2,hy2,hbq⟩
         have hlt2:=Nat.lt_of_lt_of_le E1.out.lt hbq.size
         have B2:=hide (zg (B1.out.trans (hbq.mono B1.out.size)) (.cells (zk c.id c.kind c.sender c.user c.member c.depth (.slice xa2 c.levels.length xc2) (.slice ya2 c.prev.length yc2) c.text) 62))
         have E2:=hide (E1.out.on hbq E1.out.lt)
         clear hbq hx2 hy2 a0 a1 a2 a3 a4 a5 a6 a7 a8
         obtain⟨a0,a1,a2,a3,a4,a5,a6,a7,a8⟩:=E2.out.ev
         go_wp2_with fail
         refine (AQ.out _ (HAT.out.on B2.out)).mono ?_
         rintro r w3 ⟨rfl,hbq⟩
         have B3:=hide (B2.out.trans (hbq.mono B2.out.size))
         clear a0 a1 a2 a3 a4 a5 a6 a7 a8
         have E3:=hide ((E2.out.on ((Below.refl _ _).alloc (Nat.le_refl _) _) E2.out.lt).on hbq (E2.out.on ((Below.refl _ _).alloc (Nat.le_refl _) _) E2.out.lt).lt)
         obtain⟨a0,a1,a2,a3,a4,a5,a6,a7,a8⟩:=E3.out.ev
         go_wp2_with fail
         refine (AR.out _ (HAT.out.on B3.out)).mono ?_
         rintro r w4 ⟨rfl,hbq4⟩
         have B4:=hide (B3.out.trans (hbq4.mono B3.out.size))
         clear a0 a1 a2 a3 a4 a5 a6 a7 a8
         go_wp2_with fail
         go_ret
         exact⟨rfl,B4.out⟩
      ·rw[if_pos rfl]
       have h5:=KQ.out Jp.out (by simpa using k3)
       have Jq:=hide (Kg.out h5)
       clear h5
       obtain⟨a0,a1,a2,a3,a4,a5,a6,a7,a8⟩:=E0.out.ev
       go_enter Tryz.func73,Tryz.ntmps73
       go_wp2_with fail
       refine Ab.out.mono ?_
       rintro r w1 ⟨rfl,hbq⟩
       have B1:=hide (B0.out.trans (hbq.mono B0.out.size))
       have E1:=hide (E0.out.on hbq E0.out.lt)
       clear hbq a0 a1 a2 a3 a4 a5 a6 a7 a8
       obtain⟨a0,a1,a2,a3,a4,a5,a6,a7,a8⟩:=E1.out.ev
       go_wp2_with fail
       refine (HA.out _ (HAT.out.on B1.out)).mono ?_
       rintro r w1' ⟨rfl,rfl⟩
       go_wp2_with fail
       refine (HF.out _ (HAT.out.on B1.out)).mono ?_
       rintro r w2 ⟨xa2,xc2,ya2,yc2,rfl,hx2,hy2,hbq⟩
       have hlt2:=Nat.lt_of_lt_of_le E1.out.lt hbq.size
       have B2:=hide (zg (B1.out.trans (hbq.mono B1.out.size)) (.cells (zk c.id c.kind c.sender c.user c.member c.depth (.slice xa2 c.levels.length xc2) (.slice ya2 c.prev.length yc2) c.text) 62))
       have E2:=hide (E1.out.on hbq E1.out.lt)
       clear hbq hx2 hy2 a0 a1 a2 a3 a4 a5 a6 a7 a8
       obtain⟨a0,a1,a2,a3,a4,a5,a6,a7,a8⟩:=E2.out.ev
       go_wp2_with fail
       refine (Jq.out _ (HAT.out.on B2.out) (HX.out.below B2.out)).mono ?_
       rintro r w3 ⟨rfl,hbq⟩
       have B3:=hide (B2.out.trans (hbq.mono B2.out.size))
       clear a0 a1 a2 a3 a4 a5 a6 a7 a8
       go_wp2_with fail
       go_ret
       exact⟨rfl,B3.out⟩
     ·rw[if_pos rfl]
      obtain⟨a0,a1,a2,a3,a4,a5,a6,a7,a8⟩:=E0.out.ev
      go_enter Tryz.func73,Tryz.ntmps73
      go_wp2_with fail
      refine Ab.out.mono ?_
      rintro r w1 ⟨rfl,hbq⟩
      have B1:=hide (B0.out.trans (hbq.mono B0.out.size))
      have E1:=hide (E0.out.on hbq E0.out.lt)
      clear hbq a0 a1 a2 a3 a4 a5 a6 a7 a8
      obtain⟨a0,a1,a2,a3,a4,a5,a6,a7,a8⟩:=E1.out.ev
      go_wp2_with fail
      refine (HA.out _ (HAT.out.on B1.out)).mono ?_
      rintro r w1' ⟨rfl,rfl⟩
      go_wp2_with fail
      refine (HF.out _ (HAT.out.on B1.out)).mono ?_
      rintro r w2 ⟨xa2,xc2,ya2,yc2,rfl,hx2,hy2,hbq⟩
      have hlt2:=Nat.lt_of_lt_of_le E1.out.lt hbq.size
      have B2:=hide (zg (B1.out.trans (hbq.mono B1.out.size)) (.cells (zk c.id c.kind c.sender c.user c.member c.depth (.slice xa2 c.levels.length xc2) (.slice ya2 c.prev.length yc2) c.text) 62))
      have E2:=hide (E1.out.on hbq E1.out.lt)
      clear hbq hx2 hy2 a0 a1 a2 a3 a4 a5 a6 a7 a8
      obtain⟨a0,a1,a2,a3,a4,a5,a6,a7,a8⟩:=E2.out.ev
      go_wp2_with fail
      refine (G7.out _ (HAT.out.on B2.out)).mono ?_
      rintro r w3 ⟨rfl,hbq⟩
      have B3:=hide (B2.out.trans (hbq.mono B2.out.size))
      clear a0 a1 a2 a3 a4 a5 a6 a7 a8
      go_wp2_with fail
      go_ret
      exact⟨rfl,B3.out⟩
  ·rw[if_pos rfl]
   have hs:decide (s=[])=((m:Int)==0):=by
    have:=HM.out
    cases s with
    | nil=>simp at this;subst this;rfl
    | cons x r=>simp at this;simp;omega
   rw[hs]
   clear hs
   obtain⟨a0,a1,a2,a3,a4,a5,a6,a7,a8⟩:=E0.out.ev
   go_enter Tryz.func73,Tryz.ntmps73
   go_wp2_with fail
   refine Ab.out.mono ?_
   rintro r w1 ⟨rfl,hbq⟩
   have B1:=hide (B0.out.trans (hbq.mono B0.out.size))
   have E1:=hide (E0.out.on hbq E0.out.lt)
   clear hbq a0 a1 a2 a3 a4 a5 a6 a7 a8
   obtain⟨a0,a1,a2,a3,a4,a5,a6,a7,a8⟩:=E1.out.ev
   go_wp2_with fail
   go_ret
   exact⟨rfl,B1.out⟩

end Go.Proofs.YtfeebdcmlnapiaaGreat
