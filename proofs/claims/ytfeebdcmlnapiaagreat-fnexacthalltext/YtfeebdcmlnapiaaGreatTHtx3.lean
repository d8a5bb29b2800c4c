/-
  Walks.
-/
import Derived.Test.YtfeebdcmlnapiaaGreatTText2
set_option maxRecDepth 100000
set_option maxHeartbeats 8000000
set_option linter.unusedVariables false
set_option linter.unusedSimpArgs false
namespace Go.Proofs.YtfeebdcmlnapiaaGreat
open Go.RowKit P1 P5 P9 P11 P12 P14 P15 P16 P17 P18 K
theorem y5o (f:SesV):sesB f=(varZ f.term++varZ f.kind)++y3a (bl f.data):=by
 unfold sesB
 simp

theorem y5l (ps:List SesV) (es:List EvV) (os:List OutX):y3n ps es os=(((varZ (ps.length:Int)++ps.flatMap sesB)++varZ (es.length:Int))++es.flatMap evtB)++os.flatMap outB:=by
 unfold y3n
 simp

theorem y5w (o:OutX):outB o=varZ o.a:=by
 unfold outB
 simp

theorem y4j (pa:Zoa) (pn pc:Nat) (oa:Zoa) (n cap:Nat) (so:Zoa) (sn sc:Nat) (go:Zoa) (gn gc:Nat) (qa:Zoa) (qn qc:Nat) (ps:List SesV) (es:List EvV) (ss:Zis) (gs:List Bool) (os:List OutX) (hfe:FineE es) (hwd:y0h ps es ss os) (w:World) (h:HallAt w pa pn pc oa n cap so sn sc go gn gc qa qn qc ps es ss gs os) :
  Calls Tryz.prog 17 #[y0g pa pn pc oa n cap so sn sc go gn gc qa qn qc] w fun e w'=>e=.returned (etV (y3d ps es ss gs os))∧Below w.heap.size w w':=by
 obtain⟨W0,hW0,hb0,hA0⟩:=bxN w #[.slice pa pn pc,.slice oa n cap,.slice so sn sc,.slice go gn gc,.slice qa qn qc] 45
 have Ab:=ZZ (y16 pa pn pc oa n cap so sn sc go gn gc qa qn qc ps es ss gs os hfe hwd W0 (h.below hb0))
 have HAT:=ZZ (h.below hb0)
 have HA:=ZZ (fun (W:World) (hb:Below W0.heap.size W0 W)=>(hb.block _ (ze hA0)).trans hA0)
 have LK:=ZZ h.p.len
 have CS:=ZZ h.e.len
 have HOL:=ZZ h.o.len
 have HW0:=ZZ hW0
 have HB0:=ZZ hb0
 have BK:=ZZ hfe
 have r0:=zb hA0 0 rfl
 have r1:=zb hA0 1 rfl
 have r2:=zb hA0 2 rfl
 have r3:=zb hA0 3 rfl
 have r4:=zb hA0 4 rfl
 clear h hfe hwd hb0 hA0 hW0
 cases hok:y05 ps es ss gs os with
 | false =>
  rw[hok] at Ab
  have HF:=ZZ (show y3d ps es ss gs os=none by unfold y3d;rw[if_neg (by rw[hok];simp)])
  clear hok
  go_enter Tryz.func17,Tryz.ntmps17
  go_upto_region 1 with fail
  rw[HW0.o]
  clear HW0
  go_wp2_with (go_at_call 13;(refine Ab.o.mono ?_);rintro r w1 ⟨rfl,hb1⟩)
  go_ret2
  exact⟨by rw[HF.o];rfl,zTr HB0.o hb1⟩
 | true =>
  rw[hok] at Ab
  have Jw:=y50 hok
  have hp3:=Jw.pl
  have he40:=Jw.el
  have ho2:=Jw.ol
  rw[LK.o] at hp3
  rw[CS.o] at he40
  rw[HOL.o] at ho2
  have hq2:qn≤2:=by omega
  have HPI:=ZZ (show ∀ s∈ps,y4q s from Jw.p)
  have HEI:=ZZ (show ∀ e∈es,evOk e=true from Jw.e)
  have HOI:=ZZ (show ∀ o∈os,0≤o.a∧o.a≤40 from Jw.o)
  have HM1:=ZZ (show ∀ j,(varZ (pn:Int)++(ps.take j).flatMap sesB).length≤1000 from fun j=>by have h1:=y36 (pn:Int);have h2:=y3r (f:=sesB) (c:=80) (l:=ps) (fun s hs=>y57 (HPI.o s hs)) j;rw[LK.o] at h2;rw[List.length_append];omega)
  have HM3:=ZZ (show ∀ (M:Zbs) j,M.length≤2000→(M++(es.take j).flatMap evtB).length≤100000 from fun M j hM=>by have h2:=y3r (f:=evtB) (c:=1020) (l:=es) (fun e he=>y58 (HEI.o e he)) j;rw[CS.o] at h2;rw[List.length_append];omega)
  have HM5:=ZZ (show ∀ (M:Zbs) j,M.length≤100000→(M++(os.take j).flatMap outB).length≤200000 from fun M j hM=>by have h2:=y3r (f:=outB) (c:=10) (l:=os) (fun o _=>y59 o) j;rw[HOL.o] at h2;rw[List.length_append];omega)
  have EP:=ZZ (show y3d ps es ss gs os=if (y3n ps es os).length≤20000 then some (y3n ps es os) else none by unfold y3d;rw[hok];simp)
  have Ah:=ZZ (y5l ps es os)
  rw[LK.o,CS.o] at Ah
  generalize y3n ps es os=L at EP Ah
  clear hok Jw ho2
  have HV0:=ZZ (fun w=>(show Calls Tryz.prog 48 #[.int .i64 (pn:Int)] w fun e w'=>e=.returned (.string ⟨(varZ (pn:Int)).toArray⟩)∧Below w.heap.size w w' from y3h (pn:Int) (by omega) (by omega) w))
  have hv0:=y36 (pn:Int)
  have EW:=ZZ (fun w=>(show Calls Tryz.prog 48 #[.int .i64 (n:Int)] w fun e w'=>e=.returned (.string ⟨(varZ (n:Int)).toArray⟩)∧Below w.heap.size w w' from y3h (n:Int) (by omega) (by omega) w))
  have hv1:=y36 (n:Int)
  generalize varZ (pn:Int)=V0 at HV0 hv0 Ah HM1
  generalize varZ (n:Int)=V1 at EW hv1 Ah
  have hk0:∀ wx:World,(convert 9 97 (.string ⟨(V0).toArray⟩)).run Tryz.prog wx=.ok (.slice (some ⟨wx.heap.size,0,none⟩) (V0).length (grownCap wx (V0).length 0 5)) (Lib.bytesWorld wx 5 ⟨(V0).toArray⟩):=fun wx=>Lib.run_convert_string_bytes wx 9 97 5 ⟨(V0).toArray⟩ Tryz.underlying9 Tryz.underlying97 Tryz.underlying5
  have hk1:∀ wx:World,(convert 9 97 (.string ⟨(V1).toArray⟩)).run Tryz.prog wx=.ok (.slice (some ⟨wx.heap.size,0,none⟩) (V1).length (grownCap wx (V1).length 0 5)) (Lib.bytesWorld wx 5 ⟨(V1).toArray⟩):=fun wx=>Lib.run_convert_string_bytes wx 9 97 5 ⟨(V1).toArray⟩ Tryz.underlying9 Tryz.underlying97 Tryz.underlying5
  go_enter Tryz.func17,Tryz.ntmps17
  go_upto_region 1 with fail
  rw[HW0.o]
  clear HW0
  go_upto_region 3 with (go_at_call 13;(refine Ab.o.mono ?_);rintro r w1 ⟨rfl,hb1⟩)
  have HB1:=ZZ hb1
  clear hb1 r0 r1 r2 r3 r4 Ab
  have r0:=zb (HA.o w1 HB1.o) 0 rfl
  go_wp2_with (go_at_call 48;(refine (HV0.o _).mono ?_);rintro r w2 ⟨rfl,hb2⟩)
  have HR2:=ZZ ((RowG.new w2 V0 (by omega)).low (show W0.heap.size≤w2.heap.size from zNt HB1.o.size hb2.size))
  have HB2:=ZZ ((zTr HB1.o hb2).trans ((Joins.below_bytesWorld w2.heap.size w2 5 ⟨V0.toArray⟩ zLe).mono (zNt HB1.o.size hb2.size)))
  clear hb2 r0 hk0 HB1 HV0
  go_loopw [4,5] (fun v x wr=>∃ (j:Nat),x=.int .i64 (j:Int)∧j≤pn∧RowG wr W0.heap.size v (V0++(ps.take j).flatMap sesB)∧Below W0.heap.size W0 wr) (fun _ x _=>pn - (intOf x).toNat)
  case atStart=>exact⟨0,rfl,Nat.zero_le _,by simpa using HR2.o,HB2.o⟩
  case round =>
   obtain⟨j,rfl,hj,hR,hB⟩:=hrel
   have HR:=ZZ hR
   have HB:=ZZ hB
   have r0:=zb (HA.o wr hB) 0 rfl
   clear hR hB HR2 HB2
   have hml:=HM1.o j
   by_cases hlt:j<pn
   ·have j0:(j:Int)<(pn:Int):=by omega
    obtain⟨f,bf,qf,hf,hidx,hbf,c0,c1,c2⟩:=(HAT.o.below HB.o).p.getS3 Tryz.underlying42 y0j j hlt
    have Ce:=ZZ (show V0++(ps.take (j+1)).flatMap sesB=(V0++(ps.take j).flatMap sesB)++((varZ f.term++varZ f.kind)++y3a (bl f.data)) by rw[y3s hf,List.append_assoc,y5o])
    have hin:=HPI.o f (zMg hf)
    have d1:=hin.term
    have d2:=hin.kind
    have d3:=hin.data
    have hdl:(bl f.data).length≤40:=by unfold bl;rw[Array.length_toList];exact d3
    rw[← y5e f.data] at c2
    have HVt:=ZZ (fun w=>(show Calls Tryz.prog 48 #[.int .i64 f.term] w fun e w'=>e=.returned (.string ⟨(varZ f.term).toArray⟩)∧Below w.heap.size w w' from y3h f.term (by omega) (by omega) w))
    have HVk:=ZZ (fun w=>(show Calls Tryz.prog 48 #[.int .i64 f.kind] w fun e w'=>e=.returned (.string ⟨(varZ f.kind).toArray⟩)∧Below w.heap.size w w' from y3h f.kind (by omega) (by omega) w))
    have Cu:=ZZ (fun w=>y41 (bl f.data) (by omega) w)
    have hv2:=y36 f.term
    have hv3:=y36 f.kind
    have hv4:=(y3g (bl f.data)).1
    have f1:=y37 Tryz.prog (varZ f.term) (varZ f.kind) (by omega)
    have f2:=y37 Tryz.prog (varZ f.term++varZ f.kind) (y3a (bl f.data)) (by rw[List.length_append];omega)
    have hS4:((varZ f.term++varZ f.kind)++y3a (bl f.data)).length≤100:=by rw[List.length_append,List.length_append];omega
    clear hf hin
    generalize bl f.data=dt at c2 Ce hdl Cu hv4 f2 hS4
    generalize y3a dt=SD at Ce Cu hv4 f2 hS4
    generalize varZ f.term=VT at Ce HVt hv2 f1 f2 hS4
    generalize varZ f.kind=VK at Ce HVk hv3 f1 f2 hS4
    generalize hVS:(VT++VK)++SD=VS at Ce f2 hS4
    have hk2:∀ wx:World,(convert 9 97 (.string ⟨(VS).toArray⟩)).run Tryz.prog wx=.ok (.slice (some ⟨wx.heap.size,0,none⟩) (VS).length (grownCap wx (VS).length 0 5)) (Lib.bytesWorld wx 5 ⟨(VS).toArray⟩):=fun wx=>Lib.run_convert_string_bytes wx 9 97 5 ⟨(VS).toArray⟩ Tryz.underlying9 Tryz.underlying97 Tryz.underlying5
    generalize V0++(ps.take j).flatMap sesB=M at HR Ce hml
    generalize f.term=ft at *
    generalize f.kind=fk at *
    obtain⟨Wa,hWa,hba,hEa⟩:=bxN wr #[.int .i64 ft,.int .i64 fk,.string ⟨dt.toArray⟩] 86
    have DC:=ZZ hWa
    have LA:=ZZ (HR.o.on hba)
    have Bh:=ZZ (zTr HB.o hba)
    have Cg:=ZZ hEa
    clear hba hEa hWa
    go_upto_region 8 with fail
    rw[DC.o]
    clear DC c0 c1 c2 hidx r0 HR HB
    generalize wr.heap.size=be at Cg ⊢
    have a0:=zb Cg.o 0 rfl
    have a1:=zb Cg.o 1 rfl
    have a2:=zb Cg.o 2 rfl
    have hle:=ze Cg.o
    have hszA:=Bh.o.size
    go_region_law (first
     | (refine y52 (W:=w5) (by rfl) _ _ (by rfl) (by rfl) (LA.o.on hb05) (by have:=hb05.size;omega) (by rfl) (by rfl) (by omega) (by rfl) ?_;intro v6 w6 hR6 hg6)
     | (rw[if_pos (by rfl)];go_simp;go_at_call 49;refine (Cu.o _).mono ?_;rintro r w5 ⟨rfl,hb5⟩;have hb05:=zTr hb04 hb5)
     | (have chk:=hb03;clear chk;rw[if_pos (by rfl)];go_simp;go_at_call 48;refine (HVk.o _).mono ?_;rintro r w4 ⟨rfl,hb4⟩;have hb04:=zTr hb03 hb4;have a24:=(hb04.cell hle).trans a2)
     | (rw[if_pos (by rfl)];go_simp;go_at_call 48;refine (HVt.o _).mono ?_;rintro r w3 ⟨rfl,hb3⟩;have hb03:Below Wa.heap.size Wa w3:=zBr.drew.trans (hb3.mono (by simp));have a13:=(hb03.cell hle).trans a1;have a23:=(hb03.cell hle).trans a2))
    all_goals
     have Az:=ZZ ((zTr Bh.o hb05).grown hg6 (zNt Bh.o.size hb05.size) (fun q hq=>(LA.o.lt q hq).1))
     have CE:=ZZ hR6
     rw[← Ce.o] at CE
     go_wp2_with fail
     go_roundw
     case rel=>exact⟨j+1,by go_num,by omega,CE.o,Az.o⟩
     case measure=>simp[intOf];omega
   ·have j0:¬ ((j:Int)<(pn:Int)):=by omega
    have htk:ps.take j=ps:=zTl (by rw[LK.o];omega)
    rw[htk] at HR hml
    generalize V0++ps.flatMap sesB=M at HR hml Ah
    have hl2:(M++V1).length≤2000:=by rw[List.length_append];omega
    have r1:=zb (HA.o wr HB.o) 1 rfl
    go_wp2_with (first
     | (go_at_call 48;(refine (EW.o _).mono ?_);rintro r w2 ⟨rfl,hb2⟩)
     | (at_builtin;refine y3v rfl _ _ rfl rfl (HR.o.on hb2) (by have:=hb2.size;have:=HB.o.size;omega) rfl rfl (by omega) rfl ?_;intro v3 w3 hR3 hg3))
    have HB3:=ZZ ((zTr HB.o hb2).grown hg3 (zNt HB.o.size hb2.size) (fun q hq=>(HR.o.lt q hq).1))
    have HR3:=ZZ hR3
    clear hR3 hg3 hb2 r0 r1 HR HB hk1 EW
    generalize M++V1=M2 at HR3 hl2 Ah
    go_loopw [4,7] (fun v x wr=>∃ (j:Nat),x=.int .i64 (j:Int)∧j≤n∧RowG wr W0.heap.size v (M2++(es.take j).flatMap evtB)∧Below W0.heap.size W0 wr) (fun _ x _=>n - (intOf x).toNat)
    case atStart=>exact⟨0,rfl,Nat.zero_le _,by simpa using HR3.o,HB3.o⟩
    case round =>
     obtain⟨j,rfl,hj,hR,hB⟩:=hrel
     have HR:=ZZ hR
     have HB:=ZZ hB
     have r1:=zb (HA.o wr hB) 1 rfl
     clear hR hB HR3 HB3
     have hml:=HM3.o M2 j hl2
     by_cases hlt:j<n
     ·have j0:(j:Int)<(n:Int):=by omega
      obtain⟨x,bx,qx,xa,xc,ya,yc,hx,hidx,hev0⟩:=(HAT.o.below HB.o).e.get Tryz.underlying29 z2t j hlt
      obtain⟨c0,c1,c2,c3,c4,c5,c6,c7,c8⟩:=hev0.cs
      have Ce:=ZZ (show M2++(es.take (j+1)).flatMap evtB=(M2++(es.take j).flatMap evtB)++y3a (evB x) by rw[y3s hx,List.append_assoc];rfl)
      have hok:=HEI.o x (zMg hx)
      have htx:=(BK.o.one (zMg hx)).2.1
      have HET:=ZZ (y4b x.id x.kind x.sender x.user x.member x.depth xa x.levels.length xc x.text ya x.prev.length yc x.levels x.prev (by omega) wr hev0.lev hev0.prv)
      rw[y4a (show evOk (⟨x.id,x.kind,x.sender,x.user,x.member,x.levels,x.text,x.prev,x.depth⟩:EvV)=true from hok)] at HET
      have hln:=y48 (zhb hok)
      have hv4:=(y3g (evB x)).1
      have Cu:=ZZ (fun w=>y41 (evB x) (by omega) w)
      rw[show evB (⟨x.id,x.kind,x.sender,x.user,x.member,x.levels,x.text,x.prev,x.depth⟩:EvV)=evB x from rfl] at HET
      clear hx hok htx hev0
      generalize evB x=EB1 at HET Cu Ce hln hv4
      generalize y3a EB1=SB1 at Cu Ce hv4
      have hk2:∀ wx:World,(convert 9 97 (.string ⟨(SB1).toArray⟩)).run Tryz.prog wx=.ok (.slice (some ⟨wx.heap.size,0,none⟩) (SB1).length (grownCap wx (SB1).length 0 5)) (Lib.bytesWorld wx 5 ⟨(SB1).toArray⟩):=fun wx=>Lib.run_convert_string_bytes wx 9 97 5 ⟨(SB1).toArray⟩ Tryz.underlying9 Tryz.underlying97 Tryz.underlying5
      generalize M2++(es.take j).flatMap evtB=M at HR Ce hml
      go_wp2_with (first
       | (go_at_call 50;(refine HET.o.mono ?_);rintro r w2 ⟨rfl,hb2⟩)
       | (go_at_call 49;(refine (Cu.o _).mono ?_);rintro r w3 ⟨rfl,hb3⟩;have hb03:=zTr hb2 hb3)
       | (at_builtin;refine y3v rfl _ _ rfl rfl (HR.o.on hb03) (by have:=hb03.size;have:=HB.o.size;omega) rfl rfl (by omega) rfl ?_;intro v4 w4 hR4 hg4))
      have AC:=ZZ ((zTr HB.o hb03).grown hg4 (zNt HB.o.size hb03.size) (fun q hq=>(HR.o.lt q hq).1))
      have HR4:=ZZ hR4
      rw[← Ce.o] at HR4
      clear hR4 hg4 hb2 hb3 hb03
      go_roundw
      case rel=>exact⟨j+1,by go_num,by omega,HR4.o,AC.o⟩
      case measure=>simp[intOf];omega
     ·have j0:¬ ((j:Int)<(n:Int)):=by omega
      have htk:es.take j=es:=zTl (by rw[CS.o];omega)
      rw[htk] at HR hml
      generalize M2++es.flatMap evtB=M3 at HR hml Ah
      go_wp2_with fail
      clear r1
      go_loopw [4,10] (fun v x wr=>∃ (j:Nat),x=.int .i64 (j:Int)∧j≤qn∧RowG wr W0.heap.size v (M3++(os.take j).flatMap outB)∧Below W0.heap.size W0 wr) (fun _ x _=>qn - (intOf x).toNat)
      case atStart=>exact⟨0,rfl,Nat.zero_le _,by simpa using HR.o,HB.o⟩
      case round =>
       obtain⟨j,rfl,hj,hR,hB⟩:=hrel
       clear HR HB
       have HR:=ZZ hR
       have HB:=ZZ hB
       have r4:=zb (HA.o wr hB) 4 rfl
       clear hR hB
       have hml5:=HM5.o M3 j hml
       by_cases hlt:j<qn
       ·have j0:(j:Int)<(qn:Int):=by omega
        obtain⟨x,xa,xc,bx,qx,hx,hidx,hbx,c0,c1,c2,hit⟩:=(HAT.o.below HB.o).o.get Tryz.underlying43 y0p j hlt
        have Ce:=ZZ (show M3++(os.take (j+1)).flatMap outB=(M3++(os.take j).flatMap outB)++varZ x.a by rw[y3s hx,List.append_assoc,y5w])
        have hin:=HOI.o x (zMg hx)
        have HVa:=ZZ (fun w=>(show Calls Tryz.prog 48 #[.int .i64 x.a] w fun e w'=>e=.returned (.string ⟨(varZ x.a).toArray⟩)∧Below w.heap.size w w' from y3h x.a (by omega) (by omega) w))
        have hv2:=y36 x.a
        clear hx hit
        generalize varZ x.a=VA at Ce HVa hv2
        have hk2:∀ wx:World,(convert 9 97 (.string ⟨(VA).toArray⟩)).run Tryz.prog wx=.ok (.slice (some ⟨wx.heap.size,0,none⟩) (VA).length (grownCap wx (VA).length 0 5)) (Lib.bytesWorld wx 5 ⟨(VA).toArray⟩):=fun wx=>Lib.run_convert_string_bytes wx 9 97 5 ⟨(VA).toArray⟩ Tryz.underlying9 Tryz.underlying97 Tryz.underlying5
        generalize M3++(os.take j).flatMap outB=M at HR Ce hml5
        go_wp2_with (first
         | (go_at_call 48;(refine (HVa.o _).mono ?_);rintro r w2 ⟨rfl,hb2⟩)
         | (at_builtin;refine y3v rfl _ _ rfl rfl (HR.o.on hb2) (by have:=hb2.size;have:=HB.o.size;omega) rfl rfl (by omega) rfl ?_;intro v4 w4 hR4 hg4))
        have AC:=ZZ ((zTr HB.o hb2).grown hg4 (zNt HB.o.size hb2.size) (fun q hq=>(HR.o.lt q hq).1))
        have HR4:=ZZ hR4
        rw[← Ce.o] at HR4
        clear hR4 hg4 hb2
        go_roundw
        case rel=>exact⟨j+1,by go_num,by omega,HR4.o,AC.o⟩
        case measure=>simp[intOf];omega
       ·have j0:¬ ((j:Int)<(qn:Int)):=by omega
        have htk:os.take j=os:=zTl (by rw[HOL.o];omega)
        rw[htk] at HR
        rw[← Ah.o] at HR
        obtain⟨gv,cv,hv⟩:=HR.o.form
        subst hv
        have hks:=y55 HR.o
        by_cases hl:L.length≤20000
        ·have q:¬ ((20000:Int)<(L.length:Int)):=by omega
         have HF:=ZZ (show y3d ps es ss gs os=some L by rw[EP.o,if_pos hl])
         clear hl
         go_wp2_with fail
         go_ret2
         exact⟨by rw[HF.o];rfl,zTr HB0.o HB.o⟩
        ·have q:(20000:Int)<(L.length:Int):=by omega
         have HF:=ZZ (show y3d ps es ss gs os=none by rw[EP.o,if_neg hl])
         clear hl
         go_wp2_with fail
         go_ret2
         exact⟨by rw[HF.o];rfl,zTr HB0.o HB.o⟩

theorem FnExactHallText_walk (pa:Zoa) (pn pc:Nat) (oa:Zoa) (n cap:Nat) (so:Zoa) (sn sc:Nat) (go:Zoa) (gn gc:Nat) (qa:Zoa) (qn qc:Nat) (ps:List SesV) (es:List EvV) (ss:Zis) (gs:List Bool) (os:List OutX) (w:World) (h:HallAt w pa pn pc oa n cap so sn sc go gn gc qa qn qc ps es ss gs os) (k:y0h ps es ss os) :
  Calls Tryz.prog 5 #[y0g pa pn pc oa n cap so sn sc go gn gc qa qn qc] w fun e w'=>e=.returned (.bool true)∧Below w.heap.size w w':=by
 obtain⟨W0,hW0,hb0,hA0⟩:=bxN w #[.slice pa pn pc,.slice oa n cap,.slice so sn sc,.slice go gn gc,.slice qa qn qc] 39
 have HA:=ZZ (fun W (h:Below W0.heap.size W0 W)=>(h.block _ (ze hA0)).trans hA0)
 have HB0:=ZZ hb0
 have HW0:=ZZ hW0
 have KJ:=ZZ (y2d 1048576 (by omega) (by omega) pa pn pc oa n cap so sn sc go gn gc qa qn qc ps es ss gs os W0 (h.below hb0) k)
 have HAT:=ZZ (h.below hb0)
 have HK:=ZZ k
 clear h k hb0 hA0 hW0
 have a0:=zb (HA.o W0 zBr) 0 rfl
 have a1:=zb (HA.o W0 zBr) 1 rfl
 have a2:=zb (HA.o W0 zBr) 2 rfl
 have a3:=zb (HA.o W0 zBr) 3 rfl
 have a4:=zb (HA.o W0 zBr) 4 rfl
 go_enter Tryz.func5,Tryz.ntmps5
 go_upto_region 1 with fail
 rw[HW0.o]
 clear HW0
 go_upto_region 3 with (go_at_call 12;(with_reducible refine KJ.o.mono ?_);rintro r w1 ⟨z,rfl,_,hfz,hb1⟩)
 have HB1:=ZZ hb1
 have KL:=ZZ hfz
 clear hb1 hfz KJ a0 a1 a2 a3 a4
 by_cases hz:z<0
 ·go_wp2_with fail
  go_ret
  exact⟨rfl,zTr HB0.o HB1.o⟩
 ·have HF:=ZZ (KL.o (by omega))
  clear KL
  have Bu:=ZZ (fun W (h:Below W0.heap.size W0 W)=>y2e pa pn pc oa n cap so sn sc go gn gc qa qn qc ps es ss gs os HF.o HK.o W (HAT.o.below h))
  have JZ:=ZZ (fun (W:World) {pa:Zoa} {pn pc:Nat} {oa:Zoa} {n cap:Nat} {so:Zoa} {sn sc:Nat} {go:Zoa} {gn gc:Nat} {qa:Zoa} {qn qc:Nat} (h:HallAt W pa pn pc oa n cap so sn sc go gn gc qa qn qc ps es ss gs os)=>y4j pa pn pc oa n cap so sn sc go gn gc qa qn qc ps es ss gs os HF.o.r.ev HK.o W h)
  have K3:=ZZ (fun (W:World) {pa:Zoa} {pn pc:Nat} {oa:Zoa} {n cap:Nat} {so:Zoa} {sn sc:Nat} {go:Zoa} {gn gc:Nat} {qa:Zoa} {qn qc:Nat} (h:HallAt W pa pn pc oa n cap so sn sc go gn gc qa qn qc ps es ss gs os)=>y4i pa pn pc oa n cap so sn sc go gn gc qa qn qc ps es ss gs os HF.o.r.ev HK.o (fun x hx=>zNt (y0r hx) HF.o.ow) W h)
  obtain⟨r0,r1,hr⟩:∃ r0 r1,etV (y3d ps es ss gs os)=.tuple #[.string r0,.bool r1]:=by unfold etV;split<;>exact⟨_,_,rfl⟩
  rw[hr] at JZ K3
  clear hr
  have q0:(r0.toList==r0.toList)=true:=by simp
  have hqq:(r1 != r1)=false:=by simp
  have a0:=zb (HA.o w1 HB1.o) 0 rfl
  have a1:=zb (HA.o w1 HB1.o) 1 rfl
  have a2:=zb (HA.o w1 HB1.o) 2 rfl
  have a3:=zb (HA.o w1 HB1.o) 3 rfl
  have a4:=zb (HA.o w1 HB1.o) 4 rfl
  go_upto_region 6 with (first
   | (go_at_call 14;(refine (Bu.o _ HB1.o).mono ?_);rintro r w2 ⟨pa2,pn2,pc2,oa2,n2,cap2,so2,sn2,sc2,go2,gn2,gc2,qa2,qn2,qc2,rfl,hr2,hb2⟩;have hb02:Below W0.heap.size W0 w2:=zTr HB1.o hb2)
   | (go_at_call 17;(refine (JZ.o w2 hr2).mono ?_);rintro r w3 ⟨rfl,hb3⟩;have hb03:Below W0.heap.size W0 w3:=zTr hb02 hb3))
  have HB3:=ZZ hb03
  clear hr2 hb2 hb02 hb3 hb03 HB1 JZ a0 a1 a2 a3 a4
  have a0:=zb (HA.o w3 HB3.o) 0 rfl
  have a1:=zb (HA.o w3 HB3.o) 1 rfl
  have a2:=zb (HA.o w3 HB3.o) 2 rfl
  have a3:=zb (HA.o w3 HB3.o) 3 rfl
  have a4:=zb (HA.o w3 HB3.o) 4 rfl
  go_upto_region 7 with (go_at_call 14;(refine (Bu.o _ HB3.o).mono ?_);rintro r w5 ⟨pa5,pn5,pc5,oa5,n5,cap5,so5,sn5,sc5,go5,gn5,gc5,qa5,qn5,qc5,rfl,hr5,hb5⟩)
  obtain⟨W6,hW6,hb6,hv6⟩:=bxN w5 #[.slice pa5 pn5 pc5,.slice oa5 n5 cap5,.slice so5 sn5 sc5,.slice go5 gn5 gc5,.slice qa5 qn5 qc5] 45
  try rw[hW6]
  have HX:=ZZ (fun W (h:Below W6.heap.size W6 W)=>(h.block _ (ze hv6)).trans hv6)
  have KM:=ZZ (hr5.below hb6)
  have Az:=ZZ (HB3.o.trans ((zTr hb5 hb6).mono HB3.o.size))
  clear hr5 hb5 hW6 hb6 hv6 HB3 a0 a1 a2 a3 a4
  generalize w5.heap.size=xv at HX ⊢
  have c0:=zb (HX.o W6 zBr) 0 rfl
  have c1:=zb (HX.o W6 zBr) 1 rfl
  have c2:=zb (HX.o W6 zBr) 2 rfl
  have c3:=zb (HX.o W6 zBr) 3 rfl
  have c4:=zb (HX.o W6 zBr) 4 rfl
  go_upto_region 8 with (go_at_call 18;(refine (K3.o W6 KM.o).mono ?_);rintro r w8 ⟨rfl,hb8⟩)
  have BJ:=ZZ hb8
  have Cb:=ZZ (zTr Az.o hb8)
  clear hb8 K3 c0 c1 c2 c3 c4
  have c0:=zb (HX.o w8 BJ.o) 0 rfl
  have c1:=zb (HX.o w8 BJ.o) 1 rfl
  have c2:=zb (HX.o w8 BJ.o) 2 rfl
  have c3:=zb (HX.o w8 BJ.o) 3 rfl
  have c4:=zb (HX.o w8 BJ.o) 4 rfl
  have a0:=zb (HA.o w8 Cb.o) 0 rfl
  have a1:=zb (HA.o w8 Cb.o) 1 rfl
  have a2:=zb (HA.o w8 Cb.o) 2 rfl
  have a3:=zb (HA.o w8 Cb.o) 3 rfl
  have a4:=zb (HA.o w8 Cb.o) 4 rfl
  have hlc:=ze (HX.o w8 BJ.o)
  have hla:=ze (HA.o w8 Cb.o)
  go_upto_region 10 with fail
  go_region_law (first
   | (have chk:=hb9;clear chk;rw[if_pos (by rfl)];go_simp;go_at_call 16;refine (y1r ps es ss gs os HF.o _ _ _ _ _ _ _ _ _ _ _ _ _ _ _ _ _ _ _ _ _ _ _ _ _ _ _ _ _ _ w9 (KM.o.below (BJ.o.trans (((Below.refl w8.heap.size w8).drew.trans hb9).mono BJ.o.size))) hr9).mono ?_;rintro r w10 ⟨rfl,hb10⟩)
   | (rw[if_pos (by rfl)];go_simp;go_at_call 14;refine (Bu.o _ (Cb.o.drew)).mono ?_;rintro r w9 ⟨pa9,pn9,pc9,oa9,n9,cap9,so9,sn9,sc9,go9,gn9,gc9,qa9,qn9,qc9,rfl,hr9,hb9⟩;have c09:=(hb9.cell hlc).trans c0;have c19:=(hb9.cell hlc).trans c1;have c29:=(hb9.cell hlc).trans c2;have c39:=(hb9.cell hlc).trans c3;have c49:=(hb9.cell hlc).trans c4))
  all_goals
   have HQ:=ZZ ((Below.refl w8.heap.size w8).drew.trans (zTr hb9 hb10))
   have GI:=ZZ (zTr Cb.o HQ.o)
   go_wp2_with fail
   go_ret
   exact⟨rfl,zTr HB0.o GI.o⟩

end Go.Proofs.YtfeebdcmlnapiaaGreat
