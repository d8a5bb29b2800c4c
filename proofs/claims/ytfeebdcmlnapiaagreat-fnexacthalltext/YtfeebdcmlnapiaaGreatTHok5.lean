/-
  Walks.
-/
import Derived.Test.YtfeebdcmlnapiaaGreatTHok3
import Derived.Test.YtfeebdcmlnapiaaGreatTRok4
import Derived.Test.YtfeebdcmlnapiaaGreatTRok6
set_option maxRecDepth 100000
set_option maxHeartbeats 8000000
set_option linter.unusedVariables false
set_option linter.unusedSimpArgs false
namespace Go.Proofs.YtfeebdcmlnapiaaGreat
open Go.RowKit P1 P5 P9 P11 P12 P14 P15 P16 P17 K
noncomputable def y05 (ps:List SesV) (es:List EvV) (ss:Zis) (gs:List Bool) (os:List OutX):Bool:=y06 ps&&(z0x es ss gs&&y04 es gs os)

theorem y0u {es:List EvV} {ss:Zis} {gs:List Bool} (h:z0x es ss gs=true):ss.length=es.length∧gs.length=es.length:=by
 refine⟨?_,?_⟩
 ·rcases Nat.decEq ss.length es.length with h1|h1
  ·rw[zar (.inl h1)] at h;cases h
  ·exact h1
 ·rcases Nat.decEq gs.length es.length with h1|h1
  ·rw[zar (.inr h1)] at h;cases h
  ·exact h1

theorem y15 (pa:Zoa) (pn pc:Nat) (oa:Zoa) (n cap:Nat) (so:Zoa) (sn sc:Nat) (go:Zoa) (gn gc:Nat) (qa:Zoa) (qn qc:Nat) (ps:List SesV) (es:List EvV) (ss:Zis) (gs:List Bool) (os:List OutX) (hfe:FineE es) (hwd:y0h ps es ss os) (hob:∀ x∈os,x.ids.length≤1048576) (w:World) (h:HallAt w pa pn pc oa n cap so sn sc go gn gc qa qn qc ps es ss gs os) :
  Calls Tryz.prog 15 #[y0g pa pn pc oa n cap so sn sc go gn gc qa qn qc] w fun r w'=>r=.returned (.bool (y05 ps es ss gs os))∧Bw w w':=by
 have hn20:n≤1048576:=by rw[← h.e.len];exact hfe.len
 obtain⟨W0,hW0,hb0,hA0⟩:=bxN w #[.slice pa pn pc,.slice oa n cap,.slice so sn sc,.slice go gn gc,.slice qa qn qc] 45
 have HS:=ZZ (y14 pa pn pc ps (.slice oa n cap) (.slice so sn sc) (.slice go gn gc) (.slice qa qn qc) ⟨_,_,_,_,_,_,_,_,_,_,_,_,rfl,rfl,rfl,rfl⟩ hwd.p W0 (h.p.below hb0))
 have HR:=ZZ (fun W (hb:Bw W0 W)=>zcm oa n cap es so sn sc ss go gn gc gs hfe hwd.e W ((h.below hb0).e.below hb) ((h.below hb0).s.below hb) ((h.below hb0).g.below hb))
 have HA:=ZZ (fun (W:World) (hb:Bw W0 W)=>(hb.block _ (ze hA0)).trans hA0)
 have HW0:=ZZ hW0
 have HB0:=ZZ hb0
 cases hs:y06 ps with
 | false =>
  rw[hs] at HS
  have HF:=ZZ (show y05 ps es ss gs os=false by unfold y05;rw[hs];rfl)
  clear hs h hfe hwd hob hb0 hA0 hW0
  go_enter Tryz.func15,Tryz.ntmps15
  go_upto_region 1 with fail
  rw[HW0.o]
  clear HW0
  have hA:=HA.o W0 zBr
  have r0:=zb hA 0 rfl
  have r1:=zb hA 1 rfl
  have r2:=zb hA 2 rfl
  have r3:=zb hA 3 rfl
  have r4:=zb hA 4 rfl
  go_wp2_with (go_at_call 44;(with_reducible refine HS.o.mono ?_);rintro r w1 ⟨rfl,hb1⟩)
  go_ret
  exact⟨by rw[HF.o];rfl,zTr HB0.o hb1⟩
 | true =>
  rw[hs] at HS
  cases hr:z0x es ss gs with
  | false =>
   rw[hr] at HR
   have HF:=ZZ (show y05 ps es ss gs os=false by unfold y05;rw[hs,hr];rfl)
   clear hs hr h hfe hwd hob hb0 hA0 hW0
   go_enter Tryz.func15,Tryz.ntmps15
   go_upto_region 1 with fail
   rw[HW0.o]
   clear HW0
   have hA:=HA.o W0 zBr
   have r0:=zb hA 0 rfl
   have r1:=zb hA 1 rfl
   have r2:=zb hA 2 rfl
   have r3:=zb hA 3 rfl
   have r4:=zb hA 4 rfl
   go_wp2_with (first
    | (go_at_call 44;(with_reducible refine HS.o.mono ?_);rintro r w1 ⟨rfl,hb1⟩;have s1:=(hb1.cell (zw r1)).trans r1;have s2:=(hb1.cell (zw r2)).trans r2;have s3:=(hb1.cell (zw r3)).trans r3)
    | (go_at_call 10;(with_reducible refine (HR.o _ hb1).mono ?_);rintro r w2 ⟨rfl,hb2⟩))
   go_ret
   have hb12:=zTr hb1 hb2
   exact⟨by rw[HF.o];rfl,zTr HB0.o hb12⟩
  | true =>
   rw[hr] at HR
   have HF:=ZZ (show y05 ps es ss gs os=y04 es gs os by unfold y05;rw[hs,hr];rfl)
   obtain⟨_,hgl⟩:=y0u hr
   have hgn:gn=n:=by rw[← h.g.len,hgl,h.e.len]
   subst hgn
   have HO:=ZZ (fun W (hb:Bw W0 W)=>y2h pa pn pc oa gn cap so sn sc go gc qa qn qc es gs os hn20 hwd.e hob W ((h.below hb0).e.below hb) ((h.below hb0).g.below hb) ((h.below hb0).o.below hb))
   generalize y04 es gs os=bo at HO HF
   clear hs hr h hfe hwd hob hb0 hA0 hW0 hgl
   go_enter Tryz.func15,Tryz.ntmps15
   go_upto_region 1 with fail
   rw[HW0.o]
   clear HW0
   have hA:=HA.o W0 zBr
   have r0:=zb hA 0 rfl
   have r1:=zb hA 1 rfl
   have r2:=zb hA 2 rfl
   have r3:=zb hA 3 rfl
   have r4:=zb hA 4 rfl
   go_wp2_with (first
    | (go_at_call 44;(with_reducible refine HS.o.mono ?_);rintro r w1 ⟨rfl,hb1⟩;have s1:=(hb1.cell (zw r1)).trans r1;have s2:=(hb1.cell (zw r2)).trans r2;have s3:=(hb1.cell (zw r3)).trans r3)
    | (go_at_call 10;(with_reducible refine (HR.o _ hb1).mono ?_);rintro r w2 ⟨rfl,hb2⟩;have hb12:=zTr hb1 hb2;have t0:=(hb12.cell (zw r0)).trans r0;have t1:=(hb12.cell (zw r1)).trans r1;have t2:=(hb12.cell (zw r2)).trans r2;have t3:=(hb12.cell (zw r3)).trans r3;have t4:=(hb12.cell (zw r4)).trans r4)
    | (go_at_call 45;(with_reducible refine (HO.o _ hb12).mono ?_);rintro r w3 ⟨rfl,hb3⟩))
   go_ret
   have hb13:=zTr hb12 hb3
   exact⟨by rw[HF.o];rfl,zTr HB0.o hb13⟩

theorem y1s {tk:Int} {f:SesV} (h:¬ (1≤f.term∧f.term≤1000000)) (h0:0≤tk):y02 tk f=false:=by
 unfold y02
 by_cases h1:tk+1≤f.term
 ·rw[decide_eq_false (show ¬ f.term≤1000000 by omega)];simp
 ·rw[decide_eq_false h1];rfl

theorem y1t {tk:Int} {f:SesV} (h:¬ (0≤f.kind∧f.kind≤1000000)):y02 tk f=false:=by
 have:y08 f=false:=by
  unfold y08
  rw[if_neg (by omega)]
  by_cases h1:1≤f.kind
  ·rw[decide_eq_false (show ¬ f.kind≤1000000 by omega)];simp
  ·rw[decide_eq_false h1];rfl
 unfold y02
 rw[this]
 simp

theorem y1u {tk:Int} {f:SesV} (h:40<f.data.size):y02 tk f=false:=by
 have:y08 f=false:=by
  unfold y08
  split
  ·exact decide_eq_false (by omega)
  ·rw[decide_eq_false (show ¬ f.data.size≤40 by omega)];simp
 unfold y02
 rw[this]
 simp

theorem y1v {tk:Int} {f:SesV} (h:f.kind=0) (h2:f.data.size≠0):y02 tk f=false:=by
 have:y08 f=false:=by
  unfold y08
  rw[if_pos h]
  exact decide_eq_false h2
 unfold y02
 rw[this]
 simp

theorem y1w {tk:Int} {f:SesV} (h:f.term≤tk):y02 tk f=false:=by
 unfold y02
 rw[decide_eq_false (by omega)]
 rfl

theorem y10 {tk:Int} {f:SesV} (h1:tk<f.term) (h2:f.term≤1000000) (h3:0≤f.kind∧f.kind≤1000000) (h4:f.data.size≤40) (h5:f.kind=0→f.data.size=0):y02 tk f=true:=by
 have:y08 f=true:=by
  unfold y08
  split
  ·rename_i h;exact decide_eq_true (h5 h)
  ·rw[decide_eq_true (show 1≤f.kind by omega),decide_eq_true h3.2,decide_eq_true h4];rfl
 unfold y02
 rw[this,decide_eq_true (show tk+1≤f.term by omega),decide_eq_true h2]
 rfl

theorem y0q {s:ByteArray} (h:s.size=0):s.toList.isEmpty=true:=by
 have h2:s.data.toList=[]:=List.eq_nil_of_length_eq_zero (by rw[Array.length_toList];exact h)
 rw[Lib.toList_data,h2]
 rfl

theorem y16 (pa:Zoa) (pn pc:Nat) (oa:Zoa) (n cap:Nat) (so:Zoa) (sn sc:Nat) (go:Zoa) (gn gc:Nat) (qa:Zoa) (qn qc:Nat) (ps:List SesV) (es:List EvV) (ss:Zis) (gs:List Bool) (os:List OutX) (hfe:FineE es) (hwd:y0h ps es ss os) (w:World) (h:HallAt w pa pn pc oa n cap so sn sc go gn gc qa qn qc ps es ss gs os) :
  Calls Tryz.prog 13 #[y0g pa pn pc oa n cap so sn sc go gn gc qa qn qc] w fun r w'=>r=.returned (.bool (y05 ps es ss gs os))∧Bw w w':=by
 have hn20:n≤1048576:=by rw[← h.e.len];exact hfe.len
 have hqm:=zNt h.o.room.1 h.o.room.2
 unfold maxLen at hqm
 obtain⟨W0,hW0,hb0,hA0⟩:=bxN w #[.slice pa pn pc,.slice oa n cap,.slice so sn sc,.slice go gn gc,.slice qa qn qc] 45
 have HR:=ZZ (fun W (hb:Bw W0 W)=>zcn oa n cap es so sn sc ss go gn gc gs hfe W ((h.below hb0).e.below hb) ((h.below hb0).s.below hb) ((h.below hb0).g.below hb))
 have HA:=ZZ (fun (W:World) (hb:Bw W0 W)=>(hb.block _ (ze hA0)).trans hA0)
 have HW0:=ZZ hW0
 have HB0:=ZZ hb0
 have LK:=ZZ h.p.len
 have HOL:=ZZ h.o.len
 by_cases h3:3<pn
 ·have q3:(3:Int)<(pn:Int):=by omega
  have HF:=ZZ (show y05 ps es ss gs os=false by unfold y05 y06;rw[decide_eq_false (by rw[LK.o];omega)];rfl)
  clear h3 h hfe hwd hb0 hA0 hW0
  go_enter Tryz.func13,Tryz.ntmps13
  go_upto_region 1 with fail
  rw[HW0.o]
  clear HW0
  have r0:=zb (HA.o W0 zBr) 0 rfl
  have r1:=zb (HA.o W0 zBr) 1 rfl
  have r2:=zb (HA.o W0 zBr) 2 rfl
  have r3:=zb (HA.o W0 zBr) 3 rfl
  have r4:=zb (HA.o W0 zBr) 4 rfl
  go_wp2_with fail
  go_ret
  exact⟨by rw[HF.o];rfl,HB0.o⟩
 ·have q3:¬ ((3:Int)<(pn:Int)):=by omega
  by_cases h2:qn=2
  ·have q2:((qn:Int) != 2)=false:=by rw[h2];rfl
   have Km:=ZZ h2
   clear h2
   cases hr:z0x es ss gs with
   | false =>
    rw[hr] at HR
    have HF:=ZZ (show y05 ps es ss gs os=false by unfold y05;rw[hr];simp)
    clear hr h hfe hwd hb0 hA0 hW0
    go_enter Tryz.func13,Tryz.ntmps13
    go_upto_region 1 with fail
    rw[HW0.o]
    clear HW0
    have r0:=zb (HA.o W0 zBr) 0 rfl
    have r1:=zb (HA.o W0 zBr) 1 rfl
    have r2:=zb (HA.o W0 zBr) 2 rfl
    have r3:=zb (HA.o W0 zBr) 3 rfl
    have r4:=zb (HA.o W0 zBr) 4 rfl
    go_wp2_with (go_at_call 8;(with_reducible refine (HR.o _ zBr).mono ?_);rintro r w1 ⟨rfl,hb1⟩)
    go_ret
    exact⟨by rw[HF.o];rfl,zTr HB0.o hb1⟩
   | true =>
    rw[hr] at HR
    obtain⟨_,hgl⟩:=y0u hr
    have hgn:gn=n:=by rw[← h.g.len,hgl,h.e.len]
    subst hgn
    have HF0:=ZZ (show y05 ps es ss gs os=(y07 (y00 ps 0) (ps.drop 0)&&y04 es gs os) by unfold y05 y06;rw[hr,decide_eq_true (by rw[LK.o];omega)];rfl)
    have HOW:=ZZ (fun W (hb:Bw W0 W)=>y2g oa gn cap es so sn sc go gc gs hn20 W ((h.below hb0).e.below hb) ((h.below hb0).g.below hb))
    have Bv:=ZZ (show ∀ z∈ownL es gs,(Lit.int .i64 z).wf=true from by rw[← y0k (es:=es) (gs:=gs) (j:=es.length) zLe];exact y1l hwd.e gs _)
    have hol:(ownL es gs).length≤1048576:=by have h1:=y1k es gs;have h2:=h.e.len;omega
    have HOO:=ZZ (show y04 es gs os=y0e (ownL es gs) 0 (os.drop 0) from by unfold y04;rw[decide_eq_true (by rw[HOL.o];exact Km.o)];rfl)
    have HP:=ZZ (fun W (hb:Bw W0 W)=>(h.below hb0).p.below hb)
    have HO:=ZZ (fun W (hb:Bw W0 W)=>(h.below hb0).o.below hb)
    unfold y0s at HOW
    generalize ownL es gs=own at HOW Bv HOO hol
    generalize y04 es gs os=bo at HF0 HOO
    generalize y05 ps es ss gs os=HK at HF0 ⊢
    clear hr h hfe hwd hb0 hA0 hW0 hgl
    go_enter Tryz.func13,Tryz.ntmps13
    go_upto_region 1 with fail
    rw[HW0.o]
    clear HW0
    have r0:=zb (HA.o W0 zBr) 0 rfl
    have r1:=zb (HA.o W0 zBr) 1 rfl
    have r2:=zb (HA.o W0 zBr) 2 rfl
    have r3:=zb (HA.o W0 zBr) 3 rfl
    have r4:=zb (HA.o W0 zBr) 4 rfl
    go_wp2_with (go_at_call 8;(with_reducible refine (HR.o _ zBr).mono ?_);rintro r w1 ⟨rfl,hb1⟩)
    have HB1:=ZZ hb1
    clear hb1 r0 r1 r2 r3 r4 HR q2 q3
    go_loopw [3] (fun x wr=>∃ (j:Nat),x=.int .i64 (j:Int)∧j≤pn∧0≤y00 ps j∧y00 ps j≤1000000∧HK=(y07 (y00 ps j) (ps.drop j)&&bo)∧Bw W0 wr) (fun x _=>pn - (intOf x).toNat)
    case atStart=>exact⟨0,rfl,Nat.zero_le _,by simp[y00],by simp[y00],HF0.o,HB1.o⟩
    case round =>
     obtain⟨j,rfl,hj,ht0,ht1,hgo,hbel⟩:=hrel
     have HB:=ZZ hbel
     have Lx:=ZZ hgo
     have r0:=zb (HA.o wr hbel) 0 rfl
     clear hgo hbel HF0 HB1
     by_cases hlt:j<pn
     ·have j0:(j:Int)<(pn:Int):=by omega
      obtain⟨f,bf,qf,hf,hidx,hbf,c0,c1,c2⟩:=(HP.o wr HB.o).getS3 Tryz.underlying42 y0j j hlt
      have HST:=ZZ (show HK=(y02 (y00 ps j) f&&y07 (y00 ps (j+1)) (ps.drop (j+1))&&bo) by rw[Lx.o,y0w ps hf])
      have Dr:=ZZ (show y00 ps (j+1)=f.term by simp[y00,hf])
      have CR:=ZZ (show j≠0→∃ (f':SesV) (bf' qf':Nat),y00 ps j=f'.term∧(∀ wx,(Instr.indexAt 42 (.slice pa pn pc) (.int .i64 ((j:Int) - 1))).run Tryz.prog wx=.ok (.pointer (some ⟨bf',qf',none⟩)) wx)∧wr.cell? ⟨bf',qf',none⟩=some (.int .i64 f'.term) from fun hj0=>by
       obtain⟨f',bf',qf',hf',hidx',_,d0,_,_⟩:=(HP.o wr HB.o).getS3 Tryz.underlying42 y0j (j - 1) (by omega)
       refine⟨f',bf',qf',?_,?_,d0⟩
       ·obtain⟨i,rfl⟩:∃ i,j=i+1:=⟨j - 1,by omega⟩
        simp only[Nat.add_sub_cancel] at hf'
        simp[y00,hf']
       ·intro wx
        rw[show ((j:Int) - 1)=((j - 1:Nat):Int) by omega]
        exact hidx' wx)
      obtain⟨Wa,hWa,hba,hEa⟩:=bxN wr #[.int .i64 f.term,.int .i64 f.kind,.string f.data] 86
      have DC:=ZZ hWa
      have Av:=ZZ hba
      have Bh:=ZZ (zTr HB.o hba)
      have Cg:=ZZ hEa
      clear hf hba hEa hWa
      go_upto_region 7 with fail
      rw[DC.o]
      clear DC c0 c1 c2 hidx r0
      have a0:=zb Cg.o 0 rfl
      have a1:=zb Cg.o 1 rfl
      have a2:=zb Cg.o 2 rfl
      have r0:=zb (HA.o Wa Bh.o) 0 rfl
      have HTK0:=ZZ (show j=0→y00 ps j=0 from fun h=>by subst h;rfl)
      generalize y00 ps j=tk at *
      have hwr:IntKind.i64.wrap ((j:Int) - 1)=(j:Int) - 1:=by rw[IntKind.wrap_i64];omega
      have HW1:=ZZ (fun w=>z4n f.term 1 1000000 w)
      have HW2:=ZZ (fun w=>z4n f.kind 0 1000000 w)
      by_cases g1:1≤f.term∧f.term≤1000000
      ·rw[show inR f.term 1 1000000=true by unfold inR;simp;exact g1] at HW1
       by_cases g2:0≤f.kind∧f.kind≤1000000
       ·rw[show inR f.kind 0 1000000=true by unfold inR;simp;exact g2] at HW2
        by_cases g3:40<f.data.size
        ·have q1:(40:Int)<(f.data.size:Int):=by omega
         have HF:=ZZ (show HK=false by rw[HST.o,y1u g3];rfl)
         clear g1 g2 g3
         go_quiet (first|(go_at_call 39;first|(with_reducible exact Calls.quiet_of_same (HW1.o _))|(with_reducible exact Calls.quiet_of_same (HW2.o _))))
         go_wp2_with fail
         go_ret
         exact⟨by rw[HF.o];try rfl,HB0.o.trans ((below_drewN Bh.o _).mono HB0.o.size)⟩
        ·have q1:¬ ((40:Int)<(f.data.size:Int)):=by omega
         have hE:(f.kind=0∧f.data.size≠0)∨(f.kind=0∧f.data.size=0)∨f.kind≠0:=by omega
         rcases hE with ⟨g4,g5⟩|hE
         ·have q4:(f.kind==0)=true:=by simpa using g4
          have q5:=y1m g5
          have HF:=ZZ (show HK=false by rw[HST.o,y1v g4 g5];rfl)
          clear g1 g2 g3 g4 g5
          go_quiet (first|(go_at_call 39;first|(with_reducible exact Calls.quiet_of_same (HW1.o _))|(with_reducible exact Calls.quiet_of_same (HW2.o _))))
          go_wp2_with fail
          go_ret
          exact⟨by rw[HF.o];try rfl,HB0.o.trans ((below_drewN Bh.o _).mono HB0.o.size)⟩
         ·have hz5:f.kind=0→f.data.size=0:=by omega
          by_cases g6:j=0
          ·have q6:¬ ((0:Int)<(j:Int)):=by omega
           have q6n:¬ (0<j):=by omega
           have ht00:=HTK0.o g6
           have HY:=ZZ (show y02 tk f=true from y10 (by omega) g1.2 g2 (by omega) hz5)
           rcases hE with ⟨g4,g5⟩|g4
           ·have q4:(f.kind==0)=true:=by simpa using g4
            have q5:=y0q g5
            clear g2 g3 g4 g5 g6 hz5
            have HN:=ZZ (show HK=(y07 (y00 ps (j+1)) (ps.drop (j+1))&&bo) by rw[HST.o,HY.o];rfl)
            go_quiet (first|(go_at_call 39;first|(with_reducible exact Calls.quiet_of_same (HW1.o _))|(with_reducible exact Calls.quiet_of_same (HW2.o _))))
            have HB2:=ZZ (below_drewN Bh.o nq)
            go_wp2_with fail
            go_roundw
            case rel=>exact⟨j+1,by go_num,by omega,by rw[Dr.o];omega,by rw[Dr.o];omega,HN.o,HB2.o⟩
            case measure=>simp[intOf];omega
           ·have q4:(f.kind==0)=false:=by simpa using g4
            clear g2 g3 g4 g6 hz5
            have HN:=ZZ (show HK=(y07 (y00 ps (j+1)) (ps.drop (j+1))&&bo) by rw[HST.o,HY.o];rfl)
            go_quiet (first|(go_at_call 39;first|(with_reducible exact Calls.quiet_of_same (HW1.o _))|(with_reducible exact Calls.quiet_of_same (HW2.o _))))
            have HB2:=ZZ (below_drewN Bh.o nq)
            go_wp2_with fail
            go_roundw
            case rel=>exact⟨j+1,by go_num,by omega,by rw[Dr.o];omega,by rw[Dr.o];omega,HN.o,HB2.o⟩
            case measure=>simp[intOf];omega
          ·have q6:(0:Int)<(j:Int):=by omega
           have q6n:0<j:=by omega
           obtain⟨f',bf',qf',hft,hidx',d0⟩:=CR.o g6
           have d0:=(Av.o.cell (zw d0)).trans d0
           subst hft
           by_cases g7:f.term≤f'.term
           ·have HF:=ZZ (show HK=false by rw[HST.o,y1w g7];rfl)
            rcases hE with ⟨g4,g5⟩|g4
            ·have q4:(f.kind==0)=true:=by simpa using g4
             have q5:=y0q g5
             clear g1 g2 g3 g4 g5 g6 hz5
             go_quiet (first|(go_at_call 39;first|(with_reducible exact Calls.quiet_of_same (HW1.o _))|(with_reducible exact Calls.quiet_of_same (HW2.o _))))
             go_wp2_with fail
             go_ret
             exact⟨by rw[HF.o];try rfl,HB0.o.trans ((below_drewN Bh.o _).mono HB0.o.size)⟩
            ·have q4:(f.kind==0)=false:=by simpa using g4
             clear g1 g2 g3 g4 g6 hz5
             go_quiet (first|(go_at_call 39;first|(with_reducible exact Calls.quiet_of_same (HW1.o _))|(with_reducible exact Calls.quiet_of_same (HW2.o _))))
             go_wp2_with fail
             go_ret
             exact⟨by rw[HF.o];try rfl,HB0.o.trans ((below_drewN Bh.o _).mono HB0.o.size)⟩
           ·have HY:=ZZ (show y02 f'.term f=true from y10 (by omega) g1.2 g2 (by omega) hz5)
            rcases hE with ⟨g4,g5⟩|g4
            ·have q4:(f.kind==0)=true:=by simpa using g4
             have q5:=y0q g5
             clear g2 g3 g4 g5 g6 hz5
             have HN:=ZZ (show HK=(y07 (y00 ps (j+1)) (ps.drop (j+1))&&bo) by rw[HST.o,HY.o];rfl)
             go_quiet (first|(go_at_call 39;first|(with_reducible exact Calls.quiet_of_same (HW1.o _))|(with_reducible exact Calls.quiet_of_same (HW2.o _))))
             have HB2:=ZZ (below_drewN Bh.o nq)
             go_wp2_with fail
             go_roundw
             case rel=>exact⟨j+1,by go_num,by omega,by rw[Dr.o];omega,by rw[Dr.o];omega,HN.o,HB2.o⟩
             case measure=>simp[intOf];omega
            ·have q4:(f.kind==0)=false:=by simpa using g4
             clear g2 g3 g4 g6 hz5
             have HN:=ZZ (show HK=(y07 (y00 ps (j+1)) (ps.drop (j+1))&&bo) by rw[HST.o,HY.o];rfl)
             go_quiet (first|(go_at_call 39;first|(with_reducible exact Calls.quiet_of_same (HW1.o _))|(with_reducible exact Calls.quiet_of_same (HW2.o _))))
             have HB2:=ZZ (below_drewN Bh.o nq)
             go_wp2_with fail
             go_roundw
             case rel=>exact⟨j+1,by go_num,by omega,by rw[Dr.o];omega,by rw[Dr.o];omega,HN.o,HB2.o⟩
             case measure=>simp[intOf];omega
       ·rw[show inR f.kind 0 1000000=false by unfold inR;simp;omega] at HW2
        have HF:=ZZ (show HK=false by rw[HST.o,y1t g2];rfl)
        clear g1 g2
        go_quiet (first|(go_at_call 39;first|(with_reducible exact Calls.quiet_of_same (HW1.o _))|(with_reducible exact Calls.quiet_of_same (HW2.o _))))
        go_wp2_with fail
        go_ret
        exact⟨by rw[HF.o];try rfl,HB0.o.trans ((below_drewN Bh.o _).mono HB0.o.size)⟩
      ·rw[show inR f.term 1 1000000=false by unfold inR;simp;omega] at HW1
       have HF:=ZZ (show HK=false by rw[HST.o,y1s g1 ht0];rfl)
       clear g1
       go_quiet (first|(go_at_call 39;first|(with_reducible exact Calls.quiet_of_same (HW1.o _))|(with_reducible exact Calls.quiet_of_same (HW2.o _))))
       go_wp2_with fail
       go_ret
       exact⟨by rw[HF.o];try rfl,HB0.o.trans ((below_drewN Bh.o _).mono HB0.o.size)⟩
     ·have j0:¬ ((j:Int)<(pn:Int)):=by omega
      have JH:=ZZ (show HK=y0e own 0 (os.drop 0) by rw[Lx.o,y1a ps (by rw[LK.o];omega),HOO.o];rfl)
      have r1:=zb (HA.o wr HB.o) 1 rfl
      have r2:=zb (HA.o wr HB.o) 2 rfl
      have r3:=zb (HA.o wr HB.o) 3 rfl
      clear Lx HOO
      go_wp2_with (go_at_call 40;(with_reducible refine (HOW.o _ HB.o).mono ?_);rintro r w1 ⟨oI,cI,rfl,hoI,hb1⟩)
      obtain⟨_,_,heo,hI⟩:=z6z hoI Bv.o
      cases heo
      have HI:=ZZ hI
      have HB1:=ZZ (zTr HB.o hb1)
      clear hoI hI hb1 r0 r1 r2 r3 HOW
      have HZ1:=ZZ HB1.o.size
      go_loopw [6] (fun x wr=>∃ (j:Nat),x=.int .i64 (j:Int)∧j≤qn∧HK=y0e own j (os.drop j)∧Bw w1 wr) (fun x _=>qn - (intOf x).toNat)
      case atStart=>exact⟨0,rfl,Nat.zero_le _,JH.o,zBr⟩
      case round =>
       rename_i jOld
       obtain⟨j,rfl,hj,hgo,hbel⟩:=hrel
       have HB:=ZZ hbel
       have Lx:=ZZ hgo
       have CQ:=ZZ (HB1.o.trans (hbel.mono HZ1.o))
       have r4:=zb (HA.o wr CQ.o) 4 rfl
       clear hgo hbel JH
       by_cases hlt:j<qn
       ·have j0:(j:Int)<(qn:Int):=by omega
        obtain⟨x,xa,xc,bx,qx,hx,hidx,hbx,c0,c1,c2,hit⟩:=(HO.o wr CQ.o).get Tryz.underlying43 y0p j hlt
        have HST:=ZZ (Lx.o.trans (y0y own os hx))
        obtain⟨Wa,hWa,hba,hEa⟩:=bxN wr #[.int .i64 x.d,.int .i64 x.a,.slice xa x.ids.length xc] 90
        have DC:=ZZ hWa
        have Bh:=ZZ (zTr HB.o hba)
        have Cg:=ZZ hEa
        have Ci:=ZZ (show Calls Tryz.prog 41 #[.slice xa x.ids.length xc,.slice oI own.length cI] Wa fun e w'=>e=.returned (.bool (eqB x.ids own))∧Bw Wa w' from by have h1:=z88 xa x.ids.length xc oI own.length cI x.ids own Wa (hit.below hba) (HI.o.below Bh.o);rw[show decide (x.ids=own)=eqB x.ids own from by rw[Bool.eq_iff_iff,zi0];simp] at h1;exact h1)
        clear hx hba hEa hWa hit
        go_upto_region 14 with fail
        rw[DC.o]
        clear DC c0 c1 c2 hidx r4
        have a0:=zb Cg.o 0 rfl
        have a1:=zb Cg.o 1 rfl
        have a2:=zb Cg.o 2 rfl
        by_cases hd:x.d=(j:Int)+1
        ·have qd:(x.d != (j:Int)+1)=false:=by simpa using hd
         have Bi:=ZZ (show y0i own j x=(eqB x.ids own&&(decide (0≤x.a)&&decide (x.a≤(own.length:Int)))) from by unfold y0i;rw[show (x.d==((j+1:Nat):Int))=true from by simpa using hd];rfl)
         clear hd
         generalize eqB x.ids own=be at Ci Bi
         cases be with
         | false =>
          have HF:=ZZ (show HK=false by rw[HST.o,Bi.o];rfl)
          go_wp2_with (go_at_call 41;(with_reducible refine Ci.o.mono ?_);rintro r w2 ⟨rfl,hb2⟩)
          go_ret
          have hb3:=HB1.o.trans ((zTr Bh.o hb2).mono HZ1.o)
          exact⟨by rw[HF.o];try rfl,zTr HB0.o hb3⟩
         | true =>
          have HWI:=ZZ (fun w=>z4n x.a 0 (own.length:Int) w)
          rw[show (decide (0≤x.a)&&decide (x.a≤(own.length:Int)))=inR x.a 0 (own.length:Int) from by unfold inR;simp] at Bi
          generalize inR x.a 0 (own.length:Int)=bw at HWI Bi
          cases bw with
          | false =>
           have HF:=ZZ (show HK=false by rw[HST.o,Bi.o];rfl)
           go_wp2_with (first
            | (go_at_call 41;(with_reducible refine Ci.o.mono ?_);rintro r w2 ⟨rfl,hb2⟩;have b1:=(hb2.cell (ze Cg.o)).trans a1)
            | (go_at_call 39;(with_reducible refine (HWI.o _).mono ?_);rintro r w3 ⟨rfl,rfl⟩))
           go_ret
           have hb3:=HB1.o.trans ((zTr Bh.o hb2).mono HZ1.o)
           exact⟨by rw[HF.o];try rfl,zTr HB0.o hb3⟩
          | true =>
           have HN:=ZZ (show HK=y0e own (j+1) (os.drop (j+1)) by rw[HST.o,Bi.o];rfl)
           go_wp2_with (first
            | (go_at_call 41;(with_reducible refine Ci.o.mono ?_);rintro r w2 ⟨rfl,hb2⟩;have b1:=(hb2.cell (ze Cg.o)).trans a1)
            | (go_at_call 39;(with_reducible refine (HWI.o _).mono ?_);rintro r w3 ⟨rfl,rfl⟩))
           have HB2:=ZZ (zTr Bh.o hb2)
           clear hb2 b1
           go_roundw
           case rel=>exact⟨j+1,by go_num,by omega,HN.o,HB2.o⟩
           case measure=>simp[intOf];omega
        ·have qd:(x.d != (j:Int)+1)=true:=by rw[bne_iff_ne];exact hd
         have HF:=ZZ (show HK=false by rw[HST.o];unfold y0i;rw[show (x.d==((j+1:Nat):Int))=false from by simpa using hd];rfl)
         clear hd
         go_wp2_with fail
         go_ret
         have hb3:=HB1.o.trans (Bh.o.mono HZ1.o)
         exact⟨by rw[HF.o];try rfl,zTr HB0.o hb3⟩
       ·have j0:¬ ((j:Int)<(qn:Int)):=by omega
        have HF:=ZZ (show HK=true by rw[Lx.o];exact y1c own os (by rw[HOL.o];omega) _)
        go_wp2_with fail
        go_ret
        exact⟨by rw[HF.o];try rfl,zTr HB0.o CQ.o⟩
  ·have q2:((qn:Int) != 2)=true:=by rw[bne_iff_ne];omega
   have HF:=ZZ (show y05 ps es ss gs os=false by unfold y05;rw[y0z (by rw[HOL.o];exact h2)];simp)
   clear h2 h hfe hwd hb0 hA0 hW0
   go_enter Tryz.func13,Tryz.ntmps13
   go_upto_region 1 with fail
   rw[HW0.o]
   clear HW0
   have r0:=zb (HA.o W0 zBr) 0 rfl
   have r1:=zb (HA.o W0 zBr) 1 rfl
   have r2:=zb (HA.o W0 zBr) 2 rfl
   have r3:=zb (HA.o W0 zBr) 3 rfl
   have r4:=zb (HA.o W0 zBr) 4 rfl
   go_wp2_with fail
   go_ret
   exact⟨by rw[HF.o];rfl,HB0.o⟩

end Go.Proofs.YtfeebdcmlnapiaaGreat
