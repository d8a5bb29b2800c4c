/-
  Walks and mathematics of LawRes0, LawClash.
-/
import Derived.Test.YtgebcpkpdbdfoaaGreatQWalk11zn
import Derived.Test.YtgebcpkpdbdfoaaGreatQWalk11zl
import Derived.Test.YtgebcpkpdbdfoaaGreatQOrd1
import Derived.Test.YtgebcpkpdbdfoaaGreatQWalk10rd
import Derived.Test.YtgebcpkpdbdfoaaGreatQWalk10q
set_option linter.unusedVariables false
set_option linter.unusedSimpArgs false
namespace Go.Proofs.YtgebcpkpdbdfoaaGreat
open Go.RowKit P1 P5 P9 P12 P14 P15 P16 P17 K

theorem zcc:∀ {es:List EvV} {e:EvV},(es.map (·.id)).Nodup→e∈es→zi es e.id=some e
 | x :: r,e,hn,he=>by
  rw[List.map_cons,List.nodup_cons] at hn
  unfold zi
  rcases List.mem_cons.1 he with rfl | he
  ·rw[if_pos rfl]
  ·rw[if_neg (fun h=>hn.1 (by rw[h];exact List.mem_map.2 ⟨e,he,rfl⟩))]
   exact zcc hn.2 he

section
variable {es:List EvV} {sts ss:List St}

theorem Lot.roomE (h:Lot es sts ss):zi7 es:=by
 have hb:=z8f h.dr.built
 have hn:=h.dr.inv.len
 exact⟨by omega,h.dr.inv.fine,fun e he=>by
  have h1:=h.dr.inv.ids e he
  have h2:=h.dr.ids e he
  exact z2i (by omega) (by omega),fun e he=>by
  have h:=hb.1 e he
  unfold evOk z1h at h
  simp only[Bool.and_eq_true,decide_eq_true_eq] at h
  exact h.2.2.2.1,fun e he=>by
  have h1:=h.dr.inv.ids e he
  omega,h.dr.inv.nod⟩

theorem Lot.ok (h:Lot es sts ss):∀ s∈ss,stOk s=true:=fun s hs=>((z8f h.dr.built).2 s (h.sub s hs)).2
theorem Lot.tells (h:Lot es sts ss):∀ s∈ss,Tells es s:=fun s hs=>((z8f h.dr.built).2 s (h.sub s hs)).1
theorem Lot.told (h:Lot es sts ss):z8p es ss:=fun s hs x hx=>by
 obtain⟨e,h1,h2,h3,h4⟩:=h.tells s hs x hx
 refine⟨e,?_,h3⟩
 rw[← h2]
 exact zcc h.dr.inv.nod h1
end

theorem zn4:agreed []=[]:=by decide
theorem zjr:clash []=[]:=by decide
theorem zmv (es:List EvV):P15.resolve es []=[]:=rfl

end Go.Proofs.YtgebcpkpdbdfoaaGreat

namespace Go.Proofs.YtgebcpkpdbdfoaaGreat
open Go.RowKit P1 P5 P9 P12 P14 P15 P16 P17 K

set_option maxRecDepth 100000 in
set_option maxHeartbeats 8000000 in
theorem FnClash_walk (a0:Option Addr) (len0 cap0:Nat) (z0:List Int) (w:World) (w0:zhf .u8 w a0 len0 cap0 z0) :
  Calls Tryz.prog 4 #[.slice a0 len0 cap0] w fun e w'=>e=.returned (.bool true)∧Below w.heap.size w w':=by
 have HC:=hide (zdx w0)
 clear w0
 by_cases hbig:1048576 < len0
 ·go_enter Tryz.func4,Tryz.ntmps4
  go_wp2_with (go_at_call 9;refine (zlu a0 len0 cap0 hbig _).mono ?_;rintro e w1 ⟨rfl,rfl⟩)
  go_ret
  exact⟨rfl,Below.refl _ _⟩
 ·have hlen:len0≤1048576:=by omega
  go_enter Tryz.func4,Tryz.ntmps4
  go_upto_region 4 with (first
   | (go_at_call 9;refine (zmk a0 len0 cap0 hlen _).mono ?_;rintro e w1 ⟨rfl,rfl⟩)
   | (go_at_call 10;refine (zbn w.heap.size a0 len0 cap0 _ hlen (Nat.le_refl _) HC.out).mono ?_;rintro e w1 ⟨oa,ca,es,sts,ov,cv,ss,rfl,hL,hev,hst,hb1⟩))
  have hf:=hL.few
  have Ap:=hide hL.ok
  have KO:=hide hL.tells
  have Nl:=hide hL.told
  have Kr:=hide hL.roomE
  have Af:=hide hev
  have HST:=hide hst
  have HB1:=hide hb1
  have Cf:=hide (z9j ov ss.length cv ss (by omega) hL.ok w1 hst)
  have hc16:=zaz ss
  have Lg:=hide (zlf ss)
  have ha8:=z1z (z3k hL.ok)
  have Gp:=hide (z3k hL.ok)
  clear hL hev hst hb1 HC
  go_upto_region 5 with (go_at_call 15;(with_reducible refine Cf.out.mono ?_);rintro e w2 ⟨v2,rfl,ho2,hb2⟩;obtain⟨o2,c2,rfl,hi2⟩:=z0b ho2 Lg.out)
  have HB2:=hide (HB1.out.trans (hb2.mono HB1.out.size))
  have Gq:=hide (HST.out.below hb2)
  have DU:=hide (Af.out.below hb2)
  have HI2:=hide hi2
  have Dt:=hide (z6d ov ss.length cv ss (by omega) Ap.out w2 Gq.out)
  clear ho2 hb2 hi2 Cf HST Af HB1
  go_upto_region 6 with (go_at_call 14;(with_reducible refine Dt.out.mono ?_);rintro e w3 ⟨v3,rfl,ho3,hb3⟩;obtain⟨o3,c3,rfl,hi3⟩:=z03 ho3)
  have HB3:=hide (HB2.out.trans (hb3.mono HB2.out.size))
  have EG:=hide (Gq.out.below hb3)
  have JA:=hide (DU.out.below hb3)
  have HI3:=hide (HI2.out.below hb3)
  have Ao:=hide hi3
  have Bz:=hide (z9f ov ss.length cv ss w3 EG.out)
  clear ho3 hb3 hi3 Dt Gq DU HB2 HI2
  go_upto_region 8 with (first
   | (go_at_call 18;(with_reducible refine Bz.out.mono ?_);rintro e w4 ⟨v4,rfl,ho4,hb4⟩;obtain⟨o4,c4,rfl,hi4⟩:=z0b ho4 Lg.out;have M7:=hide (zfj o2 (clash ss).length c2 o4 c4 (clash ss) (by omega) w4 (HI3.out.below hb4) hi4))
   | (go_at_call 17;(with_reducible refine M7.out.mono ?_);rintro e w5 ⟨rfl,hb5⟩;have hb35:=hb4.trans (hb5.mono hb4.size);have M8:=hide (z8i ov ss.length cv ss w5 (EG.out.below hb35)))
   | (go_at_call 19;(with_reducible refine M8.out.mono ?_);rintro e w6 ⟨v6,rfl,ho6,hb6⟩;obtain⟨o6,c6,rfl,hi6⟩:=z03 ho6;have hb36:=hb35.trans (hb6.mono hb35.size);have BG:=hide (ze8 o3 (agreed ss).length c3 (agreed ss) o6 (agreed ss).length c6 (agreed ss) w6 (Ao.out.below hb36) hi6);rw[decide_eq_true (rfl:agreed ss=agreed ss)] at BG)
   | (go_at_call 12;(with_reducible refine BG.out.mono ?_);rintro e w7 ⟨rfl,hd7⟩))
  have hb37:=hb36.trans (hd7.below.mono hb36.size)
  have CS:=hide (HB3.out.trans (hb37.mono HB3.out.size))
  have JB:=hide (EG.out.below hb37)
  have JE:=hide (JA.out.below hb37)
  have Gw:=hide (HI3.out.below hb37)
  have Bn:=hide (Ao.out.below hb37)
  clear ho4 hb4 hi4 M7 hb5 hb35 M8 ho6 hb6 hi6 hb36 BG hd7 hb37 Bz HB3 EG JA HI3 Ao
  have M9:=hide (show ∀ x∈agreed ss,inL (clash ss) x.1=false from fun x hx=>by
   cases hin:inL (clash ss) x.1 with
   | false=>rfl
   | true =>
    exfalso
    have hm:=inL_iff.1 hin
    by_cases hne:ss=[]
    ·subst hne
     rw[zjr] at hm
     simp at hm
    ·exact ((zdc hne Ap.out).1 hm).2 ⟨x.2,hx⟩)
  obtain⟨C,hC⟩:∃ C,clash ss=C:=⟨_,rfl⟩
  obtain⟨A,hA⟩:∃ A,agreed ss=A:=⟨_,rfl⟩
  simp only[hC,hA] at M9 Gw Bn hc16 ha8 Gp Lg ⊢
  have Nn:=hide hC
  have EJ:=hide hA
  clear hC hA
  go_wp2_with fail
  go_loopw [7] (fun i wr=>∃ (j:Nat),i=.int .i64 (j:Int)∧j≤A.length∧Below w7.heap.size w7 wr) (fun i _=>A.length - (intOf i).toNat)
  case atStart=>exact⟨0,rfl,Nat.zero_le _,Below.refl _ _⟩
  case round =>
   obtain⟨j,rfl,hj,hbr⟩:=hrel
   by_cases hlt:j < A.length
   ·have j0:(j:Int) < (A.length:Int):=by omega
    obtain⟨x,b,q,hx,hidx,hb,x0,x1⟩:=(Bn.out.below hbr).get Tryz.underlying28 z2d j hlt
    have DD:=hide (zdq o2 C.length c2 C x.1 wr (Gw.out.below hbr))
    rw[M9.out x (List.mem_of_getElem? hx)] at DD
    have AQ:=hide hbr
    clear hx hbr
    go_wp2_with (go_at_call 20;(with_reducible refine DD.out.mono ?_);rintro e w8 ⟨rfl,rfl⟩)
    go_roundw
    case rel=>exact⟨j+1,by go_num,by omega,AQ.out⟩
    case measure=>simp[intOf];omega
   ·have j0:¬ ((j:Int) < (A.length:Int)):=by omega
    have Gr:=hide (JB.out.below hbr)
    have JF:=hide (JE.out.below hbr)
    have Ma:=hide (Gw.out.below hbr)
    have Ay:=hide (Bn.out.below hbr)
    have Jz:=hide (CS.out.trans (hbr.mono CS.out.size))
    have Aq:=hide (zcb oa es.length ca es ov ss.length cv ss Kr.out (by omega) Ap.out KO.out wr JF.out Gr.out)
    have hs8:=z1z (z9a (es:=es) Ap.out)
    have Lh:=hide (show ss≠[]→Had ss (P15.resolve es ss) from fun hne=>zm4 hne Ap.out Nl.out)
    have Li:=hide (show ss=[]→P15.resolve es ss=[] from fun h=>by rw[h];rfl)
    have Ll:=hide (z9a (es:=es) Ap.out)
    clear hbr JB JE Gw Bn CS
    go_upto_region 14 with (go_at_call 11;(with_reducible refine Aq.out.mono ?_);rintro e w9 ⟨v9,rfl,ho9,hb9⟩;obtain⟨o9,c9,rfl,hi9⟩:=z03 ho9)
    have Np:=hide hi9
    have Lm:=hide (Gr.out.below hb9)
    have Nq:=hide (Ma.out.below hb9)
    have Nr:=hide (Ay.out.below hb9)
    have JU:=hide (Jz.out.trans (hb9.mono Jz.out.size))
    clear ho9 hb9 hi9 Aq Gr JF Ma Ay Jz
    generalize P15.resolve es ss=S at *
    go_wp2_with fail
    go_loopw [9] (fun i wr=>∃ (j:Nat),i=.int .i64 (j:Int)∧j≤S.length∧Below w9.heap.size w9 wr) (fun i _=>S.length - (intOf i).toNat)
    case atStart=>exact⟨0,rfl,Nat.zero_le _,Below.refl _ _⟩
    case round =>
     clear hj hlt j0
     obtain⟨j,rfl,hj,hbr⟩:=hrel
     obtain⟨wD,rfl⟩:∃ wD,wD=wr:=⟨_,rfl⟩
     have AQ:=hide hbr
     by_cases hlt:j < S.length
     ·have j0:(j:Int) < (S.length:Int):=by omega
      have hne:ss≠[]:=fun h=>by
       have:=Li.out h
       rw[this] at hlt
       simp at hlt
      have hm0:0 < ss.length:=List.length_pos_iff.2 hne
      have hmz:((ss.length:Int) == 0)=false:=by rw[beq_eq_false_iff_ne];omega
      obtain⟨x,b,q,hx,hidx,hb,x0,x1⟩:=(Np.out.below hbr).get Tryz.underlying28 z2d j hlt
      have hxm:=List.mem_of_getElem? hx
      obtain⟨⟨sx,hsx1,hsx2⟩,hcl⟩:=Lh.out hne x hxm
      have hwx:=z2u Ll.out x hxm
      have Ns:=hide hsx1
      have JG:=hide hsx2
      have Nt:=hide hcl
      have hwk:=hwx.1
      have Mc:=hide hwk
      clear hx hxm hsx1 hsx2 hcl hwx hwk hbr hne hm0
      go_wp2_with fail
      go_loopw [10,11] (fun v k wr=>∃ (i:Nat) (hd:Bool),k=.int .i64 (i:Int)∧v=.bool hd∧i≤ss.length∧(ss.take i).any (fun s=>stAt s x.1 == x.2)=hd∧Below wD.heap.size wD wr) (fun _ k _=>ss.length - (intOf k).toNat)
      case atStart=>exact⟨0,false,rfl,rfl,Nat.zero_le _,rfl,Below.refl _ _⟩
      case round =>
       obtain⟨i,hd,rfl,rfl,hi,hany,hbD⟩:=hrel
       have x0r:=(hbD.cell hb).trans x0
       have x1r:=(hbD.cell hb).trans x1
       have hbr':=Nat.lt_of_lt_of_le hb hbD.size
       have hb9r:=AQ.out.trans (hbD.mono AQ.out.size)
       by_cases hlti:i < ss.length
       ·have i0:(i:Int) < (ss.length:Int):=by omega
        obtain⟨s,b2,q2,xa,xc,hs,hidx2,hc2,hit2⟩:=(Lm.out.below hb9r).get Tryz.underlying25 z3y i hlti
        have hsok:=Ap.out s (List.mem_of_getElem? hs)
        have hs8':=z1z hsok
        have Eh:=hide (show (ss.take (i+1)).any (fun s=>stAt s x.1 == x.2)=(hd || (stAt s x.1 == x.2)) by rw[z4g hs,List.any_append,hany];simp)
        have HAT:=hide (fun wx (hbx:Below wr.heap.size wr wx)=>zb5 xa s.length xc s x.1 (by omega) Mc.out wx (hit2.below hbx) (z2u hsok))
        have hlc:=z0d hc2
        have Bo:=hide hbD
        clear hs hit2 hsok hany hbD hb9r x0 x1
        cases hd
        ·rw[Bool.false_or] at Eh
         generalize hsi:(stAt s x.1 == x.2)=bq at Eh
         go_wp2_with fail
         refine zy (F:=Bw wr) (by kernel_rfl) (by kernel_rfl) (Below.refl _ _).drew ?_
         have hne:Nonempty (InW (Bw wr)):=⟨⟨_,Below.refl _ _⟩⟩
         have k0:∀ m:InW (Bw wr),m.w.cell? ⟨b2,q2,none⟩=some (.slice xa s.length xc):=fun m=>(m.h.cell hlc).trans hc2
         have k1:∀ m:InW (Bw wr),m.w.cell? ⟨b,q,none⟩=some (.int .i64 x.1):=fun m=>(m.h.cell hbr').trans x0r
         have k2:∀ m:InW (Bw wr),m.w.cell? ⟨b,q+1,none⟩=some (.int .i64 x.2):=fun m=>(m.h.cell hbr').trans x1r
         repeat (go_big_quiet_step (first
          | (go_at_call 16;(with_reducible refine (HAT.out _ (InW.h (F:=Bw wr) _)).mono ?_);rintro e' w2 ⟨rfl,hb2⟩;exact⟨rfl,⟨w2,Below.trans (InW.h _) (hb2.mono (Below.size (InW.h (F:=Bw wr) ‹_›)))⟩,rfl⟩)))
         refine wpQuiet_nil ?_
         intro _ hw'
         obtain⟨nq,hw''⟩:=hw'
         subst hw''
         have hnq:=nq.h
         generalize nq.w=w3 at hnq ⊢
         have HB3:=hide (Bo.out.trans (hnq.mono Bo.out.size))
         clear hne k0 k1 k2 hnq x0r x1r hc2
         go_wp2_with fail
         go_roundw
         case rel=>exact⟨i+1,bq,by go_num,rfl,by omega,Eh.out,HB3.out⟩
         case measure=>simp[intOf];omega
        ·rw[Bool.true_or] at Eh
         go_wp2_with fail
         go_quiet (fail)
         have hbQ:Below wr.heap.size wr (wr.drewN nq):=below_drewN (Below.refl _ _) nq
         have HB3:=hide (Bo.out.trans (hbQ.mono Bo.out.size))
         go_wp2_with fail
         go_roundw
         case rel=>exact⟨i+1,true,by go_num,rfl,by omega,Eh.out,HB3.out⟩
         case measure=>simp[intOf];omega
       ·have i0:¬ ((i:Int) < (ss.length:Int)):=by omega
        have hhd:hd=true:=by
         rw[← hany,List.take_of_length_le (by omega)]
         exact List.any_eq_true.2 ⟨sx,Ns.out,by simpa using JG.out⟩
        subst hhd
        have DD:=hide (fun wx (hbx:Below wr.heap.size wr wx)=>zdq o2 C.length c2 C x.1 wx ((Nq.out.below hb9r).below hbx))
        have HAT:=hide (fun wx (hbx:Below wr.heap.size wr wx)=>zb5 o3 A.length c3 A x.1 (by omega) Mc.out wx ((Nr.out.below hb9r).below hbx) (z2u Gp.out))
        have Bo:=hide hbD
        clear hany hbD hb9r x0 x1
        cases hinq:inL C x.1
        ·have hxa:x∈A:=by
          rcases Nt.out with h | h
          ·rw[Nn.out] at h
           rw[inL_iff.2 h] at hinq
           cases hinq
          ·rw[EJ.out] at h
           exact h
         have hat0:stAt A x.1=x.2:=by
          have h:=Gp.out
          rw[z1a] at h
          exact z7e h x hxa
         rw[hinq] at DD
         rw[hat0] at HAT
         clear hxa hat0 hinq
         go_wp2_with fail
         refine zy (F:=Bw wr) (by kernel_rfl) (by kernel_rfl) (Below.refl _ _).drew ?_
         have hne:Nonempty (InW (Bw wr)):=⟨⟨_,Below.refl _ _⟩⟩
         have k1:∀ m:InW (Bw wr),m.w.cell? ⟨b,q,none⟩=some (.int .i64 x.1):=fun m=>(m.h.cell hbr').trans x0r
         have k2:∀ m:InW (Bw wr),m.w.cell? ⟨b,q+1,none⟩=some (.int .i64 x.2):=fun m=>(m.h.cell hbr').trans x1r
         repeat (go_big_quiet_step (first
          | (go_at_call 16;(with_reducible refine (HAT.out _ (InW.h (F:=Bw wr) _)).mono ?_);rintro e' w2 ⟨rfl,hb2⟩;exact⟨rfl,⟨w2,Below.trans (InW.h _) (hb2.mono (Below.size (InW.h (F:=Bw wr) ‹_›)))⟩,rfl⟩)
          | (go_at_call 20;(with_reducible refine (DD.out _ (InW.h (F:=Bw wr) _)).mono ?_);rintro e' w2 ⟨rfl,hw2⟩;subst hw2;exact⟨rfl,⟨_,InW.h (F:=Bw wr) ‹_›⟩,rfl⟩)))
         refine wpQuiet_nil ?_
         intro _ hw'
         obtain⟨nq,hw''⟩:=hw'
         subst hw''
         have hnq:=nq.h
         generalize nq.w=w3 at hnq ⊢
         have HB3:=hide (AQ.out.trans ((Bo.out.trans (hnq.mono Bo.out.size)).mono AQ.out.size))
         clear hne k1 k2 hnq x0r x1r
         go_wp2_with fail
         go_roundw
         case rel=>exact⟨j+1,by go_num,by omega,HB3.out⟩
         case measure=>simp[intOf];omega
        ·rw[hinq] at DD
         clear hinq
         go_wp2_with fail
         refine zy (F:=Bw wr) (by kernel_rfl) (by kernel_rfl) (Below.refl _ _).drew ?_
         have hne:Nonempty (InW (Bw wr)):=⟨⟨_,Below.refl _ _⟩⟩
         have k1:∀ m:InW (Bw wr),m.w.cell? ⟨b,q,none⟩=some (.int .i64 x.1):=fun m=>(m.h.cell hbr').trans x0r
         repeat (go_big_quiet_step (first
          | (go_at_call 20;(with_reducible refine (DD.out _ (InW.h (F:=Bw wr) _)).mono ?_);rintro e' w2 ⟨rfl,hw2⟩;subst hw2;exact⟨rfl,⟨_,InW.h (F:=Bw wr) ‹_›⟩,rfl⟩)))
         refine wpQuiet_nil ?_
         intro _ hw'
         obtain⟨nq,hw''⟩:=hw'
         subst hw''
         have hnq:=nq.h
         generalize nq.w=w3 at hnq ⊢
         have HB3:=hide (AQ.out.trans ((Bo.out.trans (hnq.mono Bo.out.size)).mono AQ.out.size))
         clear hne k1 hnq x0r x1r
         go_wp2_with fail
         go_roundw
         case rel=>exact⟨j+1,by go_num,by omega,HB3.out⟩
         case measure=>simp[intOf];omega
     ·have j0:¬ ((j:Int) < (S.length:Int)):=by omega
      go_wp2_with fail
      go_ret
      exact⟨rfl,JU.out.trans (hbr.mono JU.out.size)⟩

end Go.Proofs.YtgebcpkpdbdfoaaGreat
