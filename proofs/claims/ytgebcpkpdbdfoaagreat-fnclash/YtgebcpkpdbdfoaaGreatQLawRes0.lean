/-
  Walks and mathematics of LawRes0, LawClash.
-/
import Derived.Test.YtgebcpkpdbdfoaaGreatQWalk11zn
import Derived.Test.YtgebcpkpdbdfoaaGreatQWalk11zl
import Derived.Test.YtgebcpkpdbdfoaaGreatQOrd1
import Derived.Test.YtgebcpkpdbdfoaaGreatQWalk10rd
import Derived.Test.YtgebcpkpdbdfoaaGreatQWalk10q
set_option linter.unusedVariables false
set_option linter.unusedSimpArgs false
namespace Go.Proofs.YtgebcpkpdbdfoaaGreat
open Go.RowKit P1 P5 P9 P12 P14 P15 P16 P17 K

theorem zcc:∀ {es:List EvV} {e:EvV},(es.map (·.id)).Nodup→e∈es→zi es e.id=some e
 | x :: r,e,hn,he=>by
  rw [List.map_cons,List.nodup_cons] at hn
  unfold zi
  rcases List.mem_cons.1 he with rfl | he
  ·rw [if_pos rfl]
  ·rw [if_neg (fun h=>hn.1 (by rw [h];exact List.mem_map.2⟨e,he,rfl⟩))]
   exact zcc hn.2 he

section
variable {es:List EvV} {sts ss:List St}

theorem Lot.roomE (h:Lot es sts ss):zi7 es:=by
 have hb:=z8f h.dr.built
 have hn:=h.dr.inv.len
 exact⟨by omega,h.dr.inv.fine,fun e he=>by
  have h1:=h.dr.inv.ids e he
  have h2:=h.dr.ids e he
  exact z2i (by omega)(by omega),fun e he=>by
  have h:=hb.1 e he
  unfold evOk z1h at h
  simp only [Bool.and_eq_true,decide_eq_true_eq] at h
  exact h.2.2.2.1,fun e he=>by
  have h1:=h.dr.inv.ids e he
  omega,h.dr.inv.nod⟩

theorem Lot.ok (h:Lot es sts ss):∀ s∈ss,stOk s=true:=fun s hs=>((z8f h.dr.built).2 s (h.sub s hs)).2
theorem Lot.tells (h:Lot es sts ss):∀ s∈ss,Tells es s:=fun s hs=>((z8f h.dr.built).2 s (h.sub s hs)).1
theorem Lot.told (h:Lot es sts ss):z8p es ss:=fun s hs x hx=>by
 obtain⟨e,h1,h2,h3,h4⟩:=h.tells s hs x hx
 refine⟨e,?_,h3⟩
 rw [← h2]
 exact zcc h.dr.inv.nod h1
end

theorem zn4:agreed []=[]:=by decide
theorem zjr:clash []=[]:=by decide
theorem zmv (es:List EvV):P15.resolve es []=[]:=rfl

end Go.Proofs.YtgebcpkpdbdfoaaGreat

namespace Go.Proofs.YtgebcpkpdbdfoaaGreat
open Go.RowKit P1 P5 P9 P12 P14 P15 P16 P17 K

set_option maxRecDepth 100000 in
set_option maxHeartbeats 8000000 in
theorem FnClash_walk (a0:Option Addr)(len0 cap0:Nat)(z0:List Int)(w:World)(w0:zhf .u8 w a0 len0 cap0 z0) :
  Calls Tryz.prog 4 #[.slice a0 len0 cap0] w fun e w'=>e=.returned (.bool true)∧Below w.heap.size w w':=by
 have HC:=hide (zdx w0)
 clear w0
 by_cases hbig:1048576 < len0
 ·go_enter Tryz.func4,Tryz.ntmps4
  go_wp2_with (go_at_call 9;refine (zlu a0 len0 cap0 hbig _).mono ?_;rintro e w1⟨rfl,rfl⟩)
  go_ret
  exact⟨rfl,Below.refl _ _⟩
 ·have hlen:len0≤1048576:=by omega
  go_enter Tryz.func4,Tryz.ntmps4
  go_upto_region 4 with (first
   | (go_at_call 9;refine (zmk a0 len0 cap0 hlen _).mono ?_;rintro e w1⟨rfl,rfl⟩)
   | (go_at_call 10;refine (zbn w.heap.size a0 len0 cap0 _ hlen (Nat.le_refl _) HC.out).mono ?_;rintro e w1⟨oa,ca,es,sts,ov,cv,ss,rfl,hL,hev,hst,hb1⟩))
  have hf:=hL.few
  have HOK:=hide hL.ok
  have HTL:=hide hL.tells
  have HTD:=hide hL.told
  have HRE:=hide hL.roomE
  have HEV:=hide hev
  have HST:=hide hst
  have HB1:=hide hb1
  have HCL:=hide (z9j ov ss.length cv ss (by omega) hL.ok w1 hst)
  have hc16:=zaz ss
  have HCW:=hide (zlf ss)
  have ha8:=z1z (z3k hL.ok)
  have HAOK:=hide (z3k hL.ok)
  clear hL hev hst hb1 HC
  go_upto_region 5 with (go_at_call 15;(with_reducible refine HCL.out.mono ?_);rintro e w2⟨v2,rfl,ho2,hb2⟩;obtain⟨o2,c2,rfl,hi2⟩:=z0b ho2 HCW.out)
  have HB2:=hide (HB1.out.trans (hb2.mono HB1.out.size))
  have HST2:=hide (HST.out.below hb2)
  have HEV2:=hide (HEV.out.below hb2)
  have HI2:=hide hi2
  have HAG:=hide (z6d ov ss.length cv ss (by omega) HOK.out w2 HST2.out)
  clear ho2 hb2 hi2 HCL HST HEV HB1
  go_upto_region 6 with (go_at_call 14;(with_reducible refine HAG.out.mono ?_);rintro e w3⟨v3,rfl,ho3,hb3⟩;obtain⟨o3,c3,rfl,hi3⟩:=z03 ho3)
  have HB3:=hide (HB2.out.trans (hb3.mono HB2.out.size))
  have HST3:=hide (HST2.out.below hb3)
  have HEV3:=hide (HEV2.out.below hb3)
  have HI3:=hide (HI2.out.below hb3)
  have HA3:=hide hi3
  have HSC:=hide (z9f ov ss.length cv ss w3 HST3.out)
  clear ho3 hb3 hi3 HAG HST2 HEV2 HB2 HI2
  go_upto_region 8 with (first
   | (go_at_call 18;(with_reducible refine HSC.out.mono ?_);rintro e w4⟨v4,rfl,ho4,hb4⟩;obtain⟨o4,c4,rfl,hi4⟩:=z0b ho4 HCW.out;have HSI:=hide (zfj o2 (clash ss).length c2 o4 c4 (clash ss)(by omega) w4 (HI3.out.below hb4) hi4))
   | (go_at_call 17;(with_reducible refine HSI.out.mono ?_);rintro e w5⟨rfl,hb5⟩;have hb35:=hb4.trans (hb5.mono hb4.size);have HSG:=hide (z8i ov ss.length cv ss w5 (HST3.out.below hb35)))
   | (go_at_call 19;(with_reducible refine HSG.out.mono ?_);rintro e w6⟨v6,rfl,ho6,hb6⟩;obtain⟨o6,c6,rfl,hi6⟩:=z03 ho6;have hb36:=hb35.trans (hb6.mono hb35.size);have HSS:=hide (ze8 o3 (agreed ss).length c3 (agreed ss) o6 (agreed ss).length c6 (agreed ss) w6 (HA3.out.below hb36) hi6);rw [decide_eq_true (rfl:agreed ss=agreed ss)] at HSS)
   | (go_at_call 12;(with_reducible refine HSS.out.mono ?_);rintro e w7⟨rfl,hd7⟩))
  have hb37:=hb36.trans (hd7.below.mono hb36.size)
  have HB7:=hide (HB3.out.trans (hb37.mono HB3.out.size))
  have HST7:=hide (HST3.out.below hb37)
  have HEV7:=hide (HEV3.out.below hb37)
  have HI7:=hide (HI3.out.below hb37)
  have HA7:=hide (HA3.out.below hb37)
  clear ho4 hb4 hi4 HSI hb5 hb35 HSG ho6 hb6 hi6 hb36 HSS hd7 hb37 HSC HB3 HST3 HEV3 HI3 HA3
  have HNC:=hide (show ∀ x∈agreed ss,inL (clash ss) x.1=false from fun x hx=>by
   cases hin:inL (clash ss) x.1 with
   | false=>rfl
   | true =>
    exfalso
    have hm:=inL_iff.1 hin
    by_cases hne:ss=[]
    ·subst hne
     rw [zjr] at hm
     simp at hm
    ·exact ((zdc hne HOK.out).1 hm).2⟨x.2,hx⟩)
  obtain⟨C,hC⟩:∃ C,clash ss=C:=⟨_,rfl⟩
  obtain⟨A,hA⟩:∃ A,agreed ss=A:=⟨_,rfl⟩
  simp only [hC,hA] at HNC HI7 HA7 hc16 ha8 HAOK HCW ⊢
  have HHC:=hide hC
  have HHA:=hide hA
  clear hC hA
  go_wp2_with fail
  go_loopw [7] (fun i wr=>∃ (j:Nat),i=.int .i64 (j:Int)∧j≤A.length∧Below w7.heap.size w7 wr)(fun i _=>A.length - (intOf i).toNat)
  case atStart=>exact⟨0,rfl,Nat.zero_le _,Below.refl _ _⟩
  case round =>
   obtain⟨j,rfl,hj,hbr⟩:=hrel
   by_cases hlt:j < A.length
   ·have j0:(j:Int) < (A.length:Int):=by omega
    obtain⟨x,b,q,hx,hidx,hb,x0,x1⟩:=(HA7.out.below hbr).get Tryz.underlying28 z2d j hlt
    have HIN:=hide (zdq o2 C.length c2 C x.1 wr (HI7.out.below hbr))
    rw [HNC.out x (List.mem_of_getElem? hx)] at HIN
    have HBR:=hide hbr
    clear hx hbr
    go_wp2_with (go_at_call 20;(with_reducible refine HIN.out.mono ?_);rintro e w8⟨rfl,rfl⟩)
    go_roundw
    case rel=>exact⟨j+1,by go_num,by omega,HBR.out⟩
    case measure=>simp [intOf];omega
   ·have j0:¬ ((j:Int) < (A.length:Int)):=by omega
    have HST8:=hide (HST7.out.below hbr)
    have HEV8:=hide (HEV7.out.below hbr)
    have HI8:=hide (HI7.out.below hbr)
    have HA8:=hide (HA7.out.below hbr)
    have HB8:=hide (HB7.out.trans (hbr.mono HB7.out.size))
    have HRS:=hide (zcb oa es.length ca es ov ss.length cv ss HRE.out (by omega) HOK.out HTL.out wr HEV8.out HST8.out)
    have hs8:=z1z (z9a (es:=es) HOK.out)
    have HHAD:=hide (show ss≠[]→Had ss (P15.resolve es ss) from fun hne=>zm4 hne HOK.out HTD.out)
    have HNIL:=hide (show ss=[]→P15.resolve es ss=[] from fun h=>by rw [h];rfl)
    have HSOK:=hide (z9a (es:=es) HOK.out)
    clear hbr HST7 HEV7 HI7 HA7 HB7
    go_upto_region 14 with (go_at_call 11;(with_reducible refine HRS.out.mono ?_);rintro e w9⟨v9,rfl,ho9,hb9⟩;obtain⟨o9,c9,rfl,hi9⟩:=z03 ho9)
    have HS9:=hide hi9
    have HST9:=hide (HST8.out.below hb9)
    have HI9:=hide (HI8.out.below hb9)
    have HA9:=hide (HA8.out.below hb9)
    have HB9:=hide (HB8.out.trans (hb9.mono HB8.out.size))
    clear ho9 hb9 hi9 HRS HST8 HEV8 HI8 HA8 HB8
    generalize P15.resolve es ss=S at *
    go_wp2_with fail
    go_loopw [9] (fun i wr=>∃ (j:Nat),i=.int .i64 (j:Int)∧j≤S.length∧Below w9.heap.size w9 wr)(fun i _=>S.length - (intOf i).toNat)
    case atStart=>exact⟨0,rfl,Nat.zero_le _,Below.refl _ _⟩
    case round =>
     clear hj hlt j0
     obtain⟨j,rfl,hj,hbr⟩:=hrel
     obtain⟨wD,rfl⟩:∃ wD,wD=wr:=⟨_,rfl⟩
     have HBR:=hide hbr
     by_cases hlt:j < S.length
     ·have j0:(j:Int) < (S.length:Int):=by omega
      have hne:ss≠[]:=fun h=>by
       have:=HNIL.out h
       rw [this] at hlt
       simp at hlt
      have hm0:0 < ss.length:=List.length_pos_iff.2 hne
      have hmz:((ss.length:Int) == 0)=false:=by rw [beq_eq_false_iff_ne];omega
      obtain⟨x,b,q,hx,hidx,hb,x0,x1⟩:=(HS9.out.below hbr).get Tryz.underlying28 z2d j hlt
      have hxm:=List.mem_of_getElem? hx
      obtain⟨⟨sx,hsx1,hsx2⟩,hcl⟩:=HHAD.out hne x hxm
      have hwx:=z2u HSOK.out x hxm
      have HX1:=hide hsx1
      have HX2:=hide hsx2
      have HXC:=hide hcl
      have hwk:=hwx.1
      have HWK:=hide hwk
      clear hx hxm hsx1 hsx2 hcl hwx hwk hbr hne hm0
      go_wp2_with fail
      go_loopw [10,11] (fun v k wr=>∃ (i:Nat)(hd:Bool),k=.int .i64 (i:Int)∧v=.bool hd∧i≤ss.length∧(ss.take i).any (fun s=>stAt s x.1 == x.2)=hd∧Below wD.heap.size wD wr)(fun _ k _=>ss.length - (intOf k).toNat)
      case atStart=>exact⟨0,false,rfl,rfl,Nat.zero_le _,rfl,Below.refl _ _⟩
      case round =>
       obtain⟨i,hd,rfl,rfl,hi,hany,hbD⟩:=hrel
       have x0r:=(hbD.cell hb).trans x0
       have x1r:=(hbD.cell hb).trans x1
       have hbr':=Nat.lt_of_lt_of_le hb hbD.size
       have hb9r:=HBR.out.trans (hbD.mono HBR.out.size)
       by_cases hlti:i < ss.length
       ·have i0:(i:Int) < (ss.length:Int):=by omega
        obtain⟨s,b2,q2,xa,xc,hs,hidx2,hc2,hit2⟩:=(HST9.out.below hb9r).get Tryz.underlying25 z3y i hlti
        have hsok:=HOK.out s (List.mem_of_getElem? hs)
        have hs8':=z1z hsok
        have HANY:=hide (show (ss.take (i+1)).any (fun s=>stAt s x.1 == x.2)=(hd || (stAt s x.1 == x.2)) by rw [z4g hs,List.any_append,hany];simp)
        have HAT:=hide (fun wx (hbx:Below wr.heap.size wr wx)=>zb5 xa s.length xc s x.1 (by omega) HWK.out wx (hit2.below hbx)(z2u hsok))
        have hlc:=z0d hc2
        have HBD:=hide hbD
        clear hs hit2 hsok hany hbD hb9r x0 x1
        cases hd
        ·rw [Bool.false_or] at HANY
         generalize hsi:(stAt s x.1 == x.2)=bq at HANY
         go_wp2_with fail
         refine zy (F:=Bw wr)(by kernel_rfl)(by kernel_rfl)(Below.refl _ _).drew ?_
         have hne:Nonempty (InW (Bw wr)):=⟨⟨_,Below.refl _ _⟩⟩
         have k0:∀ m:InW (Bw wr),m.w.cell?⟨b2,q2,none⟩= some (.slice xa s.length xc):=fun m=>(m.h.cell hlc).trans hc2
         have k1:∀ m:InW (Bw wr),m.w.cell?⟨b,q,none⟩= some (.int .i64 x.1):=fun m=>(m.h.cell hbr').trans x0r
         have k2:∀ m:InW (Bw wr),m.w.cell?⟨b,q+1,none⟩= some (.int .i64 x.2):=fun m=>(m.h.cell hbr').trans x1r
         repeat (go_big_quiet_step (first
          | (go_at_call 16;(with_reducible refine (HAT.out _ (InW.h (F:=Bw wr) _)).mono ?_);rintro e' w2⟨rfl,hb2⟩;exact⟨rfl,⟨w2,Below.trans (InW.h _)(hb2.mono (Below.size (InW.h (F:=Bw wr) ‹_›)))⟩,rfl⟩)))
         refine wpQuiet_nil ?_
         intro _ hw'
         obtain⟨nq,hw''⟩:=hw'
         subst hw''
         have hnq:=nq.h
         generalize nq.w=w3 at hnq ⊢
         have HB3:=hide (HBD.out.trans (hnq.mono HBD.out.size))
         clear hne k0 k1 k2 hnq x0r x1r hc2
         go_wp2_with fail
         go_roundw
         case rel=>exact⟨i+1,bq,by go_num,rfl,by omega,HANY.out,HB3.out⟩
         case measure=>simp [intOf];omega
        ·rw [Bool.true_or] at HANY
         go_wp2_with fail
         go_quiet (fail)
         have hbQ:Below wr.heap.size wr (wr.drewN nq):=below_drewN (Below.refl _ _) nq
         have HB3:=hide (HBD.out.trans (hbQ.mono HBD.out.size))
         go_wp2_with fail
         go_roundw
         case rel=>exact⟨i+1,true,by go_num,rfl,by omega,HANY.out,HB3.out⟩
         case measure=>simp [intOf];omega
       ·have i0:¬ ((i:Int) < (ss.length:Int)):=by omega
        have hhd:hd=true:=by
         rw [← hany,List.take_of_length_le (by omega)]
         exact List.any_eq_true.2⟨sx,HX1.out,by simpa using HX2.out⟩
        subst hhd
        have HIN:=hide (fun wx (hbx:Below wr.heap.size wr wx)=>zdq o2 C.length c2 C x.1 wx ((HI9.out.below hb9r).below hbx))
        have HAT:=hide (fun wx (hbx:Below wr.heap.size wr wx)=>zb5 o3 A.length c3 A x.1 (by omega) HWK.out wx ((HA9.out.below hb9r).below hbx)(z2u HAOK.out))
        have HBD:=hide hbD
        clear hany hbD hb9r x0 x1
        cases hinq:inL C x.1
        ·have hxa:x∈A:=by
          rcases HXC.out with h | h
          ·rw [HHC.out] at h
           rw [inL_iff.2 h] at hinq
           cases hinq
          ·rw [HHA.out] at h
           exact h
         have hat0:stAt A x.1=x.2:=by
          have h:=HAOK.out
          rw [z1a] at h
          exact z7e h x hxa
         rw [hinq] at HIN
         rw [hat0] at HAT
         clear hxa hat0 hinq
         go_wp2_with fail
         refine zy (F:=Bw wr)(by kernel_rfl)(by kernel_rfl)(Below.refl _ _).drew ?_
         have hne:Nonempty (InW (Bw wr)):=⟨⟨_,Below.refl _ _⟩⟩
         have k1:∀ m:InW (Bw wr),m.w.cell?⟨b,q,none⟩= some (.int .i64 x.1):=fun m=>(m.h.cell hbr').trans x0r
         have k2:∀ m:InW (Bw wr),m.w.cell?⟨b,q+1,none⟩= some (.int .i64 x.2):=fun m=>(m.h.cell hbr').trans x1r
         repeat (go_big_quiet_step (first
          | (go_at_call 16;(with_reducible refine (HAT.out _ (InW.h (F:=Bw wr) _)).mono ?_);rintro e' w2⟨rfl,hb2⟩;exact⟨rfl,⟨w2,Below.trans (InW.h _)(hb2.mono (Below.size (InW.h (F:=Bw wr) ‹_›)))⟩,rfl⟩)
          | (go_at_call 20;(with_reducible refine (HIN.out _ (InW.h (F:=Bw wr) _)).mono ?_);rintro e' w2⟨rfl,hw2⟩;subst hw2;exact⟨rfl,⟨_,InW.h (F:=Bw wr) ‹_›⟩,rfl⟩)))
         refine wpQuiet_nil ?_
         intro _ hw'
         obtain⟨nq,hw''⟩:=hw'
         subst hw''
         have hnq:=nq.h
         generalize nq.w=w3 at hnq ⊢
         have HB3:=hide (HBR.out.trans ((HBD.out.trans (hnq.mono HBD.out.size)).mono HBR.out.size))
         clear hne k1 k2 hnq x0r x1r
         go_wp2_with fail
         go_roundw
         case rel=>exact⟨j+1,by go_num,by omega,HB3.out⟩
         case measure=>simp [intOf];omega
        ·rw [hinq] at HIN
         clear hinq
         go_wp2_with fail
         refine zy (F:=Bw wr)(by kernel_rfl)(by kernel_rfl)(Below.refl _ _).drew ?_
         have hne:Nonempty (InW (Bw wr)):=⟨⟨_,Below.refl _ _⟩⟩
         have k1:∀ m:InW (Bw wr),m.w.cell?⟨b,q,none⟩= some (.int .i64 x.1):=fun m=>(m.h.cell hbr').trans x0r
         repeat (go_big_quiet_step (first
          | (go_at_call 20;(with_reducible refine (HIN.out _ (InW.h (F:=Bw wr) _)).mono ?_);rintro e' w2⟨rfl,hw2⟩;subst hw2;exact⟨rfl,⟨_,InW.h (F:=Bw wr) ‹_›⟩,rfl⟩)))
         refine wpQuiet_nil ?_
         intro _ hw'
         obtain⟨nq,hw''⟩:=hw'
         subst hw''
         have hnq:=nq.h
         generalize nq.w=w3 at hnq ⊢
         have HB3:=hide (HBR.out.trans ((HBD.out.trans (hnq.mono HBD.out.size)).mono HBR.out.size))
         clear hne k1 hnq x0r x1r
         go_wp2_with fail
         go_roundw
         case rel=>exact⟨j+1,by go_num,by omega,HB3.out⟩
         case measure=>simp [intOf];omega
     ·have j0:¬ ((j:Int) < (S.length:Int)):=by omega
      go_wp2_with fail
      go_ret
      exact⟨rfl,HB9.out.trans (hbr.mono HB9.out.size)⟩

end Go.Proofs.YtgebcpkpdbdfoaaGreat
