/-
  Walks.
-/
import Derived.Test.YtfeebdcmlnapiaaGreatTWalk10d
import Derived.Deep.RegionHeld3
import Derived.Deep.QuietTactic
import Derived.Test.YtfeebdcmlnapiaaGreatTWalk11f
import Derived.Deep.Cut
import Derived.Deep.RegionLaw
set_option linter.unusedVariables false
set_option linter.unusedSimpArgs false
namespace Go.Proofs.YtfeebdcmlnapiaaGreat
open Go.RowKit P1 P5 P9 P11 P12 P14 P15 K

theorem z8c (oa:Option Addr) (n cap:Nat) (s:List (Int × Int)) (k:Int) (w:World) (hat:ItemsAt w oa n cap s) :
  Calls Tryz.prog 124 #[.slice oa n cap,.int .i64 k] w fun e w'=>e=.returned (.int .i64 (stAt s k))∧w'=w :=
 (z2u oa n cap s k w hat).mono fun e w' h=>⟨h.1,h.2.symm⟩

def z2j (ss:List St) (k:Int) (s:St):Bool:=stAt s k==stAt (ss.headD []) k

theorem zlv (ss:List St) (k:Int):alike ss k=ss.all (z2j ss k):=rfl

theorem zhf {ss:List St} {s:St} (h:ss[0]? = some s):ss.headD []=s:=by
 cases ss with
 | nil=>simp at h
 | cons a r=>simpa using h

set_option maxHeartbeats 4000000 in
theorem z9n (oa:Option Addr) (n cap:Nat) (ss:List St) (k:Int) (w:World) (hat:StsAt w oa n cap ss) :
  Calls Tryz.prog 195 #[.slice oa n cap,.int .i64 k] w fun e w'=>e=.returned (.bool (alike ss k))∧Drew w w':=by
 have hmx:=Nat.le_trans hat.room hat.most
 unfold maxLen at hmx
 rw[zlv]
 obtain⟨R,hR⟩:∃ R,ss.all (z2j ss k)=R:=⟨_,rfl⟩
 rw[hR]
 have HRR:=hide hR
 have HN:=hide hat.len
 have HAT:=hide hat
 clear hat hR
 go_enter Tryz.func195,Tryz.ntmps195
 go_wp2_with fail
 go_loopw [5] (fun x wr=>∃ (j:Nat),x=.int .i64 (j:Int)∧1≤j∧(j≤n∨j=1)∧(ss.take j).all (z2j ss k)=true∧Drew w wr) (fun x _=>n - (intOf x).toNat)
 case atStart =>
  refine⟨1,rfl,Nat.le_refl _,.inr rfl,?_,0,rfl⟩
  cases ss with
  | nil=>rfl
  | cons a r=>simp[z2j]
 case round =>
  obtain⟨j,rfl,hj1,hj,hall,hdr⟩:=hrel
  by_cases hlt:j<n
  ·have j0:(j:Int)<(n:Int):=by omega
   obtain⟨s,b,q,xa,xc,hs,hidx,hc,hits⟩:=(HAT.out.below hdr.below).get Tryz.underlying30 z5l j hlt
   obtain⟨s0,b0,q0,xa0,xc0,hs0,hidx0,hc0,hits0⟩:=(HAT.out.below hdr.below).get Tryz.underlying30 z5l 0 (by omega)
   have hidx0':∀ wx,(Instr.indexAt 30 (.slice oa n cap) (.int .i64 0)).run Tryz.prog wx=.ok (.pointer (some ⟨b0,q0,none⟩)) wx:=hidx0
   have hT:=zlo (P:=z2j ss k) hs
   have hlf:z2j ss k s=(stAt s k==stAt s0 k):=by unfold z2j;rw[zhf hs0]
   have H1:=hide (fun wx (hb:Below wr.heap.size wr wx)=>z8c xa s.length xc s k wx (hits.below hb))
   have H2:=hide (fun wx (hb:Below wr.heap.size wr wx)=>z8c xa0 s0.length xc0 s0 k wx (hits0.below hb))
   have HIT:=hide hits
   have KN:=hide hits0
   rw[hlf,hall,Bool.true_and] at hT
   have HT:=hide hT
   have HS:=hide hs
   clear hs hs0 hits hits0 hT hlf hidx0
   generalize stAt s k=x1 at H1 HT
   generalize stAt s0 k=x0 at H2 HT
   cases hk:(x1==x0)
   ·have hk2:(x1 != x0)=true:=by rw[bne,hk];rfl
    have HF:=hide (show R=false by
     rw[← HRR.out]
     cases hq:ss.all (z2j ss k)
     ·rfl
     ·have h2:(ss.take (j+1)).all (z2j ss k)=true:=List.all_eq_true.2 (fun y hy=>List.all_eq_true.1 hq y (List.mem_of_mem_take hy))
      rw[HT.out,hk] at h2
      cases h2)
    go_wp2_with fail
    go_quiet (first
     | (go_at_call 124;with_reducible exact Calls.quiet_of_same (H1.out _ (below_drewN (Below.refl _ _) _)))
     | (go_at_call 124;with_reducible exact Calls.quiet_of_same (H2.out _ (below_drewN (Below.refl _ _) _))))
    go_wp2_with fail
    go_ret
    exact⟨by rw[HF.out];rfl,hdr.more _⟩
   ·have hk2:(x1 != x0)=false:=by rw[bne,hk];rfl
    have HG:=hide (show (ss.take (j+1)).all (z2j ss k)=true by rw[HT.out,hk])
    go_wp2_with fail
    go_quiet (first
     | (go_at_call 124;with_reducible exact Calls.quiet_of_same (H1.out _ (below_drewN (Below.refl _ _) _)))
     | (go_at_call 124;with_reducible exact Calls.quiet_of_same (H2.out _ (below_drewN (Below.refl _ _) _))))
    go_wp2_with fail
    go_roundw
    case rel=>exact⟨j+1,by go_num,by omega,by omega,HG.out,hdr.more _⟩
    case measure=>simp[intOf];omega
  ·have HF:=hide (show R=true by rw[← HRR.out,← hall,List.take_of_length_le (by rw[HN.out];omega)])
   go_wp2_with fail
   go_ret
   exact⟨by rw[HF.out];rfl,hdr⟩

end Go.Proofs.YtfeebdcmlnapiaaGreat

namespace Go.Proofs.YtfeebdcmlnapiaaGreat
open Go.RowKit P1 P5 P9 P11 P12 P14 P15 K

theorem zcb (ss:List St):∀ z∈keysOf ss,(Lit.int .i64 z).wf=true:=fun z hz=>by
 have:=z5f hz
 exact z3o (by omega) (by omega)

set_option maxHeartbeats 4000000 in
theorem zds (oa:Option Addr) (n cap:Nat) (ss:List St) (w:World) (hat:StsAt w oa n cap ss) :
  Calls Tryz.prog 163 #[.slice oa n cap] w (z5c w (clash ss)):=by
 have hb0:=(Below.refl w.heap.size w).alloc (Nat.le_refl _) (.cells #[] 3)
 have HK:=hide (zae oa n cap ss _ (hat.below hb0))
 have AU:=hide (fun k w hat=>z9n oa n cap ss k w hat)
 have HAT:=hide hat
 have HB0:=hide hb0
 have AB:=hide (OutN.new w)
 have hsm:=z4k ss
 have Bv:=hide (zcb ss)
 obtain⟨ks,hks⟩:∃ ks,keysOf ss=ks:=⟨_,rfl⟩
 have Bz:=hide (show clash ss=ks.filter (fun k=>!alike ss k) by rw[← hks];rfl)
 rw[hks] at HK hsm Bv
 clear hat hb0 hks
 go_enter Tryz.func163,Tryz.ntmps163
 go_wp2_with fail
 refine HK.out.mono ?_
 rintro e w1 ⟨v1,rfl,ho1,hb1⟩
 obtain⟨o1,c1,rfl⟩:=zi ho1
 have BV:=hide ho1
 have BA:=hide (own_below AB.out.own hb1)
 have HA1:=hide (z7p AB.out.own ho1 (Nat.le_refl _)).symm
 have HB1:=hide (HB0.out.trans (hb1.mono HB0.out.size))
 have hle1:w.heap.size≤(w.alloc (.cells #[] 3)).heap.size:=HB0.out.size
 clear ho1 hb1 AB HK
 go_wp2_with fail
 go_loopw [3,5] (fun v x wr=>∃ (j:Nat) (oo:Option Addr) (m co:Nat),x=.int .i64 (j:Int)∧v=.slice oo m co∧j≤ks.length∧wr.ownsRow w.heap.size 3 1 (.slice oo m co) ((ks.take j).filter (fun k=>!alike ss k)).length (((ks.take j).filter (fun k=>!alike ss k)).map z03)∧wr.ownsRow (w.alloc (.cells #[] 3)).heap.size 3 1 (.slice o1 ks.length c1) ks.length (ks.map z03)∧Aside2 (.slice o1 ks.length c1) (.slice oo m co)∧Below w.heap.size w wr) (fun _ x _=>ks.length - (intOf x).toNat)
 case atStart=>exact⟨0,_,_,_,rfl,rfl,Nat.zero_le _,BA.out,BV.out,HA1.out,HB1.out⟩
 case round =>
  obtain⟨j,oo,m,co,rfl,rfl,hj,hown,hkey,hap,hbel⟩:=hrel
  have HO:=hide hown
  have Cy:=hide hkey
  have K5:=hide hap
  have hsz:=hbel.size
  clear hap BA BV HA1 HB1
  by_cases hlt:j<ks.length
  ·have j0:(j:Int)<(ks.length:Int):=by omega
   obtain⟨_,_,he,hki⟩:=z0d hkey Bv.out
   cases he
   obtain⟨z,b,q,hz,hidx,hb,c0,hwz⟩:=hki.get Tryz.underlying60 z0f j hlt
   have HF:=hide (zab (P:=fun k=>!alike ss k) hz)
   have hfl:((ks.take j).filter (fun k=>!alike ss k)).length≤16:=Nat.le_trans (List.length_filter_le _ _) (by rw[List.length_take];omega)
   have HL:=hide (AU.out z wr (HAT.out.below hbel))
   clear hz hki hkey
   cases hA:alike ss z
   ·rw[hA] at HL HF
    have Aj:=hide (show (ks.take (j+1)).filter (fun k=>!alike ss k)=(ks.take j).filter (fun k=>!alike ss k)++[z] from HF.out)
    generalize (ks.take j).filter (fun k=>!alike ss k)=L at Aj HO hfl hown
    go_wp2_with (first
     | (go_at_call 195;refine HL.out.mono ?_;rintro e w2 ⟨rfl,hd2⟩;have hown2:=own_below hown hd2.below;have hkey2:=own_below Cy.out hd2.below;have hB2:=hbel.trans (hd2.below.mono hsz);have hsz2:=hB2.size;have c02:=(hd2.below.cell hb).trans c0;have hb2:=Nat.lt_of_lt_of_le hb hd2.below.size)
     | (at_builtin;refine z1n (cs:=#[.int .i64 z]) rfl _ _ 60 rfl (by decide) Tryz.underlying60 z1u rfl rfl hown2 rfl rfl (by simp[Value.oneCell']) hsz2 (by unfold maxLen;omega) (by omega) ?_;intro v' w3 hown3 hg3 hl3;obtain⟨o3,c3,rfl⟩:=zi hown3))
    obtain⟨hk3,ha3⟩:=beside hkey2 K5.out hg3 hl3
    have HB3:=hide (z5q hB2 hsz2 hown2 (Nat.le_refl _) hg3)
    have Aq:=hide (show w3.ownsRow w.heap.size 3 1 (.slice o3 (L.length+1) c3) ((ks.take (j+1)).filter (fun k=>!alike ss k)).length (((ks.take (j+1)).filter (fun k=>!alike ss k)).map z03) by rw[Aj.out,z0p,z6s];exact hown3)
    have Ao:=hide hk3
    have Ac:=hide ha3
    clear hk3 ha3 hown3 hg3 hl3 hown2 hkey2 hown
    go_wp2_with fail
    go_roundw
    case rel=>exact⟨j+1,_,_,_,by go_num,rfl,by omega,Aq.out,Ao.out,Ac.out,HB3.out⟩
    case measure=>simp[intOf];omega
   ·rw[hA] at HL HF
    have Aj:=hide (show (ks.take (j+1)).filter (fun k=>!alike ss k)=(ks.take j).filter (fun k=>!alike ss k) from by rw[HF.out];simp)
    generalize (ks.take j).filter (fun k=>!alike ss k)=L at Aj HO hfl hown
    clear hown
    go_wp2_with (go_at_call 195;refine HL.out.mono ?_;rintro e w2 ⟨rfl,hd2⟩)
    have Aq:=hide (own_below HO.out hd2.below)
    have Ao:=hide (own_below Cy.out hd2.below)
    have HB3:=hide (hbel.trans (hd2.below.mono hsz))
    go_roundw
    case rel=>exact⟨j+1,_,_,_,by go_num,rfl,by omega,by rw[Aj.out];exact Aq.out,Ao.out,K5.out,HB3.out⟩
    case measure=>simp[intOf];omega
  ·have hjn:ks.take j=ks:=List.take_of_length_le (by omega)
   rw[hjn] at HO
   clear hjn hown hkey
   go_wp2_with fail
   go_ret
   exact⟨_,rfl,by rw[Bz.out];exact HO.out,hbel⟩

end Go.Proofs.YtfeebdcmlnapiaaGreat

namespace Go.Proofs.YtfeebdcmlnapiaaGreat
open Go.RowKit P1 P5 P9 P11 P12 P14 P15 K

theorem zlw {x:Int} {l:List Int} {j:Nat} {y:Int} (d:Bool) (h:l[j]? = some y):z0b x (l.drop j) d=(if decide (x≤y)&&!d then [x] else [])++((if y=x then [] else [y])++z0b x (l.drop (j+1)) (d||decide (x≤y))):=by
 obtain⟨hj,rfl⟩:=List.getElem?_eq_some_iff.1 h
 rw[List.drop_eq_getElem_cons hj]
 rfl

set_option maxRecDepth 100000 in
set_option maxHeartbeats 8000000 in
theorem zib (oa:Option Addr) (n cap:Nat) (l:List Int) (x:Int) (hn20:n≤33554432) (w:World) (hat:IntsAt w oa n cap l) :
  Calls Tryz.prog 196 #[.slice oa n cap,.int .i64 x] w (z5c w (addI l x)):=by
 have HN:=hide hat.len
 have HAT:=hide hat
 have hal:=zep l x
 rw[hat.len] at hal
 obtain⟨R,hR⟩:∃ R,addI l x=R:=⟨_,rfl⟩
 rw[hR] at hal ⊢
 have Ad:=hide (show z0b x l false=R from hR)
 have AB:=hide (OutN.new w)
 clear hat hR
 go_enter Tryz.func196,Tryz.ntmps196
 go_wp2_with fail
 go_loopw [5,6,7] (fun v dv i wr=>∃ (j:Nat) (d:Bool) (oo:Option Addr) (m co:Nat) (L:List Int),i=.int .i64 (j:Int)∧dv=.bool d∧v=.slice oo m co∧j≤n∧L++z0b x (l.drop j) d=R∧OutN w wr (.slice oo m co) L) (fun _ _ i _=>n - (intOf i).toNat)
 case atStart=>exact⟨0,false,_,_,_,[],rfl,rfl,rfl,Nat.zero_le _,Ad.out,AB.out⟩
 case round =>
  obtain⟨j,d,oo,m,co,L,rfl,rfl,rfl,hj,hrest,hO⟩:=hrel
  have HO:=hide hO
  have hbel:=hO.bel
  have hsz:=hbel.size
  have hLl:L.length≤n+1:=by
   have:=congrArg List.length hrest
   rw[List.length_append] at this
   omega
  clear hO AB
  by_cases hlt:j<n
  ·have j0:(j:Int)<(n:Int):=by omega
   obtain⟨y,b,q,hy,hidx,hb,c0w,hwy⟩:=HAT.out.get Tryz.underlying60 z0f j hlt
   have Je:=hide (show ∀ w1,Below w.heap.size w w1→w1.cell? ⟨b,q,none⟩=some (.int .i64 y) from fun w1 h=>(h.cell hb).trans c0w)
   have c0:=Je.out wr hbel
   clear c0w
   rw[zlw d hy] at hrest
   have A7:=hide hrest
   clear hy hrest
   by_cases hxy:x≤y
   ·cases d
    ·by_cases hyx:y=x
     ·have g1:(y != x)=false:=by simp[hyx]
      have HE:=hide (show (L++[x])++z0b x (l.drop (j+1)) true=R by rw[← A7.out];simp[hxy,hyx])
      have hown:=HO.out.own
      clear hyx
      go_upto_region 9 with (at_builtin;refine z0t (W:=w) (cs:=#[.int .i64 x]) rfl _ _ 60 rfl (by decide) Tryz.underlying60 z1u rfl rfl hown rfl rfl (by simp[Value.oneCell']) hbel hsz (by unfold maxLen;omega) (by omega) ?_;intro v' w1 how1 hbw1 hsA1;obtain⟨o1,c1,rfl⟩:=zi how1)
      have Bi:=hide (OutN.snoc (x:=x) how1 hbw1)
      have c01:=Je.out w1 hbw1
      clear how1 hbw1 hown
      go_wp2_with fail
      go_roundw
      case rel=>exact⟨j+1,true,_,_,_,(L++[x]),by go_num,rfl,rfl,by omega,HE.out,Bi.out⟩
      case measure=>simp[intOf];omega
     ·have g1:(y != x)=true:=by simp[hyx]
      have HE:=hide (show (L++[x]++[y])++z0b x (l.drop (j+1)) true=R by rw[← A7.out];simp[hxy,hyx])
      have hown:=HO.out.own
      go_upto_region 9 with (at_builtin;refine z0t (W:=w) (cs:=#[.int .i64 x]) rfl _ _ 60 rfl (by decide) Tryz.underlying60 z1u rfl rfl hown rfl rfl (by simp[Value.oneCell']) hbel hsz (by unfold maxLen;omega) (by omega) ?_;intro v' w1 how1 hbw1 hsA1;obtain⟨o1,c1,rfl⟩:=zi how1)
      have Bi:=hide (OutN.snoc (x:=x) how1 hbw1)
      have c01:=Je.out w1 hbw1
      have hown1:=Bi.out.own
      have hbel1:=hbw1
      have hsz1:=hbel1.size
      have hl1:(L++[x]).length≤n+2:=by simp;omega
      clear how1 hbw1 hown
      go_wp2_with (at_builtin;refine z0t (W:=w) (cs:=#[.int .i64 y]) rfl _ _ 60 rfl (by decide) Tryz.underlying60 z1u rfl rfl hown1 rfl rfl (by simp[Value.oneCell']) hbel1 hsz1 (by unfold maxLen;omega) (by omega) ?_;intro v' w2 how2 hbw2 hsw2;obtain⟨o2,c2,rfl⟩:=zi how2)
      have Ag:=hide (OutN.snoc (x:=y) how2 hbw2)
      clear how2 hbw2 hown1
      go_roundw
      case rel=>exact⟨j+1,true,_,_,_,(L++[x]++[y]),by go_num,rfl,rfl,by omega,HE.out,(by have h2:=Ag.out;rw[z0p] at h2;exact h2)⟩
      case measure=>simp[intOf];omega
    ·by_cases hyx:y=x
     ·have g1:(y != x)=false:=by simp[hyx]
      have HE:=hide (show L++z0b x (l.drop (j+1)) true=R by rw[← A7.out];simp[hxy,hyx])
      clear hyx
      go_wp2_with fail
      go_roundw
      case rel=>exact⟨j+1,true,_,_,_,L,by go_num,rfl,rfl,by omega,HE.out,HO.out⟩
      case measure=>simp[intOf];omega
     ·have g1:(y != x)=true:=by simp[hyx]
      have HE:=hide (show (L++[y])++z0b x (l.drop (j+1)) true=R by rw[← A7.out];simp[hxy,hyx])
      have hown:=HO.out.own
      go_wp2_with (at_builtin;refine z0t (W:=w) (cs:=#[.int .i64 y]) rfl _ _ 60 rfl (by decide) Tryz.underlying60 z1u rfl rfl hown rfl rfl (by simp[Value.oneCell']) hbel hsz (by unfold maxLen;omega) (by omega) ?_;intro v' w2 how2 hbw2 hsw2;obtain⟨o2,c2,rfl⟩:=zi how2)
      have Ag:=hide (OutN.snoc (x:=y) how2 hbw2)
      clear how2 hbw2 hown
      go_roundw
      case rel=>exact⟨j+1,true,_,_,_,(L++[y]),by go_num,rfl,rfl,by omega,HE.out,Ag.out⟩
      case measure=>simp[intOf];omega
   ·have hyx:¬ y=x:=by omega
    have g1:(y != x)=true:=by simp[hyx]
    have HE:=hide (show (L++[y])++z0b x (l.drop (j+1)) d=R by rw[← A7.out];simp[hxy,hyx])
    have hown:=HO.out.own
    go_wp2_with (at_builtin;refine z0t (W:=w) (cs:=#[.int .i64 y]) rfl _ _ 60 rfl (by decide) Tryz.underlying60 z1u rfl rfl hown rfl rfl (by simp[Value.oneCell']) hbel hsz (by unfold maxLen;omega) (by omega) ?_;intro v' w2 how2 hbw2 hsw2;obtain⟨o2,c2,rfl⟩:=zi how2)
    have Ag:=hide (OutN.snoc (x:=y) how2 hbw2)
    clear how2 hbw2 hown
    go_roundw
    case rel=>exact⟨j+1,d,_,_,_,(L++[y]),by go_num,rfl,rfl,by omega,HE.out,Ag.out⟩
    case measure=>simp[intOf];omega
  ·have hdr:l.drop j=[]:=List.drop_eq_nil_of_le (by rw[HN.out];omega)
   rw[hdr] at hrest
   have A7:=hide hrest
   clear hdr hrest
   cases d
   ·have HE:=hide (show L++[x]=R from A7.out)
    have hown:=HO.out.own
    go_wp2_with (at_builtin;refine z0t (W:=w) (cs:=#[.int .i64 x]) rfl _ _ 60 rfl (by decide) Tryz.underlying60 z1u rfl rfl hown rfl rfl (by simp[Value.oneCell']) hbel hsz (by unfold maxLen;omega) (by omega) ?_;intro v' w2 how2 hbw2 hsw2;obtain⟨o2,c2,rfl⟩:=zi how2)
    have Ag:=hide (OutN.snoc (x:=x) how2 hbw2)
    clear how2 hbw2 hown
    go_ret
    refine⟨_,rfl,?_,Ag.out.bel⟩
    rw[← HE.out]
    simpa using Ag.out.own
   ·have HE:=hide (show L=R by rw[← A7.out];simp[z0b])
    go_wp2_with fail
    go_ret
    refine⟨_,rfl,?_,hbel⟩
    rw[← HE.out]
    exact HO.out.own

end Go.Proofs.YtfeebdcmlnapiaaGreat

namespace Go.Proofs.YtfeebdcmlnapiaaGreat
open Go.RowKit P1 P5 P9 P11 P12 P14 P15 K

theorem zo3:(Tryz.prog.info? 60).map (·.size)=some 1:=by kernel_rfl

theorem zo4:(Tryz.prog.info? 60).map (fun i=>(i.zero,i.size,i.bytes))=some (some (.slice none 0 0),1,24):=by kernel_rfl

structure NumsAt (w:World) (oa:Option Addr) (n cap:Nat) (ls:List (List Int)):Prop where
 len:ls.length=n
 room:n≤cap
 most:cap≤maxLen
 at_:∀ (i:Nat) (l:List Int),ls[i]? = some l→∃ b o xa xc,oa=some ⟨b,o,none⟩∧w.cell? ⟨b,o+i,none⟩=some (.slice xa l.length xc)∧IntsAt w xa l.length xc l

theorem NumsAt.below {w w':World} {oa:Option Addr} {n cap:Nat} {ls:List (List Int)} (h:NumsAt w oa n cap ls) (hb:Below w.heap.size w w'):NumsAt w' oa n cap ls :=
 ⟨h.len,h.room,h.most,fun i s hs=>by
  obtain⟨b,o,xa,xc,h1,h2,h3⟩:=h.at_ i s hs
  exact⟨b,o,xa,xc,h1,(hb.cell (zw h2)).trans h2,h3.below hb⟩⟩

theorem NumsAt.get {w:World} {oa:Option Addr} {n cap:Nat} {ls:List (List Int)} (h:NumsAt w oa n cap ls) {P:Program} {t e:TypeId} (ht:P.underlying t=some (.slice e)) (hi:(P.info? e).map (·.size)=some 1) (i:Nat) (hin:i<n) :
  ∃ s b q xa xc,ls[i]? = some s∧(∀ wx,(Instr.indexAt t (.slice oa n cap) (.int .i64 (i:Int))).run P wx=.ok (.pointer (some ⟨b,q,none⟩)) wx)∧w.cell? ⟨b,q,none⟩=some (.slice xa s.length xc)∧IntsAt w xa s.length xc s:=by
 obtain⟨s,hs⟩:∃ s,ls[i]? = some s:=⟨_,List.getElem?_eq_getElem (by rw[h.len];exact hin)⟩
 obtain⟨b,o,xa,xc,rfl,h2,h3⟩:=h.at_ i s hs
 refine⟨s,b,o+i,xa,xc,hs,fun wx=>?_,h2,h3⟩
 have:=run_indexAt_slice wx t e 1 ht hi b o n cap i hin
 rwa [Nat.mul_one] at this

structure Ahd (w wr:World) (va:Value) (ls:List (List Int)):Prop where
 rows:∃ vs:List Value,vs.length=ls.length∧wr.ownsRow w.heap.size 60 1 va ls.length vs∧∀ (i:Nat) (v:Value) (l:List Int),vs[i]? = some v→ls[i]? = some l→∃ base,wr.ownsRow base 3 1 v l.length (l.map z03)∧Aside2 v va∧∀ z∈l,(Lit.int .i64 z).wf=true
 bel:Below w.heap.size w wr

theorem Ahd.new (w:World):Ahd w (w.alloc (.cells #[] 60)) (.slice (some ⟨w.heap.size,0,none⟩) 0 0) [] :=
 ⟨⟨[],rfl,World.ownsRow_made (w:=w) #[] 0 (Nat.le_refl _) (by decide) rfl,fun i v l h=>by simp at h⟩,(Below.refl _ _).alloc (Nat.le_refl _) _⟩

theorem Ahd.below {w wr w2:World} {va:Value} {ls:List (List Int)} (h:Ahd w wr va ls) (hb:Below wr.heap.size wr w2):Ahd w w2 va ls:=by
 obtain⟨⟨vs,h1,h2,h3⟩,h4⟩:=h
 exact⟨⟨vs,h1,own_below h2 hb,fun i v l hv hl=>by
  obtain⟨base,k1,k2,k3⟩:=h3 i v l hv hl
  exact⟨base,own_below k1 hb,k2,k3⟩⟩,h4.trans (hb.mono h4.size)⟩

theorem Ahd.own {w wr:World} {va:Value} {ls:List (List Int)} (h:Ahd w wr va ls):∃ vs,wr.ownsRow w.heap.size 60 1 va ls.length vs:=by
 obtain⟨⟨vs,_,h2,_⟩,_⟩:=h
 exact⟨vs,h2⟩

theorem zes {W0:World} {ops:Array Oper} {rest:List Oper} {o:Oper} {a:Act} {Q:Exit→Act→World→Prop} (hgd:o.guard=none) (s x:Operand)
  (ho:o.op=.call { callee:=.builtin .append,args:=#[s,x],argTypes:=#[224,224] })
  {w:World} {va:Value} {ls:List (List Int)} (h:Ahd w W0 va ls) {l:List Int} {v:Value} {base:Nat} (hv:W0.ownsRow base 3 1 v l.length (l.map z03)) (hap:Aside2 v va) (hwf:∀ z∈l,(Lit.int .i64 z).wf=true)
  (hs:a.eval s=va) (hx:a.eval x=.slice (some ⟨W0.heap.size,0,none⟩) 1 1) (hl:ls.length+1≤100000000)
  (hK:∀ va' w',Ahd w w' va' (ls++[l])→wpList Tryz.prog ops Q rest (a.put o.dst va') w'):wpList Tryz.prog ops Q (o::rest) a (W0.alloc (.cells #[v] 60)):=by
 obtain⟨⟨vs,h1,h2,h3⟩,h4⟩:=h
 have hone:v.oneCell'=true:=by
  obtain⟨oa,cap,rfl⟩:=zi hv
  rfl
 refine z1n (cs:=#[v]) hgd s x 224 ho (by decide) Tryz.underlying224 zo4 rfl hs h2 hx rfl (by simpa using hone) h4.size (by unfold maxLen;omega) (by omega) ?_
 intro va' w' hown hg hloc
 refine hK va' w' ⟨⟨vs++[v],by simp[h1],by rw[z0p];exact hown,fun i v' l' hv' hl'=>?_⟩,z5q h4 h4.size h2 (Nat.le_refl _) hg⟩
 rcases Nat.lt_or_ge i ls.length with hi|hi
 ·rw[List.getElem?_append_left (by omega)] at hv' hl'
  obtain⟨base',k1,k2,k3⟩:=h3 i v' l' hv' hl'
  obtain⟨b1,b2⟩:=beside k1 k2 hg hloc
  exact⟨base',b1,b2,k3⟩
 ·have hie:i=ls.length:=by
   have:=(List.getElem?_eq_some_iff.1 hl').1
   simp at this
   omega
  subst hie
  rw[List.getElem?_append_right (Nat.le_refl _)] at hl'
  rw[← h1,List.getElem?_append_right (Nat.le_refl _)] at hv'
  simp at hl' hv'
  subst hl'
  subst hv'
  obtain⟨b1,b2⟩:=beside hv hap hg hloc
  exact⟨base,b1,b2,hwf⟩

theorem Ahd.view {w wr:World} {va:Value} {ls:List (List Int)} (h:Ahd w wr va ls):∃ oa cap,va=.slice oa ls.length cap∧NumsAt wr oa ls.length cap ls:=by
 obtain⟨⟨vs,h1,h2,h3⟩,h4⟩:=h
 rcases h2.2 with ⟨rfl,hn⟩|⟨g,cap,cur,rfl,hb,hg,hnc,hcm,hcs,htake⟩
 ·have hls:ls=[]:=List.eq_nil_of_length_eq_zero hn
  subst hls
  exact⟨none,0,rfl,⟨rfl,Nat.le_refl _,by unfold maxLen;omega,fun i f hf=>by simp at hf⟩⟩
 ·refine⟨some ⟨g,0,none⟩,cap,rfl,⟨rfl,hnc,hcm,fun i l hl=>?_⟩⟩
  have hi:i<ls.length:=(List.getElem?_eq_some_iff.1 hl).1
  obtain⟨v,hv⟩:∃ v,vs[i]? = some v:=⟨_,List.getElem?_eq_getElem (by omega)⟩
  obtain⟨base,k1,k2,k3⟩:=h3 i v l hv hl
  obtain⟨xa,xc,rfl,hia⟩:=z0d k1 k3
  refine⟨g,0,xa,xc,rfl,?_,hia⟩
  rw[Nat.zero_add,h2.cellAt i (by omega)]
  exact hv

theorem zjv {es:List EvV} {ids L:List Int} {j:Nat} {z:Int} (h:ids[j]? = some z):P15.leftOf es (ids.drop j) L=P15.leftOf es (ids.drop (j+1)) (if (zf es z).isSome then addI L z else L):=by
 obtain⟨hj,rfl⟩:=List.getElem?_eq_some_iff.1 h
 rw[List.drop_eq_getElem_cons hj]
 rfl

theorem zne {L:List Int} {z:Int} (h:∀ y∈L,(Lit.int .i64 y).wf=true) (hz:(Lit.int .i64 z).wf=true):∀ y∈addI L z,(Lit.int .i64 y).wf=true:=fun y hy=>by
 rcases addI_mem.1 hy with hy|hy
 ·exact h y hy
 ·subst hy;exact hz

end Go.Proofs.YtfeebdcmlnapiaaGreat

namespace Go.Proofs.YtfeebdcmlnapiaaGreat
open Go.RowKit P1 P5 P9 P11 P12 P14 P15 K

def z1d (ss:List St) (ks:List Int):St:=(ks.filter (alike ss)).map (fun k=>(k,stAt (ss.headD []) k))

theorem zdt {ss:List St} {ks:List Int} {j:Nat} {z:Int} (h:ks[j]? = some z):z1d ss (ks.take (j+1))=z1d ss (ks.take j)++(if alike ss z then [(z,stAt (ss.headD []) z)] else []):=by
 unfold z1d
 rw[zab h,List.map_append]
 split<;>simp

set_option maxRecDepth 100000 in
set_option maxHeartbeats 8000000 in
theorem zcc (oa:Option Addr) (n cap:Nat) (ss:List St) (w:World) (hat:StsAt w oa n cap ss) :
  Calls Tryz.prog 162 #[.slice oa n cap] w (z5e w (agreed ss)):=by
 have hb0:=(Below.refl w.heap.size w).alloc (Nat.le_refl _) (.cells #[] 79)
 have HK:=hide (zae oa n cap ss _ (hat.below hb0))
 have AU:=hide (fun k w hat=>z9n oa n cap ss k w hat)
 have HAT:=hide hat
 have HB0:=hide hb0
 have AB:=hide (World.ownsRow_made (w:=w) (e:=79) (size:=2) #[] 0 (Nat.le_refl _) (by decide) rfl)
 have hsm:=z4k ss
 have Bv:=hide (zcb ss)
 have GL:=hide (fun z (hz:z∈keysOf ss)=>z5f hz)
 obtain⟨ks,hks⟩:∃ ks,keysOf ss=ks:=⟨_,rfl⟩
 have Bz:=hide (show agreed ss=z1d ss ks by rw[← hks];rfl)
 rw[hks] at HK hsm Bv GL
 clear hat hb0 hks
 go_enter Tryz.func162,Tryz.ntmps162
 go_wp2_with fail
 refine HK.out.mono ?_
 rintro e w1 ⟨v1,rfl,ho1,hb1⟩
 obtain⟨o1,c1,rfl⟩:=zi ho1
 have BV:=hide ho1
 have BA:=hide (own_below AB.out hb1)
 have HB1:=hide (HB0.out.trans (hb1.mono HB0.out.size))
 clear ho1 hb1 AB HK
 go_wp2_with fail
 go_loopw [3,5] (fun v x wr=>∃ (j:Nat) (oo:Option Addr) (m co:Nat),x=.int .i64 (j:Int)∧v=.slice oo m co∧j≤ks.length∧wr.ownsRow w.heap.size 79 2 (.slice oo m co) (z1d ss (ks.take j)).length ((z1d ss (ks.take j)).flatMap z02)∧wr.ownsRow (w.alloc (.cells #[] 79)).heap.size 3 1 (.slice o1 ks.length c1) ks.length (ks.map z03)∧Below w.heap.size w wr) (fun _ x _=>ks.length - (intOf x).toNat)
 case atStart=>exact⟨0,_,_,_,rfl,rfl,Nat.zero_le _,BA.out,BV.out,HB1.out⟩
 case round =>
  obtain⟨j,oo,m,co,rfl,rfl,hj,hown,hkey,hbel⟩:=hrel
  have HO:=hide hown
  have Cy:=hide hkey
  have hsz:=hbel.size
  clear BA BV HB1
  by_cases hlt:j<ks.length
  ·have j0:(j:Int)<(ks.length:Int):=by omega
   obtain⟨_,_,he,hki⟩:=z0d hkey Bv.out
   cases he
   obtain⟨z,b,q,hz,hidx,hb,c0,hwz⟩:=hki.get Tryz.underlying60 z0f j hlt
   have HF:=hide (zdt (ss:=ss) hz)
   have hfl:(z1d ss (ks.take j)).length≤16:=by
    unfold z1d
    rw[List.length_map]
    exact Nat.le_trans (List.length_filter_le _ _) (by rw[List.length_take];omega)
   have HL:=hide (AU.out z wr (HAT.out.below hbel))
   have hhas:=(GL.out z (List.mem_of_getElem? hz)).2.2
   clear hz hki hkey
   cases hA:alike ss z
   ·rw[hA] at HL HF
    have Aj:=hide (show z1d ss (ks.take (j+1))=z1d ss (ks.take j) from by rw[HF.out];simp)
    clear hown
    go_wp2_with (go_at_call 195;refine HL.out.mono ?_;rintro e w2 ⟨rfl,hd2⟩)
    have Aq:=hide (own_below HO.out hd2.below)
    have Ao:=hide (own_below Cy.out hd2.below)
    have HB3:=hide (hbel.trans (hd2.below.mono hsz))
    go_roundw
    case rel=>exact⟨j+1,_,_,_,by go_num,rfl,by omega,by rw[Aj.out];exact Aq.out,Ao.out,HB3.out⟩
    case measure=>simp[intOf];omega
   ·rw[hA] at HL HF
    have hn0:0<n:=by
     rw[← HAT.out.len]
     cases ss with
     | nil=>simp[z4r] at hhas
     | cons a r=>simp
    obtain⟨s0,b0,q0,xa0,xc0,hs0,hidx0,hc0,hits0⟩:=(HAT.out.below hbel).get Tryz.underlying30 z5l 0 hn0
    have hidx0':∀ wx,(Instr.indexAt 30 (.slice oa n cap) (.int .i64 0)).run Tryz.prog wx=.ok (.pointer (some ⟨b0,q0,none⟩)) wx:=hidx0
    have Aj:=hide (show z1d ss (ks.take (j+1))=z1d ss (ks.take j)++[(z,stAt s0 z)] from by rw[HF.out,zhf hs0];simp)
    have EU:=hide (fun wx (hb:Below wr.heap.size wr wx)=>z2u xa0 s0.length xc0 s0 z wx (hits0.below hb))
    generalize stAt s0 z=x0 at Aj EU
    have hlt0:=zw hc0
    clear hs0 hits0 hidx0 HF
    obtain⟨L,hL⟩:∃ L,z1d ss (ks.take j)=L:=⟨_,rfl⟩
    rw[hL] at Aj HO hfl hown
    clear hL
    go_upto_region 7 with (go_at_call 195;refine HL.out.mono ?_;rintro e w2 ⟨rfl,hd2⟩;have hO2:=own_below hown hd2.below;have hK2:=own_below Cy.out hd2.below;have hB2:=hbel.trans (hd2.below.mono hsz);have hsz2:=hB2.size;have c02:=(hd2.below.cell hb).trans c0;have c00:=(hd2.below.cell hlt0).trans hc0;have hb2:=Nat.lt_of_lt_of_le hb hd2.below.size;have Ag:=hide hO2;have Dy:=hide hK2;clear hO2 hK2 hown)
    go_region_law (first
     | (refine zi1 (by rfl) _ _ 74 (by rfl) Tryz.underlying74 z5d (by rfl) (cs:=#[.int .i64 z,.int .i64 x0]) (by rfl) ((own_below Ag.out (Below.refl _ _).drew).alloc _) (by rfl) (by rfl) (by exact heap_alloc_new _ _) (by simp[Value.oneCell']) (by simp;omega) (by unfold maxLen;omega) (by omega) ?_;intro v' w3 hown3 hg3;obtain⟨o3,c3,rfl⟩:=zi hown3)
     | (rw[if_pos (by rfl)];go_simp;go_at_call 124;refine (EU.out _ (hd2.below.trans ((Below.refl w2.heap.size w2).drew.mono hd2.below.size))).mono ?_;rintro e w4 ⟨rfl,rfl⟩))
    all_goals
     have hko:=zcu ((own_below Dy.out (Below.refl _ _).drew).alloc (.cells #[.int .i64 z,.int .i64 x0] 79)) ((own_below Ag.out (Below.refl _ _).drew).alloc (.cells #[.int .i64 z,.int .i64 x0] 79)) (by decide) hg3
     have hB3:=z5q (hB2.trans ((Below.refl w2.heap.size w2).drew.mono hsz2)) hsz2 (own_below Ag.out (Below.refl _ _).drew) (Nat.le_refl _) hg3
     have Aq:=hide (show w3.ownsRow w.heap.size 79 2 (.slice o3 (L.length+1) c3) (z1d ss (ks.take (j+1))).length ((z1d ss (ks.take (j+1))).flatMap z02) by rw[Aj.out,z0p,List.flatMap_append];simpa [z02] using hown3)
     have Ao:=hide hko
     have HB3:=hide hB3
     clear hko hB3 hown3 hg3
     go_wp2_with fail
     go_roundw
     case rel=>exact⟨j+1,_,_,_,by go_num,rfl,by omega,Aq.out,Ao.out,HB3.out⟩
     case measure=>simp[intOf];omega
  ·have hjn:ks.take j=ks:=List.take_of_length_le (by omega)
   rw[hjn] at HO
   clear hjn hown hkey
   go_wp2_with fail
   go_ret
   exact⟨_,rfl,by rw[Bz.out];exact HO.out,hbel⟩

end Go.Proofs.YtfeebdcmlnapiaaGreat
