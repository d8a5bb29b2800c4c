/-
  Walks.
-/
import Derived.Test.YtgebcpkpdbdfoaaGreatRWalk10d
import Derived.Deep.RegionHeld3
import Derived.Deep.QuietTactic
import Derived.Test.YtgebcpkpdbdfoaaGreatRWalk11f
import Derived.Deep.Cut
import Derived.Deep.RegionLaw
set_option linter.unusedVariables false
set_option linter.unusedSimpArgs false
namespace Go.Proofs.YtgebcpkpdbdfoaaGreat
open Go.RowKit P5 P9 P12 P14 P15 K

theorem z8d (oa:Option Addr) (n cap:Nat) (s:List (Int × Int)) (k:Int) (w:World) (hat:ItemsAt w oa n cap s) :
  Calls Tryz.prog 52 #[.slice oa n cap,.int .i64 k] w fun e w'=>e=.returned (.int .i64 (stAt s k))∧w'=w :=
 (z2w oa n cap s k w hat).mono fun e w' h=>⟨h.1,h.2.symm⟩

def z2l (ss:List St) (k:Int) (s:St):Bool:=stAt s k==stAt (ss.headD []) k

theorem zk3 (ss:List St) (k:Int):alike ss k=ss.all (z2l ss k):=rfl

theorem zgo {ss:List St} {s:St} (h:ss[0]? = some s):ss.headD []=s:=by
 cases ss with
 | nil=>simp at h
 | cons a r=>simpa using h

set_option maxHeartbeats 4000000 in
theorem z9q (oa:Option Addr) (n cap:Nat) (ss:List St) (k:Int) (w:World) (hat:StsAt w oa n cap ss) :
  Calls Tryz.prog 64 #[.slice oa n cap,.int .i64 k] w fun e w'=>e=.returned (.bool (alike ss k))∧Drew w w':=by
 have hmx:=Nat.le_trans hat.room hat.most
 unfold maxLen at hmx
 rw[zk3]
 obtain⟨R,hR⟩:∃ R,ss.all (z2l ss k)=R:=⟨_,rfl⟩
 rw[hR]
 have HRR:=hide hR
 have HN:=hide hat.len
 have HAT:=hide hat
 clear hat hR
 go_enter Tryz.func64,Tryz.ntmps64
 go_wp2_with fail
 go_loopw [5] (fun x wr=>∃ (j:Nat),x=.int .i64 (j:Int)∧1≤j∧(j≤n∨j=1)∧(ss.take j).all (z2l ss k)=true∧Drew w wr) (fun x _=>n - (intOf x).toNat)
 case atStart =>
  refine⟨1,rfl,Nat.le_refl _,.inr rfl,?_,0,rfl⟩
  cases ss with
  | nil=>rfl
  | cons a r=>simp[z2l]
 case round =>
  obtain⟨j,rfl,hj1,hj,hall,hdr⟩:=hrel
  by_cases hlt:j<n
  ·have j0:(j:Int)<(n:Int):=by omega
   obtain⟨s,b,q,xa,xc,hs,hidx,hc,hits⟩:=(HAT.out.below hdr.below).get Tryz.underlying25 z3y j hlt
   obtain⟨s0,b0,q0,xa0,xc0,hs0,hidx0,hc0,hits0⟩:=(HAT.out.below hdr.below).get Tryz.underlying25 z3y 0 (by omega)
   have hidx0':∀ wx,(Instr.indexAt 25 (.slice oa n cap) (.int .i64 0)).run Tryz.prog wx=.ok (.pointer (some ⟨b0,q0,none⟩)) wx:=hidx0
   have hT:=zjs (P:=z2l ss k) hs
   have hlf:z2l ss k s=(stAt s k==stAt s0 k):=by unfold z2l;rw[zgo hs0]
   have H1:=hide (fun wx (hb:Below wr.heap.size wr wx)=>z8d xa s.length xc s k wx (hits.below hb))
   have H2:=hide (fun wx (hb:Below wr.heap.size wr wx)=>z8d xa0 s0.length xc0 s0 k wx (hits0.below hb))
   have HIT:=hide hits
   have Md:=hide hits0
   rw[hlf,hall,Bool.true_and] at hT
   have HT:=hide hT
   have HS:=hide hs
   clear hs hs0 hits hits0 hT hlf hidx0
   generalize stAt s k=x1 at H1 HT
   generalize stAt s0 k=x0 at H2 HT
   cases hk:(x1==x0)
   ·have hk2:(x1 != x0)=true:=by rw[bne,hk];rfl
    have HF:=hide (show R=false by
     rw[← HRR.out]
     cases hq:ss.all (z2l ss k)
     ·rfl
     ·have h2:(ss.take (j+1)).all (z2l ss k)=true:=List.all_eq_true.2 (fun y hy=>List.all_eq_true.1 hq y (List.mem_of_mem_take hy))
      rw[HT.out,hk] at h2
      cases h2)
    go_wp2_with fail
    go_quiet (first
     | (go_at_call 52;with_reducible exact Calls.quiet_of_same (H1.out _ (below_drewN (Below.refl _ _) _)))
     | (go_at_call 52;with_reducible exact Calls.quiet_of_same (H2.out _ (below_drewN (Below.refl _ _) _))))
    go_wp2_with fail
    go_ret
    exact⟨by rw[HF.out];rfl,hdr.more _⟩
   ·have hk2:(x1 != x0)=false:=by rw[bne,hk];rfl
    have HG:=hide (show (ss.take (j+1)).all (z2l ss k)=true by rw[HT.out,hk])
    go_wp2_with fail
    go_quiet (first
     | (go_at_call 52;with_reducible exact Calls.quiet_of_same (H1.out _ (below_drewN (Below.refl _ _) _)))
     | (go_at_call 52;with_reducible exact Calls.quiet_of_same (H2.out _ (below_drewN (Below.refl _ _) _))))
    go_wp2_with fail
    go_roundw
    case rel=>exact⟨j+1,by go_num,by omega,by omega,HG.out,hdr.more _⟩
    case measure=>simp[intOf];omega
  ·have HF:=hide (show R=true by rw[← HRR.out,← hall,List.take_of_length_le (by rw[HN.out];omega)])
   go_wp2_with fail
   go_ret
   exact⟨by rw[HF.out];rfl,hdr⟩

end Go.Proofs.YtgebcpkpdbdfoaaGreat

namespace Go.Proofs.YtgebcpkpdbdfoaaGreat
open Go.RowKit P5 P9 P12 P14 P15 K

theorem zcf (ss:List St):∀ z∈keysOf ss,(Lit.int .i64 z).wf=true:=fun z hz=>by
 have:=z5m hz
 exact z2o (by omega) (by omega)

set_option maxHeartbeats 4000000 in
theorem z9f (oa:Option Addr) (n cap:Nat) (ss:List St) (w:World) (hat:StsAt w oa n cap ss) :
  Calls Tryz.prog 18 #[.slice oa n cap] w (z4h w (clash ss)):=by
 have hb0:=(Below.refl w.heap.size w).alloc (Nat.le_refl _) (.cells #[] 3)
 have HK:=hide (zad oa n cap ss _ (hat.below hb0))
 have Au:=hide (fun k w hat=>z9q oa n cap ss k w hat)
 have HAT:=hide hat
 have HB0:=hide hb0
 have BA:=hide (OutN.new w)
 have hsm:=z4a ss
 have BL:=hide (zcf ss)
 obtain⟨ks,hks⟩:∃ ks,keysOf ss=ks:=⟨_,rfl⟩
 have Cf:=hide (show clash ss=ks.filter (fun k=>!alike ss k) by rw[← hks];rfl)
 rw[hks] at HK hsm BL
 clear hat hb0 hks
 go_enter Tryz.func18,Tryz.ntmps18
 go_wp2_with fail
 refine HK.out.mono ?_
 rintro e w1 ⟨v1,rfl,ho1,hb1⟩
 obtain⟨o1,c1,rfl⟩:=zb ho1
 have D6:=hide ho1
 have BO:=hide (own_below BA.out.own hb1)
 have HA1:=hide (z7y BA.out.own ho1 (Nat.le_refl _)).symm
 have HB1:=hide (HB0.out.trans (hb1.mono HB0.out.size))
 have hle1:w.heap.size≤(w.alloc (.cells #[] 3)).heap.size:=HB0.out.size
 clear ho1 hb1 BA HK
 go_wp2_with fail
 go_loopw [3,5] (fun v x wr=>∃ (j:Nat) (oo:Option Addr) (m co:Nat),x=.int .i64 (j:Int)∧v=.slice oo m co∧j≤ks.length∧wr.ownsRow w.heap.size 3 1 (.slice oo m co) ((ks.take j).filter (fun k=>!alike ss k)).length (((ks.take j).filter (fun k=>!alike ss k)).map zu)∧wr.ownsRow (w.alloc (.cells #[] 3)).heap.size 3 1 (.slice o1 ks.length c1) ks.length (ks.map zu)∧Aside2 (.slice o1 ks.length c1) (.slice oo m co)∧Below w.heap.size w wr) (fun _ x _=>ks.length - (intOf x).toNat)
 case atStart=>exact⟨0,_,_,_,rfl,rfl,Nat.zero_le _,BO.out,D6.out,HA1.out,HB1.out⟩
 case round =>
  obtain⟨j,oo,m,co,rfl,rfl,hj,hown,hkey,hap,hbel⟩:=hrel
  have HO:=hide hown
  have DV:=hide hkey
  have Lr:=hide hap
  have hsz:=hbel.size
  clear hap BO D6 HA1 HB1
  by_cases hlt:j<ks.length
  ·have j0:(j:Int)<(ks.length:Int):=by omega
   obtain⟨_,_,he,hki⟩:=z0b hkey BL.out
   cases he
   obtain⟨z,b,q,hz,hidx,hb,c0,hwz⟩:=hki.get Tryz.underlying32 z0m j hlt
   have HF:=hide (za8 (P:=fun k=>!alike ss k) hz)
   have hfl:((ks.take j).filter (fun k=>!alike ss k)).length≤16:=Nat.le_trans (List.length_filter_le _ _) (by rw[List.length_take];omega)
   have HL:=hide (Au.out z wr (HAT.out.below hbel))
   clear hz hki hkey
   cases hA:alike ss z
   ·rw[hA] at HL HF
    have AB:=hide (show (ks.take (j+1)).filter (fun k=>!alike ss k)=(ks.take j).filter (fun k=>!alike ss k)++[z] from HF.out)
    generalize (ks.take j).filter (fun k=>!alike ss k)=L at AB HO hfl hown
    go_wp2_with (first
     | (go_at_call 64;refine HL.out.mono ?_;rintro e w2 ⟨rfl,hd2⟩;have hown2:=own_below hown hd2.below;have hkey2:=own_below DV.out hd2.below;have hB2:=hbel.trans (hd2.below.mono hsz);have hsz2:=hB2.size;have c02:=(hd2.below.cell hb).trans c0;have hb2:=Nat.lt_of_lt_of_le hb hd2.below.size)
     | (at_builtin;refine z1s (cs:=#[.int .i64 z]) rfl _ _ 32 rfl (by decide) Tryz.underlying32 z11 rfl rfl hown2 rfl rfl (by simp[Value.oneCell']) hsz2 (by unfold maxLen;omega) (by omega) ?_;intro v' w3 hown3 hg3 hl3;obtain⟨o3,c3,rfl⟩:=zb hown3))
    obtain⟨hk3,ha3⟩:=beside hkey2 Lr.out hg3 hl3
    have HB3:=hide (z6a hB2 hsz2 hown2 (Nat.le_refl _) hg3)
    have Ba:=hide (show w3.ownsRow w.heap.size 3 1 (.slice o3 (L.length+1) c3) ((ks.take (j+1)).filter (fun k=>!alike ss k)).length (((ks.take (j+1)).filter (fun k=>!alike ss k)).map zu) by rw[AB.out,z05,z5k];exact hown3)
    have Ej:=hide hk3
    have Ao:=hide ha3
    clear hk3 ha3 hown3 hg3 hl3 hown2 hkey2 hown
    go_wp2_with fail
    go_roundw
    case rel=>exact⟨j+1,_,_,_,by go_num,rfl,by omega,Ba.out,Ej.out,Ao.out,HB3.out⟩
    case measure=>simp[intOf];omega
   ·rw[hA] at HL HF
    have AB:=hide (show (ks.take (j+1)).filter (fun k=>!alike ss k)=(ks.take j).filter (fun k=>!alike ss k) from by rw[HF.out];simp)
    generalize (ks.take j).filter (fun k=>!alike ss k)=L at AB HO hfl hown
    clear hown
    go_wp2_with (go_at_call 64;refine HL.out.mono ?_;rintro e w2 ⟨rfl,hd2⟩)
    have Ba:=hide (own_below HO.out hd2.below)
    have Ej:=hide (own_below DV.out hd2.below)
    have HB3:=hide (hbel.trans (hd2.below.mono hsz))
    go_roundw
    case rel=>exact⟨j+1,_,_,_,by go_num,rfl,by omega,by rw[AB.out];exact Ba.out,Ej.out,Lr.out,HB3.out⟩
    case measure=>simp[intOf];omega
  ·have hjn:ks.take j=ks:=List.take_of_length_le (by omega)
   rw[hjn] at HO
   clear hjn hown hkey
   go_wp2_with fail
   go_ret
   exact⟨_,rfl,by rw[Cf.out];exact HO.out,hbel⟩

end Go.Proofs.YtgebcpkpdbdfoaaGreat

namespace Go.Proofs.YtgebcpkpdbdfoaaGreat
open Go.RowKit P5 P9 P12 P14 P15 K

theorem zk4 {x:Int} {l:List Int} {j:Nat} {y:Int} (d:Bool) (h:l[j]? = some y):z0h x (l.drop j) d=(if decide (x≤y)&&!d then [x] else [])++((if y=x then [] else [y])++z0h x (l.drop (j+1)) (d||decide (x≤y))):=by
 obtain⟨hj,rfl⟩:=List.getElem?_eq_some_iff.1 h
 rw[List.drop_eq_getElem_cons hj]
 rfl

set_option maxRecDepth 100000 in
set_option maxHeartbeats 8000000 in
theorem zbb (oa:Option Addr) (n cap:Nat) (l:List Int) (x:Int) (hn20:n≤1048576) (w:World) (hat:IntsAt w oa n cap l) :
  Calls Tryz.prog 106 #[.slice oa n cap,.int .i64 x] w (z4h w (addI l x)):=by
 have HN:=hide hat.len
 have HAT:=hide hat
 have hal:=z8z l x
 rw[hat.len] at hal
 obtain⟨R,hR⟩:∃ R,addI l x=R:=⟨_,rfl⟩
 rw[hR] at hal ⊢
 have Al:=hide (show z0h x l false=R from hR)
 have BA:=hide (OutN.new w)
 clear hat hR
 go_enter Tryz.func106,Tryz.ntmps106
 go_wp2_with fail
 go_loopw [5,6,7] (fun v dv i wr=>∃ (j:Nat) (d:Bool) (oo:Option Addr) (m co:Nat) (L:List Int),i=.int .i64 (j:Int)∧dv=.bool d∧v=.slice oo m co∧j≤n∧L++z0h x (l.drop j) d=R∧OutN w wr (.slice oo m co) L) (fun _ _ i _=>n - (intOf i).toNat)
 case atStart=>exact⟨0,false,_,_,_,[],rfl,rfl,rfl,Nat.zero_le _,Al.out,BA.out⟩
 case round =>
  obtain⟨j,d,oo,m,co,L,rfl,rfl,rfl,hj,hrest,hO⟩:=hrel
  have HO:=hide hO
  have hbel:=hO.bel
  have hsz:=hbel.size
  have hLl:L.length≤n+1:=by
   have:=congrArg List.length hrest
   rw[List.length_append] at this
   omega
  clear hO BA
  by_cases hlt:j<n
  ·have j0:(j:Int)<(n:Int):=by omega
   obtain⟨y,b,q,hy,hidx,hb,c0w,hwy⟩:=HAT.out.get Tryz.underlying32 z0m j hlt
   have Ki:=hide (show ∀ w1,Below w.heap.size w w1→w1.cell? ⟨b,q,none⟩=some (.int .i64 y) from fun w1 h=>(h.cell hb).trans c0w)
   have c0:=Ki.out wr hbel
   clear c0w
   rw[zk4 d hy] at hrest
   have A9:=hide hrest
   clear hy hrest
   by_cases hxy:x≤y
   ·cases d
    ·by_cases hyx:y=x
     ·have g1:(y != x)=false:=by simp[hyx]
      have HE:=hide (show (L++[x])++z0h x (l.drop (j+1)) true=R by rw[← A9.out];simp[hxy,hyx])
      have hown:=HO.out.own
      clear hyx
      go_upto_region 9 with (at_builtin;refine z0x (W:=w) (cs:=#[.int .i64 x]) rfl _ _ 32 rfl (by decide) Tryz.underlying32 z11 rfl rfl hown rfl rfl (by simp[Value.oneCell']) hbel hsz (by unfold maxLen;omega) (by omega) ?_;intro v' w1 how1 hbw1 hsA1;obtain⟨o1,c1,rfl⟩:=zb how1)
      have BF:=hide (OutN.snoc (x:=x) how1 hbw1)
      have c01:=Ki.out w1 hbw1
      clear how1 hbw1 hown
      go_wp2_with fail
      go_roundw
      case rel=>exact⟨j+1,true,_,_,_,(L++[x]),by go_num,rfl,rfl,by omega,HE.out,BF.out⟩
      case measure=>simp[intOf];omega
     ·have g1:(y != x)=true:=by simp[hyx]
      have HE:=hide (show (L++[x]++[y])++z0h x (l.drop (j+1)) true=R by rw[← A9.out];simp[hxy,hyx])
      have hown:=HO.out.own
      go_upto_region 9 with (at_builtin;refine z0x (W:=w) (cs:=#[.int .i64 x]) rfl _ _ 32 rfl (by decide) Tryz.underlying32 z11 rfl rfl hown rfl rfl (by simp[Value.oneCell']) hbel hsz (by unfold maxLen;omega) (by omega) ?_;intro v' w1 how1 hbw1 hsA1;obtain⟨o1,c1,rfl⟩:=zb how1)
      have BF:=hide (OutN.snoc (x:=x) how1 hbw1)
      have c01:=Ki.out w1 hbw1
      have hown1:=BF.out.own
      have hbel1:=hbw1
      have hsz1:=hbel1.size
      have hl1:(L++[x]).length≤n+2:=by simp;omega
      clear how1 hbw1 hown
      go_wp2_with (at_builtin;refine z0x (W:=w) (cs:=#[.int .i64 y]) rfl _ _ 32 rfl (by decide) Tryz.underlying32 z11 rfl rfl hown1 rfl rfl (by simp[Value.oneCell']) hbel1 hsz1 (by unfold maxLen;omega) (by omega) ?_;intro v' w2 how2 hbw2 hsw2;obtain⟨o2,c2,rfl⟩:=zb how2)
      have AA:=hide (OutN.snoc (x:=y) how2 hbw2)
      clear how2 hbw2 hown1
      go_roundw
      case rel=>exact⟨j+1,true,_,_,_,(L++[x]++[y]),by go_num,rfl,rfl,by omega,HE.out,(by have h2:=AA.out;rw[z05] at h2;exact h2)⟩
      case measure=>simp[intOf];omega
    ·by_cases hyx:y=x
     ·have g1:(y != x)=false:=by simp[hyx]
      have HE:=hide (show L++z0h x (l.drop (j+1)) true=R by rw[← A9.out];simp[hxy,hyx])
      clear hyx
      go_wp2_with fail
      go_roundw
      case rel=>exact⟨j+1,true,_,_,_,L,by go_num,rfl,rfl,by omega,HE.out,HO.out⟩
      case measure=>simp[intOf];omega
     ·have g1:(y != x)=true:=by simp[hyx]
      have HE:=hide (show (L++[y])++z0h x (l.drop (j+1)) true=R by rw[← A9.out];simp[hxy,hyx])
      have hown:=HO.out.own
      go_wp2_with (at_builtin;refine z0x (W:=w) (cs:=#[.int .i64 y]) rfl _ _ 32 rfl (by decide) Tryz.underlying32 z11 rfl rfl hown rfl rfl (by simp[Value.oneCell']) hbel hsz (by unfold maxLen;omega) (by omega) ?_;intro v' w2 how2 hbw2 hsw2;obtain⟨o2,c2,rfl⟩:=zb how2)
      have AA:=hide (OutN.snoc (x:=y) how2 hbw2)
      clear how2 hbw2 hown
      go_roundw
      case rel=>exact⟨j+1,true,_,_,_,(L++[y]),by go_num,rfl,rfl,by omega,HE.out,AA.out⟩
      case measure=>simp[intOf];omega
   ·have hyx:¬ y=x:=by omega
    have g1:(y != x)=true:=by simp[hyx]
    have HE:=hide (show (L++[y])++z0h x (l.drop (j+1)) d=R by rw[← A9.out];simp[hxy,hyx])
    have hown:=HO.out.own
    go_wp2_with (at_builtin;refine z0x (W:=w) (cs:=#[.int .i64 y]) rfl _ _ 32 rfl (by decide) Tryz.underlying32 z11 rfl rfl hown rfl rfl (by simp[Value.oneCell']) hbel hsz (by unfold maxLen;omega) (by omega) ?_;intro v' w2 how2 hbw2 hsw2;obtain⟨o2,c2,rfl⟩:=zb how2)
    have AA:=hide (OutN.snoc (x:=y) how2 hbw2)
    clear how2 hbw2 hown
    go_roundw
    case rel=>exact⟨j+1,d,_,_,_,(L++[y]),by go_num,rfl,rfl,by omega,HE.out,AA.out⟩
    case measure=>simp[intOf];omega
  ·have hdr:l.drop j=[]:=List.drop_eq_nil_of_le (by rw[HN.out];omega)
   rw[hdr] at hrest
   have A9:=hide hrest
   clear hdr hrest
   cases d
   ·have HE:=hide (show L++[x]=R from A9.out)
    have hown:=HO.out.own
    go_wp2_with (at_builtin;refine z0x (W:=w) (cs:=#[.int .i64 x]) rfl _ _ 32 rfl (by decide) Tryz.underlying32 z11 rfl rfl hown rfl rfl (by simp[Value.oneCell']) hbel hsz (by unfold maxLen;omega) (by omega) ?_;intro v' w2 how2 hbw2 hsw2;obtain⟨o2,c2,rfl⟩:=zb how2)
    have AA:=hide (OutN.snoc (x:=x) how2 hbw2)
    clear how2 hbw2 hown
    go_ret
    refine⟨_,rfl,?_,AA.out.bel⟩
    rw[← HE.out]
    simpa using AA.out.own
   ·have HE:=hide (show L=R by rw[← A9.out];simp[z0h])
    go_wp2_with fail
    go_ret
    refine⟨_,rfl,?_,hbel⟩
    rw[← HE.out]
    exact HO.out.own

end Go.Proofs.YtgebcpkpdbdfoaaGreat

namespace Go.Proofs.YtgebcpkpdbdfoaaGreat
open Go.RowKit P5 P9 P12 P14 P15 K

theorem zmg:(Tryz.prog.info? 32).map (·.size)=some 1:=by kernel_rfl

theorem zmh:(Tryz.prog.info? 32).map (fun i=>(i.zero,i.size,i.bytes))=some (some (.slice none 0 0),1,24):=by kernel_rfl

structure NumsAt (w:World) (oa:Option Addr) (n cap:Nat) (ls:List (List Int)):Prop where
 len:ls.length=n
 room:n≤cap
 most:cap≤maxLen
 at_:∀ (i:Nat) (l:List Int),ls[i]? = some l→∃ b o xa xc,oa=some ⟨b,o,none⟩∧w.cell? ⟨b,o+i,none⟩=some (.slice xa l.length xc)∧IntsAt w xa l.length xc l

theorem NumsAt.below {w w':World} {oa:Option Addr} {n cap:Nat} {ls:List (List Int)} (h:NumsAt w oa n cap ls) (hb:Below w.heap.size w w'):NumsAt w' oa n cap ls :=
 ⟨h.len,h.room,h.most,fun i s hs=>by
  obtain⟨b,o,xa,xc,h1,h2,h3⟩:=h.at_ i s hs
  exact⟨b,o,xa,xc,h1,(hb.cell (z0d h2)).trans h2,h3.below hb⟩⟩

theorem NumsAt.get {w:World} {oa:Option Addr} {n cap:Nat} {ls:List (List Int)} (h:NumsAt w oa n cap ls) {P:Program} {t e:TypeId} (ht:P.underlying t=some (.slice e)) (hi:(P.info? e).map (·.size)=some 1) (i:Nat) (hin:i<n) :
  ∃ s b q xa xc,ls[i]? = some s∧(∀ wx,(Instr.indexAt t (.slice oa n cap) (.int .i64 (i:Int))).run P wx=.ok (.pointer (some ⟨b,q,none⟩)) wx)∧w.cell? ⟨b,q,none⟩=some (.slice xa s.length xc)∧IntsAt w xa s.length xc s:=by
 obtain⟨s,hs⟩:∃ s,ls[i]? = some s:=⟨_,List.getElem?_eq_getElem (by rw[h.len];exact hin)⟩
 obtain⟨b,o,xa,xc,rfl,h2,h3⟩:=h.at_ i s hs
 refine⟨s,b,o+i,xa,xc,hs,fun wx=>?_,h2,h3⟩
 have:=run_indexAt_slice wx t e 1 ht hi b o n cap i hin
 rwa [Nat.mul_one] at this

structure Ahd (w wr:World) (va:Value) (ls:List (List Int)):Prop where
 rows:∃ vs:List Value,vs.length=ls.length∧wr.ownsRow w.heap.size 32 1 va ls.length vs∧∀ (i:Nat) (v:Value) (l:List Int),vs[i]? = some v→ls[i]? = some l→∃ base,wr.ownsRow base 3 1 v l.length (l.map zu)∧Aside2 v va∧∀ z∈l,(Lit.int .i64 z).wf=true
 bel:Below w.heap.size w wr

theorem Ahd.new (w:World):Ahd w (w.alloc (.cells #[] 32)) (.slice (some ⟨w.heap.size,0,none⟩) 0 0) [] :=
 ⟨⟨[],rfl,World.ownsRow_made (w:=w) #[] 0 (Nat.le_refl _) (by decide) rfl,fun i v l h=>by simp at h⟩,(Below.refl _ _).alloc (Nat.le_refl _) _⟩

theorem Ahd.below {w wr w2:World} {va:Value} {ls:List (List Int)} (h:Ahd w wr va ls) (hb:Below wr.heap.size wr w2):Ahd w w2 va ls:=by
 obtain⟨⟨vs,h1,h2,h3⟩,h4⟩:=h
 exact⟨⟨vs,h1,own_below h2 hb,fun i v l hv hl=>by
  obtain⟨base,k1,k2,k3⟩:=h3 i v l hv hl
  exact⟨base,own_below k1 hb,k2,k3⟩⟩,h4.trans (hb.mono h4.size)⟩

theorem Ahd.own {w wr:World} {va:Value} {ls:List (List Int)} (h:Ahd w wr va ls):∃ vs,wr.ownsRow w.heap.size 32 1 va ls.length vs:=by
 obtain⟨⟨vs,_,h2,_⟩,_⟩:=h
 exact⟨vs,h2⟩

theorem zej {W0:World} {ops:Array Oper} {rest:List Oper} {o:Oper} {a:Act} {Q:Exit→Act→World→Prop} (hgd:o.guard=none) (s x:Operand)
  (ho:o.op=.call { callee:=.builtin .append,args:=#[s,x],argTypes:=#[149,149] })
  {w:World} {va:Value} {ls:List (List Int)} (h:Ahd w W0 va ls) {l:List Int} {v:Value} {base:Nat} (hv:W0.ownsRow base 3 1 v l.length (l.map zu)) (hap:Aside2 v va) (hwf:∀ z∈l,(Lit.int .i64 z).wf=true)
  (hs:a.eval s=va) (hx:a.eval x=.slice (some ⟨W0.heap.size,0,none⟩) 1 1) (hl:ls.length+1≤10000000)
  (hK:∀ va' w',Ahd w w' va' (ls++[l])→wpList Tryz.prog ops Q rest (a.put o.dst va') w'):wpList Tryz.prog ops Q (o::rest) a (W0.alloc (.cells #[v] 32)):=by
 obtain⟨⟨vs,h1,h2,h3⟩,h4⟩:=h
 have hone:v.oneCell'=true:=by
  obtain⟨oa,cap,rfl⟩:=zb hv
  rfl
 refine z1s (cs:=#[v]) hgd s x 149 ho (by decide) Tryz.underlying149 zmh rfl hs h2 hx rfl (by simpa using hone) h4.size (by unfold maxLen;omega) (by omega) ?_
 intro va' w' hown hg hloc
 refine hK va' w' ⟨⟨vs++[v],by simp[h1],by rw[z05];exact hown,fun i v' l' hv' hl'=>?_⟩,z6a h4 h4.size h2 (Nat.le_refl _) hg⟩
 rcases Nat.lt_or_ge i ls.length with hi|hi
 ·rw[List.getElem?_append_left (by omega)] at hv' hl'
  obtain⟨base',k1,k2,k3⟩:=h3 i v' l' hv' hl'
  obtain⟨b1,b2⟩:=beside k1 k2 hg hloc
  exact⟨base',b1,b2,k3⟩
 ·have hie:i=ls.length:=by
   have:=(List.getElem?_eq_some_iff.1 hl').1
   simp at this
   omega
  subst hie
  rw[List.getElem?_append_right (Nat.le_refl _)] at hl'
  rw[← h1,List.getElem?_append_right (Nat.le_refl _)] at hv'
  simp at hl' hv'
  subst hl'
  subst hv'
  obtain⟨b1,b2⟩:=beside hv hap hg hloc
  exact⟨base,b1,b2,hwf⟩

theorem Ahd.view {w wr:World} {va:Value} {ls:List (List Int)} (h:Ahd w wr va ls):∃ oa cap,va=.slice oa ls.length cap∧NumsAt wr oa ls.length cap ls:=by
 obtain⟨⟨vs,h1,h2,h3⟩,h4⟩:=h
 rcases h2.2 with ⟨rfl,hn⟩|⟨g,cap,cur,rfl,hb,hg,hnc,hcm,hcs,htake⟩
 ·have hls:ls=[]:=List.eq_nil_of_length_eq_zero hn
  subst hls
  exact⟨none,0,rfl,⟨rfl,Nat.le_refl _,by unfold maxLen;omega,fun i f hf=>by simp at hf⟩⟩
 ·refine⟨some ⟨g,0,none⟩,cap,rfl,⟨rfl,hnc,hcm,fun i l hl=>?_⟩⟩
  have hi:i<ls.length:=(List.getElem?_eq_some_iff.1 hl).1
  obtain⟨v,hv⟩:∃ v,vs[i]? = some v:=⟨_,List.getElem?_eq_getElem (by omega)⟩
  obtain⟨base,k1,k2,k3⟩:=h3 i v l hv hl
  obtain⟨xa,xc,rfl,hia⟩:=z0b k1 k3
  refine⟨g,0,xa,xc,rfl,?_,hia⟩
  rw[Nat.zero_add,h2.cellAt i (by omega)]
  exact hv

theorem zii {es:List EvV} {ids L:List Int} {j:Nat} {z:Int} (h:ids[j]? = some z):P15.leftOf es (ids.drop j) L=P15.leftOf es (ids.drop (j+1)) (if (zi es z).isSome then addI L z else L):=by
 obtain⟨hj,rfl⟩:=List.getElem?_eq_some_iff.1 h
 rw[List.drop_eq_getElem_cons hj]
 rfl

theorem zgp {L:List Int} {z:Int} (h:∀ y∈L,(Lit.int .i64 y).wf=true) (hz:(Lit.int .i64 z).wf=true):∀ y∈addI L z,(Lit.int .i64 y).wf=true:=fun y hy=>by
 rcases addI_mem.1 hy with hy|hy
 ·exact h y hy
 ·subst hy;exact hz

end Go.Proofs.YtgebcpkpdbdfoaaGreat

namespace Go.Proofs.YtgebcpkpdbdfoaaGreat
open Go.RowKit P5 P9 P12 P14 P15 K

def z1l (ss:List St) (ks:List Int):St:=(ks.filter (alike ss)).map (fun k=>(k,stAt (ss.headD []) k))

theorem zdt {ss:List St} {ks:List Int} {j:Nat} {z:Int} (h:ks[j]? = some z):z1l ss (ks.take (j+1))=z1l ss (ks.take j)++(if alike ss z then [(z,stAt (ss.headD []) z)] else []):=by
 unfold z1l
 rw[za8 h,List.map_append]
 split<;>simp

set_option maxRecDepth 100000 in
set_option maxHeartbeats 8000000 in
theorem z8i (oa:Option Addr) (n cap:Nat) (ss:List St) (w:World) (hat:StsAt w oa n cap ss) :
  Calls Tryz.prog 19 #[.slice oa n cap] w (z5l w (agreed ss)):=by
 have hb0:=(Below.refl w.heap.size w).alloc (Nat.le_refl _) (.cells #[] 36)
 have HK:=hide (zad oa n cap ss _ (hat.below hb0))
 have Au:=hide (fun k w hat=>z9q oa n cap ss k w hat)
 have HAT:=hide hat
 have HB0:=hide hb0
 have BA:=hide (World.ownsRow_made (w:=w) (e:=36) (size:=2) #[] 0 (Nat.le_refl _) (by decide) rfl)
 have hsm:=z4a ss
 have BL:=hide (zcf ss)
 have JK:=hide (fun z (hz:z∈keysOf ss)=>z5m hz)
 obtain⟨ks,hks⟩:∃ ks,keysOf ss=ks:=⟨_,rfl⟩
 have Cf:=hide (show agreed ss=z1l ss ks by rw[← hks];rfl)
 rw[hks] at HK hsm BL JK
 clear hat hb0 hks
 go_enter Tryz.func19,Tryz.ntmps19
 go_wp2_with fail
 refine HK.out.mono ?_
 rintro e w1 ⟨v1,rfl,ho1,hb1⟩
 obtain⟨o1,c1,rfl⟩:=zb ho1
 have D6:=hide ho1
 have BO:=hide (own_below BA.out hb1)
 have HB1:=hide (HB0.out.trans (hb1.mono HB0.out.size))
 clear ho1 hb1 BA HK
 go_wp2_with fail
 go_loopw [3,5] (fun v x wr=>∃ (j:Nat) (oo:Option Addr) (m co:Nat),x=.int .i64 (j:Int)∧v=.slice oo m co∧j≤ks.length∧wr.ownsRow w.heap.size 36 2 (.slice oo m co) (z1l ss (ks.take j)).length ((z1l ss (ks.take j)).flatMap z06)∧wr.ownsRow (w.alloc (.cells #[] 36)).heap.size 3 1 (.slice o1 ks.length c1) ks.length (ks.map zu)∧Below w.heap.size w wr) (fun _ x _=>ks.length - (intOf x).toNat)
 case atStart=>exact⟨0,_,_,_,rfl,rfl,Nat.zero_le _,BO.out,D6.out,HB1.out⟩
 case round =>
  obtain⟨j,oo,m,co,rfl,rfl,hj,hown,hkey,hbel⟩:=hrel
  have HO:=hide hown
  have DV:=hide hkey
  have hsz:=hbel.size
  clear BO D6 HB1
  by_cases hlt:j<ks.length
  ·have j0:(j:Int)<(ks.length:Int):=by omega
   obtain⟨_,_,he,hki⟩:=z0b hkey BL.out
   cases he
   obtain⟨z,b,q,hz,hidx,hb,c0,hwz⟩:=hki.get Tryz.underlying32 z0m j hlt
   have HF:=hide (zdt (ss:=ss) hz)
   have hfl:(z1l ss (ks.take j)).length≤16:=by
    unfold z1l
    rw[List.length_map]
    exact Nat.le_trans (List.length_filter_le _ _) (by rw[List.length_take];omega)
   have HL:=hide (Au.out z wr (HAT.out.below hbel))
   have hhas:=(JK.out z (List.mem_of_getElem? hz)).2.2
   clear hz hki hkey
   cases hA:alike ss z
   ·rw[hA] at HL HF
    have AB:=hide (show z1l ss (ks.take (j+1))=z1l ss (ks.take j) from by rw[HF.out];simp)
    clear hown
    go_wp2_with (go_at_call 64;refine HL.out.mono ?_;rintro e w2 ⟨rfl,hd2⟩)
    have Ba:=hide (own_below HO.out hd2.below)
    have Ej:=hide (own_below DV.out hd2.below)
    have HB3:=hide (hbel.trans (hd2.below.mono hsz))
    go_roundw
    case rel=>exact⟨j+1,_,_,_,by go_num,rfl,by omega,by rw[AB.out];exact Ba.out,Ej.out,HB3.out⟩
    case measure=>simp[intOf];omega
   ·rw[hA] at HL HF
    have hn0:0<n:=by
     rw[← HAT.out.len]
     cases ss with
     | nil=>simp[z4t] at hhas
     | cons a r=>simp
    obtain⟨s0,b0,q0,xa0,xc0,hs0,hidx0,hc0,hits0⟩:=(HAT.out.below hbel).get Tryz.underlying25 z3y 0 hn0
    have hidx0':∀ wx,(Instr.indexAt 25 (.slice oa n cap) (.int .i64 0)).run Tryz.prog wx=.ok (.pointer (some ⟨b0,q0,none⟩)) wx:=hidx0
    have AB:=hide (show z1l ss (ks.take (j+1))=z1l ss (ks.take j)++[(z,stAt s0 z)] from by rw[HF.out,zgo hs0];simp)
    have GY:=hide (fun wx (hb:Below wr.heap.size wr wx)=>z2w xa0 s0.length xc0 s0 z wx (hits0.below hb))
    generalize stAt s0 z=x0 at AB GY
    have hlt0:=z0d hc0
    clear hs0 hits0 hidx0 HF
    obtain⟨L,hL⟩:∃ L,z1l ss (ks.take j)=L:=⟨_,rfl⟩
    rw[hL] at AB HO hfl hown
    clear hL
    go_upto_region 7 with (go_at_call 64;refine HL.out.mono ?_;rintro e w2 ⟨rfl,hd2⟩;have hO2:=own_below hown hd2.below;have hK2:=own_below DV.out hd2.below;have hB2:=hbel.trans (hd2.below.mono hsz);have hsz2:=hB2.size;have c02:=(hd2.below.cell hb).trans c0;have c00:=(hd2.below.cell hlt0).trans hc0;have hb2:=Nat.lt_of_lt_of_le hb hd2.below.size;have AA:=hide hO2;have Kj:=hide hK2;clear hO2 hK2 hown)
    go_region_law (first
     | (refine zh6 (by rfl) _ _ 28 (by rfl) Tryz.underlying28 z4j (by rfl) (cs:=#[.int .i64 z,.int .i64 x0]) (by rfl) ((own_below AA.out (Below.refl _ _).drew).alloc _) (by rfl) (by rfl) (by exact heap_alloc_new _ _) (by simp[Value.oneCell']) (by simp;omega) (by unfold maxLen;omega) (by omega) ?_;intro v' w3 hown3 hg3;obtain⟨o3,c3,rfl⟩:=zb hown3)
     | (rw[if_pos (by rfl)];go_simp;go_at_call 52;refine (GY.out _ (hd2.below.trans ((Below.refl w2.heap.size w2).drew.mono hd2.below.size))).mono ?_;rintro e w4 ⟨rfl,rfl⟩))
    all_goals
     have hko:=z5n ((own_below Kj.out (Below.refl _ _).drew).alloc (.cells #[.int .i64 z,.int .i64 x0] 36)) ((own_below AA.out (Below.refl _ _).drew).alloc (.cells #[.int .i64 z,.int .i64 x0] 36)) (by decide) hg3
     have hB3:=z6a (hB2.trans ((Below.refl w2.heap.size w2).drew.mono hsz2)) hsz2 (own_below AA.out (Below.refl _ _).drew) (Nat.le_refl _) hg3
     have Ba:=hide (show w3.ownsRow w.heap.size 36 2 (.slice o3 (L.length+1) c3) (z1l ss (ks.take (j+1))).length ((z1l ss (ks.take (j+1))).flatMap z06) by rw[AB.out,z05,List.flatMap_append];simpa [z06] using hown3)
     have Ej:=hide hko
     have HB3:=hide hB3
     clear hko hB3 hown3 hg3
     go_wp2_with fail
     go_roundw
     case rel=>exact⟨j+1,_,_,_,by go_num,rfl,by omega,Ba.out,Ej.out,HB3.out⟩
     case measure=>simp[intOf];omega
  ·have hjn:ks.take j=ks:=List.take_of_length_le (by omega)
   rw[hjn] at HO
   clear hjn hown hkey
   go_wp2_with fail
   go_ret
   exact⟨_,rfl,by rw[Cf.out];exact HO.out,hbel⟩

end Go.Proofs.YtgebcpkpdbdfoaaGreat
