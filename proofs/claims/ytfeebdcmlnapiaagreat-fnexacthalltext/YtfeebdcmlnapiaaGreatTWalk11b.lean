/-
  Walks.
-/
import Derived.Test.YtfeebdcmlnapiaaGreatTWalk11f
open Go.Value renaming int->J
open Go.IntKind renaming i64->Y
set_option maxRecDepth 100000
set_option maxHeartbeats 8000000
set_option linter.unusedVariables false
set_option linter.unusedSimpArgs false
namespace Go.Proofs.YtfeebdcmlnapiaaGreat
open Go.RowKit P1 P5 P9 P11 P12 P14 P15 K
theorem z8c (oa:Zoa) (n cap:Nat) (s:Zii) (k:Int) (w:World) (hat:ItemsAt w oa n cap s) :
  Calls Tryz.prog 124 #[.slice oa n cap,J Y k] w fun e w'=>e=.returned (J Y (stAt s k))∧w'=w :=
 (z2u oa n cap s k w hat).mono fun e w' h=>⟨h.1,h.2.symm⟩

def z2j (ss:List St) (k:Int) (s:St):Bool:=stAt s k==stAt (ss.headD []) k

theorem zlv (ss:List St) (k:Int):alike ss k=ss.all (z2j ss k):=rfl

theorem zhf {ss:List St} {s:St} (h:ss[0]? = some s):ss.headD []=s:=by
 cases ss with
 | nil=>simp at h
 | cons a r=>simpa using h

theorem z9n (oa:Zoa) (n cap:Nat) (ss:List St) (k:Int) (w:World) (hat:StsAt w oa n cap ss) :
  Calls Tryz.prog 195 #[.slice oa n cap,J Y k] w fun e w'=>e=.returned (.bool (alike ss k))∧Drew w w':=by
 have hmx:=zNt hat.room hat.most
 unfold maxLen at hmx
 rw[zlv]
 obtain⟨R,hR⟩:∃ R,ss.all (z2j ss k)=R:=⟨_,rfl⟩
 rw[hR]
 have HRR:=ZZ hR
 have HN:=ZZ hat.len
 have HAT:=ZZ hat
 clear hat hR
 go_enter Tryz.func195,Tryz.ntmps195
 go_wp2_with fail
 go_loopw [5] (fun x wr=>∃ (j:Nat),x=J Y (j:Int)∧1≤j∧(j≤n∨j=1)∧(ss.take j).all (z2j ss k)=true∧Drew w wr) (fun x _=>n - (intOf x).toNat)
 case atStart =>
  refine⟨1,rfl,Nat.le_refl _,.inr rfl,?_,0,rfl⟩
  cases ss with
  | nil=>rfl
  | cons a r=>simp[z2j]
 case round =>
  obtain⟨j,rfl,hj1,hj,hall,hdr⟩:=hrel
  by_cases hlt:j<n
  ·have j0:(j:Int)<(n:Int):=by omega
   obtain⟨s,b,q,xa,xc,hs,hidx,hc,hits⟩:=(HAT.o.below hdr.below).get Tryz.underlying30 z5l j hlt
   obtain⟨s0,b0,q0,xa0,xc0,hs0,hidx0,hc0,hits0⟩:=(HAT.o.below hdr.below).get Tryz.underlying30 z5l 0 (by omega)
   have hidx0':∀ wx,(Instr.indexAt 30 (.slice oa n cap) (J Y 0)).run Tryz.prog wx=.ok (.pointer (some ⟨b0,q0,none⟩)) wx:=hidx0
   have hT:=zlo (P:=z2j ss k) hs
   have hlf:z2j ss k s=(stAt s k==stAt s0 k):=by unfold z2j;rw[zhf hs0]
   have H1:=ZZ (fun wx (hb:Bw wr wx)=>z8c xa s.length xc s k wx (hits.below hb))
   have H2:=ZZ (fun wx (hb:Bw wr wx)=>z8c xa0 s0.length xc0 s0 k wx (hits0.below hb))
   have HIT:=ZZ hits
   have KN:=ZZ hits0
   rw[hlf,hall,Bool.true_and] at hT
   have HT:=ZZ hT
   have HS:=ZZ hs
   clear hs hs0 hits hits0 hT hlf hidx0
   generalize stAt s k=x1 at H1 HT
   generalize stAt s0 k=x0 at H2 HT
   cases hk:(x1==x0)
   ·have hk2:(x1 != x0)=true:=by rw[bne,hk];rfl
    have HF:=ZZ (show R=false by
     rw[← HRR.o]
     cases hq:ss.all (z2j ss k)
     ·rfl
     ·have h2:(ss.take (j+1)).all (z2j ss k)=true:=List.all_eq_true.2 (fun y hy=>List.all_eq_true.1 hq y (List.mem_of_mem_take hy))
      rw[HT.o,hk] at h2
      cases h2)
    go_wp2_with fail
    go_quiet (first
     | (go_at_call 124;with_reducible exact Calls.quiet_of_same (H1.o _ (below_drewN zBr _)))
     | (go_at_call 124;with_reducible exact Calls.quiet_of_same (H2.o _ (below_drewN zBr _))))
    go_wp2_with fail
    go_ret
    exact⟨by rw[HF.o];rfl,hdr.more _⟩
   ·have hk2:(x1 != x0)=false:=by rw[bne,hk];rfl
    have HG:=ZZ (show (ss.take (j+1)).all (z2j ss k)=true by rw[HT.o,hk])
    go_wp2_with fail
    go_quiet (first
     | (go_at_call 124;with_reducible exact Calls.quiet_of_same (H1.o _ (below_drewN zBr _)))
     | (go_at_call 124;with_reducible exact Calls.quiet_of_same (H2.o _ (below_drewN zBr _))))
    go_wp2_with fail
    go_roundw
    case rel=>exact⟨j+1,by go_num,by omega,by omega,HG.o,hdr.more _⟩
    case measure=>simp[intOf];omega
  ·have HF:=ZZ (show R=true by rw[← HRR.o,← hall,zTl (by rw[HN.o];omega)])
   go_wp2_with fail
   go_ret
   exact⟨by rw[HF.o];rfl,hdr⟩

theorem zcb (ss:List St):∀ z∈keysOf ss,(Lit.int .i64 z).wf=true:=fun z hz=>by
 have:=z5f hz
 exact z3o (by omega) (by omega)

theorem zds (oa:Zoa) (n cap:Nat) (ss:List St) (w:World) (hat:StsAt w oa n cap ss) :
  Calls Tryz.prog 163 #[.slice oa n cap] w (z5c w (clash ss)):=by
 have hb0:=(Below.refl w.heap.size w).alloc zLe (.cells #[] 3)
 have HK:=ZZ (zae oa n cap ss _ (hat.below hb0))
 have AU:=ZZ (fun k w hat=>z9n oa n cap ss k w hat)
 have HAT:=ZZ hat
 have HB0:=ZZ hb0
 have AB:=ZZ (OutN.new w)
 have hsm:=z4k ss
 have Bv:=ZZ (zcb ss)
 obtain⟨ks,hks⟩:∃ ks,keysOf ss=ks:=⟨_,rfl⟩
 have Bz:=ZZ (show clash ss=ks.filter (fun k=>!alike ss k) by rw[← hks];rfl)
 rw[hks] at HK hsm Bv
 clear hat hb0 hks
 go_enter Tryz.func163,Tryz.ntmps163
 go_wp2_with fail
 refine HK.o.mono ?_
 rintro e w1 ⟨v1,rfl,ho1,hb1⟩
 obtain⟨o1,c1,rfl⟩:=zi ho1
 have BV:=ZZ ho1
 have BA:=ZZ (own_below AB.o.own hb1)
 have HA1:=ZZ (z7p AB.o.own ho1 zLe).symm
 have HB1:=ZZ (zTr HB0.o hb1)
 have hle1:w.heap.size≤(w.alloc (.cells #[] 3)).heap.size:=HB0.o.size
 clear ho1 hb1 AB HK
 go_wp2_with fail
 go_loopw [3,5] (fun v x wr=>∃ (j:Nat) (oo:Zoa) (m co:Nat),x=J Y (j:Int)∧v=.slice oo m co∧j≤ks.length∧wr.ownsRow w.heap.size 3 1 (.slice oo m co) ((ks.take j).filter (fun k=>!alike ss k)).length (((ks.take j).filter (fun k=>!alike ss k)).map z03)∧wr.ownsRow (w.alloc (.cells #[] 3)).heap.size 3 1 (.slice o1 ks.length c1) ks.length (ks.map z03)∧Aside2 (.slice o1 ks.length c1) (.slice oo m co)∧Bw w wr) (fun _ x _=>ks.length - (intOf x).toNat)
 case atStart=>exact⟨0,_,_,_,rfl,rfl,Nat.zero_le _,BA.o,BV.o,HA1.o,HB1.o⟩
 case round =>
  obtain⟨j,oo,m,co,rfl,rfl,hj,hown,hkey,hap,hbel⟩:=hrel
  have HO:=ZZ hown
  have Cy:=ZZ hkey
  have K5:=ZZ hap
  have hsz:=hbel.size
  clear hap BA BV HA1 HB1
  by_cases hlt:j<ks.length
  ·have j0:(j:Int)<(ks.length:Int):=by omega
   obtain⟨_,_,he,hki⟩:=z0d hkey Bv.o
   cases he
   obtain⟨z,b,q,hz,hidx,hb,c0,hwz⟩:=hki.get Tryz.underlying60 z0f j hlt
   have HF:=ZZ (zab (P:=fun k=>!alike ss k) hz)
   have hfl:((ks.take j).filter (fun k=>!alike ss k)).length≤16:=zNt (List.length_filter_le _ _) (by rw[List.length_take];omega)
   have HL:=ZZ (AU.o z wr (HAT.o.below hbel))
   clear hz hki hkey
   cases hA:alike ss z
   ·rw[hA] at HL HF
    have Aj:=ZZ (show (ks.take (j+1)).filter (fun k=>!alike ss k)=(ks.take j).filter (fun k=>!alike ss k)++[z] from HF.o)
    generalize (ks.take j).filter (fun k=>!alike ss k)=L at Aj HO hfl hown
    go_wp2_with (first
     | (go_at_call 195;refine HL.o.mono ?_;rintro e w2 ⟨rfl,hd2⟩;have hown2:=own_below hown hd2.below;have hkey2:=own_below Cy.o hd2.below;have hB2:=hbel.trans (hd2.below.mono hsz);have hsz2:=hB2.size;have c02:=(hd2.below.cell hb).trans c0;have hb2:=zLt hb hd2.below.size)
     | (at_builtin;refine z1n (cs:=#[J Y z]) rfl _ _ 60 rfl (by decide) Tryz.underlying60 z1u rfl rfl hown2 rfl rfl (by simp[Value.oneCell']) hsz2 (by unfold maxLen;omega) (by omega) ?_;intro v' w3 hown3 hg3 hl3;obtain⟨o3,c3,rfl⟩:=zi hown3))
    obtain⟨hk3,ha3⟩:=beside hkey2 K5.o hg3 hl3
    have HB3:=ZZ (z5q hB2 hsz2 hown2 zLe hg3)
    have Aq:=ZZ (show w3.ownsRow w.heap.size 3 1 (.slice o3 (L.length+1) c3) ((ks.take (j+1)).filter (fun k=>!alike ss k)).length (((ks.take (j+1)).filter (fun k=>!alike ss k)).map z03) by rw[Aj.o,z0p,z6s];exact hown3)
    have Ao:=ZZ hk3
    have Ac:=ZZ ha3
    clear hk3 ha3 hown3 hg3 hl3 hown2 hkey2 hown
    go_wp2_with fail
    go_roundw
    case rel=>exact⟨j+1,_,_,_,by go_num,rfl,by omega,Aq.o,Ao.o,Ac.o,HB3.o⟩
    case measure=>simp[intOf];omega
   ·rw[hA] at HL HF
    have Aj:=ZZ (show (ks.take (j+1)).filter (fun k=>!alike ss k)=(ks.take j).filter (fun k=>!alike ss k) from by rw[HF.o];simp)
    generalize (ks.take j).filter (fun k=>!alike ss k)=L at Aj HO hfl hown
    clear hown
    go_wp2_with (go_at_call 195;refine HL.o.mono ?_;rintro e w2 ⟨rfl,hd2⟩)
    have Aq:=ZZ (own_below HO.o hd2.below)
    have Ao:=ZZ (own_below Cy.o hd2.below)
    have HB3:=ZZ (hbel.trans (hd2.below.mono hsz))
    go_roundw
    case rel=>exact⟨j+1,_,_,_,by go_num,rfl,by omega,by rw[Aj.o];exact Aq.o,Ao.o,K5.o,HB3.o⟩
    case measure=>simp[intOf];omega
  ·have hjn:ks.take j=ks:=zTl (by omega)
   rw[hjn] at HO
   clear hjn hown hkey
   go_wp2_with fail
   go_ret
   exact⟨_,rfl,by rw[Bz.o];exact HO.o,hbel⟩

theorem zlw {x:Int} {l:Zin} {j:Nat} {y:Int} (d:Bool) (h:l[j]? = some y):z0b x (l.drop j) d=(if decide (x≤y)&&!d then [x] else [])++((if y=x then [] else [y])++z0b x (l.drop (j+1)) (d||decide (x≤y))):=by
 obtain⟨hj,rfl⟩:=zGi.1 h
 rw[List.drop_eq_getElem_cons hj]
 rfl

theorem zib (oa:Zoa) (n cap:Nat) (l:Zin) (x:Int) (hn20:n≤33554432) (w:World) (hat:IntsAt w oa n cap l) :
  Calls Tryz.prog 196 #[.slice oa n cap,J Y x] w (z5c w (addI l x)):=by
 have HN:=ZZ hat.len
 have HAT:=ZZ hat
 have hal:=zep l x
 rw[hat.len] at hal
 obtain⟨R,hR⟩:∃ R,addI l x=R:=⟨_,rfl⟩
 rw[hR] at hal ⊢
 have Ad:=ZZ (show z0b x l false=R from hR)
 have AB:=ZZ (OutN.new w)
 clear hat hR
 go_enter Tryz.func196,Tryz.ntmps196
 go_wp2_with fail
 go_loopw [5,6,7] (fun v dv i wr=>∃ (j:Nat) (d:Bool) (oo:Zoa) (m co:Nat) (L:Zin),i=J Y (j:Int)∧dv=.bool d∧v=.slice oo m co∧j≤n∧L++z0b x (l.drop j) d=R∧OutN w wr (.slice oo m co) L) (fun _ _ i _=>n - (intOf i).toNat)
 case atStart=>exact⟨0,false,_,_,_,[],rfl,rfl,rfl,Nat.zero_le _,Ad.o,AB.o⟩
 case round =>
  obtain⟨j,d,oo,m,co,L,rfl,rfl,rfl,hj,hrest,hO⟩:=hrel
  have HO:=ZZ hO
  have hbel:=hO.bel
  have hsz:=hbel.size
  have hLl:L.length≤n+1:=by
   have:=congrArg List.length hrest
   rw[List.length_append] at this
   omega
  clear hO AB
  by_cases hlt:j<n
  ·have j0:(j:Int)<(n:Int):=by omega
   obtain⟨y,b,q,hy,hidx,hb,c0w,hwy⟩:=HAT.o.get Tryz.underlying60 z0f j hlt
   have Je:=ZZ (show ∀ w1,Bw w w1→w1.cell? ⟨b,q,none⟩=some (J Y y) from fun w1 h=>(h.cell hb).trans c0w)
   have c0:=Je.o wr hbel
   clear c0w
   rw[zlw d hy] at hrest
   have A7:=ZZ hrest
   clear hy hrest
   by_cases hxy:x≤y
   ·cases d
    ·by_cases hyx:y=x
     ·have g1:(y != x)=false:=by simp[hyx]
      have HE:=ZZ (show (L++[x])++z0b x (l.drop (j+1)) true=R by rw[← A7.o];simp[hxy,hyx])
      have hown:=HO.o.own
      clear hyx
      go_upto_region 9 with (at_builtin;refine z0t (W:=w) (cs:=#[J Y x]) rfl _ _ 60 rfl (by decide) Tryz.underlying60 z1u rfl rfl hown rfl rfl (by simp[Value.oneCell']) hbel hsz (by unfold maxLen;omega) (by omega) ?_;intro v' w1 how1 hbw1 hsA1;obtain⟨o1,c1,rfl⟩:=zi how1)
      have Bi:=ZZ (OutN.snoc (x:=x) how1 hbw1)
      have c01:=Je.o w1 hbw1
      clear how1 hbw1 hown
      go_wp2_with fail
      go_roundw
      case rel=>exact⟨j+1,true,_,_,_,(L++[x]),by go_num,rfl,rfl,by omega,HE.o,Bi.o⟩
      case measure=>simp[intOf];omega
     ·have g1:(y != x)=true:=by simp[hyx]
      have HE:=ZZ (show (L++[x]++[y])++z0b x (l.drop (j+1)) true=R by rw[← A7.o];simp[hxy,hyx])
      have hown:=HO.o.own
      go_upto_region 9 with (at_builtin;refine z0t (W:=w) (cs:=#[J Y x]) rfl _ _ 60 rfl (by decide) Tryz.underlying60 z1u rfl rfl hown rfl rfl (by simp[Value.oneCell']) hbel hsz (by unfold maxLen;omega) (by omega) ?_;intro v' w1 how1 hbw1 hsA1;obtain⟨o1,c1,rfl⟩:=zi how1)
      have Bi:=ZZ (OutN.snoc (x:=x) how1 hbw1)
      have c01:=Je.o w1 hbw1
      have hown1:=Bi.o.own
      have hbel1:=hbw1
      have hsz1:=hbel1.size
      have hl1:(L++[x]).length≤n+2:=by simp;omega
      clear how1 hbw1 hown
      go_wp2_with (at_builtin;refine z0t (W:=w) (cs:=#[J Y y]) rfl _ _ 60 rfl (by decide) Tryz.underlying60 z1u rfl rfl hown1 rfl rfl (by simp[Value.oneCell']) hbel1 hsz1 (by unfold maxLen;omega) (by omega) ?_;intro v' w2 how2 hbw2 hsw2;obtain⟨o2,c2,rfl⟩:=zi how2)
      have Ag:=ZZ (OutN.snoc (x:=y) how2 hbw2)
      clear how2 hbw2 hown1
      go_roundw
      case rel=>exact⟨j+1,true,_,_,_,(L++[x]++[y]),by go_num,rfl,rfl,by omega,HE.o,(by have h2:=Ag.o;rw[z0p] at h2;exact h2)⟩
      case measure=>simp[intOf];omega
    ·by_cases hyx:y=x
     ·have g1:(y != x)=false:=by simp[hyx]
      have HE:=ZZ (show L++z0b x (l.drop (j+1)) true=R by rw[← A7.o];simp[hxy,hyx])
      clear hyx
      go_wp2_with fail
      go_roundw
      case rel=>exact⟨j+1,true,_,_,_,L,by go_num,rfl,rfl,by omega,HE.o,HO.o⟩
      case measure=>simp[intOf];omega
     ·have g1:(y != x)=true:=by simp[hyx]
      have HE:=ZZ (show (L++[y])++z0b x (l.drop (j+1)) true=R by rw[← A7.o];simp[hxy,hyx])
      have hown:=HO.o.own
      go_wp2_with (at_builtin;refine z0t (W:=w) (cs:=#[J Y y]) rfl _ _ 60 rfl (by decide) Tryz.underlying60 z1u rfl rfl hown rfl rfl (by simp[Value.oneCell']) hbel hsz (by unfold maxLen;omega) (by omega) ?_;intro v' w2 how2 hbw2 hsw2;obtain⟨o2,c2,rfl⟩:=zi how2)
      have Ag:=ZZ (OutN.snoc (x:=y) how2 hbw2)
      clear how2 hbw2 hown
      go_roundw
      case rel=>exact⟨j+1,true,_,_,_,(L++[y]),by go_num,rfl,rfl,by omega,HE.o,Ag.o⟩
      case measure=>simp[intOf];omega
   ·have hyx:¬ y=x:=by omega
    have g1:(y != x)=true:=by simp[hyx]
    have HE:=ZZ (show (L++[y])++z0b x (l.drop (j+1)) d=R by rw[← A7.o];simp[hxy,hyx])
    have hown:=HO.o.own
    go_wp2_with (at_builtin;refine z0t (W:=w) (cs:=#[J Y y]) rfl _ _ 60 rfl (by decide) Tryz.underlying60 z1u rfl rfl hown rfl rfl (by simp[Value.oneCell']) hbel hsz (by unfold maxLen;omega) (by omega) ?_;intro v' w2 how2 hbw2 hsw2;obtain⟨o2,c2,rfl⟩:=zi how2)
    have Ag:=ZZ (OutN.snoc (x:=y) how2 hbw2)
    clear how2 hbw2 hown
    go_roundw
    case rel=>exact⟨j+1,d,_,_,_,(L++[y]),by go_num,rfl,rfl,by omega,HE.o,Ag.o⟩
    case measure=>simp[intOf];omega
  ·have hdr:l.drop j=[]:=List.drop_eq_nil_of_le (by rw[HN.o];omega)
   rw[hdr] at hrest
   have A7:=ZZ hrest
   clear hdr hrest
   cases d
   ·have HE:=ZZ (show L++[x]=R from A7.o)
    have hown:=HO.o.own
    go_wp2_with (at_builtin;refine z0t (W:=w) (cs:=#[J Y x]) rfl _ _ 60 rfl (by decide) Tryz.underlying60 z1u rfl rfl hown rfl rfl (by simp[Value.oneCell']) hbel hsz (by unfold maxLen;omega) (by omega) ?_;intro v' w2 how2 hbw2 hsw2;obtain⟨o2,c2,rfl⟩:=zi how2)
    have Ag:=ZZ (OutN.snoc (x:=x) how2 hbw2)
    clear how2 hbw2 hown
    go_ret
    refine⟨_,rfl,?_,Ag.o.bel⟩
    rw[← HE.o]
    simpa using Ag.o.own
   ·have HE:=ZZ (show L=R by rw[← A7.o];simp[z0b])
    go_wp2_with fail
    go_ret
    refine⟨_,rfl,?_,hbel⟩
    rw[← HE.o]
    exact HO.o.own


theorem zo3:(Tryz.prog.info? 60).map (·.size)=some 1:=by kernel_rfl

theorem zo4:(Tryz.prog.info? 60).map (fun i=>(i.zero,i.size,i.bytes))=some (some (.slice none 0 0),1,24):=by kernel_rfl

structure NumsAt (w:World) (oa:Zoa) (n cap:Nat) (ls:List (Zin)):Prop where
 len:ls.length=n
 room:n≤cap
 most:cap≤maxLen
 at_:∀ (i:Nat) (l:Zin),ls[i]? = some l→∃ b o xa xc,oa=some ⟨b,o,none⟩∧w.cell? ⟨b,o+i,none⟩=some (.slice xa l.length xc)∧IntsAt w xa l.length xc l

theorem NumsAt.below {w w':World} {oa:Zoa} {n cap:Nat} {ls:List (Zin)} (h:NumsAt w oa n cap ls) (hb:Bw w w'):NumsAt w' oa n cap ls :=
 ⟨h.len,h.room,h.most,fun i s hs=>by
  obtain⟨b,o,xa,xc,h1,h2,h3⟩:=h.at_ i s hs
  exact⟨b,o,xa,xc,h1,(hb.cell (zw h2)).trans h2,h3.below hb⟩⟩

theorem NumsAt.get {w:World} {oa:Zoa} {n cap:Nat} {ls:List (Zin)} (h:NumsAt w oa n cap ls) {P:Program} {t e:TypeId} (ht:P.underlying t=some (.slice e)) (hi:(P.info? e).map (·.size)=some 1) (i:Nat) (hin:i<n) :
  ∃ s b q xa xc,ls[i]? = some s∧(∀ wx,(Instr.indexAt t (.slice oa n cap) (J Y (i:Int))).run P wx=.ok (.pointer (some ⟨b,q,none⟩)) wx)∧w.cell? ⟨b,q,none⟩=some (.slice xa s.length xc)∧IntsAt w xa s.length xc s:=by
 obtain⟨s,hs⟩:∃ s,ls[i]? = some s:=⟨_,List.getElem?_eq_getElem (by rw[h.len];exact hin)⟩
 obtain⟨b,o,xa,xc,rfl,h2,h3⟩:=h.at_ i s hs
 refine⟨s,b,o+i,xa,xc,hs,fun wx=>?_,h2,h3⟩
 have:=run_indexAt_slice wx t e 1 ht hi b o n cap i hin
 rwa [Nat.mul_one] at this

structure Ahd (w wr:World) (va:Value) (ls:List (Zin)):Prop where
 rows:∃ vs:Zvs,vs.length=ls.length∧wr.ownsRow w.heap.size 60 1 va ls.length vs∧∀ (i:Nat) (v:Value) (l:Zin),vs[i]? = some v→ls[i]? = some l→∃ base,wr.ownsRow base 3 1 v l.length (l.map z03)∧Aside2 v va∧∀ z∈l,(Lit.int .i64 z).wf=true
 bel:Bw w wr

theorem Ahd.new (w:World):Ahd w (w.alloc (.cells #[] 60)) (.slice (some ⟨w.heap.size,0,none⟩) 0 0) [] :=
 ⟨⟨[],rfl,World.ownsRow_made (w:=w) #[] 0 zLe (by decide) rfl,fun i v l h=>by simp at h⟩,zBa⟩

theorem Ahd.below {w wr w2:World} {va:Value} {ls:List (Zin)} (h:Ahd w wr va ls) (hb:Bw wr w2):Ahd w w2 va ls:=by
 obtain⟨⟨vs,h1,h2,h3⟩,h4⟩:=h
 exact⟨⟨vs,h1,own_below h2 hb,fun i v l hv hl=>by
  obtain⟨base,k1,k2,k3⟩:=h3 i v l hv hl
  exact⟨base,own_below k1 hb,k2,k3⟩⟩,zTr h4 hb⟩

theorem Ahd.own {w wr:World} {va:Value} {ls:List (Zin)} (h:Ahd w wr va ls):∃ vs,wr.ownsRow w.heap.size 60 1 va ls.length vs:=by
 obtain⟨⟨vs,_,h2,_⟩,_⟩:=h
 exact⟨vs,h2⟩

theorem zes {W0:World} {ops:Array Oper} {rest:List Oper} {o:Oper} {a:Act} {Q:Exit→Act→World→Prop} (hgd:o.guard=none) (s x:Operand)
  (ho:o.op=.call { callee:=.builtin .append,args:=#[s,x],argTypes:=#[224,224] })
  {w:World} {va:Value} {ls:List (Zin)} (h:Ahd w W0 va ls) {l:Zin} {v:Value} {base:Nat} (hv:W0.ownsRow base 3 1 v l.length (l.map z03)) (hap:Aside2 v va) (hwf:∀ z∈l,(Lit.int .i64 z).wf=true)
  (hs:a.eval s=va) (hx:a.eval x=.slice (some ⟨W0.heap.size,0,none⟩) 1 1) (hl:ls.length+1≤100000000)
  (hK:∀ va' w',Ahd w w' va' (ls++[l])→wpList Tryz.prog ops Q rest (a.put o.dst va') w'):wpList Tryz.prog ops Q (o::rest) a (W0.alloc (.cells #[v] 60)):=by
 obtain⟨⟨vs,h1,h2,h3⟩,h4⟩:=h
 have hone:v.oneCell'=true:=by
  obtain⟨oa,cap,rfl⟩:=zi hv
  rfl
 refine z1n (cs:=#[v]) hgd s x 224 ho (by decide) Tryz.underlying224 zo4 rfl hs h2 hx rfl (by simpa using hone) h4.size (by unfold maxLen;omega) (by omega) ?_
 intro va' w' hown hg hloc
 refine hK va' w' ⟨⟨vs++[v],by simp[h1],by rw[z0p];exact hown,fun i v' l' hv' hl'=>?_⟩,z5q h4 h4.size h2 zLe hg⟩
 rcases Nat.lt_or_ge i ls.length with hi|hi
 ·rw[List.getElem?_append_left (by omega)] at hv' hl'
  obtain⟨base',k1,k2,k3⟩:=h3 i v' l' hv' hl'
  obtain⟨b1,b2⟩:=beside k1 k2 hg hloc
  exact⟨base',b1,b2,k3⟩
 ·have hie:i=ls.length:=by
   have:=(zGi.1 hl').1
   simp at this
   omega
  subst hie
  rw[List.getElem?_append_right zLe] at hl'
  rw[← h1,List.getElem?_append_right zLe] at hv'
  simp at hl' hv'
  subst hl'
  subst hv'
  obtain⟨b1,b2⟩:=beside hv hap hg hloc
  exact⟨base,b1,b2,hwf⟩

theorem Ahd.view {w wr:World} {va:Value} {ls:List (Zin)} (h:Ahd w wr va ls):∃ oa cap,va=.slice oa ls.length cap∧NumsAt wr oa ls.length cap ls:=by
 obtain⟨⟨vs,h1,h2,h3⟩,h4⟩:=h
 rcases h2.2 with ⟨rfl,hn⟩|⟨g,cap,cur,rfl,hb,hg,hnc,hcm,hcs,htake⟩
 ·have hls:ls=[]:=List.eq_nil_of_length_eq_zero hn
  subst hls
  exact⟨none,0,rfl,⟨rfl,Nat.le_refl _,by unfold maxLen;omega,fun i f hf=>by simp at hf⟩⟩
 ·refine⟨some ⟨g,0,none⟩,cap,rfl,⟨rfl,hnc,hcm,fun i l hl=>?_⟩⟩
  have hi:i<ls.length:=(zGi.1 hl).1
  obtain⟨v,hv⟩:∃ v,vs[i]? = some v:=⟨_,List.getElem?_eq_getElem (by omega)⟩
  obtain⟨base,k1,k2,k3⟩:=h3 i v l hv hl
  obtain⟨xa,xc,rfl,hia⟩:=z0d k1 k3
  refine⟨g,0,xa,xc,rfl,?_,hia⟩
  rw[Nat.zero_add,h2.cellAt i (by omega)]
  exact hv

theorem zjv {es:List EvV} {ids L:Zin} {j:Nat} {z:Int} (h:ids[j]? = some z):P15.leftOf es (ids.drop j) L=P15.leftOf es (ids.drop (j+1)) (if (zf es z).isSome then addI L z else L):=by
 obtain⟨hj,rfl⟩:=zGi.1 h
 rw[List.drop_eq_getElem_cons hj]
 rfl

theorem zne {L:Zin} {z:Int} (h:∀ y∈L,(Lit.int .i64 y).wf=true) (hz:(Lit.int .i64 z).wf=true):∀ y∈addI L z,(Lit.int .i64 y).wf=true:=fun y hy=>by
 rcases addI_mem.1 hy with hy|hy
 ·exact h y hy
 ·subst hy;exact hz

def z1d (ss:List St) (ks:Zin):St:=(ks.filter (alike ss)).map (fun k=>(k,stAt (ss.headD []) k))

theorem zdt {ss:List St} {ks:Zin} {j:Nat} {z:Int} (h:ks[j]? = some z):z1d ss (ks.take (j+1))=z1d ss (ks.take j)++(if alike ss z then [(z,stAt (ss.headD []) z)] else []):=by
 unfold z1d
 rw[zab h,List.map_append]
 split<;>simp

theorem zcc (oa:Zoa) (n cap:Nat) (ss:List St) (w:World) (hat:StsAt w oa n cap ss) :
  Calls Tryz.prog 162 #[.slice oa n cap] w (z5e w (agreed ss)):=by
 have hb0:=(Below.refl w.heap.size w).alloc zLe (.cells #[] 79)
 have HK:=ZZ (zae oa n cap ss _ (hat.below hb0))
 have AU:=ZZ (fun k w hat=>z9n oa n cap ss k w hat)
 have HAT:=ZZ hat
 have HB0:=ZZ hb0
 have AB:=ZZ (World.ownsRow_made (w:=w) (e:=79) (size:=2) #[] 0 zLe (by decide) rfl)
 have hsm:=z4k ss
 have Bv:=ZZ (zcb ss)
 have GL:=ZZ (fun z (hz:z∈keysOf ss)=>z5f hz)
 obtain⟨ks,hks⟩:∃ ks,keysOf ss=ks:=⟨_,rfl⟩
 have Bz:=ZZ (show agreed ss=z1d ss ks by rw[← hks];rfl)
 rw[hks] at HK hsm Bv GL
 clear hat hb0 hks
 go_enter Tryz.func162,Tryz.ntmps162
 go_wp2_with fail
 refine HK.o.mono ?_
 rintro e w1 ⟨v1,rfl,ho1,hb1⟩
 obtain⟨o1,c1,rfl⟩:=zi ho1
 have BV:=ZZ ho1
 have BA:=ZZ (own_below AB.o hb1)
 have HB1:=ZZ (zTr HB0.o hb1)
 clear ho1 hb1 AB HK
 go_wp2_with fail
 go_loopw [3,5] (fun v x wr=>∃ (j:Nat) (oo:Zoa) (m co:Nat),x=J Y (j:Int)∧v=.slice oo m co∧j≤ks.length∧wr.ownsRow w.heap.size 79 2 (.slice oo m co) (z1d ss (ks.take j)).length ((z1d ss (ks.take j)).flatMap z02)∧wr.ownsRow (w.alloc (.cells #[] 79)).heap.size 3 1 (.slice o1 ks.length c1) ks.length (ks.map z03)∧Bw w wr) (fun _ x _=>ks.length - (intOf x).toNat)
 case atStart=>exact⟨0,_,_,_,rfl,rfl,Nat.zero_le _,BA.o,BV.o,HB1.o⟩
 case round =>
  obtain⟨j,oo,m,co,rfl,rfl,hj,hown,hkey,hbel⟩:=hrel
  have HO:=ZZ hown
  have Cy:=ZZ hkey
  have hsz:=hbel.size
  clear BA BV HB1
  by_cases hlt:j<ks.length
  ·have j0:(j:Int)<(ks.length:Int):=by omega
   obtain⟨_,_,he,hki⟩:=z0d hkey Bv.o
   cases he
   obtain⟨z,b,q,hz,hidx,hb,c0,hwz⟩:=hki.get Tryz.underlying60 z0f j hlt
   have HF:=ZZ (zdt (ss:=ss) hz)
   have hfl:(z1d ss (ks.take j)).length≤16:=by
    unfold z1d
    rw[List.length_map]
    exact zNt (List.length_filter_le _ _) (by rw[List.length_take];omega)
   have HL:=ZZ (AU.o z wr (HAT.o.below hbel))
   have hhas:=(GL.o z (zMg hz)).2.2
   clear hz hki hkey
   cases hA:alike ss z
   ·rw[hA] at HL HF
    have Aj:=ZZ (show z1d ss (ks.take (j+1))=z1d ss (ks.take j) from by rw[HF.o];simp)
    clear hown
    go_wp2_with (go_at_call 195;refine HL.o.mono ?_;rintro e w2 ⟨rfl,hd2⟩)
    have Aq:=ZZ (own_below HO.o hd2.below)
    have Ao:=ZZ (own_below Cy.o hd2.below)
    have HB3:=ZZ (hbel.trans (hd2.below.mono hsz))
    go_roundw
    case rel=>exact⟨j+1,_,_,_,by go_num,rfl,by omega,by rw[Aj.o];exact Aq.o,Ao.o,HB3.o⟩
    case measure=>simp[intOf];omega
   ·rw[hA] at HL HF
    have hn0:0<n:=by
     rw[← HAT.o.len]
     cases ss with
     | nil=>simp[z4r] at hhas
     | cons a r=>simp
    obtain⟨s0,b0,q0,xa0,xc0,hs0,hidx0,hc0,hits0⟩:=(HAT.o.below hbel).get Tryz.underlying30 z5l 0 hn0
    have hidx0':∀ wx,(Instr.indexAt 30 (.slice oa n cap) (J Y 0)).run Tryz.prog wx=.ok (.pointer (some ⟨b0,q0,none⟩)) wx:=hidx0
    have Aj:=ZZ (show z1d ss (ks.take (j+1))=z1d ss (ks.take j)++[(z,stAt s0 z)] from by rw[HF.o,zhf hs0];simp)
    have EU:=ZZ (fun wx (hb:Bw wr wx)=>z2u xa0 s0.length xc0 s0 z wx (hits0.below hb))
    generalize stAt s0 z=x0 at Aj EU
    have hlt0:=zw hc0
    clear hs0 hits0 hidx0 HF
    obtain⟨L,hL⟩:∃ L,z1d ss (ks.take j)=L:=⟨_,rfl⟩
    rw[hL] at Aj HO hfl hown
    clear hL
    go_upto_region 7 with (go_at_call 195;refine HL.o.mono ?_;rintro e w2 ⟨rfl,hd2⟩;have hO2:=own_below hown hd2.below;have hK2:=own_below Cy.o hd2.below;have hB2:=hbel.trans (hd2.below.mono hsz);have hsz2:=hB2.size;have c02:=(hd2.below.cell hb).trans c0;have c00:=(hd2.below.cell hlt0).trans hc0;have hb2:=zLt hb hd2.below.size;have Ag:=ZZ hO2;have Dy:=ZZ hK2;clear hO2 hK2 hown)
    go_region_law (first
     | (refine zi1 (by rfl) _ _ 74 (by rfl) Tryz.underlying74 z5d (by rfl) (cs:=#[J Y z,J Y x0]) (by rfl) ((own_below Ag.o zBr.drew).alloc _) (by rfl) (by rfl) (by exact heap_alloc_new _ _) (by simp[Value.oneCell']) (by simp;omega) (by unfold maxLen;omega) (by omega) ?_;intro v' w3 hown3 hg3;obtain⟨o3,c3,rfl⟩:=zi hown3)
     | (rw[if_pos (by rfl)];go_simp;go_at_call 124;refine (EU.o _ (hd2.below.trans ((Below.refl w2.heap.size w2).drew.mono hd2.below.size))).mono ?_;rintro e w4 ⟨rfl,rfl⟩))
    all_goals
     have hko:=zcu ((own_below Dy.o zBr.drew).alloc (.cells #[J Y z,J Y x0] 79)) ((own_below Ag.o zBr.drew).alloc (.cells #[J Y z,J Y x0] 79)) (by decide) hg3
     have hB3:=z5q (hB2.trans ((Below.refl w2.heap.size w2).drew.mono hsz2)) hsz2 (own_below Ag.o zBr.drew) zLe hg3
     have Aq:=ZZ (show w3.ownsRow w.heap.size 79 2 (.slice o3 (L.length+1) c3) (z1d ss (ks.take (j+1))).length ((z1d ss (ks.take (j+1))).flatMap z02) by rw[Aj.o,z0p,List.flatMap_append];simpa [z02] using hown3)
     have Ao:=ZZ hko
     have HB3:=ZZ hB3
     clear hko hB3 hown3 hg3
     go_wp2_with fail
     go_roundw
     case rel=>exact⟨j+1,_,_,_,by go_num,rfl,by omega,Aq.o,Ao.o,HB3.o⟩
     case measure=>simp[intOf];omega
  ·have hjn:ks.take j=ks:=zTl (by omega)
   rw[hjn] at HO
   clear hjn hown hkey
   go_wp2_with fail
   go_ret
   exact⟨_,rfl,by rw[Bz.o];exact HO.o,hbel⟩

end Go.Proofs.YtfeebdcmlnapiaaGreat
