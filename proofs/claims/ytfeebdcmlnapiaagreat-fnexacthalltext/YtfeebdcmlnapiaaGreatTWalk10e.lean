/-
  Walks.
-/
import Derived.Test.YtfeebdcmlnapiaaGreatTWalk10a
import Derived.Test.YtfeebdcmlnapiaaGreatTWalk10d
import Derived.Test.YtfeebdcmlnapiaaGreatTIterI
import Derived.Test.YtfeebdcmlnapiaaGreatTEv3
import Derived.Lib.SlKeysI
set_option linter.unusedVariables false
set_option linter.unusedSimpArgs false
namespace Go.Proofs.YtfeebdcmlnapiaaGreat
open Go.RowKit P1 P5 P9 P11 P12 P14 K

set_option maxRecDepth 100000 in
theorem z8i (oa:Option Addr) (n cap:Nat) (s:List (Int × Int)) (hn20:n≤1048576) (w:World) (hat:ItemsAt w oa n cap s) :
  Calls Tryz.prog 142 #[.slice oa n cap] w (z5e w s):=by
 have hn:=hat.len
 have HN:=hide hn
 cases oa with
 | none =>
  obtain⟨rfl,rfl⟩:=zb8 hat
  have hq:∀ w:World,(binOp .eql 74 (.slice none 0 cap) (.slice none 0 0)).run Tryz.prog w=.ok (.bool true) w:=fun w=>Lib.run_eql_slice_nil w _ _ none 0 cap 0 0 Tryz.underlying74
  clear hat hn
  go_enter Tryz.func142,Tryz.ntmps142
  go_wp2_with fail
  go_ret
  exact⟨_,rfl,World.ownsRow_nil _ _ _ _,Below.refl _ _⟩
 | some ad =>
  have HB:=hide ((Below.refl w.heap.size w).alloc (Nat.le_refl _) (.cells #[] 79))
  have HA:=hide (hat.below HB.out)
  have HO:=hide (World.ownsRow_made (w:=w) (e:=79) (size:=2) #[] 0 (Nat.le_refl _) (by decide) rfl)
  have hq:∀ w:World,(binOp .eql 74 (.slice (some ad) n cap) (.slice none 0 0)).run Tryz.prog w=.ok (.bool false) w:=fun w=>Lib.run_eql_slice_nil w _ _ (some ad) n cap 0 0 Tryz.underlying74
  clear hat hn
  go_enter Tryz.func142,Tryz.ntmps142
  go_wp2_with (at_builtin;refine z2p rfl _ _ rfl rfl HO.out rfl HA.out (by simp) (by unfold maxLen;omega) (by omega) ?_;intro v4 w4 ho4 hg4;rw[Nat.zero_add] at ho4;obtain⟨ov4,cv4,rfl⟩:=zi ho4;have Bg:=hide ho4;have ER:=hide hg4;clear ho4 hg4)
  go_ret
  refine⟨_,rfl,?_,HB.out.grown ER.out (by simp) (fun q hq=>by cases hq;exact Nat.le_refl _)⟩
  rw[HN.out]
  simpa using Bg.out

theorem zcd:∀ {s:List (Int × Int)} {p:Option Int},zt p s=true→(s.map (·.1)).Pairwise (·<·)
 | [],_,_=>List.Pairwise.nil
 | x::r,p,h=>by
  simp only[zt,Bool.and_eq_true] at h
  rw[List.map_cons]
  refine List.Pairwise.cons (fun y hy=>?_) (zcd h.2)
  obtain⟨z,hz,rfl⟩:=List.mem_map.1 hy
  simpa [after] using z3h h.2 z hz

theorem zaf:∀ {s:List (Int × Int)} {k:Int},(zm s k).isSome=true↔k∈s.map (·.1)
 | [],k=>by simp[zm]
 | x::r,k=>by
  unfold zm
  split
  ·rename_i e
   simp[e]
  ·rename_i e
   rw[zaf,List.map_cons,List.mem_cons]
   exact⟨.inr,fun h=>h.resolve_left (fun h=>e h.symm)⟩

theorem z9o:∀ {s:List (Int × Int)} {p:Option Int} {j:Nat} {x:Int × Int},zt p s=true→s[j]? = some x→zm s x.1=some x.2
 | y::r,p,0,x,h,hx=>by
  simp only[List.getElem?_cons_zero,Option.some.injEq] at hx
  subst hx
  simp[zm]
 | y::r,p,j+1,x,h,hx=>by
  simp only[List.getElem?_cons_succ] at hx
  simp only[zt,Bool.and_eq_true] at h
  have hlt:y.1<x.1:=by simpa [after] using z3h h.2 x (List.mem_of_getElem? hx)
  unfold zm
  rw[if_neg (by omega)]
  exact z9o h.2 hx

theorem zif {w:World} {b m:Nat} {s:List (Int × Int)} {D:DataW Unit} (h:IdTab w b (zm s) m D) (hs:zt none s=true) {ks:List Int} (hk:ks.Perm (intKeys D)):ks.mergeSort (fun x y=>decide (x≤y))=s.map (·.1):=by
 have hc:CollectedI D (fun _=>false) (s.map (·.1)):=by
  refine⟨(zcd hs).imp (fun h=>by omega),fun x=>?_⟩
  rw[← zaf]
  cases hf:zm s x with
  | none=>rw[h.no x hf];simp
  | some i=>rw[(h.yes x i hf).1];simp
 have hp:=hc.perm h.own (Maps.int_keyed Tryz.underlying3) Tryz.underlying3 (fun _=>rfl)
 have e1:ks.mergeSort (fun x y=>decide (x≤y))=(s.map (·.1)).mergeSort (fun x y=>decide (x≤y)):=mergeSort_of_perm_i (hk.trans hp.symm)
 rw[e1]
 refine List.mergeSort_of_pairwise ((zcd hs).imp (fun h=>?_))
 simp only[decide_eq_true_eq]
 omega

theorem zih {s:List (Int × Int)} {j:Nat} {x:Int × Int} (h:s[j]? = some x):(s.take (j+1)).flatMap z02=(s.take j).flatMap z02++[.int .i64 x.1,.int .i64 x.2]:=by
 rw[List.take_add_one,h,List.flatMap_append]
 simp[z02]

theorem z4s (x:Int × Int) (r:List (Int × Int)) (k:Int):zm (x::r) k=if x.1=k then some x.2 else zm r k:=rfl

theorem zbe:∀ {s:List (Int × Int)} {p:Option Int} {k i:Int},zt p s=true→zm (z2r s k i)=updI (zm s) k (some i)
 | [],p,k,i,_=>by
  funext x
  show (if k=x then some i else none)=(if x=k then some i else none)
  by_cases e:x=k
  ·rw[if_pos e.symm,if_pos e]
  ·rw[if_neg (fun h=>e h.symm),if_neg e]
 | y::r,p,k,i,h=>by
  simp only[zt,Bool.and_eq_true] at h
  have ih:=zbe (k:=k) (i:=i) h.2
  funext x
  have e0:z2r (y::r) k i=if y.1<k then y::z2r r k i else if y.1=k then (k,i)::r else (k,i)::y::r:=rfl
  rw[e0]
  unfold updI
  by_cases h1:y.1<k
  ·rw[if_pos h1,z4s,z4s,ih]
   unfold updI
   by_cases e1:y.1=x
   ·rw[if_pos e1,if_neg (by omega),if_pos e1]
   ·rw[if_neg e1,if_neg e1]
  ·rw[if_neg h1]
   by_cases h2:y.1=k
   ·rw[if_pos h2,z4s,z4s]
    by_cases e:x=k
    ·rw[if_pos e.symm,if_pos e]
    ·rw[if_neg (fun h=>e h.symm),if_neg e,if_neg (by omega)]
   ·rw[if_neg h2,z4s]
    by_cases e:x=k
    ·rw[if_pos e.symm,if_pos e]
    ·rw[if_neg (fun h=>e h.symm),if_neg e]

set_option maxHeartbeats 4000000 in
theorem zew (s:List (Int × Int)) (hs:zt none s=true) (w:World) (b m:Nat) (D:DataW Unit) (hT:IdTab w b (zm s) m D) (hm:m≤1048576) :
  Calls Tryz.prog 144 #[.map (some b)] w (z5e w s):=by
 have h8:=z4g hs
 have hbl:=hT.lt
 have hb0:=(Below.refl w.heap.size w).alloc (Nat.le_refl _) (.cells #[] 79)
 have hT0:=hT.below hb0
 have Cr:=hide hT
 have HT0:=hide hT0
 have HB0:=hide hb0
 have AB:=hide (World.ownsRow_made (w:=w) (e:=79) (size:=2) #[] 0 (Nat.le_refl _) (by decide) rfl)
 have hsort:=Tryz.sortedKeysI184 b m D (plainElem Tryz.prog 3) _ hT0.own (by rw[hT0.size];unfold maxLen;omega) (by rw[hT0.size];omega)
 simp only[World.size_alloc] at hsort
 have CZ:=hide hsort
 have HS:=hide hs
 clear hb0 hT0 hT hsort hs
 go_enter Tryz.func144,Tryz.ntmps144
 go_wp2_with fail
 refine (callsIn_wide.1 (Tryz.mapsKeysI184 _ _)).mono ?_
 rintro e w1 ⟨rfl,rfl⟩
 go_wp2_with fail
 refine (callsIn_wide.1 CZ.out).mono ?_
 rintro e w2 ⟨v,ss,rfl,hperm,hkeys,hb2⟩
 have hsn:=zif HT0.out HS.out hperm
 have hnl:ss.length=s.length:=by
  have h1:=congrArg List.length hsn
  simpa using h1
 rw[hsn,hnl] at hkeys
 obtain⟨oa,cap,rfl,hk⟩:=z0d (zs:=s.map (·.1)) hkeys (fun z hz=>by
  obtain⟨x,hx,rfl⟩:=List.mem_map.1 hz
  have:=z1x (stFrom_mem HS.out x hx).1
  exact z3o (by omega) (by omega))
 have HK:=hide hk
 have hs2:w.heap.size+2≤w2.heap.size:=by have:=hb2.size;simp at this;omega
 have hB1:Below w.heap.size w ((w.alloc (.cells #[] 79)).alloc (.cells #[.map (some b)] 180)):=HB0.out.alloc (by simp) _
 have hB2:Below w.heap.size w w2:=hB1.trans (hb2.mono (by omega))
 have Ag:=hide (own_below (AB.out.alloc (.cells #[.map (some b)] 180)) (by simpa using hb2))
 have HB2:=hide hB2
 have HT2:=hide (Cr.out.below hB2)
 have K7:=hide hkeys
 clear hkeys hk hb2 hB1 hB2 hsn hperm AB CZ HT0
 go_wp2_with fail
 go_loopw [3,11] (fun v x wr=>∃ (j:Nat) (oo:Option Addr) (m2 co:Nat),x=.int .i64 (j:Int)∧v=.slice oo m2 co∧j≤s.length∧wr.ownsRow w.heap.size 79 2 (.slice oo m2 co) j ((s.take j).flatMap z02)∧wr.ownsRow (w.heap.size+1+1) 3 1 (.slice oa s.length cap) s.length ((s.map (·.1)).map z03)∧IdTab wr b (zm s) m D∧Below w.heap.size w wr) (fun _ x _=>s.length - (intOf x).toNat)
 case atStart=>exact⟨0,_,_,_,rfl,rfl,Nat.zero_le _,Ag.out,K7.out,HT2.out,HB2.out⟩
 case round =>
  obtain⟨j,oo,m2,co,rfl,rfl,hj,hown,hkr,hTr,hbel⟩:=hrel
  have HO:=hide hown
  have KO:=hide hkr
  have Bu:=hide hTr
  have hsz:=hbel.size
  clear Ag K7 HT2 HB2
  by_cases hlt:j<s.length
  ·have j0:(j:Int)<(s.length:Int):=by omega
   obtain⟨_,_,hek,hki⟩:=z0d hkr (fun z hz=>by
    obtain⟨x,hx,rfl⟩:=List.mem_map.1 hz
    have:=z1x (stFrom_mem HS.out x hx).1
    exact z3o (by omega) (by omega))
   cases hek
   obtain⟨z,b1,q,hz,hidx,hb,c0,hwz⟩:=hki.get Tryz.underlying60 z0f j hlt
   obtain⟨x,hx⟩:∃ x,s[j]? = some x:=⟨_,List.getElem?_eq_getElem hlt⟩
   have hzx:z=x.1:=by
    rw[List.getElem?_map,hx] at hz
    exact (Option.some.inj hz).symm
   subst hzx
   have hlk:=hTr.get hwz
   rw[z9o HS.out hx] at hlk
   simp only[Option.getD_some] at hlk
   have HX:=hide hx
   clear hki hkr hTr hz hx
   go_wp2_with (at_builtin;refine zek (cs:=#[.int .i64 x.1,.int .i64 x.2]) rfl _ _ 74 rfl (by decide) Tryz.underlying74 z5d rfl rfl hown rfl rfl (by simp[Value.oneCell']) hsz (by unfold maxLen;omega) (by omega) ?_;intro v' w1 hown1 hg1;obtain⟨o2,c2,rfl⟩:=zi hown1)
   have K8:=hide (HO.out.alloc (.cells #[.int .i64 x.1,.int .i64 x.2] 79))
   have BV:=hide (zcu (KO.out.alloc (.cells #[.int .i64 x.1,.int .i64 x.2] 79)) K8.out (by decide) hg1)
   have hTa:=Bu.out.below ((Below.refl wr.heap.size wr).alloc (Nat.le_refl _) (.cells #[.int .i64 x.1,.int .i64 x.2] 79))
   have HT1:=hide (hTa.kept hg1 (z2i hTa.own K8.out))
   have HB1:=hide ((hbel.alloc hsz (.cells #[.int .i64 x.1,.int .i64 x.2] 79)).grown hg1 (by simp;omega) (fun q hq=>(HO.out.lt q hq).1))
   have Bi:=hide (show w1.ownsRow w.heap.size 79 2 (.slice o2 (j+1) c2) (j+1) ((s.take (j+1)).flatMap z02) by rw[zih HX.out];exact hown1)
   clear hTa hg1 hown1 hown hlk
   go_wp2_with fail
   go_roundw
   case rel=>exact⟨j+1,_,_,_,by go_num,rfl,by omega,Bi.out,BV.out,HT1.out,HB1.out⟩
   case measure=>simp[intOf];omega
  ·have hjn:j=s.length:=by omega
   have HE:=hide (show (s.take j)=s by rw[hjn,List.take_length])
   have HJ:=hide hjn
   clear hown hkr hTr hjn
   go_wp2_with fail
   go_ret
   refine⟨_,rfl,?_,hbel⟩
   have:=HO.out
   rw[HE.out] at this
   rw[← HJ.out]
   exact this

set_option maxHeartbeats 4000000 in
theorem zah (oa:Option Addr) (n cap:Nat) (s:List (Int × Int)) (k i:Int) (hn20:n≤1048576) (hk:(Lit.int .i64 k).wf=true) (hi:(Lit.int .i64 i).wf=true) (w:World) (hat:ItemsAt w oa n cap s) (hws:∀ y∈s,z3d y) :
  Calls Tryz.prog 85 #[.slice oa n cap,.int .i64 k,.int .i64 i] w (z5e w (z0n s k i)):=by
 have hB1:=(Below.refl w.heap.size w).alloc (Nat.le_refl _) (.cells #[.int .i64 k,.int .i64 i] 79)
 have HB1:=hide hB1
 have HA1:=hide (hat.below hB1)
 have HAT:=hide hat
 have Dx:=hide hws
 have AX:=hide (fun w hat=>zb7 oa n cap s w hat)
 have HR:=hide (fun w=>z9b (k,i) w)
 have HP:=hide (z8w s k i)
 have Bz:=hide (fun w hat=>z8i oa n cap s hn20 w hat)
 have Cy:=hide (fun w hat=>z4j oa n cap s hn20 w hat hws)
 have Ab:=hide (show stOk s=stOk s from rfl)
 clear hB1 hat hws
 obtain⟨r1,hr1⟩:∃ r1,stOk s=r1:=⟨_,rfl⟩
 obtain⟨r2,hr2⟩:∃ r2,(z0z k&&inR i 1 1000000)=r2:=⟨_,rfl⟩
 simp only[ival] at HR
 rw[hr1] at AX
 rw[hr2] at HR
 rw[hr1,hr2] at HP
 have HR1:=hide hr1
 have HR2:=hide hr2
 clear hr1 hr2 Ab
 cases r1 with
 | false =>
  have HT:=hide (show z0n s k i=s by rw[HP.out];rfl)
  clear HP HR Cy
  go_enter Tryz.func85,Tryz.ntmps85
  go_wp2_with fail
  refine (AX.out _ HA1.out).mono ?_
  rintro e w2 ⟨rfl,hb2⟩
  have HB2:=hide (HB1.out.trans (hb2.mono (by simp)))
  clear hb2
  go_wp2_with fail
  refine (Bz.out _ (HAT.out.below HB2.out)).mono ?_
  rintro e w3 ⟨v3,rfl,ho3,hb3⟩
  obtain⟨o3,c3,rfl⟩:=zi ho3
  have Aq:=hide (zu ho3 HB2.out.size)
  have HB3:=hide (HB2.out.trans (hb3.mono HB2.out.size))
  clear ho3 hb3
  go_wp2_with fail
  go_ret
  exact⟨_,rfl,by rw[HT.out];exact Aq.out,HB3.out⟩
 | true =>
  cases r2 with
  | false =>
   have HT:=hide (show z0n s k i=s by rw[HP.out];rfl)
   clear HP Cy
   go_enter Tryz.func85,Tryz.ntmps85
   go_wp2_with fail
   refine (AX.out _ HA1.out).mono ?_
   rintro e w2 ⟨rfl,hb2⟩
   have HB2:=hide (HB1.out.trans (hb2.mono (by simp)))
   have c0:=(hb2.cell (p:=⟨w.heap.size,0,none⟩) (by simp)).trans (show _=some (.int .i64 k) by simp)
   have c1:=(hb2.cell (p:=⟨w.heap.size,1,none⟩) (by simp)).trans (show _=some (.int .i64 i) by simp)
   clear hb2
   go_wp2_with fail
   refine (HR.out _).mono ?_
   rintro e w25 ⟨rfl,hb25⟩
   have BC:=hide (HB2.out.trans (hb25.mono HB2.out.size))
   clear hb25 c0 c1
   go_wp2_with fail
   refine (Bz.out _ (HAT.out.below BC.out)).mono ?_
   rintro e w3 ⟨v3,rfl,ho3,hb3⟩
   obtain⟨o3,c3,rfl⟩:=zi ho3
   have Aq:=hide (zu ho3 BC.out.size)
   have HB3:=hide (BC.out.trans (hb3.mono BC.out.size))
   clear ho3 hb3
   go_wp2_with fail
   go_ret
   exact⟨_,rfl,by rw[HT.out];exact Aq.out,HB3.out⟩
  | true =>
   have HT:=hide (show z0n s k i=z2r s k i by rw[HP.out];rfl)
   have hsF:zt none s=true:=by rw[← z1g];exact HR1.out
   have hk2:=HR2.out
   simp only[Bool.and_eq_true] at hk2
   have Ji:=hide (z8v hsF hk2.1 hk2.2 rfl)
   have Ce:=hide (zbe (i:=i) (k:=k) hsF)
   have h8:=z4g hsF
   have LX:=hide hsF
   clear HP Bz hsF hk2
   have hkey:=keyI hk
   have hval:=plainElem_int (H:=Unit) Tryz.underlying3 hi
   go_enter Tryz.func85,Tryz.ntmps85
   go_wp2_with fail
   refine (AX.out _ HA1.out).mono ?_
   rintro e w2 ⟨rfl,hb2⟩
   have HB2:=hide (HB1.out.trans (hb2.mono (by simp)))
   have c0:=(hb2.cell (p:=⟨w.heap.size,0,none⟩) (by simp)).trans (show _=some (.int .i64 k) by simp)
   have c1:=(hb2.cell (p:=⟨w.heap.size,1,none⟩) (by simp)).trans (show _=some (.int .i64 i) by simp)
   clear hb2
   go_wp2_with fail
   refine (HR.out _).mono ?_
   rintro e w25 ⟨rfl,hb25⟩
   have BC:=hide (HB2.out.trans (hb25.mono HB2.out.size))
   clear hb25 c0 c1
   go_wp2_with fail
   refine (Cy.out _ (HAT.out.below BC.out)).mono ?_
   rintro e w3 ⟨rfl,⟨D,m,hm,hT⟩,hb3⟩
   have HB3:=hide (BC.out.trans (hb3.mono BC.out.size))
   have hown1:=hT.own
   have Cr:=hide hT
   have hge:=BC.out.size
   clear hb3 hT
   go_wp2_with (at_mapUpdate;refine wpList_mapUpdate_in _ rfl _ _ _ 180 rfl 3 3 (Maps.int_keyed Tryz.underlying3) Tryz.underlying180 (plainElem Tryz.prog 3) w25.heap.size m D rfl hown1 (by unfold maxLen;omega) _ _ (.int .i64 k) rfl rfl hkey (numD i) [] hval ?_;intro w4 hown2 hturn2)
   have h3:=Cr.out.store hk hi hown2
   rw[← Ce.out] at h3
   have HT3:=hide h3
   have AC:=hide (HB3.out.trans (z9k hturn2 hge HB3.out.size))
   clear hown2 hown1 h3 hturn2
   go_wp2_with fail
   refine (zew _ Ji.out _ _ _ _ HT3.out (by split<;>omega)).mono ?_
   rintro e w5 ⟨v5,rfl,ho5,hb5⟩
   obtain⟨o5,c5,rfl⟩:=zi ho5
   have Ez:=hide (zu ho5 AC.out.size)
   have BQ:=hide (AC.out.trans (hb5.mono AC.out.size))
   clear ho5 hb5
   go_wp2_with fail
   go_ret
   exact⟨_,rfl,by rw[HT.out];exact Ez.out,BQ.out⟩

end Go.Proofs.YtfeebdcmlnapiaaGreat
