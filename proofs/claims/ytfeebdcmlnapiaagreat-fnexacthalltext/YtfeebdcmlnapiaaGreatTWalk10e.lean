/-
  Walks.
-/
import Derived.Test.YtfeebdcmlnapiaaGreatTWalk10d
import Derived.Test.YtfeebdcmlnapiaaGreatTIterI
import Derived.Test.YtfeebdcmlnapiaaGreatTEv3
set_option maxRecDepth 100000
set_option maxHeartbeats 4000000
set_option linter.unusedVariables false
set_option linter.unusedSimpArgs false
namespace Go.Proofs.YtfeebdcmlnapiaaGreat
open Go.RowKit P1 P5 P9 P11 P12 P14 K
theorem z8i (oa:Zoa) (n cap:Nat) (s:Zii) (hn20:n≤1048576) (w:World) (hat:ItemsAt w oa n cap s) :
  Calls Tryz.prog 142 #[.slice oa n cap] w (z5e w s):=by
 have hn:=hat.len
 have HN:=ZZ hn
 cases oa with
 | none =>
  obtain⟨rfl,rfl⟩:=zb8 hat
  have hq:∀ w:World,(binOp .eql 74 (.slice none 0 cap) (.slice none 0 0)).run Tryz.prog w=.ok (.bool true) w:=fun w=>Lib.run_eql_slice_nil w _ _ none 0 cap 0 0 Tryz.underlying74
  clear hat hn
  go_enter Tryz.func142,Tryz.ntmps142
  go_wp2_with fail
  go_ret
  exact⟨_,rfl,World.ownsRow_nil _ _ _ _,zBr⟩
 | some ad =>
  have HB:=ZZ ((Below.refl w.heap.size w).alloc zLe (.cells #[] 79))
  have HA:=ZZ (hat.below HB.o)
  have HO:=ZZ (World.ownsRow_made (w:=w) (e:=79) (size:=2) #[] 0 zLe (by decide) rfl)
  have hq:∀ w:World,(binOp .eql 74 (.slice (some ad) n cap) (.slice none 0 0)).run Tryz.prog w=.ok (.bool false) w:=fun w=>Lib.run_eql_slice_nil w _ _ (some ad) n cap 0 0 Tryz.underlying74
  clear hat hn
  go_enter Tryz.func142,Tryz.ntmps142
  go_wp2_with (at_builtin;refine z2p rfl _ _ rfl rfl HO.o rfl HA.o (by simp) (by unfold maxLen;omega) (by omega) ?_;intro v4 w4 ho4 hg4;rw[Nat.zero_add] at ho4;obtain⟨ov4,cv4,rfl⟩:=zi ho4;have Bg:=ZZ ho4;have ER:=ZZ hg4;clear ho4 hg4)
  go_ret
  refine⟨_,rfl,?_,HB.o.grown ER.o (by simp) (fun q hq=>by cases hq;exact Nat.le_refl _)⟩
  rw[HN.o]
  simpa using Bg.o

theorem zcd:∀ {s:Zii} {p:Option Int},zt p s=true→(s.map (·.1)).Pairwise (·<·)
 | [],_,_=>List.Pairwise.nil
 | x::r,p,h=>by
  simp only[zt,Bool.and_eq_true] at h
  rw[List.map_cons]
  refine List.Pairwise.cons (fun y hy=>?_) (zcd h.2)
  obtain⟨z,hz,rfl⟩:=List.mem_map.1 hy
  simpa [after] using z3h h.2 z hz

theorem zaf:∀ {s:Zii} {k:Int},(zm s k).isSome=true↔k∈s.map (·.1)
 | [],k=>by simp[zm]
 | x::r,k=>by
  unfold zm
  split
  ·rename_i e
   simp[e]
  ·rename_i e
   rw[zaf,List.map_cons,List.mem_cons]
   exact⟨.inr,fun h=>h.resolve_left (fun h=>e h.symm)⟩

theorem z9o:∀ {s:Zii} {p:Option Int} {j:Nat} {x:Int × Int},zt p s=true→s[j]? = some x→zm s x.1=some x.2
 | y::r,p,0,x,h,hx=>by
  simp only[List.getElem?_cons_zero,Option.some.injEq] at hx
  subst hx
  simp[zm]
 | y::r,p,j+1,x,h,hx=>by
  simp only[List.getElem?_cons_succ] at hx
  simp only[zt,Bool.and_eq_true] at h
  have hlt:y.1<x.1:=by simpa [after] using z3h h.2 x (zMg hx)
  unfold zm
  rw[if_neg (by omega)]
  exact z9o h.2 hx

theorem zif {w:World} {b m:Nat} {s:Zii} {D:DataW Unit} (h:IdTab w b (zm s) m D) (hs:zt none s=true) {ks:Zin} (hk:ks.Perm (intKeys D)):ks.mergeSort (fun x y=>decide (x≤y))=s.map (·.1):=by
 have hc:CollectedI D (fun _=>false) (s.map (·.1)):=by
  refine⟨(zcd hs).imp (fun h=>by omega),fun x=>?_⟩
  rw[← zaf]
  cases hf:zm s x with
  | none=>rw[h.no x hf];simp
  | some i=>rw[(h.yes x i hf).1];simp
 have hp:=hc.perm h.own (Maps.int_keyed Tryz.underlying3) Tryz.underlying3 (fun _=>rfl)
 have e1:ks.mergeSort (fun x y=>decide (x≤y))=(s.map (·.1)).mergeSort (fun x y=>decide (x≤y)):=mergeSort_of_perm_i (hk.trans hp.symm)
 rw[e1]
 refine List.mergeSort_of_pairwise ((zcd hs).imp (fun h=>?_))
 simp only[decide_eq_true_eq]
 omega

theorem zih {s:Zii} {j:Nat} {x:Int × Int} (h:s[j]? = some x):(s.take (j+1)).flatMap z02=(s.take j).flatMap z02++[.int .i64 x.1,.int .i64 x.2]:=by
 rw[List.take_add_one,h,List.flatMap_append]
 simp[z02]

theorem z4s (x:Int × Int) (r:Zii) (k:Int):zm (x::r) k=if x.1=k then some x.2 else zm r k:=rfl

theorem zbe:∀ {s:Zii} {p:Option Int} {k i:Int},zt p s=true→zm (z2r s k i)=updI (zm s) k (some i)
 | [],p,k,i,_=>by
  funext x
  show (if k=x then some i else none)=(if x=k then some i else none)
  by_cases e:x=k
  ·rw[if_pos e.symm,if_pos e]
  ·rw[if_neg (fun h=>e h.symm),if_neg e]
 | y::r,p,k,i,h=>by
  simp only[zt,Bool.and_eq_true] at h
  have ih:=zbe (k:=k) (i:=i) h.2
  funext x
  have e0:z2r (y::r) k i=if y.1<k then y::z2r r k i else if y.1=k then (k,i)::r else (k,i)::y::r:=rfl
  rw[e0]
  unfold updI
  by_cases h1:y.1<k
  ·rw[if_pos h1,z4s,z4s,ih]
   unfold updI
   by_cases e1:y.1=x
   ·rw[if_pos e1,if_neg (by omega),if_pos e1]
   ·rw[if_neg e1,if_neg e1]
  ·rw[if_neg h1]
   by_cases h2:y.1=k
   ·rw[if_pos h2,z4s,z4s]
    by_cases e:x=k
    ·rw[if_pos e.symm,if_pos e]
    ·rw[if_neg (fun h=>e h.symm),if_neg e,if_neg (by omega)]
   ·rw[if_neg h2,z4s]
    by_cases e:x=k
    ·rw[if_pos e.symm,if_pos e]
    ·rw[if_neg (fun h=>e h.symm),if_neg e]

theorem zew (s:Zii) (hs:zt none s=true) (w:World) (b m:Nat) (D:DataW Unit) (hT:IdTab w b (zm s) m D) (hm:m≤1048576) :
  Calls Tryz.prog 144 #[.map (some b)] w (z5e w s):=by
 have h8:=z4g hs
 have hbl:=hT.lt
 have hb0:=(Below.refl w.heap.size w).alloc zLe (.cells #[] 79)
 have hT0:=hT.below hb0
 have Cr:=ZZ hT
 have HT0:=ZZ hT0
 have HB0:=ZZ hb0
 have AB:=ZZ (World.ownsRow_made (w:=w) (e:=79) (size:=2) #[] 0 zLe (by decide) rfl)
 have hsort:=Tryz.sortedKeysI184 b m D (plainElem Tryz.prog 3) _ hT0.own (by rw[hT0.size];unfold maxLen;omega) (by rw[hT0.size];omega)
 simp only[World.size_alloc] at hsort
 have CZ:=ZZ hsort
 have HS:=ZZ hs
 clear hb0 hT0 hT hsort hs
 go_enter Tryz.func144,Tryz.ntmps144
 go_wp2_with fail
 refine (callsIn_wide.1 (Tryz.mapsKeysI184 _ _)).mono ?_
 rintro e w1 ⟨rfl,rfl⟩
 go_wp2_with fail
 refine (callsIn_wide.1 CZ.o).mono ?_
 rintro e w2 ⟨v,ss,rfl,hperm,hkeys,hb2⟩
 have hsn:=zif HT0.o HS.o hperm
 have hnl:ss.length=s.length:=by
  have h1:=congrArg List.length hsn
  simpa using h1
 rw[hsn,hnl] at hkeys
 obtain⟨oa,cap,rfl,hk⟩:=z0d (zs:=s.map (·.1)) hkeys (fun z hz=>by
  obtain⟨x,hx,rfl⟩:=List.mem_map.1 hz
  have:=z1x (stFrom_mem HS.o x hx).1
  exact z3o (by omega) (by omega))
 have HK:=ZZ hk
 have hs2:w.heap.size+2≤w2.heap.size:=by have:=hb2.size;simp at this;omega
 have hB1:Bw w ((w.alloc (.cells #[] 79)).alloc (.cells #[.map (some b)] 180)):=HB0.o.alloc (by simp) _
 have hB2:Bw w w2:=hB1.trans (hb2.mono (by omega))
 have Ag:=ZZ (own_below (AB.o.alloc (.cells #[.map (some b)] 180)) (by simpa using hb2))
 have HB2:=ZZ hB2
 have HT2:=ZZ (Cr.o.below hB2)
 have K7:=ZZ hkeys
 clear hkeys hk hb2 hB1 hB2 hsn hperm AB CZ HT0
 go_wp2_with fail
 go_loopw [3,11] (fun v x wr=>∃ (j:Nat) (oo:Zoa) (m2 co:Nat),x=.int .i64 (j:Int)∧v=.slice oo m2 co∧j≤s.length∧wr.ownsRow w.heap.size 79 2 (.slice oo m2 co) j ((s.take j).flatMap z02)∧wr.ownsRow (w.heap.size+1+1) 3 1 (.slice oa s.length cap) s.length ((s.map (·.1)).map z03)∧IdTab wr b (zm s) m D∧Bw w wr) (fun _ x _=>s.length - (intOf x).toNat)
 case atStart=>exact⟨0,_,_,_,rfl,rfl,Nat.zero_le _,Ag.o,K7.o,HT2.o,HB2.o⟩
 case round =>
  obtain⟨j,oo,m2,co,rfl,rfl,hj,hown,hkr,hTr,hbel⟩:=hrel
  have HO:=ZZ hown
  have KO:=ZZ hkr
  have Bu:=ZZ hTr
  have hsz:=hbel.size
  clear Ag K7 HT2 HB2
  by_cases hlt:j<s.length
  ·have j0:(j:Int)<(s.length:Int):=by omega
   obtain⟨_,_,hek,hki⟩:=z0d hkr (fun z hz=>by
    obtain⟨x,hx,rfl⟩:=List.mem_map.1 hz
    have:=z1x (stFrom_mem HS.o x hx).1
    exact z3o (by omega) (by omega))
   cases hek
   obtain⟨z,b1,q,hz,hidx,hb,c0,hwz⟩:=hki.get Tryz.underlying60 z0f j hlt
   obtain⟨x,hx⟩:∃ x,s[j]? = some x:=⟨_,List.getElem?_eq_getElem hlt⟩
   have hzx:z=x.1:=by
    rw[List.getElem?_map,hx] at hz
    exact (zSi hz).symm
   subst hzx
   have hlk:=hTr.get hwz
   rw[z9o HS.o hx] at hlk
   simp only[Option.getD_some] at hlk
   have HX:=ZZ hx
   clear hki hkr hTr hz hx
   go_wp2_with (at_builtin;refine zek (cs:=#[.int .i64 x.1,.int .i64 x.2]) rfl _ _ 74 rfl (by decide) Tryz.underlying74 z5d rfl rfl hown rfl rfl (by simp[Value.oneCell']) hsz (by unfold maxLen;omega) (by omega) ?_;intro v' w1 hown1 hg1;obtain⟨o2,c2,rfl⟩:=zi hown1)
   have K8:=ZZ (HO.o.alloc (.cells #[.int .i64 x.1,.int .i64 x.2] 79))
   have BV:=ZZ (zcu (KO.o.alloc (.cells #[.int .i64 x.1,.int .i64 x.2] 79)) K8.o (by decide) hg1)
   have hTa:=Bu.o.below ((Below.refl wr.heap.size wr).alloc zLe (.cells #[.int .i64 x.1,.int .i64 x.2] 79))
   have HT1:=ZZ (hTa.kept hg1 (z2i hTa.own K8.o))
   have HB1:=ZZ ((hbel.alloc hsz (.cells #[.int .i64 x.1,.int .i64 x.2] 79)).grown hg1 (by simp;omega) (fun q hq=>(HO.o.lt q hq).1))
   have Bi:=ZZ (show w1.ownsRow w.heap.size 79 2 (.slice o2 (j+1) c2) (j+1) ((s.take (j+1)).flatMap z02) by rw[zih HX.o];exact hown1)
   clear hTa hg1 hown1 hown hlk
   go_wp2_with fail
   go_roundw
   case rel=>exact⟨j+1,_,_,_,by go_num,rfl,by omega,Bi.o,BV.o,HT1.o,HB1.o⟩
   case measure=>simp[intOf];omega
  ·have hjn:j=s.length:=by omega
   have HE:=ZZ (show (s.take j)=s by rw[hjn,List.take_length])
   have HJ:=ZZ hjn
   clear hown hkr hTr hjn
   go_wp2_with fail
   go_ret
   refine⟨_,rfl,?_,hbel⟩
   have:=HO.o
   rw[HE.o] at this
   rw[← HJ.o]
   exact this

theorem zah (oa:Zoa) (n cap:Nat) (s:Zii) (k i:Int) (hn20:n≤1048576) (hk:(Lit.int .i64 k).wf=true) (hi:(Lit.int .i64 i).wf=true) (w:World) (hat:ItemsAt w oa n cap s) (hws:∀ y∈s,z3d y) :
  Calls Tryz.prog 85 #[.slice oa n cap,.int .i64 k,.int .i64 i] w (z5e w (z0n s k i)):=by
 have hB1:=(Below.refl w.heap.size w).alloc zLe (.cells #[.int .i64 k,.int .i64 i] 79)
 have HB1:=ZZ hB1
 have HA1:=ZZ (hat.below hB1)
 have HAT:=ZZ hat
 have Dx:=ZZ hws
 have AX:=ZZ (fun w hat=>zb7 oa n cap s w hat)
 have HR:=ZZ (fun w=>z9b (k,i) w)
 have HP:=ZZ (z8w s k i)
 have Bz:=ZZ (fun w hat=>z8i oa n cap s hn20 w hat)
 have Cy:=ZZ (fun w hat=>z4j oa n cap s hn20 w hat hws)
 have Ab:=ZZ (show stOk s=stOk s from rfl)
 clear hB1 hat hws
 obtain⟨r1,hr1⟩:∃ r1,stOk s=r1:=⟨_,rfl⟩
 obtain⟨r2,hr2⟩:∃ r2,(z0z k&&inR i 1 1000000)=r2:=⟨_,rfl⟩
 simp only[ival] at HR
 rw[hr1] at AX
 rw[hr2] at HR
 rw[hr1,hr2] at HP
 have HR1:=ZZ hr1
 have HR2:=ZZ hr2
 clear hr1 hr2 Ab
 cases r1 with
 | false =>
  have HT:=ZZ (show z0n s k i=s by rw[HP.o];rfl)
  clear HP HR Cy
  go_enter Tryz.func85,Tryz.ntmps85
  go_wp2_with fail
  refine (AX.o _ HA1.o).mono ?_
  rintro e w2 ⟨rfl,hb2⟩
  have HB2:=ZZ (HB1.o.trans (hb2.mono (by simp)))
  clear hb2
  go_wp2_with fail
  refine (Bz.o _ (HAT.o.below HB2.o)).mono ?_
  rintro e w3 ⟨v3,rfl,ho3,hb3⟩
  obtain⟨o3,c3,rfl⟩:=zi ho3
  have Aq:=ZZ (zu ho3 HB2.o.size)
  have HB3:=ZZ (zTr HB2.o hb3)
  clear ho3 hb3
  go_wp2_with fail
  go_ret
  exact⟨_,rfl,by rw[HT.o];exact Aq.o,HB3.o⟩
 | true =>
  cases r2 with
  | false =>
   have HT:=ZZ (show z0n s k i=s by rw[HP.o];rfl)
   clear HP Cy
   go_enter Tryz.func85,Tryz.ntmps85
   go_wp2_with fail
   refine (AX.o _ HA1.o).mono ?_
   rintro e w2 ⟨rfl,hb2⟩
   have HB2:=ZZ (HB1.o.trans (hb2.mono (by simp)))
   have c0:=(hb2.cell (p:=⟨w.heap.size,0,none⟩) (by simp)).trans (show _=some (.int .i64 k) by simp)
   have c1:=(hb2.cell (p:=⟨w.heap.size,1,none⟩) (by simp)).trans (show _=some (.int .i64 i) by simp)
   clear hb2
   go_wp2_with fail
   refine (HR.o _).mono ?_
   rintro e w25 ⟨rfl,hb25⟩
   have BC:=ZZ (zTr HB2.o hb25)
   clear hb25 c0 c1
   go_wp2_with fail
   refine (Bz.o _ (HAT.o.below BC.o)).mono ?_
   rintro e w3 ⟨v3,rfl,ho3,hb3⟩
   obtain⟨o3,c3,rfl⟩:=zi ho3
   have Aq:=ZZ (zu ho3 BC.o.size)
   have HB3:=ZZ (zTr BC.o hb3)
   clear ho3 hb3
   go_wp2_with fail
   go_ret
   exact⟨_,rfl,by rw[HT.o];exact Aq.o,HB3.o⟩
  | true =>
   have HT:=ZZ (show z0n s k i=z2r s k i by rw[HP.o];rfl)
   have hsF:zt none s=true:=by rw[← z1g];exact HR1.o
   have hk2:=HR2.o
   simp only[Bool.and_eq_true] at hk2
   have Ji:=ZZ (z8v hsF hk2.1 hk2.2 rfl)
   have Ce:=ZZ (zbe (i:=i) (k:=k) hsF)
   have h8:=z4g hsF
   have LX:=ZZ hsF
   clear HP Bz hsF hk2
   have hkey:=keyI hk
   have hval:=plainElem_int (H:=Unit) Tryz.underlying3 hi
   go_enter Tryz.func85,Tryz.ntmps85
   go_wp2_with fail
   refine (AX.o _ HA1.o).mono ?_
   rintro e w2 ⟨rfl,hb2⟩
   have HB2:=ZZ (HB1.o.trans (hb2.mono (by simp)))
   have c0:=(hb2.cell (p:=⟨w.heap.size,0,none⟩) (by simp)).trans (show _=some (.int .i64 k) by simp)
   have c1:=(hb2.cell (p:=⟨w.heap.size,1,none⟩) (by simp)).trans (show _=some (.int .i64 i) by simp)
   clear hb2
   go_wp2_with fail
   refine (HR.o _).mono ?_
   rintro e w25 ⟨rfl,hb25⟩
   have BC:=ZZ (zTr HB2.o hb25)
   clear hb25 c0 c1
   go_wp2_with fail
   refine (Cy.o _ (HAT.o.below BC.o)).mono ?_
   rintro e w3 ⟨rfl,⟨D,m,hm,hT⟩,hb3⟩
   have HB3:=ZZ (zTr BC.o hb3)
   have hown1:=hT.own
   have Cr:=ZZ hT
   have hge:=BC.o.size
   clear hb3 hT
   go_wp2_with (at_mapUpdate;refine wpList_mapUpdate_in _ rfl _ _ _ 180 rfl 3 3 (Maps.int_keyed Tryz.underlying3) Tryz.underlying180 (plainElem Tryz.prog 3) w25.heap.size m D rfl hown1 (by unfold maxLen;omega) _ _ (.int .i64 k) rfl rfl hkey (numD i) [] hval ?_;intro w4 hown2 hturn2)
   have h3:=Cr.o.store hk hi hown2
   rw[← Ce.o] at h3
   have HT3:=ZZ h3
   have AC:=ZZ (HB3.o.trans (z9k hturn2 hge HB3.o.size))
   clear hown2 hown1 h3 hturn2
   go_wp2_with fail
   refine (zew _ Ji.o _ _ _ _ HT3.o (by split<;>omega)).mono ?_
   rintro e w5 ⟨v5,rfl,ho5,hb5⟩
   obtain⟨o5,c5,rfl⟩:=zi ho5
   have Ez:=ZZ (zu ho5 AC.o.size)
   have BQ:=ZZ (zTr AC.o hb5)
   clear ho5 hb5
   go_wp2_with fail
   go_ret
   exact⟨_,rfl,by rw[HT.o];exact Ez.o,BQ.o⟩

end Go.Proofs.YtfeebdcmlnapiaaGreat
