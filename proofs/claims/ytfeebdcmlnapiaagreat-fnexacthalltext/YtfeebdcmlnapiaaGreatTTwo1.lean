/-
  Walks.
-/
import Derived.Test.YtfeebdcmlnapiaaGreatTWeb4
open Go.Value renaming int->J
open Go.IntKind renaming i64->Y
set_option maxRecDepth 100000
set_option maxHeartbeats 4000000
set_option linter.unusedVariables false
set_option linter.unusedSimpArgs false
namespace Go.Proofs.YtfeebdcmlnapiaaGreat
open Go.RowKit K
theorem zcl (w:World) (a b:Array Value) (A B:TypeId):((w.alloc (.cells a A)).alloc (.cells b B)).heap[w.heap.size]? = some (.cells a A (0,0))∧((w.alloc (.cells a A)).alloc (.cells b B)).heap[w.heap.size+1]? = some (.cells b B (0,0))∧Bw w ((w.alloc (.cells a A)).alloc (.cells b B)):=by
 have e1:=heap_alloc_new w (.cells a A)
 have e2:=heap_alloc_new (w.alloc (.cells a A)) (.cells b B)
 rw[World.size_alloc] at e2
 have k1:=(Below.refl (w.alloc (.cells a A)).heap.size (w.alloc (.cells a A))).alloc zLe (.cells b B)
 exact⟨(k1.block _ (by simp)).trans e1,e2,(zBa).alloc (by simp) _⟩

open Go.Maps P1 P5 P9 P11 P12 P14 P15 P16 P17
def znx (w:World) (es:List EvV) (sts:List St) (e:EvV) (r:Ending) (w':World):Prop :=
 ∃ v,r=.returned (.tuple #[.pointer v,.bool (z0l es sts e)])∧(z0l es sts e=true→∃ kb xl xp vp xa xc,v=some ⟨kb,0,none⟩∧w.heap.size≤kb∧w'.heap[kb]? = some (.cells (z1o e xl xp vp (.slice xa (z0s es sts e).length xc) true (allowed es (befS es sts e.prev) e)) 76 (0,0))∧w'.ownsRow w.heap.size 79 2 (.slice xa (z0s es sts e).length xc) (z0s es sts e).length ((z0s es sts e).flatMap z02))∧Bw w w'

theorem zjf {s:St} {i:Int}:z0n s 0 i=s:=by
 unfold z0n
 rw[if_neg]
 intro h
 simp only[Bool.and_eq_true] at h
 have h2:(0,i)∈stIn s 0 i:=by
  unfold stIn
  simp
 have h3:=h.2
 unfold stOk at h3
 simp only[Bool.and_eq_true] at h3
 have:=(stFrom_mem h3.2 _ h2).1
 change z0z 0=true at this
 revert this
 decide

theorem zjg (e:EvV) (xl xp vp:Value):z2s (z5z vp) 0 [J Y e.id,J Y e.kind,J Y e.sender,J Y e.user,J Y e.member,xl,.string ⟨e.text.toArray⟩,xp,J Y e.depth]=z1o e xl xp vp (.slice none 0 0) false false:=by
 simp[z2s,z1o]

theorem zlc (N:St) (e:EvV):(if true&&!(keyE e==0) then z0n N (keyE e) e.id else N)=z0n N (keyE e) e.id:=by
 by_cases hk:keyE e=0
 ·rw[hk,zjf];rfl
 ·rw[show (keyE e==0)=false by simpa using hk];rfl

theorem Built.sane {es:List EvV} {sts:List St} (hI:RInv es sts) (hB:Built es sts) (prev:Zin):Sane es (befS es sts prev):=by
 have h:=zde (z8e hB).2 prev
 exact⟨h.1,h.2,fun e he=>(hI.ids e he).1,hI.nod⟩

theorem zn3 (oa:Zoa) (n cap:Nat) (es:List EvV) (sts:List St) (bm B m:Nat) (T:Int→Option Value) (D:DataW Value) (e:EvV) (xa:Zoa) (xc:Nat) (ya:Zoa) (yc:Nat) (hI:RInv es sts) (hBu:Built es sts) (htx:e.text.length≤1048576) (hl20:e.levels.length≤1048576) (hp20:e.prev.length≤1048576) (hwe:(Lit.int .i64 e.id).wf=true) (w:World) (hev:EvsAt w oa n cap es) (hT:TieOk w B bm T m D es sts) (hx:IntsAt w xa e.levels.length xc e.levels) (hy:IntsAt w ya e.prev.length yc e.prev) :
  Calls Tryz.prog 32 #[.agg #[.slice oa n cap,.map (some bm)],evv e (.slice xa e.levels.length xc) (.slice ya e.prev.length yc)] w (znx w es sts e):=by
 obtain rfl:n=es.length:=hev.len.symm
 obtain⟨W0,hW0⟩:∃ W0,(w.alloc (.cells #[.slice oa es.length cap,.map (some bm)] 68)).alloc (.cells (zk e.id e.kind e.sender e.user e.member e.depth (.slice xa e.levels.length xc) (.slice ya e.prev.length yc) e.text) 62)=W0:=⟨_,rfl⟩
 obtain⟨hA0,hE0,hb0⟩:=zcl w #[.slice oa es.length cap,.map (some bm)] (zk e.id e.kind e.sender e.user e.member e.depth (.slice xa e.levels.length xc) (.slice ya e.prev.length yc) e.text) 68 62
 rw[hW0] at hA0 hE0 hb0
 have hn40:=hI.len
 have HA:=ZZ (fun W (h:Bw W0 W)=>(h.block _ (ze hA0)).trans hA0)
 have HE:=ZZ (fun W (h:Bw W0 W)=>(show EB W0 (w.heap.size+1) e.id e.kind e.sender e.user e.member e.depth (.slice xa e.levels.length xc) (.slice ya e.prev.length yc) e.text from hE0).on h (ze hE0))
 have HB0:=ZZ hb0
 have HW0:=ZZ hW0
 have HT:=ZZ hT
 have HX:=ZZ hx
 have HY:=ZZ hy
 have A8:=ZZ hev
 have HI:=ZZ hI
 have JN:=ZZ hBu
 have Ab:=ZZ (show Calls Tryz.prog 80 #[evv e (.slice xa e.levels.length xc) (.slice ya e.prev.length yc)] W0 _ from z7w e.id e.kind e.sender e.user e.member e.depth xa e.levels.length xc e.text ya e.prev.length yc e.levels e.prev htx W0 (hx.below hb0) (hy.below hb0))
 rw[show evOk (⟨e.id,e.kind,e.sender,e.user,e.member,e.levels,e.text,e.prev,e.depth⟩:EvV)=evOk e from rfl] at Ab
 have Am:=ZZ (show z0l es sts e=((z2y es sts e.prev).isSome&&(evOk e&&(decide (hasI es e.id<0)&&((e.depth==z4a es e.prev)&&decide (es.length<40))))) from rfl)
 have hlk:=(hT.tab.below hb0).look Tryz.underlying66 (Tryz.zeroValue70 _) hwe
 clear hT hx hy hev hI hBu hb0 hW0 hA0 hE0
 cases hF:zf es e.id with
 | some y =>
  obtain⟨q,xl,xp,vp,s,xa',xc',g,h1,_⟩:=HT.o.yes e.id y hF
  rw[h1] at hlk
  simp only[Option.getD_some,Option.isSome_some] at hlk
  obtain⟨k,hk1,hk2⟩:=z5g hF
  have HF:=ZZ (show z0l es sts e=false by rw[Am.o,hk1,decide_eq_false (show ¬ ((k:Nat):Int)<0 by omega)];simp)
  generalize evOk e=ok at Ab Am
  clear h1 hF hk1 hk2
  cases ok with
  | false =>
   have a0:=zb (HA.o W0 zBr) 0 rfl
   have a1:=zb (HA.o W0 zBr) 1 rfl
   obtain⟨e0,e1,e2,e3,e4,e5,e6,e7,e8⟩:=(HE.o W0 zBr).ev
   go_enter Tryz.func32,Tryz.ntmps32
   go_upto_region 1 with fail
   rw[HW0.o]
   clear HW0
   go_wp2_with (go_at_call 80;(with_reducible refine Ab.o.mono ?_);rintro r w1 ⟨rfl,hb1⟩;have a01:=zb (HA.o w1 hb1) 0 rfl)
   have HB1:=ZZ (HA.o w1 hb1)
   go_ret2
   exact⟨none,by rw[HF.o];rfl,(fun h=>by rw[HF.o] at h;cases h),zTr HB0.o hb1⟩
  | true =>
   have a0:=zb (HA.o W0 zBr) 0 rfl
   have a1:=zb (HA.o W0 zBr) 1 rfl
   obtain⟨e0,e1,e2,e3,e4,e5,e6,e7,e8⟩:=(HE.o W0 zBr).ev
   go_enter Tryz.func32,Tryz.ntmps32
   go_upto_region 1 with fail
   rw[HW0.o]
   clear HW0
   go_wp2_with (go_at_call 80;(with_reducible refine Ab.o.mono ?_);rintro r w1 ⟨rfl,hb1⟩;have a01:=zb (HA.o w1 hb1) 0 rfl)
   have HB1:=ZZ (HA.o w1 hb1)
   go_ret2
   exact⟨none,by rw[HF.o];rfl,(fun h=>by rw[HF.o] at h;cases h),zTr HB0.o hb1⟩
 | none =>
  have h1:=HT.o.no e.id hF
  rw[h1] at hlk
  simp only[Option.getD_none,Option.isSome_none] at hlk
  have LC:=ZZ (show decide (hasI es e.id<0)=true by rw[z7q hF];rfl)
  clear h1 hF
  cases hok:evOk e with
  | false =>
   rw[hok] at Ab
   have HF:=ZZ (show z0l es sts e=false by rw[Am.o,hok];simp)
   clear hok
   have a0:=zb (HA.o W0 zBr) 0 rfl
   have a1:=zb (HA.o W0 zBr) 1 rfl
   obtain⟨e0,e1,e2,e3,e4,e5,e6,e7,e8⟩:=(HE.o W0 zBr).ev
   go_enter Tryz.func32,Tryz.ntmps32
   go_upto_region 1 with fail
   rw[HW0.o]
   clear HW0
   go_wp2_with (go_at_call 80;(with_reducible refine Ab.o.mono ?_);rintro r w1 ⟨rfl,hb1⟩;have a01:=zb (HA.o w1 hb1) 0 rfl)
   have HB1:=ZZ (HA.o w1 hb1)
   go_ret2
   exact⟨none,by rw[HF.o];rfl,(fun h=>by rw[HF.o] at h;cases h),zTr HB0.o hb1⟩
  | true =>
   rw[hok] at Ab
   have Eo:=ZZ hok
   by_cases hlen:(40:Int)≤(es.length:Int)
   ·have HF:=ZZ (show z0l es sts e=false by rw[Am.o,decide_eq_false (show ¬ es.length<40 by omega)];simp)
    clear hok
    have a0:=zb (HA.o W0 zBr) 0 rfl
    have a1:=zb (HA.o W0 zBr) 1 rfl
    obtain⟨e0,e1,e2,e3,e4,e5,e6,e7,e8⟩:=(HE.o W0 zBr).ev
    go_enter Tryz.func32,Tryz.ntmps32
    go_upto_region 1 with fail
    rw[HW0.o]
    clear HW0
    go_wp2_with (go_at_call 80;(with_reducible refine Ab.o.mono ?_);rintro r w1 ⟨rfl,hb1⟩;have a01:=zb (HA.o w1 hb1) 0 rfl)
    have HB1:=ZZ (HA.o w1 hb1)
    go_ret2
    exact⟨none,by rw[HF.o];rfl,(fun h=>by rw[HF.o] at h;cases h),zTr HB0.o hb1⟩
   ·clear hok
    have a0:=zb (HA.o W0 zBr) 0 rfl
    have a1:=zb (HA.o W0 zBr) 1 rfl
    obtain⟨e0,e1,e2,e3,e4,e5,e6,e7,e8⟩:=(HE.o W0 zBr).ev
    go_enter Tryz.func32,Tryz.ntmps32
    go_upto_region 1 with fail
    rw[HW0.o]
    clear HW0
    go_upto_region 4 with (go_at_call 80;(with_reducible refine Ab.o.mono ?_);rintro r w1 ⟨rfl,hb1⟩;have a01:=zb (HA.o w1 hb1) 0 rfl)
    have HB1:=ZZ hb1
    clear hb1 hlk Ab a01 a0 a1 e0 e1 e2 e3 e4 e5 e6 e7 e8
    have a0:=zb (HA.o w1 HB1.o) 0 rfl
    have a1:=zb (HA.o w1 HB1.o) 1 rfl
    obtain⟨e0,e1,e2,e3,e4,e5,e6,e7,e8⟩:=(HE.o w1 HB1.o).ev
    have Br:=ZZ (zTr HB0.o HB1.o)
    have ED:=ZZ (zg8 bm T m D oa es.length cap ya e.prev.length yc e.prev hp20 w1 (HT.o.on Br.o).toP (HY.o.below Br.o))
    by_cases hall:(e.prev.filterMap T).length=e.prev.length
    ·have hdec:decide ((e.prev.filterMap T).length=e.prev.length)=true:=decide_eq_true hall
     go_upto_region 5 with (go_at_call 81;(with_reducible refine ED.o.mono ?_);rintro r w2 ⟨kb,vp,hr,hkb,hK2,hR2,hb2⟩;rw[hdec] at hr;subst hr)
     have JO:=ZZ hkb
     have Dy:=ZZ hK2
     have HR2:=ZZ hR2
     have HB2:=ZZ (zTr HB1.o hb2)
     have AX:=ZZ (HB1.o.size)
     have HS2:=ZZ hb2.size
     clear hdec hkb hK2 hR2 hb2 ED Br a0 a1 e0 e1 e2 e3 e4 e5 e6 e7 e8
     obtain⟨e0,e1,e2,e3,e4,e5,e6,e7,e8⟩:=(HE.o w2 HB2.o).ev
     have CQ:=ZZ (zTr HB0.o HB2.o)
     have hDp:=(HT.o.on CQ.o).deep e.prev
     have hlp:(e.prev.filterMap (depG es)).length≤1048576:=zNt (List.length_filterMap_le (depG es) e.prev) hp20
     have DZ:=ZZ (fun q=>zjz kb w1.heap.size vp (e.prev.filterMap T) (e.prev.filterMap (depG es)) hlp (w2.drewN q) Dy.o (own_drewN HR2.o) ⟨hDp.len,hDp.at_⟩)
     rw[znh] at DZ
     clear hDp hlp
     generalize z4a es e.prev=dp at DZ Am
     by_cases hd:e.depth=dp
     ·have hd2:(e.depth != dp)=false:=by simpa using hd
      have HAD:=ZZ (show z0l es sts e=(z2y es sts e.prev).isSome by rw[Am.o,Eo.o,LC.o,show (e.depth==dp)=true by simpa using hd,decide_eq_true (show es.length<40 by omega)];simp)
      clear hd
      go_wp2_with fail
      go_quiet (first|(go_at_call 82;with_reducible exact Calls.quiet_of_same (DZ.o _)))
      have Ao:=ZZ (show (w2.drewN nq).heap[kb]? = some (.cells (z5z vp) 76 (0,0)) from Dy.o)
      have HR3:=ZZ (own_drewN (q:=nq) HR2.o)
      have HB3:=ZZ (below_drewN HB2.o nq)
      have Ap:=ZZ (show w1.heap.size≤(w2.drewN nq).heap.size from HS2.o)
      clear Dy HR2 HB2 HS2 DZ CQ e0 e1 e2 e3 e4 e5 e6 e7 e8
      generalize w2.drewN nq=w3 at Ao HR3 HB3 Ap ⊢
      obtain⟨e0,e1,e2,e3,e4,e5,e6,e7,e8⟩:=(HE.o w3 HB3.o).ev
      have k0:=zb Ao.o 0 rfl
      have k1:=zb Ao.o 1 rfl
      have k2:=zb Ao.o 2 rfl
      have k3:=zb Ao.o 3 rfl
      have k4:=zb Ao.o 4 rfl
      have k5:=zb Ao.o 5 rfl
      have k6:=zb Ao.o 6 rfl
      have k7:=zb Ao.o 7 rfl
      have k8:=zb Ao.o 8 rfl
      have f0:=zh Ao.o 0
      have f1:=zh Ao.o 1
      have f2:=zh Ao.o 2
      have f3:=zh Ao.o 3
      have f4:=zh Ao.o 4
      have f5:=zh Ao.o 5
      have f6:=zh Ao.o 6
      have f7:=zh Ao.o 7
      have f8:=zh Ao.o 8
      go_upto_region 8 with fail
      obtain⟨W4,hW4⟩:∃ W4,(((((((((w3.setCell ⟨kb,0,none⟩ (J Y e.id)).setCell ⟨kb,1,none⟩ (J Y e.kind)).setCell ⟨kb,2,none⟩ (J Y e.sender)).setCell ⟨kb,3,none⟩ (J Y e.user)).setCell ⟨kb,4,none⟩ (J Y e.member)).setCell ⟨kb,5,none⟩ (.slice xa e.levels.length xc)).setCell ⟨kb,6,none⟩ (.string ⟨e.text.toArray⟩)).setCell ⟨kb,7,none⟩ (.slice ya e.prev.length yc)).setCell ⟨kb,8,none⟩ (J Y e.depth))=W4:=⟨_,rfl⟩
      obtain⟨hK4,hg4⟩:=zx [J Y e.id,J Y e.kind,J Y e.sender,J Y e.user,J Y e.member,.slice xa e.levels.length xc,.string ⟨e.text.toArray⟩,.slice ya e.prev.length yc,J Y e.depth] w3 _ 0 Ao.o
      rw[show w3.setCells kb 0 [J Y e.id,J Y e.kind,J Y e.sender,J Y e.user,J Y e.member,.slice xa e.levels.length xc,.string ⟨e.text.toArray⟩,.slice ya e.prev.length yc,J Y e.depth]=W4 from hW4] at hK4 hg4
      rw[hW4]
      have Cv:=ZZ (show W4.heap[kb]? = some (.cells (z1o e (.slice xa e.levels.length xc) (.slice ya e.prev.length yc) vp (.slice none 0 0) false false) 76 (0,0)) from by rw[zjg] at hK4;exact hK4)
      have hkw:W0.heap.size≤kb:=zNt AX.o JO.o
      have HR4:=ZZ (HR3.o.kept hg4 (.inr (fun e=>z1p HR3.o e Ao.o (by decide))))
      have AC:=ZZ (HB3.o.grown hg4 HB3.o.size (fun k hk=>by cases hk;exact hkw))
      have CF:=ZZ hkw
      clear hW4 hK4 hg4 hkw HR3 HB3 Ap Ao k0 f0 e0 k1 f1 e1 k2 f2 e2 k3 f3 e3 k4 f4 e4 k5 f5 e5 k6 f6 e6 k7 f7 e7 k8 f8 e8
      have BH:=ZZ (zc5 es sts e.prev)
      have hp3:e.prev.length≤3:=by have h1:=Eo.o;unfold evOk z11 at h1;simp only[Bool.and_eq_true,decide_eq_true_eq] at h1;exact h1.2.2.2.1
      have Av:=ZZ (z8e JN.o)
      have hbw4:=zTr HB0.o AC.o
      have Dp:=ZZ (zjb W4 oa es.length cap es bm kb w1.heap.size #[] vp (e.prev.filterMap T) (e.prev.map (z1q es sts)) (zn2 HI.o JN.o) (by rw[List.length_map];omega) (fun s hs=>by obtain⟨z,_,hz⟩:=List.mem_map.1 hs;exact (Av.o.2 s (zdm hz)).2) (fun s hs=>by obtain⟨z,_,hz⟩:=List.mem_map.1 hs;exact (Av.o.2 s (zdm hz)).1) W4 zBr (A8.o.below hbw4) (zb Cv.o 9 rfl) HR4.o ((HT.o.on hbw4).tied hall))
      rw[← BH.o] at Dp
      have Gz:=ZZ hbw4.size
      clear hbw4 BH HR4 hp3 hall
      obtain⟨bo,hbo⟩:∃ bo,z2y es sts e.prev=bo:=⟨_,rfl⟩
      rw[hbo] at Dp HAD
      have BH:=ZZ hbo
      clear hbo
      have a0:=zb (HA.o W4 AC.o) 0 rfl
      have a1:=zb (HA.o W4 AC.o) 1 rfl
      cases bo with
      | none =>
       go_upto_region 9 with (go_at_call 83;(with_reducible refine Dp.o.mono ?_);rintro r w5 ⟨v5,rfl,ho5,hb5⟩;simp only[Option.getD_none,List.length_nil] at ho5;obtain⟨o5,c5,rfl⟩:=zi ho5;have hK5:=(hb5.block kb (ze Cv.o)).trans Cv.o;have k10:=zb hK5 10 rfl;have f10:=zh hK5 10;have k11:=zb hK5 11 rfl;have f11:=zh hK5 11)
       obtain⟨W6,hW6⟩:∃ W6,((w5.setCell ⟨kb,10,none⟩ (.slice o5 0 c5)).setCell ⟨kb,11,none⟩ (.bool false))=W6:=⟨_,rfl⟩
       obtain⟨hK6,hg6⟩:=zx [.slice o5 0 c5,.bool false] w5 _ 10 hK5
       rw[show w5.setCells kb 10 [.slice o5 0 c5,.bool false]=W6 from hW6] at hK6 hg6
       rw[hW6]
       have Ch:=ZZ (show W6.heap[kb]? = some (.cells (z1o e (.slice xa e.levels.length xc) (.slice ya e.prev.length yc) vp (.slice o5 0 c5) false false) 76 (0,0)) from hK6)
       have Az:=ZZ ((zTr AC.o hb5).grown hg6 (zNt AC.o.size hb5.size) (fun k hk=>by cases hk;exact CF.o))
       have D7:=ZZ (zu (ho5.kept hg6 (.inr (fun e=>z1p ho5 e hK5 (by decide)))) Gz.o)
       clear hW6 hK6 hg6 ho5 hb5 hK5 k10 f10 k11 f11 a0 a1 AC Cv Dp
       have k11:W6.cell? ⟨kb,11,none⟩=some (.bool false):=zb Ch.o 11 rfl
       go_wp2_with fail
       go_ret2
       exact⟨none,by rw[HAD.o];rfl,(fun h=>by rw[HAD.o] at h;cases h),zTr HB0.o Az.o⟩
      | some N =>
       go_upto_region 9 with (go_at_call 83;(with_reducible refine Dp.o.mono ?_);rintro r w5 ⟨v5,rfl,ho5,hb5⟩;simp only[Option.getD_some] at ho5;obtain⟨o5,c5,rfl⟩:=zi ho5;have hK5:=(hb5.block kb (ze Cv.o)).trans Cv.o;have k10:=zb hK5 10 rfl;have f10:=zh hK5 10;have k11:=zb hK5 11 rfl;have f11:=zh hK5 11)
       obtain⟨W6,hW6⟩:∃ W6,((w5.setCell ⟨kb,10,none⟩ (.slice o5 N.length c5)).setCell ⟨kb,11,none⟩ (.bool true))=W6:=⟨_,rfl⟩
       obtain⟨hK6,hg6⟩:=zx [.slice o5 N.length c5,.bool true] w5 _ 10 hK5
       rw[show w5.setCells kb 10 [.slice o5 N.length c5,.bool true]=W6 from hW6] at hK6 hg6
       rw[hW6]
       have Ch:=ZZ (show W6.heap[kb]? = some (.cells (z1o e (.slice xa e.levels.length xc) (.slice ya e.prev.length yc) vp (.slice o5 N.length c5) true false) 76 (0,0)) from hK6)
       have Az:=ZZ ((zTr AC.o hb5).grown hg6 (zNt AC.o.size hb5.size) (fun k hk=>by cases hk;exact CF.o))
       have D7:=ZZ (zu (ho5.kept hg6 (.inr (fun e=>z1p ho5 e hK5 (by decide)))) Gz.o)
       clear hW6 hK6 hg6 ho5 hb5 hK5 k10 f10 k11 f11 a0 a1 AC Cv Dp
       have HN:=ZZ (show befS es sts e.prev=N by unfold befS;rw[BH.o];rfl)
       have HAT:=ZZ (show z0l es sts e=true from HAD.o)
       clear HAD BH
       have hsn:=Built.sane HI.o JN.o e.prev
       rw[HN.o] at hsn
       have Dn:=ZZ hsn
       have HAS:=ZZ (show z0s es sts e=if allowed es N e&&!(keyE e==0) then z0n N (keyE e) e.id else N by unfold z0s;rw[HN.o])
       have EQ:=ZZ (hsn.allowed e)
       have hn8:=z2l hsn.ok
       clear hsn
       obtain⟨_,_,he6,hi6⟩:=z08 D7.o
       cases he6
       have Ee:=ZZ hi6
       clear hi6
       have AU:=ZZ (fun W (h:Bw W6 W)=>z7x oa es.length cap es o5 N.length c5 N e xa xc ya yc (by omega) (fun y hy=>z3j Dn.o.ok y hy) htx hl20 W (A8.o.below (HB0.o.trans ((zTr Az.o h).mono HB0.o.size))) (Ee.o.below h) (HX.o.below (HB0.o.trans ((zTr Az.o h).mono HB0.o.size))) (HY.o.below (HB0.o.trans ((zTr Az.o h).mono HB0.o.size))))
       simp only[← EQ.o] at AU
       have a0:=zb (HA.o W6 Az.o) 0 rfl
       obtain⟨e0,e1,e2,e3,e4,e5,e6,e7,e8⟩:=(HE.o W6 Az.o).ev
       have k10:W6.cell? ⟨kb,10,none⟩=some (.slice o5 N.length c5):=zb Ch.o 10 rfl
       have k11:W6.cell? ⟨kb,11,none⟩=some (.bool true):=zb Ch.o 11 rfl
       have hkl:=ze Ch.o
       have k12:W6.cell? ⟨kb,12,none⟩=some (.bool false):=zb Ch.o 12 rfl
       go_upto_region 11 with fail
       obtain⟨al,hal⟩:∃ al,allowed es N e=al:=⟨_,rfl⟩
       simp only[hal] at AU
       rw[hal] at HAS
       have KD:=ZZ hal
       clear hal
       refine (fun (KEY:Hd ?G1)=>?main1) (ZZ ?key1)
       case main1 =>
        go_region_law (first
        | (rw[if_pos (by rfl)];go_simp;go_at_call 84;refine (AU.o _ zBr.drew).mono ?_;rintro r w7 ⟨rfl,hb7⟩;have k127:=(hb7.cell hkl).trans k12;have f127:=zh ((hb7.block kb hkl).trans Ch.o) 12))
        all_goals
         have hK7:=(hb7.block kb hkl).trans Ch.o
         obtain⟨W8,hW8⟩:∃ W8,w7.setCell ⟨kb,12,none⟩ (.bool al)=W8:=⟨_,rfl⟩
         obtain⟨hK8,hg8⟩:=zx [.bool al] w7 _ 12 hK7
         rw[show w7.setCells kb 12 [.bool al]=W8 from hW8] at hK8 hg8
         rw[hW8]
         have Dv:=ZZ (show W8.heap[kb]? = some (.cells (z1o e (.slice xa e.levels.length xc) (.slice ya e.prev.length yc) vp (.slice o5 N.length c5) true al) 76 (0,0)) from hK8)
         have hb67:=(Below.refl W6.heap.size W6).drew.trans hb7
         have BJ:=ZZ ((zTr Az.o hb67).grown hg8 (zNt Az.o.size hb67.size) (fun k hk=>by cases hk;exact CF.o))
         have En:=ZZ ((own_below D7.o hb67).kept hg8 (.inr (fun e=>z1p (own_below D7.o hb67) e hK7 (by decide))))
         clear hK7 hW8 hK8 hg8 hb7 hb67 k127 f127
         revert En
         revert BJ
         revert Dv
         revert W8
         exact KEY.o
       case key1 =>
        intro W8 Dv BJ En
        clear k10 k11 k12 a0 e0 e1 e2 e3 e4 e5 e6 e7 e8 hkl Az Ch D7 Ee AU
        have hkl:=ze Dv.o
        have k10:W8.cell? ⟨kb,10,none⟩=some (.slice o5 N.length c5):=zb Dv.o 10 rfl
        have k12:W8.cell? ⟨kb,12,none⟩=some (.bool al):=zb Dv.o 12 rfl
        cases al with
        | false =>
         have HS:=ZZ (show z0s es sts e=N from HAS.o)
         go_wp2_with fail
         go_ret2
         exact⟨some ⟨kb,0,none⟩,by rw[HAT.o];rfl,(fun _=>⟨kb,_,_,vp,o5,c5,rfl,zNt HB0.o.size CF.o,by rw[HS.o,HN.o,KD.o];exact Dv.o,by rw[HS.o];exact En.o⟩),zTr HB0.o BJ.o⟩
        | true =>
         have HS:=ZZ (show z0s es sts e=z0n N (keyE e) e.id from HAS.o.trans (zlc N e))
         obtain⟨_,_,he8,hi8⟩:=z08 En.o
         cases he8
         have Da:=ZZ (fun W (h:Bw W8 W)=>zah o5 N.length c5 N (keyE e) e.id (by omega) (zhy e) hwe W (hi8.below h) (fun y hy=>z3j Dn.o.ok y hy))
         have BZ:=ZZ (fun W=>z9f e Eo.o xa e.levels.length xc ya e.prev.length yc W)
         clear hi8
         generalize keyE e=ky at BZ Da HS
         have hle:=(HE.o W8 BJ.o).lt
         obtain⟨e0,e1,e2,e3,e4,e5,e6,e7,e8⟩:=(HE.o W8 BJ.o).ev
         go_upto_region 13 with fail
         go_region_law (first
          | (rw[if_pos (by rfl)];go_simp;go_at_call 86;refine (BZ.o _).mono ?_;rintro r w9 ⟨rfl,hb9⟩;have hb89:=(Below.refl W8.heap.size W8).drew.trans hb9;have k109:=(hb89.cell hkl).trans k10;have e09:=(hb89.cell hle).trans e0)
          | (rw[if_pos (by rfl)];go_simp;go_at_call 85;refine (Da.o w9 hb89).mono ?_;rintro r w10 ⟨v10,rfl,ho10,hb10⟩;obtain⟨o10,c10,rfl⟩:=zi ho10;have k1010:=(hb10.cell (zLt hkl hb89.size)).trans k109;have f1010:=zh (((zTr hb89 hb10).block kb hkl).trans Dv.o) 10))
         all_goals
          have hb810:=zTr hb89 hb10
          have hK10:=(hb810.block kb hkl).trans Dv.o
          generalize hS10:z0n N ky e.id=S at HS ho10 ⊢
          obtain⟨W11,hW11⟩:∃ W11,w10.setCell ⟨kb,10,none⟩ (.slice o10 S.length c10)=W11:=⟨_,rfl⟩
          obtain⟨hK11,hg11⟩:=zx [.slice o10 S.length c10] w10 _ 10 hK10
          rw[show w10.setCells kb 10 [.slice o10 S.length c10]=W11 from hW11] at hK11 hg11
          rw[hW11]
          have JP:=ZZ (show W11.heap[kb]? = some (.cells (z1o e (.slice xa e.levels.length xc) (.slice ya e.prev.length yc) vp (.slice o10 S.length c10) true true) 76 (0,0)) from hK11)
          have JQ:=ZZ ((zTr BJ.o hb810).grown hg11 (zNt BJ.o.size hb810.size) (fun k hk=>by cases hk;exact CF.o))
          have JR:=ZZ (zu (ho10.kept hg11 (.inr (fun e=>z1p ho10 e hK10 (by decide)))) (zNt HB0.o.size (zNt BJ.o.size hb89.size)))
          clear hb810 hK10 hW11 hK11 hg11 ho10 hb10 hb9 hb89 k109 e09 k1010 f1010 k10 k12 e0 e1 e2 e3 e4 e5 e6 e7 e8 hkl hle Da BZ BJ Dv En hS10
          go_wp2_with fail
          go_ret2
          exact⟨some ⟨kb,0,none⟩,by rw[HAT.o];rfl,(fun _=>⟨kb,_,_,vp,o10,c10,rfl,zNt HB0.o.size CF.o,by rw[HS.o,HN.o,KD.o];exact JP.o,by rw[HS.o];exact JR.o⟩),zTr HB0.o JQ.o⟩
     ·have hd2:(e.depth != dp)=true:=by simpa using hd
      have HF:=ZZ (show z0l es sts e=false by rw[Am.o,show (e.depth==dp)=false by simpa using hd];simp)
      clear hd
      go_wp2_with fail
      go_quiet (first|(go_at_call 82;with_reducible exact Calls.quiet_of_same (DZ.o _)))
      go_wp2_with fail
      go_ret2
      exact⟨none,by rw[HF.o];rfl,(fun h=>by rw[HF.o] at h;cases h),HB0.o.trans ((below_drewN HB2.o _).mono HB0.o.size)⟩
    ·have hdec:decide ((e.prev.filterMap T).length=e.prev.length)=false:=decide_eq_false hall
     go_upto_region 5 with (go_at_call 81;(with_reducible refine ED.o.mono ?_);rintro r w2 ⟨kb,vp,hr,hkb,hK2,hR2,hb2⟩;rw[hdec] at hr;subst hr)
     have JO:=ZZ hkb
     have Dy:=ZZ hK2
     have HR2:=ZZ hR2
     have HB2:=ZZ (zTr HB1.o hb2)
     have AX:=ZZ (HB1.o.size)
     have HS2:=ZZ hb2.size
     clear hdec hkb hK2 hR2 hb2 ED Br a0 a1 e0 e1 e2 e3 e4 e5 e6 e7 e8
     obtain⟨e0,e1,e2,e3,e4,e5,e6,e7,e8⟩:=(HE.o w2 HB2.o).ev
     have HF:=ZZ (show z0l es sts e=false by rw[Am.o,HT.o.lack hall];rfl)
     go_wp2_with fail
     go_quiet (fail)
     go_wp2_with fail
     go_ret2
     exact⟨none,by rw[HF.o];rfl,(fun h=>by rw[HF.o] at h;cases h),HB0.o.trans ((below_drewN HB2.o _).mono HB0.o.size)⟩

end Go.Proofs.YtfeebdcmlnapiaaGreat
