/-
  Walks.
-/
import Derived.Test.YtfeebdcmlnapiaaGreatTWalk10d
import Derived.Test.YtfeebdcmlnapiaaGreatTWalk10m
open Go.Value renaming int->J
open Go.IntKind renaming i64->Y
set_option maxRecDepth 100000
set_option maxHeartbeats 16000000
set_option linter.unusedVariables false
set_option linter.unusedSimpArgs false
namespace Go.Proofs.YtfeebdcmlnapiaaGreat
open Go.RowKit P1 P5 P9 P11 P12 P14 P15 K
theorem zls (e:EvV):heavy e=((e.kind==3)||((e.kind==2)&&((e.member==0)||(e.member==3))&&!(e.sender==e.user))):=rfl

theorem z9m (e:EvV) (xl xp:Value) (w:World) :
  Calls Tryz.prog 224 #[evv e xl xp] w fun r w'=>r=.returned (.bool (heavy e))∧Bw w w':=by
 have HB0:=ZZ ((Below.refl w.heap.size w).alloc zLe (.cells (zk e.id e.kind e.sender e.user e.member e.depth xl xp e.text) 62))
 rw[zls]
 cases k3:(e.kind==3)
 ·cases k2:(e.kind==2)
  ·go_enter Tryz.func224,Tryz.ntmps224
   go_wp2_with fail
   go_ret
   exact⟨rfl,HB0.o⟩
  ·cases m0:(e.member==0)<;>cases m3:(e.member==3)<;>cases su:(e.sender==e.user)
   all_goals
    have su2:=z0h su
    go_enter Tryz.func224,Tryz.ntmps224
    go_wp2_with fail
    all_goals go_ret
    all_goals exact⟨rfl,HB0.o⟩
 ·go_enter Tryz.func224,Tryz.ntmps224
  go_wp2_with fail
  go_ret
  exact⟨by simp,HB0.o⟩

theorem zia (es:List EvV) (s:St) (a b:EvV):z0k es s a b=if (heavy a==heavy b)=true then (if (z0e es s a.sender==z0e es s b.sender)=true then (if (a.depth==b.depth)=true then decide (a.id<b.id) else decide (a.depth<b.depth)) else decide (z0e es s b.sender<z0e es s a.sender)) else heavy a:=by
 unfold z0k
 simp only[beq_iff_eq]

theorem zbb (oa:Zoa) (n cap:Nat) (es:List EvV) (ob:Zoa) (m cb:Nat) (s:Zii) (a:EvV) (al ap:Value) (b:EvV) (bl bp:Value) (w:World) (hat:ArgsE w oa n cap es ob m cb s) :
  Calls Tryz.prog 200 #[.slice oa n cap,.slice ob m cb,evv a al ap,evv b bl bp] w fun r w'=>r=.returned (.bool (z0k es s a b))∧Bw w w':=by
 obtain⟨W2,hW2⟩:∃ W2,(w.alloc (.cells (zk a.id a.kind a.sender a.user a.member a.depth al ap a.text) 62)).alloc (.cells (zk b.id b.kind b.sender b.user b.member b.depth bl bp b.text) 62)=W2:=⟨_,rfl⟩
 have hb0:Bw w W2:=by rw[← hW2];exact ((Below.refl w.heap.size w).alloc zLe _).alloc (by simp) _
 have hEA:EB W2 w.heap.size a.id a.kind a.sender a.user a.member a.depth al ap a.text:=by
  rw[← hW2]
  exact (EB.new w a.id a.kind a.sender a.user a.member a.depth al ap a.text).on (zBa) (by simp)
 have hEB:EB W2 (w.heap.size+1) b.id b.kind b.sender b.user b.member b.depth bl bp b.text:=by
  have:=EB.new (w.alloc (.cells (zk a.id a.kind a.sender a.user a.member a.depth al ap a.text) 62)) b.id b.kind b.sender b.user b.member b.depth bl bp b.text
  rw[World.size_alloc] at this
  rw[← hW2]
  exact this
 have Ew:=ZZ (fun w=>z9m a al ap w)
 have ET:=ZZ (fun w=>z9m b bl bp w)
 have Cf:=ZZ (fun w (h:ArgsE w oa n cap es ob m cb s)=>z1m oa n cap es ob m cb s a.sender w h.evs h.its)
 have GJ:=ZZ (fun w (h:ArgsE w oa n cap es ob m cb s)=>z1m oa n cap es ob m cb s b.sender w h.evs h.its)
 have HAT:=ZZ hat
 have B0:=ZZ hb0
 have EA:=ZZ hEA
 have EBB:=ZZ hEB
 have HW2:=ZZ hW2
 rw[zia]
 generalize heavy a=ha at Ew ⊢
 generalize heavy b=hb at ET ⊢
 generalize z0e es s a.sender=la at Cf ⊢
 generalize z0e es s b.sender=lb at GJ ⊢
 clear hat hb0 hEA hEB hW2
 have hba:=EA.o.lt
 have hbb:=EBB.o.lt
 cases gh:(ha==hb)
 ·rw[if_neg (by simp)]
  have gh2:(ha != hb)=true:=by rw[bne,gh];rfl
  go_enter Tryz.func200,Tryz.ntmps200
  go_wp2_with fail
  try rw[HW2.o]
  refine zn (F:=Bw W2) (by kernel_rfl) (by kernel_rfl) zBr.drew ?_
  have hne:Nonempty (InW (Bw W2)):=⟨⟨_,zBr⟩⟩
  obtain⟨c0,c1,c2,c3,c4,c5,c6,c7,c8⟩:=EA.o.ev
  obtain⟨d0,d1,d2,d3,d4,d5,d6,d7,d8⟩:=EBB.o.ev
  have k0:=ciW c0
  have k1:=ciW c1
  have k2:=ciW c2
  have k3:=ciW c3
  have k4:=ciW c4
  have k5:=ciW c5
  have k6:=ciW c6
  have k7:=ciW c7
  have k8:=ciW c8
  have m0:=ciW d0
  have m1:=ciW d1
  have m2:=ciW d2
  have m3:=ciW d3
  have m4:=ciW d4
  have m5:=ciW d5
  have m6:=ciW d6
  have m7:=ciW d7
  have m8:=ciW d8
  repeat (go_big_quiet_step (first
   | (go_at_call 224;(with_reducible refine (Ew.o _).mono ?_);rintro e' w2 ⟨rfl,hb2⟩;exact⟨rfl,iwW hb2,rfl⟩)
   | (go_at_call 224;(with_reducible refine (ET.o _).mono ?_);rintro e' w2 ⟨rfl,hb2⟩;exact⟨rfl,iwW hb2,rfl⟩)))
  refine wpQuiet_nil ?_
  intro _ hw'
  obtain⟨nq,hw''⟩:=hw'
  subst hw''
  have hnq:=nq.h
  generalize nq.w=w3 at hnq ⊢
  have B3:=ZZ (zTr B0.o hnq)
  have EA3:=ZZ (EA.o.on hnq hba)
  have EB3:=ZZ (EBB.o.on hnq hbb)
  clear hne k0 m0 c0 d0 k1 m1 c1 d1 k2 m2 c2 d2 k3 m3 c3 d3 k4 m4 c4 d4 k5 m5 c5 d5 k6 m6 c6 d6 k7 m7 c7 d7 k8 m8 c8 d8 hnq
  obtain⟨c0,c1,c2,c3,c4,c5,c6,c7,c8⟩:=EA3.o.ev
  obtain⟨d0,d1,d2,d3,d4,d5,d6,d7,d8⟩:=EB3.o.ev
  go_wp2_with fail
  refine (Ew.o _).mono ?_
  rintro r w4 ⟨rfl,hbq⟩
  have B4:=ZZ (zTr B3.o hbq)
  go_wp2_with fail
  go_ret
  exact⟨rfl,B4.o⟩
 ·rw[if_pos rfl]
  have gh2:(ha != hb)=false:=by rw[bne,gh];rfl
  cases gl:(la==lb)
  ·rw[if_neg (by simp)]
   have gl2:=z0h gl
   go_enter Tryz.func200,Tryz.ntmps200
   go_wp2_with fail
   try rw[HW2.o]
   refine zn (F:=Bw W2) (by kernel_rfl) (by kernel_rfl) zBr.drew ?_
   have hne:Nonempty (InW (Bw W2)):=⟨⟨_,zBr⟩⟩
   obtain⟨c0,c1,c2,c3,c4,c5,c6,c7,c8⟩:=EA.o.ev
   obtain⟨d0,d1,d2,d3,d4,d5,d6,d7,d8⟩:=EBB.o.ev
   have k0:=ciW c0
   have k1:=ciW c1
   have k2:=ciW c2
   have k3:=ciW c3
   have k4:=ciW c4
   have k5:=ciW c5
   have k6:=ciW c6
   have k7:=ciW c7
   have k8:=ciW c8
   have m0:=ciW d0
   have m1:=ciW d1
   have m2:=ciW d2
   have m3:=ciW d3
   have m4:=ciW d4
   have m5:=ciW d5
   have m6:=ciW d6
   have m7:=ciW d7
   have m8:=ciW d8
   repeat (go_big_quiet_step (first
    | (go_at_call 224;(with_reducible refine (Ew.o _).mono ?_);rintro e' w2 ⟨rfl,hb2⟩;exact⟨rfl,iwW hb2,rfl⟩)
    | (go_at_call 224;(with_reducible refine (ET.o _).mono ?_);rintro e' w2 ⟨rfl,hb2⟩;exact⟨rfl,iwW hb2,rfl⟩)))
   refine wpQuiet_nil ?_
   intro _ hw'
   obtain⟨nq,hw''⟩:=hw'
   subst hw''
   have hnq:=nq.h
   generalize nq.w=w3 at hnq ⊢
   have B3:=ZZ (zTr B0.o hnq)
   have EA3:=ZZ (EA.o.on hnq hba)
   have EB3:=ZZ (EBB.o.on hnq hbb)
   clear hne k0 m0 c0 d0 k1 m1 c1 d1 k2 m2 c2 d2 k3 m3 c3 d3 k4 m4 c4 d4 k5 m5 c5 d5 k6 m6 c6 d6 k7 m7 c7 d7 k8 m8 c8 d8 hnq
   obtain⟨c0,c1,c2,c3,c4,c5,c6,c7,c8⟩:=EA3.o.ev
   obtain⟨d0,d1,d2,d3,d4,d5,d6,d7,d8⟩:=EB3.o.ev
   go_wp2_with fail
   refine (Cf.o _ (HAT.o.on B3.o)).mono ?_
   rintro r w4 ⟨rfl,hbq⟩
   have B4:=ZZ (zTr B3.o hbq)
   have EA4:=ZZ (EA3.o.on hbq EA3.o.lt)
   have EB4:=ZZ (EB3.o.on hbq EB3.o.lt)
   clear hbq c0 d0 c1 d1 c2 d2 c3 d3 c4 d4 c5 d5 c6 d6 c7 d7 c8 d8
   obtain⟨c0,c1,c2,c3,c4,c5,c6,c7,c8⟩:=EA4.o.ev
   obtain⟨d0,d1,d2,d3,d4,d5,d6,d7,d8⟩:=EB4.o.ev
   go_wp2_with fail
   refine (GJ.o _ (HAT.o.on B4.o)).mono ?_
   rintro r w5 ⟨rfl,hbq⟩
   have B5:=ZZ (zTr B4.o hbq)
   have EA5:=ZZ (EA4.o.on hbq EA4.o.lt)
   have EB5:=ZZ (EB4.o.on hbq EB4.o.lt)
   clear hbq c0 d0 c1 d1 c2 d2 c3 d3 c4 d4 c5 d5 c6 d6 c7 d7 c8 d8
   obtain⟨c0,c1,c2,c3,c4,c5,c6,c7,c8⟩:=EA5.o.ev
   obtain⟨d0,d1,d2,d3,d4,d5,d6,d7,d8⟩:=EB5.o.ev
   go_wp2_with fail
   all_goals go_ret
   all_goals exact⟨rfl,B5.o⟩
  ·rw[if_pos rfl]
   have gl2:=z0h gl
   cases gd:(a.depth==b.depth)
   ·rw[if_neg (by simp)]
    have gd2:=z0h gd
    go_enter Tryz.func200,Tryz.ntmps200
    go_wp2_with fail
    try rw[HW2.o]
    refine zn (F:=Bw W2) (by kernel_rfl) (by kernel_rfl) zBr.drew ?_
    have hne:Nonempty (InW (Bw W2)):=⟨⟨_,zBr⟩⟩
    obtain⟨c0,c1,c2,c3,c4,c5,c6,c7,c8⟩:=EA.o.ev
    obtain⟨d0,d1,d2,d3,d4,d5,d6,d7,d8⟩:=EBB.o.ev
    have k0:=ciW c0
    have k1:=ciW c1
    have k2:=ciW c2
    have k3:=ciW c3
    have k4:=ciW c4
    have k5:=ciW c5
    have k6:=ciW c6
    have k7:=ciW c7
    have k8:=ciW c8
    have m0:=ciW d0
    have m1:=ciW d1
    have m2:=ciW d2
    have m3:=ciW d3
    have m4:=ciW d4
    have m5:=ciW d5
    have m6:=ciW d6
    have m7:=ciW d7
    have m8:=ciW d8
    repeat (go_big_quiet_step (first
     | (go_at_call 224;(with_reducible refine (Ew.o _).mono ?_);rintro e' w2 ⟨rfl,hb2⟩;exact⟨rfl,iwW hb2,rfl⟩)
     | (go_at_call 224;(with_reducible refine (ET.o _).mono ?_);rintro e' w2 ⟨rfl,hb2⟩;exact⟨rfl,iwW hb2,rfl⟩)))
    refine wpQuiet_nil ?_
    intro _ hw'
    obtain⟨nq,hw''⟩:=hw'
    subst hw''
    have hnq:=nq.h
    generalize nq.w=w3 at hnq ⊢
    have B3:=ZZ (zTr B0.o hnq)
    have EA3:=ZZ (EA.o.on hnq hba)
    have EB3:=ZZ (EBB.o.on hnq hbb)
    clear hne k0 m0 c0 d0 k1 m1 c1 d1 k2 m2 c2 d2 k3 m3 c3 d3 k4 m4 c4 d4 k5 m5 c5 d5 k6 m6 c6 d6 k7 m7 c7 d7 k8 m8 c8 d8 hnq
    obtain⟨c0,c1,c2,c3,c4,c5,c6,c7,c8⟩:=EA3.o.ev
    obtain⟨d0,d1,d2,d3,d4,d5,d6,d7,d8⟩:=EB3.o.ev
    go_wp2_with fail
    refine (Cf.o _ (HAT.o.on B3.o)).mono ?_
    rintro r w4 ⟨rfl,hbq⟩
    have B4:=ZZ (zTr B3.o hbq)
    have EA4:=ZZ (EA3.o.on hbq EA3.o.lt)
    have EB4:=ZZ (EB3.o.on hbq EB3.o.lt)
    clear hbq c0 d0 c1 d1 c2 d2 c3 d3 c4 d4 c5 d5 c6 d6 c7 d7 c8 d8
    obtain⟨c0,c1,c2,c3,c4,c5,c6,c7,c8⟩:=EA4.o.ev
    obtain⟨d0,d1,d2,d3,d4,d5,d6,d7,d8⟩:=EB4.o.ev
    go_wp2_with fail
    refine (GJ.o _ (HAT.o.on B4.o)).mono ?_
    rintro r w5 ⟨rfl,hbq⟩
    have B5:=ZZ (zTr B4.o hbq)
    have EA5:=ZZ (EA4.o.on hbq EA4.o.lt)
    have EB5:=ZZ (EB4.o.on hbq EB4.o.lt)
    clear hbq c0 d0 c1 d1 c2 d2 c3 d3 c4 d4 c5 d5 c6 d6 c7 d7 c8 d8
    obtain⟨c0,c1,c2,c3,c4,c5,c6,c7,c8⟩:=EA5.o.ev
    obtain⟨d0,d1,d2,d3,d4,d5,d6,d7,d8⟩:=EB5.o.ev
    go_wp2_with fail
    all_goals go_ret
    all_goals exact⟨rfl,B5.o⟩
   ·rw[if_pos rfl]
    have gd2:=z0h gd
    go_enter Tryz.func200,Tryz.ntmps200
    go_wp2_with fail
    try rw[HW2.o]
    refine zn (F:=Bw W2) (by kernel_rfl) (by kernel_rfl) zBr.drew ?_
    have hne:Nonempty (InW (Bw W2)):=⟨⟨_,zBr⟩⟩
    obtain⟨c0,c1,c2,c3,c4,c5,c6,c7,c8⟩:=EA.o.ev
    obtain⟨d0,d1,d2,d3,d4,d5,d6,d7,d8⟩:=EBB.o.ev
    have k0:=ciW c0
    have k1:=ciW c1
    have k2:=ciW c2
    have k3:=ciW c3
    have k4:=ciW c4
    have k5:=ciW c5
    have k6:=ciW c6
    have k7:=ciW c7
    have k8:=ciW c8
    have m0:=ciW d0
    have m1:=ciW d1
    have m2:=ciW d2
    have m3:=ciW d3
    have m4:=ciW d4
    have m5:=ciW d5
    have m6:=ciW d6
    have m7:=ciW d7
    have m8:=ciW d8
    repeat (go_big_quiet_step (first
     | (go_at_call 224;(with_reducible refine (Ew.o _).mono ?_);rintro e' w2 ⟨rfl,hb2⟩;exact⟨rfl,iwW hb2,rfl⟩)
     | (go_at_call 224;(with_reducible refine (ET.o _).mono ?_);rintro e' w2 ⟨rfl,hb2⟩;exact⟨rfl,iwW hb2,rfl⟩)))
    refine wpQuiet_nil ?_
    intro _ hw'
    obtain⟨nq,hw''⟩:=hw'
    subst hw''
    have hnq:=nq.h
    generalize nq.w=w3 at hnq ⊢
    have B3:=ZZ (zTr B0.o hnq)
    have EA3:=ZZ (EA.o.on hnq hba)
    have EB3:=ZZ (EBB.o.on hnq hbb)
    clear hne k0 m0 c0 d0 k1 m1 c1 d1 k2 m2 c2 d2 k3 m3 c3 d3 k4 m4 c4 d4 k5 m5 c5 d5 k6 m6 c6 d6 k7 m7 c7 d7 k8 m8 c8 d8 hnq
    obtain⟨c0,c1,c2,c3,c4,c5,c6,c7,c8⟩:=EA3.o.ev
    obtain⟨d0,d1,d2,d3,d4,d5,d6,d7,d8⟩:=EB3.o.ev
    go_wp2_with fail
    refine (Cf.o _ (HAT.o.on B3.o)).mono ?_
    rintro r w4 ⟨rfl,hbq⟩
    have B4:=ZZ (zTr B3.o hbq)
    have EA4:=ZZ (EA3.o.on hbq EA3.o.lt)
    have EB4:=ZZ (EB3.o.on hbq EB3.o.lt)
    clear hbq c0 d0 c1 d1 c2 d2 c3 d3 c4 d4 c5 d5 c6 d6 c7 d7 c8 d8
    obtain⟨c0,c1,c2,c3,c4,c5,c6,c7,c8⟩:=EA4.o.ev
    obtain⟨d0,d1,d2,d3,d4,d5,d6,d7,d8⟩:=EB4.o.ev
    go_wp2_with fail
    refine (GJ.o _ (HAT.o.on B4.o)).mono ?_
    rintro r w5 ⟨rfl,hbq⟩
    have B5:=ZZ (zTr B4.o hbq)
    have EA5:=ZZ (EA4.o.on hbq EA4.o.lt)
    have EB5:=ZZ (EB4.o.on hbq EB4.o.lt)
    clear hbq c0 d0 c1 d1 c2 d2 c3 d3 c4 d4 c5 d5 c6 d6 c7 d7 c8 d8
    obtain⟨c0,c1,c2,c3,c4,c5,c6,c7,c8⟩:=EA5.o.ev
    obtain⟨d0,d1,d2,d3,d4,d5,d6,d7,d8⟩:=EB5.o.ev
    go_wp2_with fail
    all_goals go_ret
    all_goals exact⟨rfl,B5.o⟩

theorem zlt {ahead left out:Zin} {j:Nat} {z:Int} (h:ahead[j]? = some z):ready (ahead.drop j) left out=((!(inL left z)||inL out z)&&ready (ahead.drop (j+1)) left out):=by
 obtain⟨hj,rfl⟩:=zGi.1 h
 rw[List.drop_eq_getElem_cons hj]
 simp only[ready,List.all_cons,inL]

theorem zer (oa:Zoa) (n cap:Nat) (ah:Zin) (ob:Zoa) (m cb:Nat) (left:Zin) (oc:Zoa) (p cc:Nat) (out:Zin) (w:World) (hat:IntsAt w oa n cap ah) (hbt:IntsAt w ob m cb left) (hct:IntsAt w oc p cc out) :
  Calls Tryz.prog 199 #[.slice oa n cap,.slice ob m cb,.slice oc p cc] w fun r w'=>r=.returned (.bool (ready ah left out))∧w=w':=by
 have hn:=hat.len
 have hm:=zNt hat.room hat.most
 unfold maxLen at hm
 have HN:=ZZ hn
 have HAT:=ZZ hat
 have HL:=ZZ (fun z=>z5w ob m cb left z w hbt)
 have HO:=ZZ (fun z=>z5w oc p cc out z w hct)
 clear hn hat hbt hct
 go_enter Tryz.func199,Tryz.ntmps199
 go_wp2_with fail
 go_loop [7] (fun i=>∃ (j:Nat),i=J Y (j:Int)∧j≤n∧ready (ah.drop j) left out=ready ah left out) (fun i=>n - (intOf i).toNat)
 case atStart=>exact⟨0,rfl,Nat.zero_le _,rfl⟩
 case round =>
  obtain⟨j,rfl,hj,hrest⟩:=hrel
  by_cases hlt:j<n
  ·have j0:(j:Int)<(n:Int):=by omega
   obtain⟨z,b,q,hz,hidx,hb,c0,hwz⟩:=HAT.o.get Tryz.underlying60 z0f j hlt
   rw[zlt hz] at hrest
   have Be:=ZZ (HL.o z)
   have Bi:=ZZ (HO.o z)
   generalize inL left z=r1 at Be hrest
   generalize inL out z=r2 at Bi hrest
   clear hz
   cases r1
   ·have HR:=ZZ (show ready (ah.drop (j+1)) left out=ready ah left out by rw[← hrest];simp)
    clear hrest
    go_wp2_with (go_at_call 198;(with_reducible refine Be.o.mono ?_);rintro r w2 ⟨rfl,rfl⟩)
    go_round
    case rel=>exact⟨j+1,by go_num,by omega,HR.o⟩
    case measure=>simp[intOf];omega
   ·cases r2
    ·have HR:=ZZ (show ready ah left out=false by rw[← hrest];simp)
     clear hrest
     go_wp2_with (first
      | (go_at_call 198;(with_reducible refine Be.o.mono ?_);rintro r w2 ⟨rfl,rfl⟩)
      | (go_at_call 198;(with_reducible refine Bi.o.mono ?_);rintro r w2 ⟨rfl,rfl⟩))
     go_ret
     exact⟨by rw[HR.o];rfl,rfl⟩
    ·have HR:=ZZ (show ready (ah.drop (j+1)) left out=ready ah left out by rw[← hrest];simp)
     clear hrest
     go_wp2_with (first
      | (go_at_call 198;(with_reducible refine Be.o.mono ?_);rintro r w2 ⟨rfl,rfl⟩)
      | (go_at_call 198;(with_reducible refine Bi.o.mono ?_);rintro r w2 ⟨rfl,rfl⟩))
     go_round
     case rel=>exact⟨j+1,by go_num,by omega,HR.o⟩
     case measure=>simp[intOf];omega
  ·have hjn:j=n:=by omega
   have HR:=ZZ (show ready ah left out=true by rw[← hrest,hjn,← HN.o,List.drop_length];rfl)
   clear hrest
   go_wp2_with fail
   go_ret
   exact⟨by rw[HR.o];rfl,rfl⟩

def Aside2 (v1 v2:Value):Prop:=∀ q,v1.ownBlock=some q→v2.ownBlock≠some q

theorem Aside2.symm {v1 v2:Value} (h:Aside2 v1 v2):Aside2 v2 v1:=fun q h1 h2=>h q h2 h1

theorem z1n {P:Program} {W0:World} {ops:Array Oper} {rest:List Oper} {o:Oper} {a:Act} {Q:Exit→Act→World→Prop} (hgd:o.guard=none) (s x:Operand) (t:TypeId)
  (ho:o.op=.call { callee:=.builtin .append,args:=#[s,x],argTypes:=#[t,t] })
  {base k:Nat} (hk0:0<k) {e:TypeId} {z:Value} {bytes:Nat} (ht:P.underlying t=some (.slice e)) (hi:(P.info? e).map (fun i=>(i.zero,i.size,i.bytes))=some (some z,k,bytes)) (hzs:z.cells.size=k)
  {v:Value} {n:Nat} {xs:Zvs} (hs:a.eval s=v) (hown:W0.ownsRow base e k v n xs)
  {cs:Array Value} (hx:a.eval x=.slice (some ⟨W0.heap.size,0,none⟩) 1 1) (hm:cs.toList.length=k) (hu:∀ u∈cs.toList,u.oneCell'=true)
  (hbase:base≤W0.heap.size) (h63:n+1≤maxLen) (hbytes:(n+1) * bytes≤140737488355328)
  (h:∀ v' w',w'.ownsRow base e k v' (n+1) (xs++cs.toList)→(W0.alloc (.cells cs e)).grownBy w' v.ownBlock→(v'.ownBlock=v.ownBlock∨v'.ownBlock=some (W0.heap.size+1))→wpList P ops Q rest (a.put o.dst v') w'):wpList P ops Q (o::rest) a (W0.alloc (.cells cs e)):=by
 obtain⟨i,hi,hz,h1,h2⟩:=info_parts hi
 refine wpList_append_own_at _ hgd s x t ho base e i z k bytes ht hi hz h1 h2 hzs hk0 v n xs hs (hown.alloc _) ⟨W0.heap.size,0,none⟩ 1 1 cs.toList hx (by rw[hm];omega) (World.news_of_block (heap_alloc_new W0 _)) hu h63 hbytes (by simp;omega) ?_
 intro v' w' hown' hgrow _ hloc
 refine h v' w' hown' hgrow ?_
 rw[World.size_alloc] at hloc
 exact hloc

theorem beside {W0 w':World} {b2:Nat} {e2:TypeId} {k2:Nat} {v v' v2:Value} {n2:Nat} {xs2:Zvs} {o:Obj} (h2:W0.ownsRow b2 e2 k2 v2 n2 xs2) (hap:Aside2 v2 v) (hg:(W0.alloc o).grownBy w' v.ownBlock) (hloc:v'.ownBlock=v.ownBlock∨v'.ownBlock=some (W0.heap.size+1)) :
  w'.ownsRow b2 e2 k2 v2 n2 xs2∧Aside2 v2 v':=by
 refine⟨(h2.alloc o).kept hg ?_,fun q hq=>?_⟩
 ·cases hv:v2.ownBlock with
  | none=>exact Or.inl rfl
  | some g=>exact Or.inr (fun e=>hap g hv e.symm)
 ·rcases hloc with hl|hl
  ·rw[hl];exact hap q hq
  ·rw[hl]
   intro e
   have:=(h2.lt q hq).2
   cases e
   omega

theorem z5q {B:Nat} {w W0 w':World} {base:Nat} {e:TypeId} {k:Nat} {v:Value} {n:Nat} {xs:Zvs} {o:Obj} (hb:Below B w W0) (hB:B≤W0.heap.size) (hown:W0.ownsRow base e k v n xs) (hbase:B≤base) (hg:(W0.alloc o).grownBy w' v.ownBlock):Below B w w' :=
 (hb.alloc hB o).grown hg (by simp;omega) (fun q hq=>zNt hbase (hown.lt q hq).1)

theorem z7p {w w2:World} {b1 b2:Nat} {e1 e2:TypeId} {k1 k2 n1 n2:Nat} {v1 v2:Value} {xs1 xs2:Zvs} (h1:w.ownsRow b1 e1 k1 v1 n1 xs1) (h2:w2.ownsRow b2 e2 k2 v2 n2 xs2) (hb:w.heap.size≤b2):Aside2 v1 v2:=by
 intro k q1 q2
 have:=(h1.lt k q1).2
 have:=(h2.lt k q2).1
 omega

theorem z6s {l:Zin} {x:Int}:(l++[x]).map z03=l.map z03++[J Y x]:=by simp[z03]

theorem z0p {α:Type} {l:List α} {x:α}:(l++[x]).length=l.length+1:=by simp

set_option maxRecDepth 20000

structure WinN (w:World) (base g o cap:Nat) (l:Zin):Prop where
 lo:base≤g
 room:l.length≤cap
 most:cap≤maxLen
 wf:∀ z∈l,(Lit.int .i64 z).wf=true
 blk:∃ cur,w.heap[g]? = some (.cells cur 3 (0,0))∧o+cap≤cur.size∧∀ j z,l[j]? = some z→cur[o+j]? = some (J Y z)

theorem WinN.lt {w:World} {base g o cap:Nat} {l:Zin} (h:WinN w base g o cap l):g<w.heap.size:=by
 obtain⟨cur,hb,_⟩:=h.blk
 exact ze hb

theorem WinN.kept {w w':World} {base g o cap:Nat} {l:Zin} {row:Option Nat} (h:WinN w base g o cap l) (hg:w.grownBy w' row) (hne:row≠some g):WinN w' base g o cap l:=by
 obtain⟨h1,h2,h3,h4,cur,hb,hc⟩:=h
 exact⟨h1,h2,h3,h4,cur,(hg.block g (ze hb) (fun e=>hne e.symm)).trans hb,hc⟩

theorem WinN.below {w w':World} {base g o cap:Nat} {l:Zin} (h:WinN w base g o cap l) (hb:Bw w w'):WinN w' base g o cap l:=h.kept (row:=none) (z0y hb) (fun e=>by cases e)

theorem WinN.head {w:World} {base g o cap:Nat} {z:Int} {r:Zin} (h:WinN w base g o cap (z::r)):w.cell? ⟨g,o,none⟩=some (J Y z):=by
 obtain⟨h1,h2,h3,h4,cur,hb,hc,hz⟩:=h
 exact zb hb _ (hz 0 z rfl)

theorem zlu (w:World) (base:Nat) (x:Int) (hb:base≤w.heap.size) (hx:(Lit.int .i64 x).wf=true):WinN (w.alloc (.cells #[J Y x] 3)) base w.heap.size 0 1 [x] :=
 ⟨hb,by simp,by unfold maxLen;omega,fun z hz=>by simp at hz;subst hz;exact hx,_,heap_alloc_new w _,by simp,fun j z hj=>by
  match j,hj with
  | 0,hj=>simpa using hj⟩

theorem WinN.tail {w:World} {base g o cap:Nat} {z:Int} {r:Zin} (h:WinN w base g o cap (z::r)) :
  ∃ o' cap',(∀ wx,(Instr.slice 60 (.slice (some ⟨g,o,none⟩) (r.length+1) cap) (some (J Y 1)) none none).run Tryz.prog wx=.ok (.slice (some ⟨g,o',none⟩) r.length cap') wx)∧WinN w base g o' cap' r:=by
 obtain⟨h1,h2,h3,h4,cur,hb,hc,hz⟩:=h
 simp only[List.length_cons] at h2
 have he:Tryz.prog.elem 60=3:=by kernel_rfl
 have hs:∀ wx:World,(sizeOf 3).run Tryz.prog wx=.ok 1 wx:=fun wx=>Tryz.sizeOf3 wx
 by_cases hcap:cap=1
 ·subst hcap
  have hr:r=[]:=List.eq_nil_of_length_eq_zero (by omega)
  subst hr
  refine⟨o,0,fun wx=>?_,⟨h1,by simp,by unfold maxLen;omega,fun z hz=>by simp at hz,cur,hb,by omega,fun j z hj=>by simp at hj⟩⟩
  have:=run_slice_l (P:=Tryz.prog) wx 60 (some ⟨g,o,none⟩) 1 1 (by rw[he];exact Tryz.underlying60) .i64 1 (by omega) (by omega)
  rw[he] at this
  simpa [hs,Result.andThen,sliced] using this
 ·refine⟨o+1,cap - 1,fun wx=>?_,⟨h1,by omega,by omega,fun y hy=>h4 y (List.mem_cons_of_mem _ hy),cur,hb,by omega,fun j y hj=>?_⟩⟩
  ·have:=run_slice_l (P:=Tryz.prog) wx 60 (some ⟨g,o,none⟩) (r.length+1) cap (by rw[he];exact Tryz.underlying60) .i64 1 (by omega) (by omega)
   rw[he] at this
   have hc1:¬ cap=1:=hcap
   simpa [hs,Result.andThen,sliced,hc1,Addr.add_mid] using this
  ·have:=hz (j+1) y (by simpa using hj)
   rw[show o+1+j=o+(j+1) from by omega]
   exact this

theorem zca {w:World} {base g o cap:Nat} {l:Zin} (ty:TypeId) (h:WinN w base g o cap l) (x:Int) (hx:(Lit.int .i64 x).wf=true) {b c:Nat} (hbk:w.heap[b]? = some (.cells #[J Y x] 3 (0,0))) (hbase:base≤w.heap.size) (hl:l.length+1≤1000000000) :
  ∃ g' o' cap' w',(Builtin.append_ #[60,60] ty #[.slice (some ⟨g,o,none⟩) l.length cap,.slice (some ⟨b,0,none⟩) 1 c]).run Tryz.prog w=.ok (.slice (some ⟨g',o',none⟩) (l.length+1) cap') w'∧WinN w' base g' o' cap' (l++[x])∧w.grownBy w' (some g)∧(g'=g∨g'=w.heap.size):=by
 obtain⟨i,hi,hz,h1,h2⟩:=info_parts z1u
 have hwn:∀ z∈l++[x],(Lit.int .i64 z).wf=true:=fun z hz=>by
  rcases List.mem_append.1 hz with hz|hz
  ·exact h.wf z hz
  ·simp at hz;subst hz;exact hx
 have hnews:∀ j u,[J Y x][j]? = some u→w.cell? ((⟨b,0,none⟩:Addr).add j)=some u:=fun j u hu=>World.news_of_block hbk j u (by simpa using hu)
 obtain⟨k1,k2,k3,k4,cur,hb,hc,hzz⟩:=h
 have ht:=Tryz.underlying60
 by_cases hroom:l.length+1≤cap
 ·have hst:=run_storeCells_at Tryz.prog g (o+l.length) 3 [J Y x] 0 cur w hb (by simp;omega) (by simp[Value.oneCell'])
  simp only[Nat.add_zero] at hst
  have hf:=run_firstCells_some (P:=Tryz.prog) w i.size 1 ⟨b,0,none⟩ 1 c [J Y x] (by simp[h1]) hnews
  refine⟨g,o,cap,w.setRow g (cur.toList.take (o+l.length)++[J Y x]++cur.toList.drop (o+l.length+1)).toArray,?_,⟨k1,by simp;omega,k3,hwn,_,setRow_heap w g cur _ 3 _ hb,?_,fun j z hj=>?_⟩,⟨rfl,rfl,rfl,by simp,fun k _ hk=>setRow_other w g k _ (fun e=>hk (by rw[e]))⟩,.inl rfl⟩
  ·simp[Builtin.append_,run_underlying ht,sizeOf,typeInfo,hi,h1,Builtin.lenOf,hroom,Addr.add_mid]
   rw[h1] at hf
   simp[hf,hst]
  ·simp
   omega
  ·have hcs:o+l.length<cur.size:=by omega
   rcases Nat.lt_or_ge j l.length with hjl|hjl
   ·rw[List.getElem?_append_left hjl] at hj
    have:=hzz j z hj
    simp only[List.getElem?_toArray]
    rw[List.append_assoc,List.getElem?_append_left (by simp;omega),List.getElem?_take_of_lt (by omega)]
    simpa using this
   ·have hjle:j=l.length:=by
     have:=(zGi.1 hj).1
     simp at this
     omega
    subst hjle
    rw[List.getElem?_append_right zLe] at hj
    simp at hj
    subst hj
    simp only[List.getElem?_toArray]
    rw[List.append_assoc,List.getElem?_append_right (by simp;omega)]
    simp[Nat.min_eq_left (Nat.le_of_lt hcs)]
 ·have holds:∀ j u,(l.map z03)[j]? = some u→w.cell? ((⟨g,o,none⟩:Addr).add j)=some u:=fun j u hu=>by
   rw[List.getElem?_map] at hu
   cases hq:l[j]? with
   | none=>rw[hq] at hu;cases hu
   | some z =>
    rw[hq] at hu
    cases hu
    rw[Addr.add_mid]
    exact zb hb _ (hzz j z hq)
  have hr:=run_append_grow (P:=Tryz.prog) w 60 ty 3 i (J Y 0) ht hi hz ⟨g,o,none⟩ l.length cap (l.map z03) (by simp[h1]) holds ⟨b,0,none⟩ 1 c [J Y x] (by simp[h1]) hnews (by omega) (by omega) (growslice_fits (by omega) (by rw[h2];omega))
  have hge:=grownCap_ge w (l.length+1) cap 3
  have hcm:grownCap w (l.length+1) cap 3≤maxLen:=grownCap_le_maxLen w (l.length+1) cap 3 (by unfold maxLen;omega)
  refine⟨w.heap.size,0,_,_,hr,⟨hbase,by simpa using hge,hcm,hwn,_,heap_alloc_new w.drew _,?_,fun j z hj=>?_⟩,⟨rfl,rfl,rfl,by simp,fun k hk _=>heap_alloc_old w.drew _ hk⟩,.inr rfl⟩
  ·simp[size_zeroCells,Value.cells]
   omega
  ·have hjl:j<l.length+1:=by
    have:=(zGi.1 hj).1
    simpa using this
   rw[Nat.zero_add]
   have e1:(l++[x])[j]?.map z03=some (J Y z):=by rw[hj];rfl
   rw[← List.getElem?_map,List.map_append] at e1
   rw[← e1,Array.getElem?_append_left (by simp;omega)]
   simp[z03]

theorem zbc {W0:World} {ops:Array Oper} {rest:List Oper} {o':Oper} {a:Act} {Q:Exit→Act→World→Prop} (hgd:o'.guard=none) (s x:Operand)
  (ho:o'.op=.call { callee:=.builtin .append,args:=#[s,x],argTypes:=#[60,60] })
  {base g o cap:Nat} {l:Zin} (h:WinN W0 base g o cap l) (y:Int) (hy:(Lit.int .i64 y).wf=true)
  (hs:a.eval s=.slice (some ⟨g,o,none⟩) l.length cap) (hx:a.eval x=.slice (some ⟨W0.heap.size,0,none⟩) 1 1) (hbase:base≤W0.heap.size) (hl:l.length+1≤1000000000)
  (hK:∀ g' o2 cap' w',WinN w' base g' o2 cap' (l++[y])→(W0.alloc (.cells #[J Y y] 3)).grownBy w' (some g)→(g'=g∨g'=W0.heap.size+1)→wpList Tryz.prog ops Q rest (a.put o'.dst (.slice (some ⟨g',o2,none⟩) (l.length+1) cap')) w'):wpList Tryz.prog ops Q (o'::rest) a (W0.alloc (.cells #[J Y y] 3)):=by
 refine wpList_plain hgd fun K hKK=>?_
 obtain⟨g',o2,cap',w',hr,r1,r2,r3⟩:=zca (w:=W0.alloc (.cells #[J Y y] 3)) o'.type (h.below (zBa)) y hy (b:=W0.heap.size) (c:=1) (heap_alloc_new W0 _) (by simp;omega) hl
 unfold Oper.wp execOp
 simp only[ho,resolve,invoke,builtin,Sem.run_bind,Sem.run_pure,Result.andThen_ok,List.map_toArray,List.map_cons,List.map_nil,hs,hx,hr]
 rw[World.size_alloc] at r3
 exact hKK _ _ (hK g' o2 cap' w' r1 r2 r3)

theorem z6o (es:List EvV) (id:Int):evKn es id=(evOf es id,(zf es id).isSome):=by
 unfold evOf
 cases h:zf es id with
 | none=>rw[z16 h];rfl
 | some e=>rw[z15 h];rfl

def lenS:Value→Nat
 | .slice _ n _=>n
 | _=>0

structure Beh (es:List EvV) (w wr:World) (v:Value) (g o cap:Nat) (out todo:Zin):Prop where
 own:wr.ownsRow w.heap.size 3 1 v out.length (out.map z03)
 win:WinN wr w.heap.size g o cap todo
 ap:v.ownBlock≠some g
 bel:Bw w wr
 ok:BehOk es out
 wf:∀ z∈out,(Lit.int .i64 z).wf=true
 few:todo.length≤out.length+1

theorem Beh.below {es:List EvV} {w wr w2:World} {v:Value} {g o cap:Nat} {out todo:Zin} (h:Beh es w wr v g o cap out todo) (hb:Bw wr w2):Beh es w w2 v g o cap out todo :=
 ⟨own_below h.own hb,h.win.below hb,h.ap,zTr h.bel hb,h.ok,h.wf,h.few⟩

theorem Beh.new (es:List EvV) (w:World) (id:Int) (hid:(Lit.int .i64 id).wf=true):Beh es w ((w.alloc (.cells #[] 3)).alloc (.cells #[J Y id] 3)) (.slice (some ⟨w.heap.size,0,none⟩) 0 0) (w.heap.size+1) 0 1 [] [id]:=by
 have hw:=zlu (w.alloc (.cells #[] 3)) w.heap.size id (by simp) hid
 rw[World.size_alloc] at hw
 refine⟨(OutN.new w).own.alloc _,hw,?_,(zBa).alloc (by simp) _,⟨by simp,fun z hz=>by simp at hz⟩,fun z hz=>by simp at hz,by simp⟩
 intro e
 simp[Value.ownBlock] at e

theorem Beh.more {es:List EvV} {w wr w1 w2:World} {v v1:Value} {g o cap g2 o2 cap2:Nat} {out todo:Zin} {z:Int} {ob:Obj} (h:Beh es w wr v g o cap out todo)
  (h1:w1.ownsRow w.heap.size 3 1 v1 (out.length+1) (out.map z03++[J Y z])) (hg1:(wr.alloc ob).grownBy w1 v.ownBlock) (hl1:v1.ownBlock=v.ownBlock∨v1.ownBlock=some (wr.heap.size+1))
  (h2:WinN w2 w.heap.size g2 o2 cap2 (todo++[z])) (hg2:(w1.alloc ob).grownBy w2 (some g)) (hl2:g2=g∨g2=w1.heap.size+1) (hok:BehOk es (out++[z])) (hz:(Lit.int .i64 z).wf=true):Beh es w w2 v1 g2 o2 cap2 (out++[z]) (todo++[z]):=by
 have hwin:=h.win.lt
 have hs1:wr.heap.size+1≤w1.heap.size:=by
  have:=hg1.size
  rwa [World.size_alloc] at this
 have hv1g:v1.ownBlock≠some g:=by
  rcases hl1 with e|e
  ·rw[e];exact h.ap
  ·rw[e];intro q;cases q;omega
 refine⟨?_,h2,?_,?_,hok,fun y hy=>?_,by simp;exact h.few⟩
 ·rw[z0p,z6s]
  refine (h1.alloc ob).kept hg2 ?_
  cases hv:v1.ownBlock with
  | none=>exact Or.inl rfl
  | some q=>exact Or.inr (fun e=>hv1g (by rw[hv,e]))
 ·rcases hl2 with e|e
  ·rw[e];exact hv1g
  ·intro q
   have:=(h1.lt _ q).2
   omega
 ·exact ((z5q h.bel h.bel.size h.own zLe hg1).alloc (zNt h.bel.size (by omega)) ob).grown hg2 (by have:=h.bel.size;simp;omega) (fun q hq=>by cases hq;exact h.win.lo)
 ·rcases List.mem_append.1 hy with hy|hy
  ·exact h.wf y hy
  ·simp at hy;subst hy;exact hz

theorem zju {es:List EvV} {p:Zin × Zin} {zs:Zin} {j:Nat} {z:Int} (h:zs[j]? = some z):z0o es p (zs.drop j)=z0o es (z1j es p z) (zs.drop (j+1)):=by
 obtain⟨hj,rfl⟩:=zGi.1 h
 rw[List.drop_eq_getElem_cons hj]
 rfl

theorem zd2 (es:List EvV) (o1 t1:Zin) (z:Int):z1j es (o1,t1) z=if (zf es z).isSome&&!inL o1 z then (o1++[z],t1++[z]) else (o1,t1):=rfl

structure Beh2 (es:List EvV) (w wr:World) (v:Value) (g o cap:Nat) (out todo:Zin) (be:Nat) (e:EvV) (xl xp:Value):Prop where
 b:Beh es w wr v g o cap out todo
 e:EB wr be e.id e.kind e.sender e.user e.member e.depth xl xp e.text
 nv:v.ownBlock≠some be
 ng:g≠be

section
variable {es:List EvV} {w wr w1 w2:World} {v v1:Value} {g o cap g2 o2 cap2 be:Nat} {out todo:Zin} {e:EvV} {xl xp:Value} {z:Int} {ob:Obj}

theorem Beh2.below (h:Beh2 es w wr v g o cap out todo be e xl xp) (hb:Bw wr w2):Beh2 es w w2 v g o cap out todo be e xl xp :=
 ⟨h.b.below hb,h.e.on hb h.e.lt,h.nv,h.ng⟩

theorem Beh2.mid (h:Beh2 es w wr v g o cap out todo be e xl xp) (h1:w1.ownsRow w.heap.size 3 1 v1 (out.length+1) (out.map z03++[J Y z])) (hg1:(wr.alloc ob).grownBy w1 v.ownBlock) (hl1:v1.ownBlock=v.ownBlock∨v1.ownBlock=some (wr.heap.size+1)) :
  Bw w w1∧EB w1 be e.id e.kind e.sender e.user e.member e.depth xl xp e.text∧v1.ownBlock≠some be∧WinN w1 w.heap.size g o cap todo:=by
 refine⟨z5q h.b.bel h.b.bel.size h.b.own zLe hg1,(h.e.on (zBr.alloc zLe ob) h.e.lt).kept hg1 h.nv,?_,(h.b.win.below (zBr.alloc zLe ob)).kept hg1 h.b.ap⟩
 have:=h.e.lt
 rcases hl1 with e|e
 ·rw[e];exact h.nv
 ·rw[e];intro q;cases q;omega

theorem Beh2.more (h:Beh2 es w wr v g o cap out todo be e xl xp)
  (h1:w1.ownsRow w.heap.size 3 1 v1 (out.length+1) (out.map z03++[J Y z])) (hg1:(wr.alloc ob).grownBy w1 v.ownBlock) (hl1:v1.ownBlock=v.ownBlock∨v1.ownBlock=some (wr.heap.size+1))
  (h2:WinN w2 w.heap.size g2 o2 cap2 (todo++[z])) (hg2:(w1.alloc ob).grownBy w2 (some g)) (hl2:g2=g∨g2=w1.heap.size+1) (hok:BehOk es (out++[z])) (hz:(Lit.int .i64 z).wf=true):Beh2 es w w2 v1 g2 o2 cap2 (out++[z]) (todo++[z]) be e xl xp:=by
 obtain⟨m1,m2,m3,m4⟩:=h.mid h1 hg1 hl1
 refine⟨h.b.more h1 hg1 hl1 h2 hg2 hl2 hok hz,(m2.on (zBr.alloc zLe ob) m2.lt).kept hg2 (fun q=>h.ng (zSi q)),m3,?_⟩
 have:=m2.lt
 rcases hl2 with e|e
 ·rw[e];exact h.ng
 ·omega
end

theorem zdr (oa:Zoa) (n cap:Nat) (es:List EvV) (id:Int) (hid:(Lit.int .i64 id).wf=true) (hn20:n≤1048576) (w:World) (hat:EvsAt w oa n cap es) :
  Calls Tryz.prog 197 #[.slice oa n cap,J Y id] w fun r w'=>z5c w (behind es id) r w'∧∀ z∈behind es id,(Lit.int .i64 z).wf=true:=by
 have HN:=ZZ hat.len
 have HAT:=ZZ hat
 have HF:=ZZ (fun z w1 (hb:Bw w w1)=>z4x w oa n cap es z w1 hat hb)
 have HB0:=ZZ (Beh.new es w id hid)
 obtain⟨R,hR⟩:∃ R,behind es id=R:=⟨_,rfl⟩
 rw[hR]
 have Ad:=ZZ (show z6g es (es.length+2) [] [id]=R from hR)
 clear hat hR
 go_enter Tryz.func197,Tryz.ntmps197
 go_wp2_with fail
 go_loopw [5,6] (fun v q wr=>∃ (oo:Zoa) (m co g o cp:Nat) (out todo:Zin) (f:Nat),v=.slice oo m co∧q=.slice (some ⟨g,o,none⟩) todo.length cp∧Beh es w wr (.slice oo m co) g o cp out todo∧todo.length+es.length≤f+out.length∧z6g es f out todo=R) (fun v q _=>lenS q+n - lenS v)
 case atStart=>exact⟨_,_,_,_,_,_,[],[id],es.length+2,rfl,rfl,HB0.o,by simp;omega,Ad.o⟩
 case round =>
  obtain⟨oo,m,co,g,o,cp,out,todo,f,rfl,rfl,hB,hf,hrest⟩:=hrel
  have HB:=ZZ hB
  have hbel:=hB.bel
  have hsz:=hbel.size
  have hm:m=out.length:=by
   obtain⟨_,_,e⟩:=zi hB.own
   injection e
  subst hm
  have hol:=hB.ok.len
  clear hB HB0 Ad
  cases todo with
  | nil =>
   have HE:=ZZ (show out=R from by rw[← hrest];cases f<;>rfl)
   clear hrest
   go_wp2_with fail
   go_ret
   exact⟨⟨_,rfl,by rw[← HE.o];exact HB.o.own,HB.o.bel⟩,by rw[← HE.o];exact HB.o.wf⟩
  | cons h t =>
   have c0:=HB.o.win.head
   have hb:=HB.o.win.lt
   obtain⟨o2,cp2,hsl,hw2⟩:=HB.o.win.tail
   have HW2:=ZZ hw2
   obtain⟨f',rfl⟩:∃ f',f=f'+1:=by
    simp only[List.length_cons] at hf
    exact⟨f - 1,by omega⟩
   have hrest2:z6g es f' (z0o es (out,t) (evOf es h).prev).1 (z0o es (out,t) (evOf es h).prev).2=R:=hrest
   have A7:=ZZ hrest2
   have Aa:=ZZ (HF.o h wr hbel)
   rw[z6o] at Aa
   simp only at Aa
   generalize evOf es h=e at Aa A7
   generalize (zf es h).isSome=ok at Aa
   have hfw:=HB.o.few
   simp only[List.length_cons] at hf hfw ⊢
   generalize hk:t.length+1=k at hf hsl hfw ⊢
   have k0:(0:Int)<(k:Int):=by omega
   have HK:=ZZ hk
   clear hrest hrest2 hw2 hk
   go_wp2_with (go_at_call 123;(with_reducible refine Aa.o.mono ?_);rintro r w3 ⟨xa,xc,ya,yc,rfl,hl3,hp3,hb3⟩)
   have hbw:w.heap.size≤wr.heap.size:=hsz
   have AC:=ZZ (show Beh2 es w (w3.alloc (.cells (zk e.id e.kind e.sender e.user e.member e.depth (.slice xa e.levels.length xc) (.slice ya e.prev.length yc) e.text) 62)) (.slice oo out.length co) g o2 cp2 out t w3.heap.size e (.slice xa e.levels.length xc) (.slice ya e.prev.length yc) from by
    have hb4:Bw wr (w3.alloc (.cells (zk e.id e.kind e.sender e.user e.member e.depth (.slice xa e.levels.length xc) (.slice ya e.prev.length yc) e.text) 62)):=hb3.alloc hb3.size _
    have hB4:=HB.o.below hb4
    refine⟨⟨hB4.own,HW2.o.below hb4,hB4.ap,hB4.bel,hB4.ok,hB4.wf,by have:=HK.o;omega⟩,EB.new _ _ _ _ _ _ _ _ _ _,fun q=>?_,?_⟩
    ·have:=(HB.o.own.lt _ q).2
     have:=hb3.size
     omega
    ·have:=hb3.size
     omega)
   have GK:=ZZ hp3
   have hpl:=zNt hp3.room hp3.most
   unfold maxLen at hpl
   have hPL:e.prev.length≤9223372036854775807:=hpl
   generalize hbeq:w3.heap.size=be at AC ⊢
   generalize hxl:Value.slice xa e.levels.length xc=xl at AC ⊢
   obtain⟨P,hP⟩:∃ P,z0o es (out,t) e.prev=P:=⟨_,rfl⟩
   rw[hP] at A7
   have HP:=ZZ hP
   clear hP hbeq hxl hb3 hl3 hp3 Aa HW2 c0 hb hsl HB hbel hsz hbw hpl
   go_loopw [5,6,9] (fun v q i wx=>∃ (j:Nat) (oo:Zoa) (m co g o cp:Nat) (o1 t1:Zin),i=J Y (j:Int)∧v=.slice oo m co∧q=.slice (some ⟨g,o,none⟩) t1.length cp∧Beh2 es w wx (.slice oo m co) g o cp o1 t1 be e xl (.slice ya e.prev.length yc)∧j≤e.prev.length∧z0o es (o1,t1) (e.prev.drop j)=P∧t1.length+out.length=o1.length+t.length) (fun _ _ i _=>e.prev.length - (intOf i).toNat)
   case atStart=>exact⟨0,_,_,_,_,_,_,out,t,rfl,rfl,rfl,AC.o,Nat.zero_le _,HP.o,by omega⟩
   case round =>
    obtain⟨j,oo,m,co,g,o,cp,o1,t1,rfl,rfl,rfl,hB2,hj,hall,hlen⟩:=hrel
    have HB2:=ZZ hB2
    have hbel:=hB2.b.bel
    have hsz:=hbel.size
    have hm:m=o1.length:=by
     obtain⟨_,_,e⟩:=zi hB2.b.own
     injection e
    subst hm
    have hol1:=hB2.b.ok.len
    have hfew1:=hB2.b.few
    have hnes:=HN.o
    obtain⟨d0,d1,d2,d3,d4,d5,d6,d7,d8⟩:=hB2.e.ev
    have hbe:=hB2.e.lt
    clear hB2 AC HP d0 d1 d2 d3 d4 d5 d6 d8
    by_cases hlt:j<e.prev.length
    ·have j0:(j:Int)<(e.prev.length:Int):=by omega
     obtain⟨z,b,q,hz,hidx,hb,c0w,hwz⟩:=GK.o.get Tryz.underlying60 z0f j hlt
     have HC:=ZZ (show ∀ w1,Bw w w1→w1.cell? ⟨b,q,none⟩=some (J Y z) from fun w1 h=>(h.cell hb).trans c0w)
     have c0:=HC.o wr hbel
     have hbr:=zLt hb hsz
     obtain⟨_,_,he,hio⟩:=z0d HB2.o.b.own HB2.o.b.wf
     cases he
     have DW:=ZZ hio
     have HL:=ZZ (fun w1 (h:IntsAt w1 oo o1.length co o1)=>z5w oo o1.length co o1 z w1 h)
     have Aa:=ZZ (HF.o z wr hbel)
     rw[zju hz,zd2] at hall
     rw[z6o] at Aa
     have BU:=ZZ (zcz HB2.o.b.ok z (p:=(o1,t1))).1
     rw[zd2] at BU
     simp only at Aa
     generalize evOf es z=e2 at Aa
     generalize hok:(zf es z).isSome=ok2 at Aa hall BU
     generalize hin:inL o1 z=ri at HL hall BU
     have Ar:=ZZ hall
     clear hall hok hin hio c0w hz
     cases ok2
     ·have HE:=ZZ (show z0o es (o1,t1) (e.prev.drop (j+1))=P from Ar.o)
      clear Ar HL BU
      go_wp2_with (first
       | (go_at_call 123;(with_reducible refine Aa.o.mono ?_);rintro r w4 ⟨xa4,xc4,ya4,yc4,rfl,hl4,hp4,hb4⟩;have d74:=(hb4.cell hbe).trans d7;have hbe4:=zLt hbe hb4.size;have c04:=(hb4.cell hbr).trans c0;have hbr4:=zLt hbr hb4.size))
      have HB3:=ZZ (HB2.o.below (zg hb4 (.cells (zk e2.id e2.kind e2.sender e2.user e2.member e2.depth (.slice xa4 e2.levels.length xc4) (.slice ya4 e2.prev.length yc4) e2.text) 62)))
      go_roundw
      case rel=>exact⟨j+1,_,_,_,_,_,_,o1,t1,by go_num,rfl,rfl,HB3.o,by omega,HE.o,hlen⟩
      case measure=>simp[intOf];omega
     ·cases ri
      ·have HE:=ZZ (show z0o es (o1++[z],t1++[z]) (e.prev.drop (j+1))=P from Ar.o)
       have De:=ZZ (show BehOk es (o1++[z]) from BU.o)
       clear Ar BU
       go_wp2_with (first
        | (go_at_call 123;(with_reducible refine Aa.o.mono ?_);rintro r w4 ⟨xa4,xc4,ya4,yc4,rfl,hl4,hp4,hb4⟩;have d74:=(hb4.cell hbe).trans d7;have hbe4:=zLt hbe hb4.size;have c04:=(hb4.cell hbr).trans c0;have hbr4:=zLt hbr hb4.size)
        | (go_at_call 198;(with_reducible refine (HL.o _ (DW.o.below (zg hb4 _))).mono ?_);rintro r w5 ⟨rfl,hw5⟩;have hb5:Bw wr w5:=(by rw[← hw5];exact zg hb4 _);clear hw5;have hB5:=HB2.o.below hb5;have hown5:=hB5.b.own;have hsz5:=hB5.b.bel.size;have d75:=(hb5.cell hbe).trans d7;have hbe5:=zLt hbe hb5.size;have c05:=(hb5.cell hbr).trans c0;have hbr5:=zLt hbr hb5.size)
        | (at_builtin;refine z1n (cs:=#[J Y z]) rfl _ _ 60 rfl (by decide) Tryz.underlying60 z1u rfl rfl hown5 rfl rfl (by simp[Value.oneCell']) hsz5 (by unfold maxLen;omega) (by omega) ?_;intro v' w6 hown6 hg6 hl6;obtain⟨o6,c6,rfl⟩:=zi hown6;obtain⟨m1,m2,m3,m4⟩:=hB5.mid hown6 hg6 hl6;have d76:=zb m2 7 rfl;have hbe6:=m2.lt;have c06:=HC.o w6 m1;have hbr6:=zLt hb m1.size)
        | (at_builtin;refine zbc rfl _ _ rfl m4 z hwz rfl rfl m1.size (by omega) ?_;intro g7 o7 cp7 w7 hw7 hg7 hl7))
       have HB3:=ZZ (hB5.more hown6 hg6 hl6 hw7 hg7 hl7 De.o hwz)
       go_roundw
       case rel=>exact⟨j+1,_,_,_,_,_,_,o1++[z],t1++[z],by go_num,rfl,by rw[z0p],HB3.o,by omega,HE.o,by rw[z0p,z0p];omega⟩
       case measure=>simp[intOf];omega
      ·have HE:=ZZ (show z0o es (o1,t1) (e.prev.drop (j+1))=P from Ar.o)
       clear Ar BU
       go_wp2_with (first
        | (go_at_call 123;(with_reducible refine Aa.o.mono ?_);rintro r w4 ⟨xa4,xc4,ya4,yc4,rfl,hl4,hp4,hb4⟩;have d74:=(hb4.cell hbe).trans d7;have hbe4:=zLt hbe hb4.size;have c04:=(hb4.cell hbr).trans c0;have hbr4:=zLt hbr hb4.size)
        | (go_at_call 198;(with_reducible refine (HL.o _ (DW.o.below (zg hb4 _))).mono ?_);rintro r w5 ⟨rfl,hw5⟩;have hb5:Bw wr w5:=(by rw[← hw5];exact zg hb4 _);clear hw5;have hB5:=HB2.o.below hb5;have hown5:=hB5.b.own;have hsz5:=hB5.b.bel.size;have d75:=(hb5.cell hbe).trans d7;have hbe5:=zLt hbe hb5.size;have c05:=(hb5.cell hbr).trans c0;have hbr5:=zLt hbr hb5.size))
       go_roundw
       case rel=>exact⟨j+1,_,_,_,_,_,_,o1,t1,by go_num,rfl,rfl,hB5,by omega,HE.o,hlen⟩
       case measure=>simp[intOf];omega
    ·have hdr:e.prev.drop j=[]:=List.drop_eq_nil_of_le (by omega)
     rw[hdr] at hall
     have hPP:P=(o1,t1):=hall.symm
     rw[hPP] at A7
     have HR2:=ZZ (show z6g es f' o1 t1=R from A7.o)
     clear hall hdr hPP A7
     go_wp2_with fail
     go_roundw
     case rel=>exact⟨_,_,_,_,_,_,o1,t1,f',rfl,rfl,HB2.o.b,by have:=HK.o;omega,HR2.o⟩
     case measure =>
      have:=HK.o
      simp only[lenS]
      omega

end Go.Proofs.YtfeebdcmlnapiaaGreat
