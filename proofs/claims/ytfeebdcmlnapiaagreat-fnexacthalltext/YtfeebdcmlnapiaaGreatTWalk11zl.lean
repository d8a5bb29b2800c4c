/-
  Walks.
-/
import Derived.Test.YtfeebdcmlnapiaaGreatTWalk11zd
import Derived.Test.YtfeebdcmlnapiaaGreatTWalk11za
import Derived.Test.YtfeebdcmlnapiaaGreatTWalk10rc
set_option maxRecDepth 100000
set_option maxHeartbeats 8000000
set_option linter.unusedVariables false
set_option linter.unusedSimpArgs false
namespace Go.Proofs.YtfeebdcmlnapiaaGreat
open Go.RowKit Go.Maps P1 P5 P9 P11 P12 P14 P15 P16 P17 K
theorem zhx (es:List EvV) (z:Int):P15.evOf es z=(evKn es z).1:=by
 unfold P15.evOf evKn
 cases zf es z<;>rfl

theorem Sane.tell {es:List EvV} {s:St} (h:Sane es s) (z:Int):Sane es (tell es s z):=⟨zbs h.tells z,zhq h.ok z,h.ids,h.nod⟩

theorem zoo {es:List EvV} {z:Int} (h:evOk (evKn es z).1=true):(evKn es z).1.id=z:=by
 cases hf:zf es z with
 | none =>
  rw[z16 hf] at h
  exact absurd h (by decide)
 | some e =>
  rw[z15 hf]
  exact (z2h hf).2

theorem zn0 {es:List EvV} {s:St} (hS:Sane es s) {z:Int} (h:z3c es s (evKn es z).1=true):z0n s (keyE (evKn es z).1) z=tell es s z:=by
 have hok:evOk (evKn es z).1=true:=by
  unfold z3c at h
  exact (Bool.and_eq_true_iff.1 h).1
 have hid:=zoo hok
 unfold tell
 rw[zhx,hS.allowed,h,hid]
 by_cases hk:keyE (evKn es z).1=0
 ·rw[hk,z8w]
  simp[show z0z 0=false from by decide]
 ·simp[hk]

theorem znw {es:List EvV} {s:St} (hS:Sane es s) {z:Int} (h:z3c es s (evKn es z).1=false):tell es s z=s:=by
 unfold tell
 rw[zhx,hS.allowed,h]
 rfl

theorem z9f (e:EvV) (hok:evOk e=true) (oa:Zoa) (n cl:Nat) (ob:Zoa) (m cp:Nat) (w:World) :
  Calls Tryz.prog 86 #[evv e (.slice oa n cl) (.slice ob m cp)] w fun r w'=>r=.returned (.int .i64 (keyE e))∧Bw w w':=by
 have hin:=zhb hok
 have hu2:=zc1 hok
 obtain⟨hk1,hk5⟩:=hin.kind
 obtain⟨hu0,hu5⟩:=hin.user
 clear hin hok
 obtain⟨id,kd,sn,us,mb,lv,tx,pv,dp⟩:=e
 simp only at hk1 hk5 hu0 hu5 hu2
 have HB:=ZZ ((Below.refl w.heap.size w).alloc zLe (.cells #[.int .i64 id,.int .i64 kd,.int .i64 sn,.int .i64 us,.int .i64 mb,.slice oa n cl,.string ⟨tx.toArray⟩,.slice ob m cp,.int .i64 dp] 62))
 have HU:=ZZ hu2
 clear hu2
 rcases (show kd=1∨kd=2∨kd=3∨kd=4∨kd=5 by omega) with rfl|rfl|rfl|rfl|rfl
 ·go_enter Tryz.func86,Tryz.ntmps86
  go_wp2_with fail
  go_ret
  exact⟨rfl,HB.o⟩
 ·go_enter Tryz.func86,Tryz.ntmps86
  go_wp2_with fail
  go_ret
  have hi:inR us 1 5=true:=by simpa using HU.o
  exact⟨by show Ending.returned (.int .i64 (10+us))=_;simp[keyE,hi],HB.o⟩
 ·go_enter Tryz.func86,Tryz.ntmps86
  go_wp2_with fail
  go_ret
  exact⟨rfl,HB.o⟩
 ·go_enter Tryz.func86,Tryz.ntmps86
  go_wp2_with fail
  go_ret
  exact⟨rfl,HB.o⟩
 ·go_enter Tryz.func86,Tryz.ntmps86
  go_wp2_with fail
  go_ret
  exact⟨rfl,HB.o⟩

theorem zhy (e:EvV):(Lit.int .i64 (keyE e)).wf=true:=by
 unfold keyE
 split
 ·decide
 ·split
  ·decide
  ·split
   ·decide
   ·split
    ·rename_i h
     have:=h.2
     unfold inR at this
     simp only[Bool.and_eq_true,decide_eq_true_eq] at this
     exact z3o (by omega) (by omega)
    ·decide

structure zeb (es:List EvV):Prop where
 few:es.length≤100
 fine:FineE es
 wide:∀ e∈es,(Lit.int .i64 e.id).wf=true
 prev:∀ e∈es,e.prev.length≤3
 ids:∀ e∈es,1≤e.id
 nod:(es.map (·.id)).Nodup

theorem zn1 {es:List EvV} (h:FineE es) (z:Int):(evKn es z).1.text.length≤1048576∧(evKn es z).1.levels.length≤1048576:=by
 cases hf:zf es z with
 | none=>rw[z16 hf];exact⟨by simp[noEv],by simp[noEv]⟩
 | some e =>
  rw[z15 hf]
  have:=h.one (z2h hf).1
  exact⟨this.2.1,this.1⟩

theorem zgy {es:List EvV} {ss:List St} (hE:zeb es) (hok:∀ s∈ss,stOk s=true) (ht:∀ s∈ss,Tells es s):Sane es (agreed ss):=⟨z9x ht,z5i hok,hE.ids,hE.nod⟩

theorem zc3 (oa:Zoa) (n cap:Nat) (es:List EvV) (ob:Zoa) (m cb:Nat) (ss:List St) (hE:zeb es) (hm16:m≤65536) (hok:∀ s∈ss,stOk s=true) (htl:∀ s∈ss,Tells es s) (w:World) (hev:EvsAt w oa n cap es) (hat:StsAt w ob m cb ss) :
  Calls Tryz.prog 137 #[.slice oa n cap,.slice ob m cb] w (z5e w (P15.resolve es ss)):=by
 have hm:=hat.len
 cases ss with
 | nil =>
  simp only[List.length_nil] at hm
  subst hm
  have HO:=ZZ (World.ownsRow_made (w:=w) (e:=79) (size:=2) #[] 0 zLe (by decide) rfl)
  have HB:=ZZ ((Below.refl w.heap.size w).alloc zLe (.cells #[] 79))
  clear hat hev hok htl hE
  go_enter Tryz.func137,Tryz.ntmps137
  go_wp2_with fail
  go_ret
  exact⟨_,rfl,HO.o,HB.o⟩
 | cons a r =>
  have h0:0<m:=by rw[← hm];simp
  have hmz:((m:Int)==0)=false:=by rw[beq_eq_false_iff_ne];omega
  have CK:=ZZ (zex ob m cb a r (by omega) hok w hat)
  by_cases hall:∀ s∈a::r,s=a
  ·rw[decide_eq_true hall] at CK
   obtain⟨a',b0,q0,xa,xc,ha',hid0,hc00,hit0⟩:=hat.get Tryz.underlying30 z5r 0 h0
   simp only[List.getElem?_cons_zero,Option.some.injEq] at ha'
   subst ha'
   have hid0':∀ wx,(Instr.indexAt 30 (.slice ob m cb) (.int .i64 0)).run Tryz.prog wx=.ok (.pointer (some ⟨b0,q0,none⟩)) wx:=fun wx=>by simpa using hid0 wx
   have hoka:=hok a List.mem_cons_self
   have ha8:=z2l hoka
   have Ae:=ZZ (zf1 (es:=es) hoka (by simp) hall)
   have HI0:=ZZ hit0
   have Bo:=ZZ hc00
   clear hat hev hok htl hE hall hid0 hit0 hc00 hoka
   go_enter Tryz.func137,Tryz.ntmps137
   go_wp2_with (first
    | (go_at_call 169;(with_reducible refine CK.o.mono ?_);rintro e w1 ⟨rfl,hb1⟩;have c01:=(hb1.cell (zw Bo.o)).trans Bo.o;have Bz:=ZZ (z8i xa a.length xc a (by omega) w1 (HI0.o.below hb1)))
    | (go_at_call 142;(with_reducible refine Bz.o.mono ?_);rintro e w2 ⟨v2,rfl,ho2,hb2⟩;obtain⟨o2,c2,rfl⟩:=zi ho2))
   go_ret
   refine⟨_,rfl,?_,zTr hb1 hb2⟩
   rw[Ae.o]
   exact zu ho2 hb1.size
  ·rw[decide_eq_false hall] at CK
   have h2:2≤(a::r).length:=by
    cases r with
    | nil=>exact absurd (fun s hs=>by simpa using hs) hall
    | cons _ _=>simp
   have KA:=ZZ (P15.resolve_many es h2)
   have EQ:=ZZ (zgy hE hok htl)
   have Ab:=ZZ hok
   have HE:=ZZ hE
   have A8:=ZZ hev
   have HAT:=ZZ hat
   have hn100:n≤100:=by rw[← hev.len];exact hE.few
   clear hat hev hok htl hE hall h2
   generalize a::r=ss at *
   go_enter Tryz.func137,Tryz.ntmps137
   go_upto_region 5 with (go_at_call 169;(with_reducible refine CK.o.mono ?_);rintro e w1 ⟨rfl,hb1⟩)
   have HB1:=ZZ hb1
   have D5:=ZZ (z8j ob m cb ss (by omega) Ab.o w1 (HAT.o.below hb1))
   clear hb1 CK
   go_upto_region 7 with (go_at_call 170;(with_reducible refine D5.o.mono ?_);rintro e w2 ⟨v2,rfl,ho2,hb2⟩;obtain⟨o2,c2,rfl,hit2⟩:=z08 ho2)
   have HB2:=ZZ (zTr HB1.o hb2)
   have Ag:=ZZ (zu ho2 HB1.o.size)
   have HI2:=ZZ hit2
   have ha8:=z2l EQ.o.ok
   have EC:=ZZ (zbg ob m cb ss (by omega) Ab.o w2 (HAT.o.below HB2.o))
   have hil:(z0g ss (clash ss)).length≤1048576:=by
    have h1:=zhj ss (clash ss)
    have h2:=zey ss
    rw[HAT.o.len] at h1
    have h3:m * (clash ss).length≤65536 * 16:=Nat.mul_le_mul hm16 h2
    omega
   have EE:=ZZ (show ∀ z∈z0g ss (clash ss),(Lit.int .i64 z).wf=true from fun z hz=>by
    obtain⟨s,hs,k,hk,e1,e2⟩:=idsOf_mem.1 hz
    have hos:=Ab.o s hs
    have hf:=(z4p hos).2 ⟨e2,e1⟩
    exact (z3j hos _ (z4l hf)).2)
   clear ho2 hb2 hit2 D5 HB1
   go_upto_region 8 with (first
    | (go_at_call 172;(with_reducible refine EC.o.mono ?_);rintro e w3 ⟨v3,rfl,ho3,hb3⟩;obtain⟨o3,c3,rfl,hi3⟩:=z0d ho3 EE.o;have EJ:=ZZ (ze3 oa n cap es o2 (agreed ss).length c2 (agreed ss) o3 (z0g ss (clash ss)).length c3 (z0g ss (clash ss)) hn100 HE.o.wide HE.o.prev (by omega) (z3j EQ.o.ok) hil EQ.o w3 (A8.o.below (zTr HB2.o hb3)) (HI2.o.below hb3) hi3))
    | (go_at_call 171;(with_reducible refine EJ.o.mono ?_);rintro e w4 ⟨v4,rfl,ho4,hb4⟩;obtain⟨o4,c4,rfl,hi4⟩:=z0d ho4 (fun z hz=>EE.o z (zkb hz).1)))
   have HB3:=ZZ (zTr HB2.o hb3)
   have AC:=ZZ (zTr HB3.o hb4)
   have Bg:=ZZ (own_below (own_below Ag.o hb3) hb4)
   have HI4:=ZZ hi4
   have hom:=zNt hi4.room hi4.most
   unfold maxLen at hom
   have Gx:=ZZ (A8.o.below AC.o)
   have JM:=ZZ (show P15.resolve es ss=(order es (agreed ss) (z0g ss (clash ss))).foldl (tell es) (agreed ss) from KA.o)
   clear ho3 hb3 hi3 ho4 hb4 hi4 EJ EC HB2 HB3 Ag HI2 KA
   generalize order es (agreed ss) (z0g ss (clash ss))=O at *
   go_wp2_with fail
   go_loopw [6,30] (fun v x wr=>∃ (j:Nat),x=.int .i64 (j:Int)∧j≤O.length∧wr.ownsRow w.heap.size 79 2 v ((O.take j).foldl (tell es) (agreed ss)).length (((O.take j).foldl (tell es) (agreed ss)).flatMap z02)∧Sane es ((O.take j).foldl (tell es) (agreed ss))∧Below w4.heap.size w4 wr) (fun _ x _=>O.length - (intOf x).toNat)
   case atStart=>exact⟨0,rfl,Nat.zero_le _,Bg.o,EQ.o,zBr⟩
   case round =>
    obtain⟨j,rfl,hj,hrow,hS,hbel⟩:=hrel
    generalize hN:(O.take j).foldl (tell es) (agreed ss)=now at hrow hS
    have HN:=ZZ hN
    clear hN Bg
    obtain⟨o6,c6,rfl,hit6⟩:=z08 hrow
    have HR:=ZZ hrow
    have Ee:=ZZ hit6
    have HS:=ZZ hS
    have HB:=ZZ hbel
    have hn8:=z2l hS.ok
    clear hrow hit6 hS hbel
    by_cases hlt:j<O.length
    ·have j0:(j:Int)<(O.length:Int):=by omega
     obtain⟨z,bz,qz,hz,hidz,hbz,cz,hwz⟩:=(HI4.o.below HB.o).get Tryz.underlying60 z0f j hlt
     have Af:=ZZ (show (O.take (j+1)).foldl (tell es) (agreed ss)=tell es now z from by rw[List.take_add_one,hz,List.foldl_append,HN.o];rfl)
     have BR:=ZZ (zen oa n cap es z wr (Gx.o.below HB.o))
     obtain⟨htx,hlv⟩:=zn1 HE.o.fine z
     have Gy:=ZZ (zn0 HS.o (z:=z))
     have Dr:=ZZ (znw HS.o (z:=z))
     have CX:=ZZ (show z3c es now (evKn es z).1=true→evOk (evKn es z).1=true from fun h=>by unfold z3c at h;exact (Bool.and_eq_true_iff.1 h).1)
     obtain⟨ev,kn,hp⟩:∃ ev kn,evKn es z=(ev,kn):=⟨_,_,rfl⟩
     rw[hp] at BR Gy Dr CX htx hlv
     simp only at BR Gy Dr CX htx hlv
     clear hz hp
     go_upto_region 10 with fail
     go_upto_region 11 with (go_at_call 173;(with_reducible refine BR.o.mono ?_);rintro e w5 ⟨xa,xc,ya,yc,rfl,hx,hy,hb5⟩)
     obtain⟨Wa,hWa⟩:∃ Wa,w5.alloc (.cells (zk ev.id ev.kind ev.sender ev.user ev.member ev.depth (.slice xa ev.levels.length xc) (.slice ya ev.prev.length yc) ev.text) 62)=Wa:=⟨_,rfl⟩
     try rw[hWa]
     have hba:Below w5.heap.size w5 Wa:=by rw[← hWa];exact zBa
     have hEa:EB Wa w5.heap.size ev.id ev.kind ev.sender ev.user ev.member ev.depth (.slice xa ev.levels.length xc) (.slice ya ev.prev.length yc) ev.text:=by rw[← hWa];exact EB.new _ _ _ _ _ _ _ _ _ _
     have hbr:Below wr.heap.size wr Wa:=zTr hb5 hba
     have hb4a:=zTr HB.o hbr
     have Bh:=ZZ hb4a
     have LA:=ZZ (own_below HR.o hbr)
     have Cg:=ZZ hEa
     have BO:=ZZ (Ee.o.below hbr)
     have AU:=ZZ (z7x oa n cap es o6 now.length c6 now ev xa xc ya yc (by omega) (z3j HS.o.ok) htx hlv Wa (Gx.o.below hb4a) (Ee.o.below hbr) (hx.below hba) (hy.below hba))
     obtain⟨a0,a1,a2,a3,a4,a5,a6,a7,a8⟩:=hEa.ev
     have hla:=hEa.lt
     generalize w5.heap.size=be at *
     clear hWa hba hEa hbr hb4a hx hy hb5 BR hidz cz
     cases hal:z3c es now ev with
     | true =>
      rw[hal] at AU
      have hok1:=CX.o hal
      have DU:=ZZ (Gy.o hal)
      have Dn:=ZZ (HS.o.tell z)
      have BZ:=ZZ (fun W=>z9f ev hok1 xa ev.levels.length xc ya ev.prev.length yc W)
      clear hal hok1 Gy Dr CX
      go_upto_region 12 with (go_at_call 84;(with_reducible refine AU.o.mono ?_);rintro e w6 ⟨rfl,hb6⟩)
      have Az:=ZZ hb6
      obtain⟨k0,k1,k2,k3,k4,k5,k6,k7,k8⟩:=(Cg.o.on hb6 hla).ev
      clear hb6 a0 a1 a2 a3 a4 a5 a6 a7 a8 AU
      go_wp2_with (first
       | (go_at_call 86;(with_reducible refine (BZ.o w6).mono ?_);rintro e w7 ⟨rfl,hb7⟩;have hba7:=zTr Az.o hb7;have Da:=ZZ (zah o6 now.length c6 now (keyE ev) z (by omega) (zhy ev) hwz w7 (BO.o.below hba7) (z3j HS.o.ok)))
       | (go_at_call 85;(with_reducible refine Da.o.mono ?_);rintro e w8 ⟨v8,rfl,ho8,hb8⟩;obtain⟨o8,c8,rfl⟩:=zi ho8))
      have hba7':=zTr Bh.o hba7
      have hb48:=hba7'.trans (hb8.mono hba7'.size)
      have BJ:=ZZ hb48
      have hsz:w.heap.size≤w7.heap.size:=zNt AC.o.size hba7'.size
      have LB:=ZZ (zu ho8 hsz)
      have KC:=ZZ (congrArg List.length DU.o)
      clear ho8 hb8 hb48 hba7' hba7 hb7 Da k0 k1 k2 k3 k4 k5 k6 k7 k8
      go_roundw
      case rel =>
       refine⟨j+1,by go_num,by omega,?_,?_,BJ.o⟩
       ·rw[Af.o,← DU.o];exact LB.o
       ·rw[Af.o];exact Dn.o
      case measure=>simp[intOf];omega
     | false =>
      rw[hal] at AU
      have DU:=ZZ (Dr.o hal)
      clear hal Gy Dr CX
      go_wp2_with (go_at_call 84;(with_reducible refine AU.o.mono ?_);rintro e w6 ⟨rfl,hb6⟩)
      have Az:=ZZ (zTr Bh.o hb6)
      have CE:=ZZ (own_below LA.o hb6)
      clear hb6 a0 a1 a2 a3 a4 a5 a6 a7 a8 AU
      go_roundw
      case rel =>
       refine⟨j+1,by go_num,by omega,?_,?_,Az.o⟩
       ·rw[Af.o,DU.o];exact CE.o
       ·rw[Af.o,DU.o];exact HS.o
      case measure=>simp[intOf];omega
    ·have HE2:=ZZ (show P15.resolve es ss=now from by rw[JM.o,← HN.o,show O.take j=O from zTl (by omega)])
     have hR:=HR.o
     go_wp2_with fail
     go_ret
     refine⟨.slice o6 now.length c6,rfl,?_,zTr AC.o HB.o⟩
     rw[HE2.o]
     exact hR

end Go.Proofs.YtfeebdcmlnapiaaGreat
