/-
  Walks.
-/
import Derived.Test.YtgebcpkpdbdfoaaGreatRWalk11zd
import Derived.Test.YtgebcpkpdbdfoaaGreatRWalk11za
import Derived.Test.YtgebcpkpdbdfoaaGreatRWalk10rc
import Derived.Test.YtgebcpkpdbdfoaaGreatROrd1
set_option linter.unusedVariables false
set_option linter.unusedSimpArgs false
namespace Go.Proofs.YtgebcpkpdbdfoaaGreat
open Go.RowKit Go.Maps P5 P9 P12 P14 P15 P16 P17 K

theorem zh5 (es:List EvV) (z:Int):P15.evOf es z=(evKn es z).1:=by
 unfold P15.evOf evKn
 cases zi es z<;>rfl

theorem Sane.tell {es:List EvV} {s:St} (h:Sane es s) (z:Int):Sane es (tell es s z):=⟨zbx h.tells z,zh0 h.ok z,h.ids,h.nod⟩

theorem zn3 {es:List EvV} {z:Int} (h:evOk (evKn es z).1=true):(evKn es z).1.id=z:=by
 cases hf:zi es z with
 | none =>
  rw[z1g hf] at h
  exact absurd h (by decide)
 | some e =>
  rw[z1f hf]
  exact (z2c hf).2

theorem zlc {es:List EvV} {s:St} (hS:Sane es s) {z:Int} (h:z3d es s (evKn es z).1=true):z15 s (keyE (evKn es z).1) z=tell es s z:=by
 have hok:evOk (evKn es z).1=true:=by
  unfold z3d at h
  exact (Bool.and_eq_true_iff.1 h).1
 have hid:=zn3 hok
 unfold tell
 rw[zh5,hS.allowed,h,hid]
 by_cases hk:keyE (evKn es z).1=0
 ·rw[hk,z8x]
  simp[show z1e 0=false from by decide]
 ·simp[hk]

theorem zmb {es:List EvV} {s:St} (hS:Sane es s) {z:Int} (h:z3d es s (evKn es z).1=false):tell es s z=s:=by
 unfold tell
 rw[zh5,hS.allowed,h]
 rfl

set_option maxHeartbeats 2000000 in
theorem ze7 (e:EvV) (hok:evOk e=true) (oa:Option Addr) (n cl:Nat) (ob:Option Addr) (m cp:Nat) (w:World) :
  Calls Tryz.prog 51 #[evv e (.slice oa n cl) (.slice ob m cp)] w fun r w'=>r=.returned (.int .i64 (keyE e))∧Below w.heap.size w w':=by
 have hin:=zlj hok
 have hu2:=zc7 hok
 obtain⟨hk1,hk5⟩:=hin.kind
 obtain⟨hu0,hu5⟩:=hin.user
 clear hin hok
 obtain⟨id,kd,sn,us,mb,lv,tx,pv,dp⟩:=e
 simp only at hk1 hk5 hu0 hu5 hu2
 have HB:=hide ((Below.refl w.heap.size w).alloc (Nat.le_refl _) (.cells #[.int .i64 id,.int .i64 kd,.int .i64 sn,.int .i64 us,.int .i64 mb,.slice oa n cl,.string ⟨tx.toArray⟩,.slice ob m cp,.int .i64 dp] 47))
 have HU:=hide hu2
 clear hu2
 rcases (show kd=1∨kd=2∨kd=3∨kd=4∨kd=5 by omega) with rfl|rfl|rfl|rfl|rfl
 ·go_enter Tryz.func51,Tryz.ntmps51
  go_wp2_with fail
  go_ret
  exact⟨rfl,HB.out⟩
 ·go_enter Tryz.func51,Tryz.ntmps51
  go_wp2_with fail
  go_ret
  have hi:inR us 1 5=true:=by simpa using HU.out
  exact⟨by show Ending.returned (.int .i64 (10+us))=_;simp[keyE,hi],HB.out⟩
 ·go_enter Tryz.func51,Tryz.ntmps51
  go_wp2_with fail
  go_ret
  exact⟨rfl,HB.out⟩
 ·go_enter Tryz.func51,Tryz.ntmps51
  go_wp2_with fail
  go_ret
  exact⟨rfl,HB.out⟩
 ·go_enter Tryz.func51,Tryz.ntmps51
  go_wp2_with fail
  go_ret
  exact⟨rfl,HB.out⟩

theorem zmc (e:EvV):(Lit.int .i64 (keyE e)).wf=true:=by
 unfold keyE
 split
 ·decide
 ·split
  ·decide
  ·split
   ·decide
   ·split
    ·rename_i h
     have:=h.2
     unfold inR at this
     simp only[Bool.and_eq_true,decide_eq_true_eq] at this
     exact z2o (by omega) (by omega)
    ·decide

end Go.Proofs.YtgebcpkpdbdfoaaGreat

namespace Go.Proofs.YtgebcpkpdbdfoaaGreat
open Go.RowKit Go.Maps P5 P9 P12 P14 P15 P16 P17 K

structure zi7 (es:List EvV):Prop where
 few:es.length≤100
 fine:FineE es
 wide:∀ e∈es,(Lit.int .i64 e.id).wf=true
 prev:∀ e∈es,e.prev.length≤3
 ids:∀ e∈es,1≤e.id
 nod:(es.map (·.id)).Nodup

theorem zld {es:List EvV} (h:FineE es) (z:Int):(evKn es z).1.text.length≤1048576∧(evKn es z).1.levels.length≤1048576:=by
 cases hf:zi es z with
 | none=>rw[z1g hf];exact⟨by simp[noEv],by simp[noEv]⟩
 | some e =>
  rw[z1f hf]
  have:=h.one (z2c hf).1
  exact⟨this.2.1,this.1⟩

theorem zgk {es:List EvV} {ss:List St} (hE:zi7 es) (hok:∀ s∈ss,stOk s=true) (ht:∀ s∈ss,Tells es s):Sane es (agreed ss):=⟨za0 ht,z3k hok,hE.ids,hE.nod⟩

set_option maxRecDepth 100000 in
set_option maxHeartbeats 8000000 in
theorem zcb (oa:Option Addr) (n cap:Nat) (es:List EvV) (ob:Option Addr) (m cb:Nat) (ss:List St) (hE:zi7 es) (hm16:m≤65536) (hok:∀ s∈ss,stOk s=true) (htl:∀ s∈ss,Tells es s) (w:World) (hev:EvsAt w oa n cap es) (hat:StsAt w ob m cb ss) :
  Calls Tryz.prog 11 #[.slice oa n cap,.slice ob m cb] w (z5l w (P15.resolve es ss)):=by
 have hm:=hat.len
 cases ss with
 | nil =>
  simp only[List.length_nil] at hm
  subst hm
  have HO:=hide (World.ownsRow_made (w:=w) (e:=36) (size:=2) #[] 0 (Nat.le_refl _) (by decide) rfl)
  have HB:=hide ((Below.refl w.heap.size w).alloc (Nat.le_refl _) (.cells #[] 36))
  clear hat hev hok htl hE
  go_enter Tryz.func11,Tryz.ntmps11
  go_wp2_with fail
  go_ret
  exact⟨_,rfl,HO.out,HB.out⟩
 | cons a r =>
  have h0:0<m:=by rw[← hm];simp
  have hmz:((m:Int)==0)=false:=by rw[beq_eq_false_iff_ne];omega
  have Ea:=hide (zex ob m cb a r (by omega) hok w hat)
  by_cases hall:∀ s∈a::r,s=a
  ·rw[decide_eq_true hall] at Ea
   obtain⟨a',b0,q0,xa,xc,ha',hid0,hc00,hit0⟩:=hat.get Tryz.underlying25 z6c 0 h0
   simp only[List.getElem?_cons_zero,Option.some.injEq] at ha'
   subst ha'
   have hid0':∀ wx,(Instr.indexAt 25 (.slice ob m cb) (.int .i64 0)).run Tryz.prog wx=.ok (.pointer (some ⟨b0,q0,none⟩)) wx:=fun wx=>by simpa using hid0 wx
   have hoka:=hok a List.mem_cons_self
   have ha8:=z1z hoka
   have Aq:=hide (zf0 (es:=es) hoka (by simp) hall)
   have HI0:=hide hit0
   have Cr:=hide hc00
   clear hat hev hok htl hE hall hid0 hit0 hc00 hoka
   go_enter Tryz.func11,Tryz.ntmps11
   go_wp2_with (first
    | (go_at_call 44;(with_reducible refine Ea.out.mono ?_);rintro e w1 ⟨rfl,hb1⟩;have c01:=(hb1.cell (z0d Cr.out)).trans Cr.out;have Cf:=hide (z8n xa a.length xc a (by omega) w1 (HI0.out.below hb1)))
    | (go_at_call 45;(with_reducible refine Cf.out.mono ?_);rintro e w2 ⟨v2,rfl,ho2,hb2⟩;obtain⟨o2,c2,rfl⟩:=zb ho2))
   go_ret
   refine⟨_,rfl,?_,hb1.trans (hb2.mono hb1.size)⟩
   rw[Aq.out]
   exact zq ho2 hb1.size
  ·rw[decide_eq_false hall] at Ea
   have h2:2≤(a::r).length:=by
    cases r with
    | nil=>exact absurd (fun s hs=>by simpa using hs) hall
    | cons _ _=>simp
   have M5:=hide (P15.resolve_many es h2)
   have Kg:=hide (zgk hE hok htl)
   have Ap:=hide hok
   have HE:=hide hE
   have Af:=hide hev
   have HAT:=hide hat
   have hn100:n≤100:=by rw[← hev.len];exact hE.few
   clear hat hev hok htl hE hall h2
   generalize a::r=ss at *
   go_enter Tryz.func11,Tryz.ntmps11
   go_upto_region 5 with (go_at_call 44;(with_reducible refine Ea.out.mono ?_);rintro e w1 ⟨rfl,hb1⟩)
   have HB1:=hide hb1
   have Dt:=hide (z6d ob m cb ss (by omega) Ap.out w1 (HAT.out.below hb1))
   clear hb1 Ea
   go_upto_region 7 with (go_at_call 14;(with_reducible refine Dt.out.mono ?_);rintro e w2 ⟨v2,rfl,ho2,hb2⟩;obtain⟨o2,c2,rfl,hit2⟩:=z03 ho2)
   have HB2:=hide (HB1.out.trans (hb2.mono HB1.out.size))
   have AA:=hide (zq ho2 HB1.out.size)
   have HI2:=hide hit2
   have ha8:=z1z Kg.out.ok
   have GG:=hide (zbq ob m cb ss (by omega) Ap.out w2 (HAT.out.below HB2.out))
   have hil:(z0k ss (clash ss)).length≤1048576:=by
    have h1:=zgx ss (clash ss)
    have h2:=zaz ss
    rw[HAT.out.len] at h1
    have h3:m * (clash ss).length≤65536 * 16:=Nat.mul_le_mul hm16 h2
    omega
   have EP:=hide (show ∀ z∈z0k ss (clash ss),(Lit.int .i64 z).wf=true from fun z hz=>by
    obtain⟨s,hs,k,hk,e1,e2⟩:=idsOf_mem.1 hz
    have hos:=Ap.out s hs
    have hf:=(z4q hos).2 ⟨e2,e1⟩
    exact (z2u hos _ (z4i hf)).2)
   clear ho2 hb2 hit2 Dt HB1
   go_upto_region 8 with (first
    | (go_at_call 47;(with_reducible refine GG.out.mono ?_);rintro e w3 ⟨v3,rfl,ho3,hb3⟩;obtain⟨o3,c3,rfl,hi3⟩:=z0b ho3 EP.out;have GK:=hide (ze5 oa n cap es o2 (agreed ss).length c2 (agreed ss) o3 (z0k ss (clash ss)).length c3 (z0k ss (clash ss)) hn100 HE.out.wide HE.out.prev (by omega) (z2u Kg.out.ok) hil Kg.out w3 (Af.out.below (HB2.out.trans (hb3.mono HB2.out.size))) (HI2.out.below hb3) hi3))
    | (go_at_call 46;(with_reducible refine GK.out.mono ?_);rintro e w4 ⟨v4,rfl,ho4,hb4⟩;obtain⟨o4,c4,rfl,hi4⟩:=z0b ho4 (fun z hz=>EP.out z (zdg hz).1)))
   have HB3:=hide (HB2.out.trans (hb3.mono HB2.out.size))
   have Dq:=hide (HB3.out.trans (hb4.mono HB3.out.size))
   have Ei:=hide (own_below (own_below AA.out hb3) hb4)
   have HI4:=hide hi4
   have hom:=Nat.le_trans hi4.room hi4.most
   unfold maxLen at hom
   have Jv:=hide (Af.out.below Dq.out)
   have Lf:=hide (show P15.resolve es ss=(order es (agreed ss) (z0k ss (clash ss))).foldl (tell es) (agreed ss) from M5.out)
   clear ho3 hb3 hi3 ho4 hb4 hi4 GK GG HB2 HB3 AA HI2 M5
   generalize order es (agreed ss) (z0k ss (clash ss))=O at *
   go_wp2_with fail
   go_loopw [6,30] (fun v x wr=>∃ (j:Nat),x=.int .i64 (j:Int)∧j≤O.length∧wr.ownsRow w.heap.size 36 2 v ((O.take j).foldl (tell es) (agreed ss)).length (((O.take j).foldl (tell es) (agreed ss)).flatMap z06)∧Sane es ((O.take j).foldl (tell es) (agreed ss))∧Below w4.heap.size w4 wr) (fun _ x _=>O.length - (intOf x).toNat)
   case atStart=>exact⟨0,rfl,Nat.zero_le _,Ei.out,Kg.out,Below.refl _ _⟩
   case round =>
    obtain⟨j,rfl,hj,hrow,hS,hbel⟩:=hrel
    generalize hN:(O.take j).foldl (tell es) (agreed ss)=now at hrow hS
    have HN:=hide hN
    clear hN Ei
    obtain⟨o6,c6,rfl,hit6⟩:=z03 hrow
    have HR:=hide hrow
    have JW:=hide hit6
    have HS:=hide hS
    have HB:=hide hbel
    have hn8:=z1z hS.ok
    clear hrow hit6 hS hbel
    by_cases hlt:j<O.length
    ·have j0:(j:Int)<(O.length:Int):=by omega
     obtain⟨z,bz,qz,hz,hidz,hbz,cz,hwz⟩:=(HI4.out.below HB.out).get Tryz.underlying32 z0m j hlt
     have AZ:=hide (show (O.take (j+1)).foldl (tell es) (agreed ss)=tell es now z from by rw[List.take_add_one,hz,List.foldl_append,HN.out];rfl)
     have CQ:=hide (zeg oa n cap es z wr (Jv.out.below HB.out))
     obtain⟨htx,hlv⟩:=zld HE.out.fine z
     have Jw:=hide (zlc HS.out (z:=z))
     have ED:=hide (zmb HS.out (z:=z))
     have Eg:=hide (show z3d es now (evKn es z).1=true→evOk (evKn es z).1=true from fun h=>by unfold z3d at h;exact (Bool.and_eq_true_iff.1 h).1)
     obtain⟨ev,kn,hp⟩:∃ ev kn,evKn es z=(ev,kn):=⟨_,_,rfl⟩
     rw[hp] at CQ Jw ED Eg htx hlv
     simp only at CQ Jw ED Eg htx hlv
     clear hz hp
     go_upto_region 10 with fail
     go_upto_region 11 with (go_at_call 48;(with_reducible refine CQ.out.mono ?_);rintro e w5 ⟨xa,xc,ya,yc,rfl,hx,hy,hb5⟩)
     obtain⟨Wa,hWa⟩:∃ Wa,w5.alloc (.cells (zh ev.id ev.kind ev.sender ev.user ev.member ev.depth (.slice xa ev.levels.length xc) (.slice ya ev.prev.length yc) ev.text) 47)=Wa:=⟨_,rfl⟩
     try rw[hWa]
     have hba:Below w5.heap.size w5 Wa:=by rw[← hWa];exact (Below.refl _ _).alloc (Nat.le_refl _) _
     have hEa:EB Wa w5.heap.size ev.id ev.kind ev.sender ev.user ev.member ev.depth (.slice xa ev.levels.length xc) (.slice ya ev.prev.length yc) ev.text:=by rw[← hWa];exact EB.new _ _ _ _ _ _ _ _ _ _
     have hbr:Below wr.heap.size wr Wa:=hb5.trans (hba.mono hb5.size)
     have hb4a:=HB.out.trans (hbr.mono HB.out.size)
     have BN:=hide hb4a
     have Nj:=hide (own_below HR.out hbr)
     have K5:=hide hEa
     have J9:=hide (JW.out.below hbr)
     have Au:=hide (zca oa n cap es o6 now.length c6 now ev xa xc ya yc (by omega) (z2u HS.out.ok) htx hlv Wa (Jv.out.below hb4a) (JW.out.below hbr) (hx.below hba) (hy.below hba))
     obtain⟨a0,a1,a2,a3,a4,a5,a6,a7,a8⟩:=hEa.ev
     have hla:=hEa.lt
     generalize w5.heap.size=be at *
     clear hWa hba hEa hbr hb4a hx hy hb5 CQ hidz cz
     cases hal:z3d es now ev with
     | true =>
      rw[hal] at Au
      have hok1:=Eg.out hal
      have Jy:=hide (Jw.out hal)
      have Kv:=hide (HS.out.tell z)
      have DZ:=hide (fun W=>ze7 ev hok1 xa ev.levels.length xc ya ev.prev.length yc W)
      clear hal hok1 Jw ED Eg
      go_upto_region 12 with (go_at_call 49;(with_reducible refine Au.out.mono ?_);rintro e w6 ⟨rfl,hb6⟩)
      have CF:=hide hb6
      obtain⟨k0,k1,k2,k3,k4,k5,k6,k7,k8⟩:=(K5.out.on hb6 hla).ev
      clear hb6 a0 a1 a2 a3 a4 a5 a6 a7 a8 Au
      go_wp2_with (first
       | (go_at_call 51;(with_reducible refine (DZ.out w6).mono ?_);rintro e w7 ⟨rfl,hb7⟩;have hba7:=CF.out.trans (hb7.mono CF.out.size);have GL:=hide (zg2 o6 now.length c6 now (keyE ev) z (by omega) (zmc ev) hwz w7 (J9.out.below hba7) (z2u HS.out.ok)))
       | (go_at_call 50;(with_reducible refine GL.out.mono ?_);rintro e w8 ⟨v8,rfl,ho8,hb8⟩;obtain⟨o8,c8,rfl⟩:=zb ho8))
      have hba7':=BN.out.trans (hba7.mono BN.out.size)
      have hb48:=hba7'.trans (hb8.mono hba7'.size)
      have Jz:=hide hb48
      have hsz:w.heap.size≤w7.heap.size:=Nat.le_trans Dq.out.size hba7'.size
      have Nk:=hide (zq ho8 hsz)
      have Nv:=hide (congrArg List.length Jy.out)
      clear ho8 hb8 hb48 hba7' hba7 hb7 GL k0 k1 k2 k3 k4 k5 k6 k7 k8
      go_roundw
      case rel =>
       refine⟨j+1,by go_num,by omega,?_,?_,Jz.out⟩
       ·rw[AZ.out,← Jy.out];exact Nk.out
       ·rw[AZ.out];exact Kv.out
      case measure=>simp[intOf];omega
     | false =>
      rw[hal] at Au
      have Jy:=hide (ED.out hal)
      clear hal Jw ED Eg
      go_wp2_with (go_at_call 49;(with_reducible refine Au.out.mono ?_);rintro e w6 ⟨rfl,hb6⟩)
      have CF:=hide (BN.out.trans (hb6.mono BN.out.size))
      have Cx:=hide (own_below Nj.out hb6)
      clear hb6 a0 a1 a2 a3 a4 a5 a6 a7 a8 Au
      go_roundw
      case rel =>
       refine⟨j+1,by go_num,by omega,?_,?_,CF.out⟩
       ·rw[AZ.out,Jy.out];exact Cx.out
       ·rw[AZ.out,Jy.out];exact HS.out
      case measure=>simp[intOf];omega
    ·have HE2:=hide (show P15.resolve es ss=now from by rw[Lf.out,← HN.out,show O.take j=O from List.take_of_length_le (by omega)])
     have hR:=HR.out
     go_wp2_with fail
     go_ret
     refine⟨.slice o6 now.length c6,rfl,?_,Dq.out.trans (HB.out.mono Dq.out.size)⟩
     rw[HE2.out]
     exact hR

end Go.Proofs.YtgebcpkpdbdfoaaGreat
