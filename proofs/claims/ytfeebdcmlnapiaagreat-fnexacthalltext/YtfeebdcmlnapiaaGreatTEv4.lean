/-
  Walks.
-/
import Derived.Test.YtfeebdcmlnapiaaGreatTEv2
import Derived.Laws.Cover1
import Derived.Sort.Walk0
set_option maxHeartbeats 8000000
set_option linter.unusedVariables false
set_option linter.unusedSimpArgs false
namespace Go.Proofs.YtfeebdcmlnapiaaGreat.P12
open P1 P9 P11

def z2x (zs:List Int):Bool:=zs.all (fun z=>inR z 0 100)

theorem zf4 {zs:List Int} {j:Nat} {z:Int} (h:zs[j]? = some z):z2x (zs.drop j)=(inR z 0 100&&z2x (zs.drop (j+1))):=by
 obtain⟨hj,he⟩:=List.getElem?_eq_some_iff.1 h
 rw[List.drop_eq_getElem_cons hj,he]
 rfl

theorem zgf {e:EvV} (h:e.kind=3) (hl:e.levels.length=5):z13 e=z2x e.levels:=by
 unfold z13 lvOk
 rw[if_pos h,decide_eq_true hl,Bool.and_true]
 rfl

theorem zke {e:EvV} (h:e.kind=3) (hl:e.levels.length≠5):z13 e=false:=by
 unfold z13 lvOk
 rw[if_pos h,decide_eq_false hl,Bool.and_false]

theorem zgg {e:EvV} (h:e.kind≠3):z13 e=decide (e.levels.length=0):=by
 unfold z13
 rw[if_neg h,Bool.eq_iff_iff,decide_eq_true_iff,decide_eq_true_iff]
 exact List.length_eq_zero_iff.symm

theorem zhl {id:Int} {zs:List Int} {j:Nat} {z:Int} (h:zs[j]? = some z):pvOk id (pv zs j) (zs.drop j)=((inR z 1 1000000&&(decide (z≠id)&&after (pv zs j) z))&&pvOk id (pv zs (j+1)) (zs.drop (j+1))):=by
 obtain⟨hj,he⟩:=List.getElem?_eq_some_iff.1 h
 rw[List.drop_eq_getElem_cons hj,he]
 simp only[pvOk,pv,h]

theorem zav (id:Int) (p:Option Int):pvOk id p []=true:=by cases p<;>rfl

theorem z9e {e:EvV} (h:e.kind=1):z11 e=decide (e.prev.length=0):=by
 unfold z11
 by_cases c:e.prev=[]
 ·rw[c]
  simp[h,zav]
 ·have:¬ (e.kind=1↔e.prev=[]):=fun q=>c (q.1 h)
  rw[decide_eq_false this,Bool.false_and,Bool.and_false,decide_eq_false (fun q=>c (List.length_eq_zero_iff.1 q))]

theorem z94 {e:EvV} (h:e.kind≠1) (hl:¬ (1≤e.prev.length∧e.prev.length≤3)):z11 e=false:=by
 unfold z11
 by_cases c:e.prev.length≤3
 ·have:¬ (e.kind=1↔e.prev=[]):=fun q=>h (q.2 (List.length_eq_zero_iff.1 (by omega)))
  rw[decide_eq_false this,Bool.false_and,Bool.and_false]
 ·rw[decide_eq_false c,Bool.false_and]

theorem zda {e:EvV} (h:e.kind≠1) (hl:1≤e.prev.length∧e.prev.length≤3):z11 e=pvOk e.id none e.prev:=by
 unfold z11
 have:(e.kind=1↔e.prev=[]):=⟨fun q=>absurd q h,fun q=>by rw[q] at hl;simp at hl⟩
 rw[decide_eq_true hl.2,decide_eq_true this,Bool.true_and,Bool.true_and]

theorem zdb {e:EvV} (h:e.kind=4∨e.kind=5):txOk e=decide (e.text.length≤24):=if_pos h

theorem zkf {e:EvV} (h:¬ (e.kind=4∨e.kind=5)):txOk e=decide (e.text.length=0):=by
 unfold txOk
 rw[if_neg h,Bool.eq_iff_iff,decide_eq_true_iff,decide_eq_true_iff]
 exact List.length_eq_zero_iff.symm

def z4y:Option Int→Int
 | none=>0
 | some z=>z

theorem zio {p:Option Int} {z:Int} (h:0≤z4y p):(inR z 1 1000000&&after p z)=inR z (z4y p+1) 1000000:=by
 cases p with
 | none=>simp[after,z4y]
 | some y =>
  simp only[z4y] at h ⊢
  rw[Bool.eq_iff_iff]
  simp only[after,Bool.and_eq_true,inR_iff,decide_eq_true_iff]
  omega

end Go.Proofs.YtfeebdcmlnapiaaGreat.P12

namespace Go.Proofs.YtfeebdcmlnapiaaGreat
open Go.RowKit P1 P9 P11 P12 K
theorem zdy (oa:Zoa) (n cl:Nat) (zl:Zin) (w:World) (hat:IntsAt w oa n cl zl) :
  Calls Tryz.prog 165 #[.slice oa n cl] w fun e w'=>e=.returned (.bool (lvOk zl))∧w=w':=by
 have hn:=hat.len
 have hc:=hat.room
 have hm:=hat.most
 unfold maxLen at hm
 have hL:lvOk zl=(z2x zl&&decide (n=5)):=by rw[← hn];rfl
 rw[hL]
 have HN:=ZZ hn
 have HAT:=ZZ hat
 clear hn hat hL
 go_enter Tryz.func165,Tryz.ntmps165
 go_wp2_with fail
 go_loop [3] (fun i=>∃ (j:Nat),i=.int .i64 (j:Int)∧j≤n∧z2x (zl.drop j)=z2x zl) (fun i=>n - (intOf i).toNat)
 case atStart=>exact⟨0,rfl,Nat.zero_le _,rfl⟩
 case round =>
  obtain⟨j,rfl,hj,hrest⟩:=hrel
  by_cases hlt:j<n
  ·have j0:(j:Int)<(n:Int):=by omega
   obtain⟨z,b,q,hz,hidx,hb,c0,hwf⟩:=HAT.o.get Tryz.underlying60 z0f j hlt
   rw[zf4 hz] at hrest
   by_cases hzr:0≤z∧z≤100
   ·obtain⟨hz1,hz4⟩:=hzr
    have HR:=ZZ (show z2x (zl.drop (j+1))=z2x zl by rw[← hrest,inR_iff.2 ⟨hz1,hz4⟩,Bool.true_and])
    clear hrest hz
    go_wp2_with (go_at_call 39;refine (z01 _ _ _ hz1 hz4 _).mono ?_;rintro e w' ⟨rfl,rfl⟩)
    go_round
    case rel=>exact⟨j+1,by go_num,by omega,HR.o⟩
    case measure=>simp[intOf];omega
   ·have hnin:inR z 0 100=false:=by (simp[inR];omega)
    have HR:=ZZ (show z2x zl=false by rw[← hrest,hnin,Bool.false_and])
    clear hnin
    clear hrest hz
    go_wp2_with (go_at_call 39;refine (z05 _ _ _ (by omega) _).mono ?_;rintro e w' ⟨rfl,rfl⟩)
    go_ret
    exact⟨by rw[HR.o];rfl,rfl⟩
  ·have hjn:j=n:=by omega
   have HR:=ZZ (show z2x zl=true by rw[← hrest,hjn,← HN.o,List.drop_length];rfl)
   clear hrest
   by_cases h5:n=5
   ·have g5:((n:Int)==5)=true:=by simp[h5]
    have g6:(n:Int)=5:=by omega
    go_wp2_with fail
    go_ret
    exact⟨by first|rfl|(rw[HR.o];simp[h5]),rfl⟩
   ·have g5:((n:Int)==5)=false:=by simp;omega
    have g6:¬ (n:Int)=5:=by omega
    go_wp2_with fail
    go_ret
    exact⟨by first|rfl|(rw[HR.o];simp[h5,g6]),rfl⟩

theorem z9t {a lo hi:Int} (h:¬ (lo≤a∧a≤hi)):inR a lo hi=false:=by
 cases c:inR a lo hi with
 | false=>rfl
 | true=>exact absurd (inR_iff.1 c) h

theorem zgh (id kd sn us mb dp:Int) (oa:Zoa) (n cl:Nat) (tx:Zbs) (ob:Zoa) (m cp:Nat) (zl zp:Zin) (hx:tx.length≤1048576) (w:World) (hat:IntsAt w oa n cl zl) :
  Calls Tryz.prog 122 #[z3e id kd sn us mb dp (.slice oa n cl) (.slice ob m cp) tx] w fun e w'=>e=.returned (.bool (zo (⟨id,kd,sn,us,mb,zl,tx,zp,dp⟩:EvV)))∧Bw w w':=by
 have HB:=ZZ ((Below.refl w.heap.size w).alloc zLe (.cells #[.int .i64 id,.int .i64 kd,.int .i64 sn,.int .i64 us,.int .i64 mb,.slice oa n cl,.string ⟨tx.toArray⟩,.slice ob m cp,.int .i64 dp] 62))
 have Ay:=ZZ (zdy oa n cl zl _ (hat.below HB.o))
 have hn:=hat.len
 have hmx:=zNt hat.room hat.most
 unfold maxLen at hmx
 clear hat
 by_cases ck:1≤kd∧kd≤5
 ·obtain⟨ck1,ck5⟩:=ck
  by_cases cs:1≤sn∧sn≤5
  ·obtain⟨cs1,cs5⟩:=cs
   rcases (show kd=1∨kd=2∨kd=3∨kd=4∨kd=5 by omega) with rfl|rfl|rfl|rfl|rfl
   ·by_cases cu:us=0
    ·subst cu
     by_cases cm:mb=0
     ·subst cm
      by_cases cz:n=0
      ·subst cz
       have hz:zl=[]:=List.eq_nil_of_length_eq_zero hn
       have HV:=ZZ (show zo (⟨id,1,sn,0,0,zl,tx,zp,dp⟩:EvV)=decide (tx.length=0) by simp[zo,z0i,z13,txOk,inR,cs1,cs5,hz])
       rw[show zo _=decide (tx.length=0) from HV.o]
       clear HV
       go_enter Tryz.func122,Tryz.ntmps122
       go_wp2_with (first|((go_at_call 39;first|refine (z01 _ _ _ (by omega) (by omega) _).mono ?_|refine (z05 _ _ _ (by omega) _).mono ?_);rintro e w' ⟨rfl,rfl⟩)|(go_at_call 165;refine Ay.o.mono ?_;rintro e w' ⟨rfl,rfl⟩))
       go_ret
       exact⟨by first|rfl|(simp;done)|(cases tx<;>simp;done)|(simp;omega),HB.o⟩
      ·have cz2:(0:Int)<(n:Int):=by omega
       have hz:¬ zl=[]:=fun q=>cz (by rw[← hn,q];rfl)
       have HV:=ZZ (show zo (⟨id,1,sn,0,0,zl,tx,zp,dp⟩:EvV)=false by simp[zo,z0i,z13,txOk,inR,cs1,cs5,hz])
       rw[show zo _=false from HV.o]
       clear HV
       go_enter Tryz.func122,Tryz.ntmps122
       go_wp2_with (first|((go_at_call 39;first|refine (z01 _ _ _ (by omega) (by omega) _).mono ?_|refine (z05 _ _ _ (by omega) _).mono ?_);rintro e w' ⟨rfl,rfl⟩)|(go_at_call 165;refine Ay.o.mono ?_;rintro e w' ⟨rfl,rfl⟩))
       go_ret
       exact⟨rfl,HB.o⟩
     ·have cm2:(mb==0)=false:=by simpa using cm
      have HV:=ZZ (show zo (⟨id,1,sn,0,mb,zl,tx,zp,dp⟩:EvV)=false by (have cm3:z0i (⟨id,1,sn,0,mb,zl,tx,zp,dp⟩:EvV)=false:=by (unfold z0i;simp[inR];exact cm));simp[zo,cm3])
      rw[show zo _=false from HV.o]
      clear HV
      go_enter Tryz.func122,Tryz.ntmps122
      go_wp2_with (first|((go_at_call 39;first|refine (z01 _ _ _ (by omega) (by omega) _).mono ?_|refine (z05 _ _ _ (by omega) _).mono ?_);rintro e w' ⟨rfl,rfl⟩)|(go_at_call 165;refine Ay.o.mono ?_;rintro e w' ⟨rfl,rfl⟩))
      go_ret
      exact⟨rfl,HB.o⟩
    ·have cu2:(us==0)=false:=by simpa using cu
     have HV:=ZZ (show zo (⟨id,1,sn,us,mb,zl,tx,zp,dp⟩:EvV)=false by (have cm3:z0i (⟨id,1,sn,us,mb,zl,tx,zp,dp⟩:EvV)=false:=by (unfold z0i;simp[inR];exact fun q=>absurd q cu));simp[zo,cm3])
     rw[show zo _=false from HV.o]
     clear HV
     go_enter Tryz.func122,Tryz.ntmps122
     go_wp2_with (first|((go_at_call 39;first|refine (z01 _ _ _ (by omega) (by omega) _).mono ?_|refine (z05 _ _ _ (by omega) _).mono ?_);rintro e w' ⟨rfl,rfl⟩)|(go_at_call 165;refine Ay.o.mono ?_;rintro e w' ⟨rfl,rfl⟩))
     go_ret
     exact⟨rfl,HB.o⟩
   ·by_cases cu:1≤us∧us≤5
    ·obtain⟨cu1,cu5⟩:=cu
     by_cases cm:0≤mb∧mb≤3
     ·obtain⟨cm1,cm5⟩:=cm
      by_cases cz:n=0
      ·subst cz
       have hz:zl=[]:=List.eq_nil_of_length_eq_zero hn
       have HV:=ZZ (show zo (⟨id,2,sn,us,mb,zl,tx,zp,dp⟩:EvV)=decide (tx.length=0) by simp[zo,z0i,z13,txOk,inR,cs1,cs5,hz,cu1,cu5,cm1,cm5])
       rw[show zo _=decide (tx.length=0) from HV.o]
       clear HV
       go_enter Tryz.func122,Tryz.ntmps122
       go_wp2_with (first|((go_at_call 39;first|refine (z01 _ _ _ (by omega) (by omega) _).mono ?_|refine (z05 _ _ _ (by omega) _).mono ?_);rintro e w' ⟨rfl,rfl⟩)|(go_at_call 165;refine Ay.o.mono ?_;rintro e w' ⟨rfl,rfl⟩))
       go_ret
       exact⟨by first|rfl|(simp;done)|(cases tx<;>simp;done)|(simp;omega),HB.o⟩
      ·have cz2:(0:Int)<(n:Int):=by omega
       have hz:¬ zl=[]:=fun q=>cz (by rw[← hn,q];rfl)
       have HV:=ZZ (show zo (⟨id,2,sn,us,mb,zl,tx,zp,dp⟩:EvV)=false by simp[zo,z0i,z13,txOk,inR,cs1,cs5,hz])
       rw[show zo _=false from HV.o]
       clear HV
       go_enter Tryz.func122,Tryz.ntmps122
       go_wp2_with (first|((go_at_call 39;first|refine (z01 _ _ _ (by omega) (by omega) _).mono ?_|refine (z05 _ _ _ (by omega) _).mono ?_);rintro e w' ⟨rfl,rfl⟩)|(go_at_call 165;refine Ay.o.mono ?_;rintro e w' ⟨rfl,rfl⟩))
       go_ret
       exact⟨rfl,HB.o⟩
     ·skip
      have HV:=ZZ (show zo (⟨id,2,sn,us,mb,zl,tx,zp,dp⟩:EvV)=false by (have cm3:z0i (⟨id,2,sn,us,mb,zl,tx,zp,dp⟩:EvV)=false:=by (unfold z0i;simp[inR];omega));simp[zo,cm3])
      rw[show zo _=false from HV.o]
      clear HV
      go_enter Tryz.func122,Tryz.ntmps122
      go_wp2_with (first|((go_at_call 39;first|refine (z01 _ _ _ (by omega) (by omega) _).mono ?_|refine (z05 _ _ _ (by omega) _).mono ?_);rintro e w' ⟨rfl,rfl⟩)|(go_at_call 165;refine Ay.o.mono ?_;rintro e w' ⟨rfl,rfl⟩))
      go_ret
      exact⟨rfl,HB.o⟩
    ·skip
     have HV:=ZZ (show zo (⟨id,2,sn,us,mb,zl,tx,zp,dp⟩:EvV)=false by (have cm3:z0i (⟨id,2,sn,us,mb,zl,tx,zp,dp⟩:EvV)=false:=by (unfold z0i;simp[inR];omega));simp[zo,cm3])
     rw[show zo _=false from HV.o]
     clear HV
     go_enter Tryz.func122,Tryz.ntmps122
     go_wp2_with (first|((go_at_call 39;first|refine (z01 _ _ _ (by omega) (by omega) _).mono ?_|refine (z05 _ _ _ (by omega) _).mono ?_);rintro e w' ⟨rfl,rfl⟩)|(go_at_call 165;refine Ay.o.mono ?_;rintro e w' ⟨rfl,rfl⟩))
     go_ret
     exact⟨rfl,HB.o⟩
   ·by_cases cu:us=0
    ·subst cu
     by_cases cm:mb=0
     ·subst cm
      cases cl9:lvOk zl with
      | false =>
       rw[cl9] at Ay
       have HV:=ZZ (show zo (⟨id,3,sn,0,0,zl,tx,zp,dp⟩:EvV)=false by simp[zo,z0i,z13,txOk,inR,cs1,cs5,cl9])
       rw[show zo _=false from HV.o]
       clear HV
       go_enter Tryz.func122,Tryz.ntmps122
       go_wp2_with (first|((go_at_call 39;first|refine (z01 _ _ _ (by omega) (by omega) _).mono ?_|refine (z05 _ _ _ (by omega) _).mono ?_);rintro e w' ⟨rfl,rfl⟩)|(go_at_call 165;refine Ay.o.mono ?_;rintro e w' ⟨rfl,rfl⟩))
       go_ret
       exact⟨rfl,HB.o⟩
      | true =>
       rw[cl9] at Ay
       have HV:=ZZ (show zo (⟨id,3,sn,0,0,zl,tx,zp,dp⟩:EvV)=decide (tx.length=0) by simp[zo,z0i,z13,txOk,inR,cs1,cs5,cl9])
       rw[show zo _=decide (tx.length=0) from HV.o]
       clear HV
       go_enter Tryz.func122,Tryz.ntmps122
       go_wp2_with (first|((go_at_call 39;first|refine (z01 _ _ _ (by omega) (by omega) _).mono ?_|refine (z05 _ _ _ (by omega) _).mono ?_);rintro e w' ⟨rfl,rfl⟩)|(go_at_call 165;refine Ay.o.mono ?_;rintro e w' ⟨rfl,rfl⟩))
       go_ret
       exact⟨by first|rfl|(simp;done)|(cases tx<;>simp;done)|(simp;omega),HB.o⟩
     ·have cm2:(mb==0)=false:=by simpa using cm
      have HV:=ZZ (show zo (⟨id,3,sn,0,mb,zl,tx,zp,dp⟩:EvV)=false by (have cm3:z0i (⟨id,3,sn,0,mb,zl,tx,zp,dp⟩:EvV)=false:=by (unfold z0i;simp[inR];exact cm));simp[zo,cm3])
      rw[show zo _=false from HV.o]
      clear HV
      go_enter Tryz.func122,Tryz.ntmps122
      go_wp2_with (first|((go_at_call 39;first|refine (z01 _ _ _ (by omega) (by omega) _).mono ?_|refine (z05 _ _ _ (by omega) _).mono ?_);rintro e w' ⟨rfl,rfl⟩)|(go_at_call 165;refine Ay.o.mono ?_;rintro e w' ⟨rfl,rfl⟩))
      go_ret
      exact⟨rfl,HB.o⟩
    ·have cu2:(us==0)=false:=by simpa using cu
     have HV:=ZZ (show zo (⟨id,3,sn,us,mb,zl,tx,zp,dp⟩:EvV)=false by (have cm3:z0i (⟨id,3,sn,us,mb,zl,tx,zp,dp⟩:EvV)=false:=by (unfold z0i;simp[inR];exact fun q=>absurd q cu));simp[zo,cm3])
     rw[show zo _=false from HV.o]
     clear HV
     go_enter Tryz.func122,Tryz.ntmps122
     go_wp2_with (first|((go_at_call 39;first|refine (z01 _ _ _ (by omega) (by omega) _).mono ?_|refine (z05 _ _ _ (by omega) _).mono ?_);rintro e w' ⟨rfl,rfl⟩)|(go_at_call 165;refine Ay.o.mono ?_;rintro e w' ⟨rfl,rfl⟩))
     go_ret
     exact⟨rfl,HB.o⟩
   ·by_cases cu:us=0
    ·subst cu
     by_cases cm:mb=0
     ·subst cm
      by_cases cz:n=0
      ·subst cz
       have hz:zl=[]:=List.eq_nil_of_length_eq_zero hn
       have HV:=ZZ (show zo (⟨id,4,sn,0,0,zl,tx,zp,dp⟩:EvV)=decide (tx.length≤24) by simp[zo,z0i,z13,txOk,inR,cs1,cs5,hz])
       rw[show zo _=decide (tx.length≤24) from HV.o]
       clear HV
       go_enter Tryz.func122,Tryz.ntmps122
       go_wp2_with (first|((go_at_call 39;first|refine (z01 _ _ _ (by omega) (by omega) _).mono ?_|refine (z05 _ _ _ (by omega) _).mono ?_);rintro e w' ⟨rfl,rfl⟩)|(go_at_call 165;refine Ay.o.mono ?_;rintro e w' ⟨rfl,rfl⟩))
       go_ret
       exact⟨by first|rfl|(simp;done)|(cases tx<;>simp;done)|(simp;omega),HB.o⟩
      ·have cz2:(0:Int)<(n:Int):=by omega
       have hz:¬ zl=[]:=fun q=>cz (by rw[← hn,q];rfl)
       have HV:=ZZ (show zo (⟨id,4,sn,0,0,zl,tx,zp,dp⟩:EvV)=false by simp[zo,z0i,z13,txOk,inR,cs1,cs5,hz])
       rw[show zo _=false from HV.o]
       clear HV
       go_enter Tryz.func122,Tryz.ntmps122
       go_wp2_with (first|((go_at_call 39;first|refine (z01 _ _ _ (by omega) (by omega) _).mono ?_|refine (z05 _ _ _ (by omega) _).mono ?_);rintro e w' ⟨rfl,rfl⟩)|(go_at_call 165;refine Ay.o.mono ?_;rintro e w' ⟨rfl,rfl⟩))
       go_ret
       exact⟨rfl,HB.o⟩
     ·have cm2:(mb==0)=false:=by simpa using cm
      have HV:=ZZ (show zo (⟨id,4,sn,0,mb,zl,tx,zp,dp⟩:EvV)=false by (have cm3:z0i (⟨id,4,sn,0,mb,zl,tx,zp,dp⟩:EvV)=false:=by (unfold z0i;simp[inR];exact cm));simp[zo,cm3])
      rw[show zo _=false from HV.o]
      clear HV
      go_enter Tryz.func122,Tryz.ntmps122
      go_wp2_with (first|((go_at_call 39;first|refine (z01 _ _ _ (by omega) (by omega) _).mono ?_|refine (z05 _ _ _ (by omega) _).mono ?_);rintro e w' ⟨rfl,rfl⟩)|(go_at_call 165;refine Ay.o.mono ?_;rintro e w' ⟨rfl,rfl⟩))
      go_ret
      exact⟨rfl,HB.o⟩
    ·have cu2:(us==0)=false:=by simpa using cu
     have HV:=ZZ (show zo (⟨id,4,sn,us,mb,zl,tx,zp,dp⟩:EvV)=false by (have cm3:z0i (⟨id,4,sn,us,mb,zl,tx,zp,dp⟩:EvV)=false:=by (unfold z0i;simp[inR];exact fun q=>absurd q cu));simp[zo,cm3])
     rw[show zo _=false from HV.o]
     clear HV
     go_enter Tryz.func122,Tryz.ntmps122
     go_wp2_with (first|((go_at_call 39;first|refine (z01 _ _ _ (by omega) (by omega) _).mono ?_|refine (z05 _ _ _ (by omega) _).mono ?_);rintro e w' ⟨rfl,rfl⟩)|(go_at_call 165;refine Ay.o.mono ?_;rintro e w' ⟨rfl,rfl⟩))
     go_ret
     exact⟨rfl,HB.o⟩
   ·by_cases cu:us=0
    ·subst cu
     by_cases cm:mb=0
     ·subst cm
      by_cases cz:n=0
      ·subst cz
       have hz:zl=[]:=List.eq_nil_of_length_eq_zero hn
       have HV:=ZZ (show zo (⟨id,5,sn,0,0,zl,tx,zp,dp⟩:EvV)=decide (tx.length≤24) by simp[zo,z0i,z13,txOk,inR,cs1,cs5,hz])
       rw[show zo _=decide (tx.length≤24) from HV.o]
       clear HV
       go_enter Tryz.func122,Tryz.ntmps122
       go_wp2_with (first|((go_at_call 39;first|refine (z01 _ _ _ (by omega) (by omega) _).mono ?_|refine (z05 _ _ _ (by omega) _).mono ?_);rintro e w' ⟨rfl,rfl⟩)|(go_at_call 165;refine Ay.o.mono ?_;rintro e w' ⟨rfl,rfl⟩))
       go_ret
       exact⟨by first|rfl|(simp;done)|(cases tx<;>simp;done)|(simp;omega),HB.o⟩
      ·have cz2:(0:Int)<(n:Int):=by omega
       have hz:¬ zl=[]:=fun q=>cz (by rw[← hn,q];rfl)
       have HV:=ZZ (show zo (⟨id,5,sn,0,0,zl,tx,zp,dp⟩:EvV)=false by simp[zo,z0i,z13,txOk,inR,cs1,cs5,hz])
       rw[show zo _=false from HV.o]
       clear HV
       go_enter Tryz.func122,Tryz.ntmps122
       go_wp2_with (first|((go_at_call 39;first|refine (z01 _ _ _ (by omega) (by omega) _).mono ?_|refine (z05 _ _ _ (by omega) _).mono ?_);rintro e w' ⟨rfl,rfl⟩)|(go_at_call 165;refine Ay.o.mono ?_;rintro e w' ⟨rfl,rfl⟩))
       go_ret
       exact⟨rfl,HB.o⟩
     ·have cm2:(mb==0)=false:=by simpa using cm
      have HV:=ZZ (show zo (⟨id,5,sn,0,mb,zl,tx,zp,dp⟩:EvV)=false by (have cm3:z0i (⟨id,5,sn,0,mb,zl,tx,zp,dp⟩:EvV)=false:=by (unfold z0i;simp[inR];exact cm));simp[zo,cm3])
      rw[show zo _=false from HV.o]
      clear HV
      go_enter Tryz.func122,Tryz.ntmps122
      go_wp2_with (first|((go_at_call 39;first|refine (z01 _ _ _ (by omega) (by omega) _).mono ?_|refine (z05 _ _ _ (by omega) _).mono ?_);rintro e w' ⟨rfl,rfl⟩)|(go_at_call 165;refine Ay.o.mono ?_;rintro e w' ⟨rfl,rfl⟩))
      go_ret
      exact⟨rfl,HB.o⟩
    ·have cu2:(us==0)=false:=by simpa using cu
     have HV:=ZZ (show zo (⟨id,5,sn,us,mb,zl,tx,zp,dp⟩:EvV)=false by (have cm3:z0i (⟨id,5,sn,us,mb,zl,tx,zp,dp⟩:EvV)=false:=by (unfold z0i;simp[inR];exact fun q=>absurd q cu));simp[zo,cm3])
     rw[show zo _=false from HV.o]
     clear HV
     go_enter Tryz.func122,Tryz.ntmps122
     go_wp2_with (first|((go_at_call 39;first|refine (z01 _ _ _ (by omega) (by omega) _).mono ?_|refine (z05 _ _ _ (by omega) _).mono ?_);rintro e w' ⟨rfl,rfl⟩)|(go_at_call 165;refine Ay.o.mono ?_;rintro e w' ⟨rfl,rfl⟩))
     go_ret
     exact⟨rfl,HB.o⟩
  ·have HV:=ZZ (show zo (⟨id,kd,sn,us,mb,zl,tx,zp,dp⟩:EvV)=false by simp[zo,z9t cs])
   rw[show zo _=false from HV.o]
   clear HV
   go_enter Tryz.func122,Tryz.ntmps122
   go_wp2_with (first|((go_at_call 39;first|refine (z01 _ _ _ (by omega) (by omega) _).mono ?_|refine (z05 _ _ _ (by omega) _).mono ?_);rintro e w' ⟨rfl,rfl⟩)|(go_at_call 165;refine Ay.o.mono ?_;rintro e w' ⟨rfl,rfl⟩))
   go_ret
   exact⟨rfl,HB.o⟩
 ·have HV:=ZZ (show zo (⟨id,kd,sn,us,mb,zl,tx,zp,dp⟩:EvV)=false by simp[zo,z9t ck])
  rw[show zo _=false from HV.o]
  clear HV
  go_enter Tryz.func122,Tryz.ntmps122
  go_wp2_with (first|((go_at_call 39;first|refine (z01 _ _ _ (by omega) (by omega) _).mono ?_|refine (z05 _ _ _ (by omega) _).mono ?_);rintro e w' ⟨rfl,rfl⟩)|(go_at_call 165;refine Ay.o.mono ?_;rintro e w' ⟨rfl,rfl⟩))
  go_ret
  exact⟨rfl,HB.o⟩

theorem zkg {e:EvV} (h:zo e=true) (h1:inR e.id 1 1000000=true) (h2:inR e.depth 0 1000000=true):evOk e=z11 e:=by
 unfold evOk
 rw[h,h1,h2]
 rfl

theorem z7s (id kd sn us mb dp:Int) (oa:Zoa) (n cl:Nat) (tx:Zbs) (ob:Zoa) (m cp:Nat) (zl zp:Zin) (hx:tx.length≤1048576) (w:World) (hat:IntsAt w oa n cl zl) (hbt:IntsAt w ob m cp zp) :
  Calls Tryz.prog 70 #[z3e id kd sn us mb dp (.slice oa n cl) (.slice ob m cp) tx] w fun e w'=>e=.returned (.bool (evOk (⟨id,kd,sn,us,mb,zl,tx,zp,dp⟩:EvV)))∧Bw w w':=by
 have hb0:=(Below.refl w.heap.size w).alloc zLe (.cells #[.int .i64 id,.int .i64 kd,.int .i64 sn,.int .i64 us,.int .i64 mb,.slice oa n cl,.string ⟨tx.toArray⟩,.slice ob m cp,.int .i64 dp] 62)
 have BH:=ZZ (fun w hat=>zgh id kd sn us mb dp oa n cl tx ob m cp zl zp hx w hat)
 have Ah:=ZZ (EB.new w id kd sn us mb dp (.slice oa n cl) (.slice ob m cp) tx)
 have HB0:=ZZ hb0
 have HAT:=ZZ (hat.below hb0)
 have Jo:=ZZ hbt
 have hn:=hbt.len
 have hmx:=zNt hbt.room hbt.most
 unfold maxLen at hmx
 clear hb0 hat hbt
 cases cb:zo (⟨id,kd,sn,us,mb,zl,tx,zp,dp⟩:EvV) with
 | false =>
  have HV:=ZZ (show evOk (⟨id,kd,sn,us,mb,zl,tx,zp,dp⟩:EvV)=false by unfold evOk;rw[cb];rfl)
  rw[cb] at BH
  clear cb
  go_enter Tryz.func70,Tryz.ntmps70
  go_wp2_with fail
  refine (BH.o _ HAT.o).mono ?_
  rintro e w1 ⟨rfl,hb1⟩
  have A9:=ZZ (Ah.o.on hb1 (by simp))
  have HB1:=ZZ (HB0.o.trans (hb1.mono (by simp)))
  clear hb1 Ah HB0
  obtain⟨e0,e1,e2,e3,e4,e5,e6,e7,e8⟩:=A9.o.ev
  go_wp2_with ((go_at_call 39;first|refine (z01 _ _ _ (by omega) (by omega) _).mono ?_|refine (z05 _ _ _ (by omega) _).mono ?_);rintro e w' ⟨rfl,rfl⟩)
  go_ret
  exact⟨by rw[HV.o];rfl,HB1.o⟩
 | true =>
  by_cases ci:1≤id∧id≤1000000
  ·obtain⟨ci1,ci2⟩:=ci
   by_cases cd:0≤dp∧dp≤1000000
   ·obtain⟨cd1,cd2⟩:=cd
    have hE:evOk (⟨id,kd,sn,us,mb,zl,tx,zp,dp⟩:EvV)=z11 (⟨id,kd,sn,us,mb,zl,tx,zp,dp⟩:EvV):=zkg cb (inR_iff.2 ⟨ci1,ci2⟩) (inR_iff.2 ⟨cd1,cd2⟩)
    rw[cb] at BH
    rw[hE]
    clear cb hE
    by_cases c1:kd=1
    ·subst c1
     have hp:z11 (⟨id,1,sn,us,mb,zl,tx,zp,dp⟩:EvV)=decide (m=0):=by rw[← hn];exact z9e rfl
     rw[hp]
     by_cases c0:m=0
     ·subst c0
      have HV:=ZZ (show decide ((0:Nat)=0)=true from rfl)
      go_enter Tryz.func70,Tryz.ntmps70
      go_wp2_with fail
      refine (BH.o _ HAT.o).mono ?_
      rintro e w1 ⟨rfl,hb1⟩
      have A9:=ZZ (Ah.o.on hb1 (by simp))
      have HB1:=ZZ (HB0.o.trans (hb1.mono (by simp)))
      clear hb1 Ah HB0
      obtain⟨e0,e1,e2,e3,e4,e5,e6,e7,e8⟩:=A9.o.ev
      go_wp2_with ((go_at_call 39;first|refine (z01 _ _ _ (by omega) (by omega) _).mono ?_|refine (z05 _ _ _ (by omega) _).mono ?_);rintro e w' ⟨rfl,rfl⟩)
      go_loopw [3] (fun i wr=>i=.int .i64 0∧wr=w1) (fun i _=>0)
      case atStart=>exact⟨rfl,rfl⟩
      case round =>
       obtain⟨rfl,rfl⟩:=hrel
       go_wp2_with fail
       go_ret
       exact⟨rfl,HB1.o⟩
     ·have HV:=ZZ (show decide (m=0)=false from decide_eq_false c0)
      by_cases c3:m≤3
      ·have g3:¬ (3:Int)<(m:Int):=by omega
       have g0:((m:Int)==0)=false:=by simp;omega
       have g1:¬ (m:Int)=0:=by omega
       go_enter Tryz.func70,Tryz.ntmps70
       go_wp2_with fail
       refine (BH.o _ HAT.o).mono ?_
       rintro e w1 ⟨rfl,hb1⟩
       have A9:=ZZ (Ah.o.on hb1 (by simp))
       have HB1:=ZZ (HB0.o.trans (hb1.mono (by simp)))
       clear hb1 Ah HB0
       obtain⟨e0,e1,e2,e3,e4,e5,e6,e7,e8⟩:=A9.o.ev
       go_wp2_with ((go_at_call 39;first|refine (z01 _ _ _ (by omega) (by omega) _).mono ?_|refine (z05 _ _ _ (by omega) _).mono ?_);rintro e w' ⟨rfl,rfl⟩)
       go_ret
       exact⟨by rw[HV.o];rfl,HB1.o⟩
      ·have g3:(3:Int)<(m:Int):=by omega
       go_enter Tryz.func70,Tryz.ntmps70
       go_wp2_with fail
       refine (BH.o _ HAT.o).mono ?_
       rintro e w1 ⟨rfl,hb1⟩
       have A9:=ZZ (Ah.o.on hb1 (by simp))
       have HB1:=ZZ (HB0.o.trans (hb1.mono (by simp)))
       clear hb1 Ah HB0
       obtain⟨e0,e1,e2,e3,e4,e5,e6,e7,e8⟩:=A9.o.ev
       go_wp2_with ((go_at_call 39;first|refine (z01 _ _ _ (by omega) (by omega) _).mono ?_|refine (z05 _ _ _ (by omega) _).mono ?_);rintro e w' ⟨rfl,rfl⟩)
       go_ret
       exact⟨by rw[HV.o];rfl,HB1.o⟩
    ·have q1:(kd==1)=false:=by simpa using c1
     by_cases c3:1≤m∧m≤3
     ·obtain⟨c31,c33⟩:=c3
      have g3:¬ (3:Int)<(m:Int):=by omega
      have g0:((m:Int)==0)=false:=by simp;omega
      have g1:¬ (m:Int)=0:=by omega
      have hL:z11 (⟨id,kd,sn,us,mb,zl,tx,zp,dp⟩:EvV)=pvOk id none zp:=zda c1 ⟨by rw[hn];exact c31,by rw[hn];exact c33⟩
      rw[hL]
      have HN:=ZZ hn
      clear hL hn
      go_enter Tryz.func70,Tryz.ntmps70
      go_wp2_with fail
      refine (BH.o _ HAT.o).mono ?_
      rintro e w1 ⟨rfl,hb1⟩
      have A9:=ZZ (Ah.o.on hb1 (by simp))
      have HB1:=ZZ (HB0.o.trans (hb1.mono (by simp)))
      clear hb1 Ah HB0
      obtain⟨e0,e1,e2,e3,e4,e5,e6,e7,e8⟩:=A9.o.ev
      go_wp2_with ((go_at_call 39;first|refine (z01 _ _ _ (by omega) (by omega) _).mono ?_|refine (z05 _ _ _ (by omega) _).mono ?_);rintro e w' ⟨rfl,rfl⟩)
      have G6:=ZZ (Jo.o.below HB1.o)
      clear e0 e1 e2 e3 e4 e5 e6 e7 e8
      go_loopw [3] (fun i wr=>∃ (j:Nat),i=.int .i64 (j:Int)∧j≤m∧pvOk id (pv zp j) (zp.drop j)=pvOk id none zp∧Drew w1 wr) (fun i _=>m - (intOf i).toNat)
      case atStart=>exact⟨0,rfl,Nat.zero_le _,rfl,0,rfl⟩
      case round =>
       obtain⟨j,rfl,hj,hrest,hdr⟩:=hrel
       obtain⟨e0,e1,e2,e3,e4,e5,e6,e7,e8⟩:=(A9.o.on hdr.below A9.o.lt).ev
       by_cases hlt:j<m
       ·have j0:(j:Int)<(m:Int):=by omega
        obtain⟨z,b,p,hz,hidx,hb,c0,hwf⟩:=(G6.o.drew hdr).get Tryz.underlying60 z0f j hlt
        rw[zhl hz] at hrest
        by_cases hzr:1≤z∧z≤1000000
        ·obtain⟨hz1,hz4⟩:=hzr
         have gz1:decide (1≤z)=true:=decide_eq_true hz1
         have gz4:decide (z≤1000000)=true:=decide_eq_true hz4
         rw[inR_iff.2 ⟨hz1,hz4⟩,Bool.true_and] at hrest
         by_cases hid:z=id
         ·have HR:=ZZ (show pvOk id none zp=false by rw[← hrest];simp[hid])
          have gid:(z==id)=true:=by simpa using hid
          clear hrest hz
          go_wp2_with fail
          go_quiet ((go_at_call 39;exact Calls.quiet_of_same (z4m _ _ _ _)))
          go_wp2_with fail
          go_ret
          exact⟨by rw[HR.o];rfl,HB1.o.trans ((hdr.more _).below.mono HB1.o.size)⟩
         ·have gid:(z==id)=false:=by simpa using hid
          rw[decide_eq_true hid,Bool.true_and] at hrest
          by_cases hj0:j=0
          ·have gj:decide (0<j)=false:=by simp[hj0]
           have HR:=ZZ (show pvOk id (pv zp (j+1)) (zp.drop (j+1))=pvOk id none zp by rw[← hrest,hj0];simp[pv,after])
           clear hrest hz hj0
           go_wp2_with fail
           go_quiet ((go_at_call 39;exact Calls.quiet_of_same (z4m _ _ _ _)))
           go_wp2_with fail
           go_roundw
           case rel=>exact⟨j+1,by go_num,by omega,HR.o,hdr.more _⟩
           case measure=>simp[intOf];omega
          ·have gj:decide (0<j)=true:=by simp;omega
           obtain⟨y,b',p',hy,hidx',hb',c0',hwf'⟩:=(G6.o.drew hdr).get Tryz.underlying60 z0f (j - 1) (by omega)
           have hjc:((j - 1:Nat):Int)=(j:Int) - 1:=by omega
           rw[hjc] at hidx'
           have hwr:IntKind.i64.wrap ((j:Int) - 1)=(j:Int) - 1:=by rw[IntKind.wrap_i64];omega
           have hpv:pv zp j=some y:=by
            obtain⟨k,rfl⟩:∃ k,j=k+1:=⟨j - 1,by omega⟩
            exact hy
           rw[hpv] at hrest
           clear hpv hy hjc hz hj0
           by_cases hyz:y<z
           ·have gyz:decide (z≤y)=false:=by simp;omega
            have HR:=ZZ (show pvOk id (pv zp (j+1)) (zp.drop (j+1))=pvOk id none zp by rw[← hrest];simp[after,hyz])
            clear hrest
            go_wp2_with fail
            go_quiet ((go_at_call 39;exact Calls.quiet_of_same (z4m _ _ _ _)))
            go_wp2_with fail
            go_roundw
            case rel=>exact⟨j+1,by go_num,by omega,HR.o,hdr.more _⟩
            case measure=>simp[intOf];omega
           ·have gyz:decide (z≤y)=true:=by simp;omega
            have HR:=ZZ (show pvOk id none zp=false by rw[← hrest];simp[after,hyz])
            clear hrest
            go_wp2_with fail
            go_quiet ((go_at_call 39;exact Calls.quiet_of_same (z4m _ _ _ _)))
            go_wp2_with fail
            go_ret
            exact⟨by rw[HR.o];rfl,HB1.o.trans ((hdr.more _).below.mono HB1.o.size)⟩
        ·have gz:(decide (1≤z)&&decide (z≤1000000))=false:=by simp;omega
         have HR:=ZZ (show pvOk id none zp=false by rw[← hrest,z9t hzr];rfl)
         clear hrest hz
         go_wp2_with fail
         go_quiet ((go_at_call 39;exact Calls.quiet_of_same (z4m _ _ _ _)))
         go_wp2_with fail
         go_ret
         exact⟨by rw[HR.o];rfl,HB1.o.trans ((hdr.more _).below.mono HB1.o.size)⟩
       ·have hjn:j=m:=by omega
        have HR:=ZZ (show pvOk id none zp=true by rw[← hrest,hjn,← HN.o,List.drop_length];exact zav _ _)
        clear hrest
        go_wp2_with fail
        go_ret
        exact⟨by rw[HR.o];rfl,zTr HB1.o hdr.below⟩
     ·by_cases c4:m≤3
      ·have c0:m=0:=by omega
       subst c0
       have HV:=ZZ (show z11 (⟨id,kd,sn,us,mb,zl,tx,zp,dp⟩:EvV)=false from z94 c1 (by rw[hn];exact c3))
       go_enter Tryz.func70,Tryz.ntmps70
       go_wp2_with fail
       refine (BH.o _ HAT.o).mono ?_
       rintro e w1 ⟨rfl,hb1⟩
       have A9:=ZZ (Ah.o.on hb1 (by simp))
       have HB1:=ZZ (HB0.o.trans (hb1.mono (by simp)))
       clear hb1 Ah HB0
       obtain⟨e0,e1,e2,e3,e4,e5,e6,e7,e8⟩:=A9.o.ev
       go_wp2_with ((go_at_call 39;first|refine (z01 _ _ _ (by omega) (by omega) _).mono ?_|refine (z05 _ _ _ (by omega) _).mono ?_);rintro e w' ⟨rfl,rfl⟩)
       go_ret
       exact⟨by rw[HV.o];rfl,HB1.o⟩
      ·have g3:(3:Int)<(m:Int):=by omega
       have HV:=ZZ (show z11 (⟨id,kd,sn,us,mb,zl,tx,zp,dp⟩:EvV)=false from z94 c1 (by rw[hn];exact c3))
       go_enter Tryz.func70,Tryz.ntmps70
       go_wp2_with fail
       refine (BH.o _ HAT.o).mono ?_
       rintro e w1 ⟨rfl,hb1⟩
       have A9:=ZZ (Ah.o.on hb1 (by simp))
       have HB1:=ZZ (HB0.o.trans (hb1.mono (by simp)))
       clear hb1 Ah HB0
       obtain⟨e0,e1,e2,e3,e4,e5,e6,e7,e8⟩:=A9.o.ev
       go_wp2_with ((go_at_call 39;first|refine (z01 _ _ _ (by omega) (by omega) _).mono ?_|refine (z05 _ _ _ (by omega) _).mono ?_);rintro e w' ⟨rfl,rfl⟩)
       go_ret
       exact⟨by rw[HV.o];rfl,HB1.o⟩
   ·have HV:=ZZ (show evOk (⟨id,kd,sn,us,mb,zl,tx,zp,dp⟩:EvV)=false by unfold evOk;rw[z9t (a:=dp) cd];simp)
    rw[cb] at BH
    clear cb
    go_enter Tryz.func70,Tryz.ntmps70
    go_wp2_with fail
    refine (BH.o _ HAT.o).mono ?_
    rintro e w1 ⟨rfl,hb1⟩
    have A9:=ZZ (Ah.o.on hb1 (by simp))
    have HB1:=ZZ (HB0.o.trans (hb1.mono (by simp)))
    clear hb1 Ah HB0
    obtain⟨e0,e1,e2,e3,e4,e5,e6,e7,e8⟩:=A9.o.ev
    go_wp2_with ((go_at_call 39;first|refine (z01 _ _ _ (by omega) (by omega) _).mono ?_|refine (z05 _ _ _ (by omega) _).mono ?_);rintro e w' ⟨rfl,rfl⟩)
    go_ret
    exact⟨by rw[HV.o];rfl,HB1.o⟩
  ·have HV:=ZZ (show evOk (⟨id,kd,sn,us,mb,zl,tx,zp,dp⟩:EvV)=false by unfold evOk;rw[z9t (a:=id) ci];simp)
   rw[cb] at BH
   clear cb
   go_enter Tryz.func70,Tryz.ntmps70
   go_wp2_with fail
   refine (BH.o _ HAT.o).mono ?_
   rintro e w1 ⟨rfl,hb1⟩
   have A9:=ZZ (Ah.o.on hb1 (by simp))
   have HB1:=ZZ (HB0.o.trans (hb1.mono (by simp)))
   clear hb1 Ah HB0
   obtain⟨e0,e1,e2,e3,e4,e5,e6,e7,e8⟩:=A9.o.ev
   go_wp2_with ((go_at_call 39;first|refine (z01 _ _ _ (by omega) (by omega) _).mono ?_|refine (z05 _ _ _ (by omega) _).mono ?_);rintro e w' ⟨rfl,rfl⟩)
   go_ret
   exact⟨by rw[HV.o];rfl,HB1.o⟩

end Go.Proofs.YtfeebdcmlnapiaaGreat
