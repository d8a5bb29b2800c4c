/-
  Walks.
-/
import Derived.Test.YtfeebdcmlnapiaaGreatTBase
open Go.Value renaming int->J
open Go.IntKind renaming i64->Y
set_option maxHeartbeats 4000000
set_option linter.unusedVariables false
set_option linter.unusedSimpArgs false
namespace Go.Proofs.YtfeebdcmlnapiaaGreat
open Go.RowKit P5 P9 K
theorem zo2:(Tryz.prog.info? 175).map (·.size)=some 2:=by kernel_rfl

theorem z1i:(Tryz.prog.info? 79).map (·.size)=some 2:=by kernel_rfl

theorem z5d:(Tryz.prog.info? 79).map (fun i=>(i.zero,i.size,i.bytes))=some (some (.agg #[J Y 0,J Y 0]),2,16):=by kernel_rfl

theorem zi6 (x:Int × Int) (w:World) :
  Calls Tryz.prog 131 #[ival x] w fun e w'=>e=.returned (ival x)∧Bw w w':=by
 obtain⟨k,i⟩:=x
 simp only[ival] at *
 have hb:=(Below.refl w.heap.size w).alloc zLe (.cells #[J Y k,J Y i] 175)
 have HB:=ZZ hb
 clear hb
 go_enter Tryz.func131,Tryz.ntmps131
 go_wp2_with fail
 refine bodyPost_ret (v:=ival (k,i)) (by simp[results,Tryz.results131,go_sem,ival]) rfl ⟨rfl,?_⟩
 exact ((HB.o.alloc (by simp) _).alloc (by simp;omega) _)

theorem znb {w:World} {base:Nat} {e:TypeId} {g n cap:Nat} {xs:Zvs} (h:w.ownsRow base e 2 (.slice (some ⟨g,0,none⟩) n cap) n xs) (j:Nat) (hj:j<n) :
  (∃ u,w.cell? ⟨g,j * 2,none⟩=some u)∧(∃ u,w.cell? ⟨g,j * 2+1,none⟩=some u):=by
 have hl:=h.1
 exact⟨⟨_,by rw[h.cellAt (j * 2) (by omega),List.getElem?_eq_getElem (by omega)]⟩,⟨_,by rw[h.cellAt (j * 2+1) (by omega),List.getElem?_eq_getElem (by omega)]⟩⟩

theorem zg4 (oa:Zoa) (n cap:Nat) (s:Zii) (hn20:n≤1048576) (w:World) (hat:ItemsAt w oa n cap s) :
  Calls Tryz.prog 79 #[.slice oa n cap] w fun e w'=>∃ g,e=.returned (.slice (some ⟨g,0,none⟩) n n)∧w'.ownsRow w.heap.size 79 2 (.slice (some ⟨g,0,none⟩) n n) n (s.flatMap z02)∧Bw w w':=by
 have hn:=hat.len
 have hc:=hat.room
 have hm:=hat.most
 unfold maxLen at hm
 obtain⟨i0,hi,hz0,hz1,hz2⟩:=info_parts z5d
 obtain⟨W0,hmk,hown0,hgr0⟩:=run_make_full (P:=Tryz.prog) w w.heap.size 74 79 i0 _ 2 Tryz.underlying74 hi hz0 hz1 .i64 .i64 n (by rw[hz2];omega) (by unfold maxLen;omega) zLe
 have HOWN:=ZZ hown0
 have DV:=ZZ hgr0
 have HN:=ZZ hn
 have HAT:=ZZ hat
 clear hown0 hgr0 hn hat hi hz0 hz1 hz2
 go_enter Tryz.func79,Tryz.ntmps79
 go_wp2_with fail
 go_loopw [4] (fun i wr=>∃ (j:Nat) (xs:Zvs),i=J Y (j:Int)∧j≤n∧z8g s j xs∧wr.ownsRow w.heap.size 79 2 (.slice (some ⟨w.heap.size,0,none⟩) n n) n xs∧Bw w wr) (fun i _=>n - (intOf i).toNat)
 case atStart=>exact⟨0,_,rfl,Nat.zero_le _,zec _ _,HOWN.o,zBr.grown DV.o zLe (fun k hk=>by cases hk)⟩
 case round =>
  obtain⟨j,xs,rfl,hj,hfill,hown,hbel⟩:=hrel
  by_cases hlt:j<n
  ·have j0:(j:Int)<(n:Int):=by omega
   obtain⟨f,b,q,hf,hidx,hb,c0,c1'⟩:=(HAT.o.below hbel).get Tryz.underlying126 zo2 j hlt
   have hidx2:∀ wx,(Instr.indexAt 74 (.slice (some ⟨w.heap.size,0,none⟩) n n) (J Y (j:Int))).run Tryz.prog wx=.ok (.pointer (some ⟨w.heap.size,j * 2,none⟩)) wx:=fun wx=>by
    have:=run_indexAt_slice wx 74 79 2 Tryz.underlying74 z1i w.heap.size 0 n n j hlt
    rwa [Nat.zero_add] at this
   have HF:=ZZ hf
   have BK:=ZZ hfill
   have HO:=ZZ hown
   have hsz:=hbel.size
   clear hf hfill hown
   go_wp2_with (go_at_call 131;refine (zi6 f _).mono ?_;unfold ival;rintro e w2 ⟨rfl,hb2⟩;have ho2:=own_below HO.o hb2;obtain⟨⟨y0,z0⟩,⟨y1,z1⟩⟩:=znb ho2 j hlt;have f0:=ho2.frozenAt (j * 2);have f1:=ho2.frozenAt (j * 2+1);have Ag:=ZZ ho2;clear ho2)
   have hst:=zlk Ag.o j f
   have hb3:=(hbel.trans (hb2.mono hsz)).grown hst.2 (zNt hsz hb2.size) (fun k hk=>by cases hk;exact Nat.le_refl _)
   go_roundw
   case rel=>exact⟨j+1,_,by go_num,by omega,zed BK.o HF.o (by have:=HO.o.1;omega),hst.1,hb3⟩
   case measure=>simp[intOf];omega
  ·have hjn:j=n:=by omega
   subst hjn
   have HO:=ZZ hown
   have BK:=ZZ hfill
   clear hown hfill
   go_wp2_with fail
   go_ret
   refine⟨w.heap.size,rfl,?_,hbel⟩
   rw[← zfy BK.o HN.o HO.o.1]
   exact HO.o

theorem zg5 (x:Int × Int) (w:World) :
  Calls Tryz.prog 146 #[ival x,ival x] w fun e w'=>e=.returned (.bool true)∧Bw w w':=by
 obtain⟨k,i⟩:=x
 simp only[ival] at *
 have hb:=((Below.refl w.heap.size w).alloc zLe (.cells #[J Y k,J Y i] 79)).alloc (by simp) (.cells #[J Y k,J Y i] 79)
 have HB:=ZZ hb
 clear hb
 go_enter Tryz.func146,Tryz.ntmps146
 go_wp2_with fail
 go_ret
 exact⟨rfl,HB.o⟩

theorem zeo (oa:Zoa) (n cap:Nat) (s:Zii) (ob:Zoa) (cap':Nat) (hn20:n≤1048576) (w:World) (hat:ItemsAt w oa n cap s) (hbt:ItemsAt w ob n cap' s) :
  Calls Tryz.prog 88 #[.slice oa n cap,.slice ob n cap'] w fun e w'=>e=.returned (.bool true)∧Bw w w':=by
 have HAT:=ZZ hat
 have AA:=ZZ hbt
 clear hat hbt
 go_enter Tryz.func88,Tryz.ntmps88
 go_wp2_with fail
 go_loopw [5] (fun i wr=>∃ (j:Nat),i=J Y (j:Int)∧j≤n∧Bw w wr) (fun i _=>n - (intOf i).toNat)
 case atStart=>exact⟨0,rfl,Nat.zero_le _,zBr⟩
 case round =>
  obtain⟨j,rfl,hj,hbel⟩:=hrel
  have hsz:=hbel.size
  by_cases hlt:j<n
  ·have j0:(j:Int)<(n:Int):=by omega
   obtain⟨f,b,q,hf,hidx,hb,c0,c1⟩:=(HAT.o.below hbel).get Tryz.underlying74 z1i j hlt
   obtain⟨f',b',q',hf',hidx',hb',c0',c1'⟩:=(AA.o.below hbel).get Tryz.underlying74 z1i j hlt
   have hee:f=f':=by rw[hf] at hf';exact zSi hf'
   subst hee
   clear hf hf'
   go_wp2_with fail
   refine zn (F:=Bw wr) (by kernel_rfl) (by kernel_rfl) zBr.drew ?_
   have hne:Nonempty (InW (Bw wr)):=⟨⟨_,zBr⟩⟩
   have k0:=ciW c0
   have k1:=ciW c1
   have k3:∀ m:InW (Bw wr),m.w.cell? ⟨b',q',none⟩=some (J Y f.1):=fun m=>(m.h.cell hb').trans c0'
   have k4:∀ m:InW (Bw wr),m.w.cell? ⟨b',q'+1,none⟩=some (J Y f.2):=fun m=>(m.h.cell hb').trans c1'
   repeat (go_big_quiet_step (first|(go_at_call 146;refine (zg5 f _).mono ?_;rintro e w2 ⟨rfl,hb2⟩;exact⟨rfl,iwW hb2,rfl⟩)))
   refine wpQuiet_nil ?_
   intro _ hw'
   obtain⟨nq,hw''⟩:=hw'
   subst hw''
   have hb3:=hbel.trans (nq.h.mono hsz)
   generalize nq.w=w2 at hb3 ⊢
   clear hne k0 k1 k3 k4
   go_wp2_with fail
   go_roundw
   case rel=>exact⟨j+1,by go_num,by omega,hb3⟩
   case measure=>simp[intOf];omega
  ·have hjn:j=n:=by omega
   go_wp2_with fail
   go_ret
   exact⟨rfl,hbel⟩

open P1 P11 P12 P14
def pk (s:Zii):Nat→Option Int
 | 0=>none
 | j+1=>(s[j]?).map (·.1)

theorem zcx {s:Zii} {j:Nat} {x:Int × Int} (h:s[j]? = some x):zt (pk s j) (s.drop j)=((z0z x.1&&(inR x.2 1 1000000&&after (pk s j) x.1))&&zt (pk s (j+1)) (s.drop (j+1))):=by
 obtain⟨hj,rfl⟩:=zGi.1 h
 rw[List.drop_eq_getElem_cons hj]
 simp[zt,pk,h]

theorem zhe {s:Zii} {j:Nat} {y:Int × Int} (h0:¬ j=0) (h:s[j - 1]? = some y):pk s j=some y.1:=by
 obtain⟨k,rfl⟩:∃ k,j=k+1:=⟨j - 1,by omega⟩
 simp only[pk]
 rw[show k+1 - 1=k from rfl] at h
 rw[h]
 rfl

theorem ItemsAt.drew {w w':World} {oa:Zoa} {n cap:Nat} {s:Zii} (h:ItemsAt w oa n cap s) (hd:Drew w w'):ItemsAt w' oa n cap s:=h.below hd.below

theorem z4n (x a b:Int) (w:World) :
  Calls Tryz.prog 39 #[J Y x,J Y a,J Y b] w fun e w'=>e=.returned (.bool (inR x a b))∧w'=w:=z4m x a b w

theorem zi7 (k:Int) (w:World) :
  Calls Tryz.prog 167 #[J Y k] w fun e w'=>e=.returned (.bool (z0z k))∧w'=w:=by
 unfold z0z
 have W1:=ZZ (fun w=>z4n k 1 3 w)
 have W2:=ZZ (fun w=>z4n k 11 15 w)
 generalize inR k 1 3=r1 at W1 ⊢
 generalize inR k 11 15=r2 at W2 ⊢
 cases r1
 all_goals
  go_enter Tryz.func167,Tryz.ntmps167
  go_wp2_with (first
   | (go_at_call 39;with_reducible refine (W1.o _).mono ?_;rintro e w' ⟨rfl,rfl⟩)
   | (go_at_call 39;with_reducible refine (W2.o _).mono ?_;rintro e w' ⟨rfl,rfl⟩))
  go_ret
  exact⟨by simp,rfl⟩

theorem z7l (k:Int) (w:World) :
  Calls Tryz.prog 182 #[J Y k] w fun e w'=>e=.returned (.bool (inR k 11 15))∧w=w':=by
 go_enter Tryz.func182,Tryz.ntmps182
 go_wp2_with (go_at_call 93;refine (z6f _ _ _ _).mono ?_;rintro e w' ⟨rfl,rfl⟩)
 go_ret
 exact⟨rfl,rfl⟩

theorem z9b (x:Int × Int) (w:World) :
  Calls Tryz.prog 141 #[ival x] w fun e w'=>e=.returned (.bool (z0z x.1&&inR x.2 1 1000000))∧Bw w w':=by
 obtain⟨k,i⟩:=x
 simp only[ival,z0z] at *
 have HB:=ZZ ((Below.refl w.heap.size w).alloc zLe (.cells #[J Y k,J Y i] 79))
 have W1:=ZZ (fun w=>z6f k 1 3 w)
 have W2:=ZZ (fun w=>z7l k w)
 have W3:=ZZ (fun w=>z6f i 1 1000000 w)
 unfold inR at *
 generalize (decide (1≤k)&&decide (k≤3))=r1 at W1 ⊢
 generalize (decide (11≤k)&&decide (k≤15))=r2 at W2 ⊢
 generalize (decide (1≤i)&&decide (i≤1000000))=r3 at W3 ⊢
 cases r1<;>cases r2
 all_goals
  go_enter Tryz.func141,Tryz.ntmps141
  go_wp2_with (first
   | (go_at_call 93;with_reducible refine (W1.o _).mono ?_;rintro e w' ⟨rfl,rfl⟩)
   | (go_at_call 182;with_reducible refine (W2.o _).mono ?_;rintro e w' ⟨rfl,rfl⟩)
   | (go_at_call 93;with_reducible refine (W3.o _).mono ?_;rintro e w' ⟨rfl,rfl⟩))
  go_ret
  exact⟨by simp,HB.o⟩

theorem z7m (oa:Zoa) (n cap:Nat) (s:Zii) (w:World) (hat:ItemsAt w oa n cap s) :
  Calls Tryz.prog 129 #[.slice oa n cap] w fun e w'=>e=.returned (.bool (stOk s))∧Drew w w':=by
 have hn:=hat.len
 have hc:=hat.room
 have hm:=hat.most
 unfold maxLen at hm
 unfold stOk
 rw[hn]
 by_cases c1:n≤8
 ·have g1:¬ (8:Int)<(n:Int):=by omega
  rw[decide_eq_true c1,Bool.true_and]
  have HN:=ZZ hn
  have HAT:=ZZ hat
  clear hn hat
  go_enter Tryz.func129,Tryz.ntmps129
  go_wp2_with fail
  go_loopw [3] (fun i wr=>∃ (j:Nat),i=J Y (j:Int)∧j≤n∧zt (pk s j) (s.drop j)=zt none s∧Drew w wr) (fun i _=>n - (intOf i).toNat)
  case atStart=>exact⟨0,rfl,Nat.zero_le _,rfl,0,rfl⟩
  case round =>
   obtain⟨j,rfl,hj,hrest,hdr⟩:=hrel
   by_cases hlt:j<n
   ·have j0:(j:Int)<(n:Int):=by omega
    obtain⟨x,b,p,hx,hidx,hb,c0,c1'⟩:=(HAT.o.drew hdr).get Tryz.underlying74 z1i j hlt
    rw[zcx hx] at hrest
    have W1:=ZZ (fun w=>zi7 x.1 w)
    have W2:=ZZ (fun w=>z4n x.2 1 1000000 w)
    generalize z0z x.1=r1 at W1 hrest
    generalize inR x.2 1 1000000=r2 at W2 hrest
    cases r1 with
    | false =>
     have HR:=ZZ (show zt none s=false by rw[← hrest];rfl)
     clear hrest
     go_wp2_with fail
     go_quiet (first
      | (go_at_call 167;with_reducible exact Calls.quiet_of_same (W1.o _))
      | (go_at_call 39;with_reducible exact Calls.quiet_of_same (W2.o _)))
     go_wp2_with fail
     go_ret
     exact⟨by rw[HR.o];rfl,hdr.more _⟩
    | true =>
     cases r2 with
     | false =>
      have HR:=ZZ (show zt none s=false by rw[← hrest];rfl)
      clear hrest
      go_wp2_with fail
      go_quiet (first
      | (go_at_call 167;with_reducible exact Calls.quiet_of_same (W1.o _))
      | (go_at_call 39;with_reducible exact Calls.quiet_of_same (W2.o _)))
      go_wp2_with fail
      go_ret
      exact⟨by rw[HR.o];rfl,hdr.more _⟩
     | true =>
      by_cases hj0:j=0
      ·have gj:decide (0<j)=false:=by simp[hj0]
       have hp0:pk s j=none:=by rw[hj0];rfl
       rw[hp0] at hrest
       clear hx hj0 hp0
       have HR:=ZZ (show zt (pk s (j+1)) (s.drop (j+1))=zt none s by rw[← hrest];simp[after])
       clear hrest
       go_wp2_with fail
       go_quiet (first
      | (go_at_call 167;with_reducible exact Calls.quiet_of_same (W1.o _))
      | (go_at_call 39;with_reducible exact Calls.quiet_of_same (W2.o _)))
       go_wp2_with fail
       go_roundw
       case rel=>exact⟨j+1,by go_num,by omega,HR.o,hdr.more _⟩
       case measure=>simp[intOf];omega
      ·have gj:decide (0<j)=true:=by simp;omega
       obtain⟨y,b',p',hy,hidx',hb',c0',c1''⟩:=(HAT.o.drew hdr).get Tryz.underlying74 z1i (j - 1) (by omega)
       have hjc:((j - 1:Nat):Int)=(j:Int) - 1:=by omega
       rw[hjc] at hidx'
       have hwr:IntKind.i64.wrap ((j:Int) - 1)=(j:Int) - 1:=by rw[IntKind.wrap_i64];omega
       rw[zhe hj0 hy] at hrest
       clear hy hjc hx hj0
       by_cases hyz:y.1<x.1
       ·have gyz:decide (x.1≤y.1)=false:=by simp;omega
        have HR:=ZZ (show zt (pk s (j+1)) (s.drop (j+1))=zt none s by rw[← hrest];simp[after,hyz])
        clear hrest
        go_wp2_with fail
        go_quiet (first
      | (go_at_call 167;with_reducible exact Calls.quiet_of_same (W1.o _))
      | (go_at_call 39;with_reducible exact Calls.quiet_of_same (W2.o _)))
        go_wp2_with fail
        go_roundw
        case rel=>exact⟨j+1,by go_num,by omega,HR.o,hdr.more _⟩
        case measure=>simp[intOf];omega
       ·have gyz:decide (x.1≤y.1)=true:=by simp;omega
        have HR:=ZZ (show zt none s=false by rw[← hrest];simp[after,hyz])
        clear hrest
        go_wp2_with fail
        go_quiet (first
      | (go_at_call 167;with_reducible exact Calls.quiet_of_same (W1.o _))
      | (go_at_call 39;with_reducible exact Calls.quiet_of_same (W2.o _)))
        go_wp2_with fail
        go_ret
        exact⟨by rw[HR.o];rfl,hdr.more _⟩
   ·have hjn:j=n:=by omega
    have HR:=ZZ (show zt none s=true by rw[← hrest,hjn,← HN.o,List.drop_length];cases pk s s.length<;>rfl)
    clear hrest
    go_wp2_with fail
    go_ret
    exact⟨by rw[HR.o];rfl,hdr⟩
 ·have g1:(8:Int)<(n:Int):=by omega
  rw[decide_eq_false c1,Bool.false_and]
  clear hn hat
  go_enter Tryz.func129,Tryz.ntmps129
  go_wp2_with fail
  go_ret
  exact⟨rfl,0,rfl⟩

def FW (wr:World) (x:Int × Int) (w':World):Prop:=Below (wr.heap.size+1) (wr.alloc (.cells #[J Y x.1,J Y x.2] 79)) w'

theorem FW.c0 {wr w':World} {x:Int × Int} (h:FW wr x w'):w'.cell? ⟨wr.heap.size,0,none⟩=some (J Y x.1):=(h.cell (by simp)).trans (by simp)

theorem FW.c1 {wr w':World} {x:Int × Int} (h:FW wr x w'):w'.cell? ⟨wr.heap.size,1,none⟩=some (J Y x.2):=(h.cell (by simp)).trans (by simp)

theorem FW.old {wr w':World} {x:Int × Int} (h:FW wr x w') {p:Addr} {u:Value} (hp:wr.cell? p=some u):w'.cell? p=some u :=
 (Below.cell h (p:=p) (by have:=zw hp;omega)).trans ((((Below.refl wr.heap.size wr).alloc zLe _).cell (zw hp)).trans hp)

theorem FW.below {B:Nat} {w wr w':World} {x:Int × Int} (h:FW wr x w') (hb:Below B w wr) (hB:B≤wr.heap.size):Below B w w':=(hb.alloc hB _).trans (Below.mono h (by omega))

theorem FW.on {wr w' w'':World} {x:Int × Int} (h:FW wr x w') (hb:Below w'.heap.size w' w''):FW wr x w'' :=
 Below.trans h (hb.mono (by have:=Below.size h;simp at this;omega))

theorem zb7 (oa:Zoa) (n cap:Nat) (s:Zii) (w:World) (hat:ItemsAt w oa n cap s) :
  Calls Tryz.prog 140 #[.slice oa n cap] w fun e w'=>e=.returned (.bool (stOk s))∧Bw w w':=by
 have hn:=hat.len
 have hc:=hat.room
 have hm:=hat.most
 unfold maxLen at hm
 unfold stOk
 rw[hn]
 by_cases c1:n≤8
 ·have g1:¬ (8:Int)<(n:Int):=by omega
  rw[decide_eq_true c1,Bool.true_and]
  have HN:=ZZ hn
  have HAT:=ZZ hat
  clear hn hat
  go_enter Tryz.func140,Tryz.ntmps140
  go_wp2_with fail
  go_loopw [10] (fun i wr=>∃ (j:Nat),i=J Y (j:Int)∧j≤n∧zt (pk s j) (s.drop j)=zt none s∧Bw w wr) (fun i _=>n - (intOf i).toNat)
  case atStart=>exact⟨0,rfl,Nat.zero_le _,rfl,zBr⟩
  case round =>
   obtain⟨j,rfl,hj,hrest,hbel⟩:=hrel
   by_cases hlt:j<n
   ·have j0:(j:Int)<(n:Int):=by omega
    obtain⟨x,b,p,hx,hidx,hb,c0,c1'⟩:=(HAT.o.below hbel).get Tryz.underlying74 z1i j hlt
    have hsz:=hbel.size
    rw[zcx hx] at hrest
    have hr0:((z0z x.1&&(inR x.2 1 1000000&&after (pk s j) x.1))&&zt (pk s (j+1)) (s.drop (j+1)))=((z0z x.1&&inR x.2 1 1000000)&&(after (pk s j) x.1&&zt (pk s (j+1)) (s.drop (j+1)))):=by simp only[Bool.and_assoc]
    rw[hr0] at hrest
    have W1:=ZZ (fun w=>z9b x w)
    clear hr0
    generalize (z0z x.1&&inR x.2 1 1000000)=r1 at W1 hrest
    cases r1 with
    | false =>
     have HR:=ZZ (show zt none s=false by rw[← hrest];rfl)
     clear hrest
     go_wp2_with fail
     refine zn (F:=FW wr x) (by kernel_rfl) (by kernel_rfl) zBr.drew ?_
     have hne:Nonempty (InW (FW wr x)):=⟨⟨_,zBr⟩⟩
     have k0:∀ m:InW (FW wr x),m.w.cell? ⟨wr.heap.size,0,none⟩=some (J Y x.1):=fun m=>m.h.c0
     have k1:∀ m:InW (FW wr x),m.w.cell? ⟨wr.heap.size,1,none⟩=some (J Y x.2):=fun m=>m.h.c1
     repeat (go_big_quiet_step (first|(go_at_call 141;refine (W1.o _).mono ?_;rintro e w2 ⟨rfl,hb2⟩;exact⟨rfl,⟨w2,FW.on (InW.h _) hb2⟩,rfl⟩)))
     refine wpQuiet_nil ?_
     intro _ hw'
     obtain⟨nq,hw''⟩:=hw'
     subst hw''
     have hb4:Bw w nq.w:=nq.h.below hbel hsz
     generalize nq.w=w2 at hb4 ⊢
     clear hne k0 k1 
     go_wp2_with fail
     go_ret
     exact⟨by rw[HR.o];rfl,hb4⟩
    | true =>
     by_cases hj0:j=0
     ·have gj:decide (0<j)=false:=by simp[hj0]
      have hp0:pk s j=none:=by rw[hj0];rfl
      rw[hp0] at hrest
      clear hx hj0 hp0
      have HR:=ZZ (show zt (pk s (j+1)) (s.drop (j+1))=zt none s by rw[← hrest];simp[after])
      clear hrest
      go_wp2_with fail
      refine zn (F:=FW wr x) (by kernel_rfl) (by kernel_rfl) zBr.drew ?_
      have hne:Nonempty (InW (FW wr x)):=⟨⟨_,zBr⟩⟩
      have k0:∀ m:InW (FW wr x),m.w.cell? ⟨wr.heap.size,0,none⟩=some (J Y x.1):=fun m=>m.h.c0
      have k1:∀ m:InW (FW wr x),m.w.cell? ⟨wr.heap.size,1,none⟩=some (J Y x.2):=fun m=>m.h.c1
      repeat (go_big_quiet_step (first|(go_at_call 141;refine (W1.o _).mono ?_;rintro e w2 ⟨rfl,hb2⟩;exact⟨rfl,⟨w2,FW.on (InW.h _) hb2⟩,rfl⟩)))
      refine wpQuiet_nil ?_
      intro _ hw'
      obtain⟨nq,hw''⟩:=hw'
      subst hw''
      have hb4:Bw w nq.w:=nq.h.below hbel hsz
      generalize nq.w=w2 at hb4 ⊢
      clear hne k0 k1 
      go_wp2_with fail
      go_roundw
      case rel=>exact⟨j+1,by go_num,by omega,HR.o,hb4⟩
      case measure=>simp[intOf];omega
     ·have gj:decide (0<j)=true:=by simp;omega
      obtain⟨y,b',p',hy,hidx',hb',c0',c1''⟩:=(HAT.o.below hbel).get Tryz.underlying74 z1i (j - 1) (by omega)
      have hjc:((j - 1:Nat):Int)=(j:Int) - 1:=by omega
      rw[hjc] at hidx'
      have hwr:IntKind.i64.wrap ((j:Int) - 1)=(j:Int) - 1:=by rw[IntKind.wrap_i64];omega
      rw[zhe hj0 hy] at hrest
      clear hy hjc hx hj0
      by_cases hyz:y.1<x.1
      ·have gyz:decide (x.1≤y.1)=false:=by simp;omega
       have HR:=ZZ (show zt (pk s (j+1)) (s.drop (j+1))=zt none s by rw[← hrest];simp[after,hyz])
       clear hrest
       go_wp2_with fail
       refine zn (F:=FW wr x) (by kernel_rfl) (by kernel_rfl) zBr.drew ?_
       have hne:Nonempty (InW (FW wr x)):=⟨⟨_,zBr⟩⟩
       have k0:∀ m:InW (FW wr x),m.w.cell? ⟨wr.heap.size,0,none⟩=some (J Y x.1):=fun m=>m.h.c0
       have k1:∀ m:InW (FW wr x),m.w.cell? ⟨wr.heap.size,1,none⟩=some (J Y x.2):=fun m=>m.h.c1
       have k2:∀ m:InW (FW wr x),m.w.cell? ⟨b',p',none⟩=some (J Y y.1):=fun m=>m.h.old c0'
       repeat (go_big_quiet_step (first|(go_at_call 141;refine (W1.o _).mono ?_;rintro e w2 ⟨rfl,hb2⟩;exact⟨rfl,⟨w2,FW.on (InW.h _) hb2⟩,rfl⟩)))
       refine wpQuiet_nil ?_
       intro _ hw'
       obtain⟨nq,hw''⟩:=hw'
       subst hw''
       have hb4:Bw w nq.w:=nq.h.below hbel hsz
       generalize nq.w=w2 at hb4 ⊢
       clear hne k0 k1 k2
       go_wp2_with fail
       go_roundw
       case rel=>exact⟨j+1,by go_num,by omega,HR.o,hb4⟩
       case measure=>simp[intOf];omega
      ·have gyz:decide (x.1≤y.1)=true:=by simp;omega
       have HR:=ZZ (show zt none s=false by rw[← hrest];simp[after,hyz])
       clear hrest
       go_wp2_with fail
       refine zn (F:=FW wr x) (by kernel_rfl) (by kernel_rfl) zBr.drew ?_
       have hne:Nonempty (InW (FW wr x)):=⟨⟨_,zBr⟩⟩
       have k0:∀ m:InW (FW wr x),m.w.cell? ⟨wr.heap.size,0,none⟩=some (J Y x.1):=fun m=>m.h.c0
       have k1:∀ m:InW (FW wr x),m.w.cell? ⟨wr.heap.size,1,none⟩=some (J Y x.2):=fun m=>m.h.c1
       have k2:∀ m:InW (FW wr x),m.w.cell? ⟨b',p',none⟩=some (J Y y.1):=fun m=>m.h.old c0'
       repeat (go_big_quiet_step (first|(go_at_call 141;refine (W1.o _).mono ?_;rintro e w2 ⟨rfl,hb2⟩;exact⟨rfl,⟨w2,FW.on (InW.h _) hb2⟩,rfl⟩)))
       refine wpQuiet_nil ?_
       intro _ hw'
       obtain⟨nq,hw''⟩:=hw'
       subst hw''
       have hb4:Bw w nq.w:=nq.h.below hbel hsz
       generalize nq.w=w2 at hb4 ⊢
       clear hne k0 k1 k2
       go_wp2_with fail
       go_ret
       exact⟨by rw[HR.o];rfl,hb4⟩
   ·have hjn:j=n:=by omega
    have HR:=ZZ (show zt none s=true by rw[← hrest,hjn,← HN.o,List.drop_length];cases pk s s.length<;>rfl)
    clear hrest
    go_wp2_with fail
    go_ret
    exact⟨by rw[HR.o];rfl,hbel⟩
 ·have g1:(8:Int)<(n:Int):=by omega
  rw[decide_eq_false c1,Bool.false_and]
  clear hn hat
  go_enter Tryz.func140,Tryz.ntmps140
  go_wp2_with fail
  go_ret
  exact⟨rfl,zBr⟩

def IdsOk (w:World) (b:Nat) (s:Zii):Prop:=∃ D m,m≤s.length∧IdTab w b (zm s) m D

theorem IdsOk.below {w w':World} {b:Nat} {s:Zii} (h:IdsOk w b s) (hb:Bw w w'):IdsOk w' b s:=by
 obtain⟨D,m,hm,h⟩:=h
 exact⟨D,m,hm,h.below hb⟩

theorem zjs {s:Zii} {j:Nat} {x:Int × Int} (h:s[j]? = some x):s.take (j+1)=s.take j++[x]:=by
 rw[List.take_add_one,h];rfl

theorem z9k {w w':World} {b B:Nat} (h:w.mapTurned w' b) (hb:B≤b) (hB:B≤w.heap.size):Below B w w':=(Below.refl B w).grown h.grown hB (fun k hk=>by cases hk;exact hb)

theorem z4j (oa:Zoa) (n cap:Nat) (s:Zii) (hn20:n≤1048576) (w:World) (hat:ItemsAt w oa n cap s) (hws:∀ y∈s,z3d y) :
  Calls Tryz.prog 143 #[.slice oa n cap] w fun e w'=>e=.returned (.map (some w.heap.size))∧IdsOk w' w.heap.size s∧Bw w w':=by
 have hn:=hat.len
 have HN:=ZZ hn
 have HAT:=ZZ hat
 have Dx:=ZZ hws
 have hmm:(Instr.makeMap 180 none).run Tryz.prog w=.ok (.map (some w.heap.size)) (w.alloc (.map #[] 0)):=by
  simp[Instr.makeMap,Sem.run_bind,run_underlying Tryz.underlying180 w,asInt,Result.andThen,newObj]
  try rfl
 clear hn hat hws
 go_enter Tryz.func143,Tryz.ntmps143
 go_wp2_with fail
 have HT0:=ZZ (zct w)
 have HB0:=ZZ ((Below.refl w.heap.size w).alloc zLe (.map #[] 0))
 go_loopw [11] (fun i wr=>∃ j:Nat,i=J Y (j:Int)∧j≤n∧IdsOk wr w.heap.size (s.take j)∧Bw w wr) (fun i _=>n - (intOf i).toNat)
 case atStart=>exact⟨0,rfl,Nat.zero_le _,⟨_,0,Nat.zero_le _,HT0.o⟩,HB0.o⟩
 case round =>
  obtain⟨j,rfl,hj,hT,hbel⟩:=hrel
  have Bu:=ZZ hT
  have Av:=ZZ hbel
  have hsz:=hbel.size
  clear hT hbel
  by_cases hlt:j<n
  ·have j0:(j:Int)<(n:Int):=by omega
   obtain⟨x,b,q,hx,hidx,hb,c0,c1⟩:=(HAT.o.below Av.o).get Tryz.underlying74 z1i j hlt
   have hwx:=Dx.o x (zMg hx)
   have Af:=ZZ (zjs hx)
   obtain⟨D,m,hm,hT⟩:=Bu.o
   have hll:(s.take j).length=j:=by rw[List.length_take,HN.o];omega
   have hba:=(Below.refl wr.heap.size wr).alloc zLe (.cells #[J Y x.1,J Y x.2] 79)
   have hTa:=hT.below hba
   have hlk:=hTa.look hwx.1
   have hkey:=keyI hwx.1
   have hval:=plainElem_int (H:=Unit) Tryz.underlying3 hwx.2
   have HW:=ZZ hwx
   have HX:=ZZ hx
   have Ev:=ZZ hTa
   have Bh:=ZZ hba
   have hblt:=hT.lt
   rw[hll] at hm
   clear hTa hba hT Bu hwx hx hll
   cases hF:zm (s.take j) x.1 with
   | none =>
    rw[hF] at hlk
    simp only[Option.getD_none,Option.isSome_none] at hlk
    have hown1:=Ev.o.own
    go_wp2_with (at_mapUpdate;refine wpList_mapUpdate_in _ rfl _ _ _ 180 rfl 3 3 (Maps.int_keyed Tryz.underlying3) Tryz.underlying180 (plainElem Tryz.prog 3) w.heap.size m D rfl hown1 (by unfold maxLen;omega) _ _ (.int .i64 x.1) rfl rfl hkey (numD x.2) [] hval ?_;intro w1 hown2 hturn2)
    have h3:=Ev.o.store HW.o.1 HW.o.2 hown2
    rw[hF,← zi3 hF,← Af.o] at h3
    have hT':IdsOk w1 w.heap.size (s.take (j+1)):=⟨_,_,by rw[List.length_take,HN.o];simp;omega,h3⟩
    have hB':Bw w w1:=(Av.o.trans (Bh.o.mono hsz)).trans (z9k hturn2 zLe (by simp;omega))
    clear h3 hown2 hturn2 hown1
    go_wp2_with fail
    go_roundw
    case rel=>exact⟨j+1,by go_num,by omega,hT',hB'⟩
    case measure=>simp[intOf];omega
   | some i =>
    rw[hF] at hlk
    simp only[Option.getD_some,Option.isSome_some] at hlk
    have h3:=Ev.o
    rw[← zi4 hF,← Af.o] at h3
    have HT':=ZZ (show IdsOk (wr.alloc (.cells #[J Y x.1,J Y x.2] 79)) w.heap.size (s.take (j+1)) from ⟨_,_,by rw[List.length_take,HN.o];omega,h3⟩)
    have HB':=ZZ (Av.o.trans (Bh.o.mono hsz))
    clear h3
    go_wp2_with fail
    go_roundw
    case rel=>exact⟨j+1,by go_num,by omega,HT'.o,HB'.o⟩
    case measure=>simp[intOf];omega
  ·have hall:s.take j=s:=zTl (by rw[HN.o];omega)
   have HA:=ZZ hall
   clear hall
   go_wp2_with fail
   go_ret
   exact⟨rfl,by rw[← HA.o];exact Bu.o,Av.o⟩

theorem znc {s:Zii} {j:Nat} {x:Int × Int} (k:Int) (h:s[j]? = some x):stAt (s.drop j) k=if x.1=k then x.2 else stAt (s.drop (j+1)) k:=by
 obtain⟨hj,rfl⟩:=zGi.1 h
 rw[List.drop_eq_getElem_cons hj]
 rfl

theorem z2u (oa:Zoa) (n cap:Nat) (s:Zii) (k:Int) (w:World) (hat:ItemsAt w oa n cap s) :
  Calls Tryz.prog 124 #[.slice oa n cap,J Y k] w fun e w'=>e=.returned (J Y (stAt s k))∧w=w':=by
 have hn:=hat.len
 have hm:=zNt hat.room hat.most
 unfold maxLen at hm
 have HN:=ZZ hn
 have HAT:=ZZ hat
 clear hn hat
 go_enter Tryz.func124,Tryz.ntmps124
 go_wp2_with fail
 go_loop [5] (fun i=>∃ (j:Nat),i=J Y (j:Int)∧j≤n∧stAt (s.drop j) k=stAt s k) (fun i=>n - (intOf i).toNat)
 case atStart=>exact⟨0,rfl,Nat.zero_le _,rfl⟩
 case round =>
  obtain⟨j,rfl,hj,hrest⟩:=hrel
  by_cases hlt:j<n
  ·have j0:(j:Int)<(n:Int):=by omega
   obtain⟨x,b,q,hx,hidx,hb,c0,c1⟩:=HAT.o.get Tryz.underlying74 z1i j hlt
   rw[znc k hx] at hrest
   clear hx
   by_cases hk:x.1=k
   ·have g:(x.1==k)=true:=by simpa using hk
    rw[if_pos hk] at hrest
    have HR:=ZZ hrest
    clear hk hrest
    go_wp2_with fail
    go_ret
    exact⟨by rw[← HR.o];rfl,rfl⟩
   ·have g:(x.1==k)=false:=by simpa using hk
    rw[if_neg hk] at hrest
    have HR:=ZZ hrest
    clear hk hrest
    go_wp2_with fail
    go_round
    case rel=>exact⟨j+1,by go_num,by omega,HR.o⟩
    case measure=>simp[intOf];omega
  ·have hjn:j=n:=by omega
   have HR:=ZZ (show stAt s k=0 by rw[← hrest,hjn,← HN.o,List.drop_length];rfl)
   clear hrest
   go_wp2_with fail
   go_ret
   exact⟨by rw[HR.o];rfl,rfl⟩

end Go.Proofs.YtfeebdcmlnapiaaGreat
