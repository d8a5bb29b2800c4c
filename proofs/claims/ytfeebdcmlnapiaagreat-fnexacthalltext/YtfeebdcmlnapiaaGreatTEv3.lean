/-
  Walks.
-/
import Derived.Test.YtfeebdcmlnapiaaGreatTEv2
open Go.Value renaming int->J
open Go.IntKind renaming i64->Y
set_option maxHeartbeats 4000000
set_option linter.unusedVariables false
set_option linter.unusedSimpArgs false
namespace Go.Proofs.YtfeebdcmlnapiaaGreat
open Go.RowKit P1 P9 K
def szV (n k m:Nat) (left:Int):Int:=if left<(n:Int)+(k:Int)+(m:Int) then -1 else left - n - k - m

theorem zb5 (oa:Zoa) (n cap:Nat) (hn:n≤maxLen) (left:Int) (h0:0≤left) (h1:left≤1048576) (w:World) :
  Calls Tryz.prog 120 #[.slice oa n cap,J Y left] w fun e w'=>e=.returned (J Y (if left - n<0 then -1 else left - n))∧w=w':=by
 unfold maxLen at hn
 by_cases c:left - n<0
 ·rw[if_pos c]
  go_enter Tryz.func120,Tryz.ntmps120
  go_wp2_with fail
  go_ret
  exact⟨rfl,rfl⟩
 ·rw[if_neg c]
  go_enter Tryz.func120,Tryz.ntmps120
  go_wp2_with fail
  go_ret
  exact⟨rfl,rfl⟩

theorem zg2 (id kd sn us mb dp:Int) (oa:Zoa) (n cap:Nat) (tx:Zbs) (ob:Zoa) (m cb:Nat) (hn:n≤maxLen) (ht:tx.length≤maxLen) (hm:m≤maxLen) (left:Int) (h0:0≤left) (h1:left≤1048576) (w:World) :
  Calls Tryz.prog 67 #[z3e id kd sn us mb dp (.slice oa n cap) (.slice ob m cb) tx,J Y left] w fun e w'=>e=.returned (J Y (szV n tx.length m left))∧Bw w w':=by
 have HB0:=ZZ ((Below.refl w.heap.size w).alloc zLe (.cells #[J Y id,J Y kd,J Y sn,J Y us,J Y mb,.slice oa n cap,.string ⟨tx.toArray⟩,.slice ob m cb,J Y dp] 124))
 have HS:=ZZ (zb5 oa n cap hn left h0 h1)
 have HS2:=ZZ (fun left h0 h1 w=>zb5 ob m cb hm left h0 h1 w)
 unfold maxLen at hn ht hm
 unfold szV
 by_cases c:left - n<0
 ·rw[if_pos c] at HS
  rw[if_pos (by omega)]
  clear c
  go_enter Tryz.func67,Tryz.ntmps67
  go_wp2_with fail
  refine (HS.o _).mono ?_
  rintro e w1 ⟨rfl,rfl⟩
  go_wp2_with fail
  go_ret
  exact⟨rfl,HB0.o⟩
 ·rw[if_neg c] at HS
  by_cases d:left - n - tx.length<0
  ·rw[if_pos (by omega)]
   go_enter Tryz.func67,Tryz.ntmps67
   go_wp2_with fail
   refine (HS.o _).mono ?_
   rintro e w1 ⟨rfl,rfl⟩
   go_wp2_with fail
   go_ret
   exact⟨rfl,HB0.o⟩
  ·have Ap:=ZZ (fun w=>HS2.o (left - n - tx.length) (by omega) (by omega) w)
   by_cases f:left - n - tx.length - m<0
   ·rw[if_pos (by omega)]
    rw[if_pos f] at Ap
    go_enter Tryz.func67,Tryz.ntmps67
    go_wp2_with fail
    refine (HS.o _).mono ?_
    rintro e w1 ⟨rfl,rfl⟩
    go_wp2_with fail
    refine (Ap.o _).mono ?_
    rintro e w1 ⟨rfl,rfl⟩
    go_wp2_with fail
    go_ret
    exact⟨rfl,HB0.o⟩
   ·rw[if_neg (by omega)]
    rw[if_neg f] at Ap
    go_enter Tryz.func67,Tryz.ntmps67
    go_wp2_with fail
    refine (HS.o _).mono ?_
    rintro e w1 ⟨rfl,rfl⟩
    go_wp2_with fail
    refine (Ap.o _).mono ?_
    rintro e w1 ⟨rfl,rfl⟩
    go_wp2_with fail
    go_ret
    exact⟨rfl,HB0.o⟩

def ToEv (w:World) (id kd sn us mb dp:Int) (n:Nat) (zl:Zin) (tx:Zbs) (m:Nat) (zp:Zin) (e:Ending) (w':World):Prop :=
 ∃ g h,e=.returned (z3e id kd sn us mb dp (.slice (some ⟨g,0,none⟩) n n) (.slice (some ⟨h,0,none⟩) m m) tx)∧w'.ownsRow w.heap.size 3 1 (.slice (some ⟨g,0,none⟩) n n) n (zl.map z03)∧w'.ownsRow w.heap.size 3 1 (.slice (some ⟨h,0,none⟩) m m) m (zp.map z03)∧g<h∧Bw w w'

theorem zg3 (id kd sn us mb dp:Int) (oa:Zoa) (n cap:Nat) (zl:Zin) (tx:Zbs) (ob:Zoa) (m cb:Nat) (zp:Zin) (hn20:n≤1048576) (hm20:m≤1048576) (w:World) (hat:IntsAt w oa n cap zl) (hbt:IntsAt w ob m cb zp) :
  Calls Tryz.prog 78 #[z3e id kd sn us mb dp (.slice oa n cap) (.slice ob m cb) tx] w fun e w'=>ToEv w id kd sn us mb dp n zl tx m zp e w':=by
 have hb1:=(((Below.refl w.heap.size w).alloc zLe (.cells #[J Y id,J Y kd,J Y sn,J Y us,J Y mb,.slice oa n cap,.string ⟨tx.toArray⟩,.slice ob m cb,J Y dp] 124)).alloc (by simp) (.cells #[J Y 0,J Y 0,J Y 0,J Y 0,J Y 0,.slice none 0 0,.string ⟨#[]⟩,.slice none 0 0,J Y 0] 62)).alloc (by simp;omega) (.cells #[J Y id,J Y kd,J Y sn,J Y us,J Y mb,.slice none 0 0,.string ⟨#[]⟩,.slice none 0 0,J Y 0] 62)
 have Ba:=ZZ (zb2 oa n cap zl hn20 _ (hat.below hb1))
 have Jc:=ZZ (fun w hbt=>zb2 ob m cb zp hm20 w hbt)
 have HB1:=ZZ hb1
 have AA:=ZZ hbt
 have Au:=ZZ (show EL (((w.alloc (.cells #[J Y id,J Y kd,J Y sn,J Y us,J Y mb,.slice oa n cap,.string ⟨tx.toArray⟩,.slice ob m cb,J Y dp] 124)).alloc (.cells #[J Y 0,J Y 0,J Y 0,J Y 0,J Y 0,.slice none 0 0,.string ⟨#[]⟩,.slice none 0 0,J Y 0] 62)).alloc (.cells #[J Y id,J Y kd,J Y sn,J Y us,J Y mb,.slice none 0 0,.string ⟨#[]⟩,.slice none 0 0,J Y 0] 62)) w.heap.size id kd sn us mb dp (.slice oa n cap) (.slice ob m cb) tx from (((EL.new w id kd sn us mb dp (.slice oa n cap) (.slice ob m cb) tx).on (zBa) (by simp)).on (zBa) (by simp;omega)))
 have Ad:=ZZ (show EB (((w.alloc (.cells #[J Y id,J Y kd,J Y sn,J Y us,J Y mb,.slice oa n cap,.string ⟨tx.toArray⟩,.slice ob m cb,J Y dp] 124)).alloc (.cells #[J Y 0,J Y 0,J Y 0,J Y 0,J Y 0,.slice none 0 0,.string ⟨#[]⟩,.slice none 0 0,J Y 0] 62)).alloc (.cells #[J Y id,J Y kd,J Y sn,J Y us,J Y mb,.slice none 0 0,.string ⟨#[]⟩,.slice none 0 0,J Y 0] 62)) (w.heap.size+1) 0 0 0 0 0 0 (.slice none 0 0) (.slice none 0 0) [] by
  have:=EB.new (w.alloc (.cells #[J Y id,J Y kd,J Y sn,J Y us,J Y mb,.slice oa n cap,.string ⟨tx.toArray⟩,.slice ob m cb,J Y dp] 124)) 0 0 0 0 0 0 (.slice none 0 0) (.slice none 0 0) []
  rw[World.size_alloc] at this
  exact this.on ((Below.refl (w.heap.size+1+1) _).alloc (by simp) _) (by omega))
 have AB:=ZZ (show EB (((w.alloc (.cells #[J Y id,J Y kd,J Y sn,J Y us,J Y mb,.slice oa n cap,.string ⟨tx.toArray⟩,.slice ob m cb,J Y dp] 124)).alloc (.cells #[J Y 0,J Y 0,J Y 0,J Y 0,J Y 0,.slice none 0 0,.string ⟨#[]⟩,.slice none 0 0,J Y 0] 62)).alloc (.cells #[J Y id,J Y kd,J Y sn,J Y us,J Y mb,.slice none 0 0,.string ⟨#[]⟩,.slice none 0 0,J Y 0] 62)) (w.heap.size+1+1) id kd sn us mb 0 (.slice none 0 0) (.slice none 0 0) [] by
  have:=EB.new ((w.alloc (.cells #[J Y id,J Y kd,J Y sn,J Y us,J Y mb,.slice oa n cap,.string ⟨tx.toArray⟩,.slice ob m cb,J Y dp] 124)).alloc (.cells #[J Y 0,J Y 0,J Y 0,J Y 0,J Y 0,.slice none 0 0,.string ⟨#[]⟩,.slice none 0 0,J Y 0] 62)) id kd sn us mb 0 (.slice none 0 0) (.slice none 0 0) []
  rw[World.size_alloc,World.size_alloc] at this
  exact this)
 have HZ1:=ZZ (show (((w.alloc (.cells #[J Y id,J Y kd,J Y sn,J Y us,J Y mb,.slice oa n cap,.string ⟨tx.toArray⟩,.slice ob m cb,J Y dp] 124)).alloc (.cells #[J Y 0,J Y 0,J Y 0,J Y 0,J Y 0,.slice none 0 0,.string ⟨#[]⟩,.slice none 0 0,J Y 0] 62)).alloc (.cells #[J Y id,J Y kd,J Y sn,J Y us,J Y mb,.slice none 0 0,.string ⟨#[]⟩,.slice none 0 0,J Y 0] 62)).heap.size=w.heap.size+1+1+1 by simp)
 clear hat hb1 hbt
 go_enter Tryz.func78,Tryz.ntmps78
 go_wp2_with fail
 refine Ba.o.mono ?_
 generalize ((w.alloc (.cells #[J Y id,J Y kd,J Y sn,J Y us,J Y mb,.slice oa n cap,.string ⟨tx.toArray⟩,.slice ob m cb,J Y dp] 124)).alloc (.cells #[J Y 0,J Y 0,J Y 0,J Y 0,J Y 0,.slice none 0 0,.string ⟨#[]⟩,.slice none 0 0,J Y 0] 62)).alloc (.cells #[J Y id,J Y kd,J Y sn,J Y us,J Y mb,.slice none 0 0,.string ⟨#[]⟩,.slice none 0 0,J Y 0] 62)=w1 at HB1 Au Ad AB HZ1
 have hz1:=HZ1.o
 rintro e w2 ⟨g,rfl,hown,hb2⟩
 have HA2:=ZZ (Au.o.on hb2 Au.o.lt)
 have HR2:=ZZ (Ad.o.on hb2 Ad.o.lt)
 have Ag:=ZZ (AB.o.on hb2 AB.o.lt)
 have HB2:=ZZ (zTr HB1.o hb2)
 have hz2:=hb2.size
 have HW2:=ZZ hown
 clear hown hb2
 obtain⟨a0,a1,a2,a3,a4,a5,a6,a7,a8⟩:=HA2.o.ev
 obtain⟨o0,o1,o2,o3,o4,o5,o6,o7,o8⟩:=Ag.o.ev
 have f5:=Ag.o.free 5
 have f6:=Ag.o.free 6
 go_wp2_with fail
 have Ac:=ZZ ((HA2.o.set (k:=5) (p:=w.heap.size+1+1) (.slice (some ⟨g,0,none⟩) n n) (by omega)).set (k:=6) (p:=w.heap.size+1+1) (.string ⟨tx.toArray⟩) (by omega))
 have HR3:=ZZ ((HR2.o.set (k:=5) (p:=w.heap.size+1+1) (.slice (some ⟨g,0,none⟩) n n) (by omega)).set (k:=6) (p:=w.heap.size+1+1) (.string ⟨tx.toArray⟩) (by omega))
 have Aq:=ZZ ((Ag.o.put5 (.slice (some ⟨g,0,none⟩) n n)).put6 tx)
 have HW3:=ZZ (z3x (z3x HW2.o (p:=⟨w.heap.size+1+1,5,none⟩) (by show w.heap.size+1+1<w1.heap.size;omega) (.slice (some ⟨g,0,none⟩) n n)) (p:=⟨w.heap.size+1+1,6,none⟩) (by show w.heap.size+1+1<w1.heap.size;omega) (.string ⟨tx.toArray⟩))
 have HB3:=ZZ ((HB2.o.setCell (p:=⟨w.heap.size+1+1,5,none⟩) (by show w.heap.size≤w.heap.size+1+1;omega) (.slice (some ⟨g,0,none⟩) n n)).setCell (p:=⟨w.heap.size+1+1,6,none⟩) (by show w.heap.size≤w.heap.size+1+1;omega) (.string ⟨tx.toArray⟩))
 clear a0 a1 a2 a3 a4 a5 a6 a7 a8 o0 o1 o2 o3 o4 o5 o6 o7 o8 f5 f6 HA2 HR2 Ag HW2 HB2 Ba
 generalize (w2.setCell ⟨w.heap.size+1+1,5,none⟩ (.slice (some ⟨g,0,none⟩) n n)).setCell ⟨w.heap.size+1+1,6,none⟩ (.string ⟨tx.toArray⟩)=w3 at Ac HR3 Aq HW3 HB3 ⊢
 refine (Jc.o _ (AA.o.below HB3.o)).mono ?_
 rintro e w4 ⟨h,rfl,hown4,hb4⟩
 have BL:=ZZ (Ac.o.on hb4 Ac.o.lt)
 have HR4:=ZZ (HR3.o.on hb4 HR3.o.lt)
 have Bg:=ZZ (Aq.o.on hb4 Aq.o.lt)
 have Cw:=ZZ (own_below HW3.o hb4)
 have hlt4:=Aq.o.lt
 have hg3:=(HW3.o.lt g rfl)
 have hg4:=(hown4.lt h rfl)
 have AC:=ZZ (zTr HB3.o hb4)
 have K4:=ZZ hown4
 clear hb4 hown4 Ac HR3 Aq HW3 HB3
 obtain⟨a0,a1,a2,a3,a4,a5,a6,a7,a8⟩:=BL.o.ev
 obtain⟨o0,o1,o2,o3,o4,o5,o6,o7,o8⟩:=Bg.o.ev
 obtain⟨r0,r1,r2,r3,r4,r5,r6,r7,r8⟩:=HR4.o.ev
 have f7:=Bg.o.free 7
 have f8:=Bg.o.free 8
 have z0:=HR4.o.free 0
 have z1:=HR4.o.free 1
 have z2:=HR4.o.free 2
 have z3:=HR4.o.free 3
 have z4:=HR4.o.free 4
 have z5:=HR4.o.free 5
 have z6:=HR4.o.free 6
 have z7:=HR4.o.free 7
 have z8:=HR4.o.free 8
 go_wp2_with fail
 have BM:=ZZ ((HR4.o.set (k:=7) (p:=w.heap.size+1+1) (.slice (some ⟨h,0,none⟩) m m) (by omega)).set (k:=8) (p:=w.heap.size+1+1) (J Y dp) (by omega))
 have Cm:=ZZ (z3x (z3x Cw.o (p:=⟨w.heap.size+1+1,7,none⟩) (by show w.heap.size+1+1<w1.heap.size;omega) (.slice (some ⟨h,0,none⟩) m m)) (p:=⟨w.heap.size+1+1,8,none⟩) (by show w.heap.size+1+1<w1.heap.size;omega) (J Y dp))
 have Jd:=ZZ (z3x (z3x K4.o (p:=⟨w.heap.size+1+1,7,none⟩) (by show w.heap.size+1+1<w3.heap.size;omega) (.slice (some ⟨h,0,none⟩) m m)) (p:=⟨w.heap.size+1+1,8,none⟩) (by show w.heap.size+1+1<w3.heap.size;omega) (J Y dp))
 have BQ:=ZZ ((AC.o.setCell (p:=⟨w.heap.size+1+1,7,none⟩) (by show w.heap.size≤w.heap.size+1+1;omega) (.slice (some ⟨h,0,none⟩) m m)).setCell (p:=⟨w.heap.size+1+1,8,none⟩) (by show w.heap.size≤w.heap.size+1+1;omega) (J Y dp))
 clear a0 a1 a2 a3 a4 a5 a6 a7 a8 o0 o1 o2 o3 o4 o5 o6 o7 o8 r0 r1 r2 r3 r4 r5 r6 r7 r8 f7 f8 z0 z1 z2 z3 z4 z5 z6 z7 z8 BL HR4 Bg Cw K4 AC
 generalize (w4.setCell ⟨w.heap.size+1+1,7,none⟩ (.slice (some ⟨h,0,none⟩) m m)).setCell ⟨w.heap.size+1+1,8,none⟩ (J Y dp)=w5 at BM Cm Jd BQ ⊢
 obtain⟨w6,hw6,hE6,hg6⟩:=BM.o.all id kd sn us mb dp (.slice (some ⟨g,0,none⟩) n n) (.slice (some ⟨h,0,none⟩) m m) tx
 rw[hw6]
 obtain⟨c0,c1,c2,c3,c4,c5,c6,c7,c8⟩:=hE6.ev
 refine bodyPost_ret (v:=z3e id kd sn us mb dp (.slice (some ⟨g,0,none⟩) n n) (.slice (some ⟨h,0,none⟩) m m) tx) (by simp[results,Tryz.results78,go_sem,c0,c1,c2,c3,c4,c5,c6,c7,c8]) rfl ⟨g,h,rfl,?_,?_,?_,?_⟩
 ·exact zu (Cm.o.kept hg6 (Or.inr (fun q=>by have:=Cm.o.lt (w.heap.size+1) q;omega))) (by omega)
 ·exact zu (Jd.o.kept hg6 (Or.inr (fun q=>by have:=Jd.o.lt (w.heap.size+1) q;omega))) (by omega)
 ·omega
 ·exact BQ.o.grown hg6 (BQ.o.size) (fun k hk=>by cases hk;omega)

open P11 P12
theorem zej (id kd sn us mb dp:Int) (oa:Zoa) (n cl:Nat) (tx:Zbs) (ob:Zoa) (m cp:Nat) (zl zp:Zin) (oc od:Zoa) (cl' cp':Nat) (hn20:n≤1048576) (hm20:m≤1048576) (w:World) (h1:IntsAt w oa n cl zl) (h2:IntsAt w oc n cl' zl) (h3:IntsAt w ob m cp zp) (h4:IntsAt w od m cp' zp) :
  Calls Tryz.prog 87 #[z3e id kd sn us mb dp (.slice oa n cl) (.slice ob m cp) tx,z3e id kd sn us mb dp (.slice oc n cl') (.slice od m cp') tx] w fun e w'=>e=.returned (.bool true)∧Bw w w':=by
 have hb0:=((Below.refl w.heap.size w).alloc zLe (.cells #[J Y id,J Y kd,J Y sn,J Y us,J Y mb,.slice oa n cl,.string ⟨tx.toArray⟩,.slice ob m cp,J Y dp] 62)).alloc (by simp) (.cells #[J Y id,J Y kd,J Y sn,J Y us,J Y mb,.slice oc n cl',.string ⟨tx.toArray⟩,.slice od m cp',J Y dp] 62)
 have HE:=ZZ (za8 oa n cl oc cl' zl hn20 _ (h1.below hb0) (h2.below hb0))
 have HP:=ZZ (fun w h3 h4=>za8 ob m cp od cp' zp hm20 w h3 h4)
 have L1:=ZZ ((EB.new w id kd sn us mb dp (.slice oa n cl) (.slice ob m cp) tx).on (zBr.alloc zLe (.cells #[J Y id,J Y kd,J Y sn,J Y us,J Y mb,.slice oc n cl',.string ⟨tx.toArray⟩,.slice od m cp',J Y dp] 62)) (by simp))
 have L2:=ZZ (EB.new (w.alloc (.cells #[J Y id,J Y kd,J Y sn,J Y us,J Y mb,.slice oa n cl,.string ⟨tx.toArray⟩,.slice ob m cp,J Y dp] 62)) id kd sn us mb dp (.slice oc n cl') (.slice od m cp') tx)
 have HB0:=ZZ hb0
 have H3:=ZZ (h3.below hb0)
 have H4:=ZZ (h4.below hb0)
 clear h1 h2 h3 h4 hb0
 go_enter Tryz.func87,Tryz.ntmps87
 go_wp2_with fail
 refine HE.o.mono ?_
 rintro e w1 ⟨rfl,hb1⟩
 have L1b:=ZZ (L1.o.on hb1 L1.o.lt)
 have L2b:=ZZ (L2.o.on hb1 L2.o.lt)
 have H3b:=ZZ (H3.o.below hb1)
 have H4b:=ZZ (H4.o.below hb1)
 have HB1:=ZZ (zTr HB0.o hb1)
 clear hb1 L1 L2 H3 H4 HE HB0
 rw[World.size_alloc] at L2b
 obtain⟨a0,a1,a2,a3,a4,a5,a6,a7,a8⟩:=L1b.o.ev
 obtain⟨b0,b1,b2,b3,b4,b5,b6,b7,b8⟩:=L2b.o.ev
 go_wp2_with fail
 clear a0 a1 a2 a3 a4 a5 a6 a7 a8 b0 b1 b2 b3 b4 b5 b6 b7 b8
 refine (HP.o _ H3b.o H4b.o).mono ?_
 rintro e w2 ⟨rfl,hb2⟩
 obtain⟨a0,a1,a2,a3,a4,a5,a6,a7,a8⟩:=(L1b.o.on hb2 L1b.o.lt).ev
 obtain⟨b0,b1,b2,b3,b4,b5,b6,b7,b8⟩:=(L2b.o.on hb2 L2b.o.lt).ev
 have HB2:=ZZ (zTr HB1.o hb2)
 clear hb2 L1b L2b
 go_wp2_with fail
 go_ret
 exact⟨rfl,HB2.o⟩

theorem z7k {w:World} {b1 b2:Nat} {e1 e2:TypeId} {k1 k2:Nat} {v1 v2:Value} {n1 n2:Nat} {xs1 xs2:Zvs} (h1:w.ownsRow b1 e1 k1 v1 n1 xs1) (h2:w.ownsRow b2 e2 k2 v2 n2 xs2) (hne:e1≠e2):∀ g,v1.ownBlock=some g→v2.ownBlock≠some g:=by
 intro g q1 q2
 rcases h1.2 with ⟨rfl,-⟩|⟨g1,cap1,cur1,rfl,-,hb1,-⟩
 ·cases q1
 ·cases q1
  rcases h2.2 with ⟨rfl,-⟩|⟨g2,cap2,cur2,rfl,-,hb2,-⟩
  ·cases q2
  ·cases q2
   rw[hb1] at hb2
   cases hb2
   exact hne rfl

theorem zcu {w w':World} {b1 b2:Nat} {e1 e2:TypeId} {k1 k2:Nat} {v1 v2:Value} {n1 n2:Nat} {xs1 xs2:Zvs} (h1:w.ownsRow b1 e1 k1 v1 n1 xs1) (h2:w.ownsRow b2 e2 k2 v2 n2 xs2) (hne:e1≠e2) (hg:w.grownBy w' v2.ownBlock):w'.ownsRow b1 e1 k1 v1 n1 xs1:=by
 refine h1.kept hg ?_
 cases hv:v1.ownBlock with
 | none=>exact Or.inl rfl
 | some g=>exact Or.inr (fun e=>z7k h1 h2 hne g hv e.symm)

theorem z2i {H:Type} {P:Program} {kt:TypeId} {R:Value→Option (DataW H × List MemPlace)} {w:World} {b n:Nat} {D:DataW H} (h:w.ownsMap P kt R b n D) {base:Nat} {e:TypeId} {k:Nat} {v:Value} {m:Nat} {xs:Zvs} (ho:w.ownsRow base e k v m xs):some b≠v.ownBlock:=by
 intro q
 obtain⟨es,clock,hb,-⟩:=h
 rcases ho.2 with ⟨rfl,-⟩|⟨g,cap,cur,rfl,-,hgb,-⟩
 ·cases q
 ·cases q
  rw[hgb] at hb
  cases hb

theorem zek {P:Program} {W0:World} {ops:Array Oper} {rest:List Oper} {o:Oper} {a:Act} {Q:Exit→Act→World→Prop} (hgd:o.guard=none) (s x:Operand) (t:TypeId)
  (ho:o.op=.call { callee:=.builtin .append,args:=#[s,x],argTypes:=#[t,t] })
  {base k:Nat} (hk0:0<k) {e:TypeId} {z:Value} {bytes:Nat} (ht:P.underlying t=some (.slice e)) (hi:(P.info? e).map (fun i=>(i.zero,i.size,i.bytes))=some (some z,k,bytes)) (hzs:z.cells.size=k)
  {v:Value} {n:Nat} {xs:Zvs} (hs:a.eval s=v) (hown:W0.ownsRow base e k v n xs)
  {cs:Array Value} (hx:a.eval x=.slice (some ⟨W0.heap.size,0,none⟩) 1 1) (hm:cs.toList.length=k) (hu:∀ u∈cs.toList,u.oneCell'=true)
  (hbase:base≤W0.heap.size) (h63:n+1≤maxLen) (hbytes:(n+1) * bytes≤140737488355328)
  (h:∀ v' w',w'.ownsRow base e k v' (n+1) (xs++cs.toList)→(W0.alloc (.cells cs e)).grownBy w' v.ownBlock→wpList P ops Q rest (a.put o.dst v') w'):wpList P ops Q (o::rest) a (W0.alloc (.cells cs e)):=by
 obtain⟨i,hi,hz,h1,h2⟩:=info_parts hi
 refine wpList_append_own _ hgd s x t ho base e i z k bytes ht hi hz h1 h2 hzs hk0 v n xs hs (hown.alloc _) ⟨W0.heap.size,0,none⟩ 1 1 cs.toList hx (by rw[hm];omega) (World.news_of_block (heap_alloc_new W0 _)) hu h63 hbytes (by simp;omega) ?_
 intro v' w' hown' hgrow _
 exact h v' w' hown' hgrow

open P5 P14
abbrev evv (e:EvV) (xl xp:Value):Value:=z3e e.id e.kind e.sender e.user e.member e.depth xl xp e.text

theorem zjo:(Tryz.prog.info? 124).map (·.size)=some 9:=by kernel_rfl

theorem z2t:(Tryz.prog.info? 62).map (·.size)=some 9:=by kernel_rfl

theorem zhc:(Tryz.prog.info? 62).map (fun i=>(i.zero,i.size,i.bytes))=some (some (.agg #[J Y 0,J Y 0,J Y 0,J Y 0,J Y 0,.slice none 0 0,.string ⟨#[]⟩,.slice none 0 0,J Y 0]),9,112):=by kernel_rfl

theorem EvAt.cs {w:World} {b o:Nat} {e:EvV} {xa:Zoa} {xc:Nat} {ya:Zoa} {yc:Nat} (h:EvAt w b o e xa xc ya yc) :
  w.cell? ⟨b,o,none⟩=some (J Y e.id)∧w.cell? ⟨b,o+1,none⟩=some (J Y e.kind)∧w.cell? ⟨b,o+2,none⟩=some (J Y e.sender)∧w.cell? ⟨b,o+3,none⟩=some (J Y e.user)∧w.cell? ⟨b,o+4,none⟩=some (J Y e.member) ∧
   w.cell? ⟨b,o+5,none⟩=some (.slice xa e.levels.length xc)∧w.cell? ⟨b,o+6,none⟩=some (.string ⟨e.text.toArray⟩)∧w.cell? ⟨b,o+7,none⟩=some (.slice ya e.prev.length yc)∧w.cell? ⟨b,o+8,none⟩=some (J Y e.depth) :=
 ⟨h.cell 0 _ rfl,h.cell 1 _ rfl,h.cell 2 _ rfl,h.cell 3 _ rfl,h.cell 4 _ rfl,h.cell 5 _ rfl,h.cell 6 _ rfl,h.cell 7 _ rfl,h.cell 8 _ rfl⟩

def evw (e:EvV):Nat:=e.levels.length+e.text.length+e.prev.length

def evW (es:List EvV):Nat:=(es.map evw).sum

theorem zlp {es:List EvV} {j:Nat} {e:EvV} (h:es[j]? = some e):evW (es.take (j+1))=evW (es.take j)+evw e:=by
 unfold evW
 rw[List.take_add_one,h]
 simp

theorem zhd:∀ {es:List EvV} {e:EvV},e∈es→evw e≤evW es
 | x::r,e,h=>by
  unfold evW
  rw[List.map_cons,List.sum_cons]
  rcases List.mem_cons.1 h with rfl|h
  ·omega
  ·have:=zhd h
   unfold evW at this
   omega

structure FineE (es:List EvV):Prop where
 len:es.length≤1048576
 all:evW es≤1048576

theorem FineE.one {es:List EvV} (h:FineE es) {e:EvV} (he:e∈es):e.levels.length≤1048576∧e.text.length≤1048576∧e.prev.length≤1048576:=by
 have h1:=zhd he
 have h2:=h.all
 unfold evw at h1
 omega

theorem zna {w w':World} {b1 b2:Nat} {e:TypeId} {v1 v2:Value} {n1 n2:Nat} {xs1 xs2 ys2:Zvs} (h1:w.ownsRow b1 e 1 v1 n1 xs1) (h2:w.ownsRow b2 e 1 v2 n2 xs2) (h2':w'.ownsRow b2 e 1 v2 n2 ys2) (hg:w.grownBy w' v2.ownBlock):∃ ys1,w'.ownsRow b1 e 1 v1 n1 ys1:=by
 rcases h1.2 with ⟨rfl,rfl⟩|⟨g,cap,cur,rfl,hb,hgb,hnc,hcm,hcs,htk⟩
 ·exact⟨[],World.ownsRow_nil _ _ _ _⟩
 ·by_cases hq:v2.ownBlock=some g
  ·rcases h2'.2 with ⟨rfl,-⟩|⟨g2,cap2,cur2,rfl,hb2,hgb2,hnc2,hcm2,hcs2,htk2⟩
   ·cases hq
   ·cases hq
    rcases h2.2 with ⟨he,-⟩|⟨g3,cap3,cur3,he,hb3,hgb3,hnc3,hcm3,hcs3,htk3⟩
    ·cases he
    ·cases he
     rw[hgb] at hgb3
     cases hgb3
     refine⟨cur2.toList.take (n1 * 1),?_,Or.inr ⟨_,cap,cur2,rfl,hb,hgb2,hnc,hcm,?_,rfl⟩⟩
     ·rw[List.length_take]
      simp only[Array.length_toList]
      omega
     ·omega
  ·exact⟨xs1,h1.kept hg (Or.inr (fun e=>hq e.symm))⟩

theorem z8b:∀ (vs:Zvs) (cs:Array Value) (o:Nat),(z2s cs o vs).size=cs.size
 | [],_,_=>rfl
 | v::r,cs,o=>by rw[z2s,z8b r];simp

theorem z8y:∀ (vs:Zvs) (cs:Array Value) (o m:Nat),o+vs.length≤cs.size→(z2s cs o vs)[m]? = if o≤m∧m<o+vs.length then vs[m - o]? else cs[m]?
 | [],cs,o,m,_=>by
  rw[z2s,if_neg (by rintro ⟨h1,h2⟩;simp only[List.length_nil] at h2;omega)]
 | v::r,cs,o,m,h=>by
  simp only[List.length_cons] at h
  rw[z2s,z8y r _ (o+1) m (by simp;omega)]
  by_cases h1:o=m
  ·subst h1
   rw[if_neg (by omega),if_pos (by simp),Array.getElem?_setIfInBounds_self]
   simp
   omega
  ·by_cases h2:o+1≤m∧m<o+1+r.length
   ·rw[if_pos h2,if_pos (by simp;omega)]
    have:m - o=(m - (o+1))+1:=by omega
    rw[this,List.getElem?_cons_succ]
   ·rw[if_neg h2,if_neg (by simp;omega),Array.getElem?_setIfInBounds_ne h1]

theorem zlq {w:World} {b o:Nat} {cs:Array Value} {ty:TypeId} (h:w.heap[b]? = some (.cells cs ty (0,0))) (hs:o+9≤cs.size) (v0 v1 v2 v3 v4 v5 v6 v7 v8:Value) :
  ∃ W',(((((((((w.setCell ⟨b,o,none⟩ v0).setCell ⟨b,o+1,none⟩ v1).setCell ⟨b,o+2,none⟩ v2).setCell ⟨b,o+3,none⟩ v3).setCell ⟨b,o+4,none⟩ v4).setCell ⟨b,o+5,none⟩ v5).setCell ⟨b,o+6,none⟩ v6).setCell ⟨b,o+7,none⟩ v7).setCell ⟨b,o+8,none⟩ v8)=W' ∧
   (∃ cs',W'.heap[b]? = some (.cells cs' ty (0,0))∧cs'.size=cs.size∧(∀ m,m<o∨o+9≤m→cs'[m]? = cs[m]?)∧∀ j u,[v0,v1,v2,v3,v4,v5,v6,v7,v8][j]? = some u→cs'[o+j]? = some u)∧w.grownBy W' (some b):=by
 obtain⟨h1,h2⟩:=zx [v0,v1,v2,v3,v4,v5,v6,v7,v8] w cs o h
 refine⟨_,rfl,⟨_,h1,z8b _ _ _,fun m hm=>?_,fun j u hu=>?_⟩,h2⟩
 ·rw[z8y _ _ _ _ (by simpa using hs),if_neg (by simp;omega)]
 ·have hj:j<9:=by simpa using (zGi.1 hu).1
  rw[z8y _ _ _ _ (by simpa using hs),if_pos (by simp;omega),Nat.add_sub_cancel_left]
  exact hu

theorem zel {w:World} {b o:Nat} {cs:Array Value} {ty:TypeId} (h:w.heap[b]? = some (.cells cs ty (0,0))) (hs:o+9≤cs.size) :
  ∃ u0 u1 u2 u3 u4 u5 u6 u7 u8,w.cell? ⟨b,o,none⟩=some u0∧w.cell? ⟨b,o+1,none⟩=some u1∧w.cell? ⟨b,o+2,none⟩=some u2∧w.cell? ⟨b,o+3,none⟩=some u3∧w.cell? ⟨b,o+4,none⟩=some u4∧w.cell? ⟨b,o+5,none⟩=some u5∧w.cell? ⟨b,o+6,none⟩=some u6∧w.cell? ⟨b,o+7,none⟩=some u7∧w.cell? ⟨b,o+8,none⟩=some u8 :=
 ⟨_,_,_,_,_,_,_,_,_,zb h o (Array.getElem?_eq_getElem (by omega)),zb h (o+1) (Array.getElem?_eq_getElem (by omega)),zb h (o+2) (Array.getElem?_eq_getElem (by omega)),zb h (o+3) (Array.getElem?_eq_getElem (by omega)),zb h (o+4) (Array.getElem?_eq_getElem (by omega)),zb h (o+5) (Array.getElem?_eq_getElem (by omega)),zb h (o+6) (Array.getElem?_eq_getElem (by omega)),zb h (o+7) (Array.getElem?_eq_getElem (by omega)),zb h (o+8) (Array.getElem?_eq_getElem (by omega))⟩

def EvIn (w:World) (lo:Nat) (cs:Array Value) (i:Nat) (e:EvV):Prop :=
 ∃ a b,(∀ j u,(evL e (some ⟨a,0,none⟩) e.levels.length (some ⟨b,0,none⟩) e.prev.length)[j]? = some u→cs[i * 9+j]? = some u) ∧
  w.ownsRow lo 3 1 (.slice (some ⟨a,0,none⟩) e.levels.length e.levels.length) e.levels.length (e.levels.map z03) ∧
  w.ownsRow lo 3 1 (.slice (some ⟨b,0,none⟩) e.prev.length e.prev.length) e.prev.length (e.prev.map z03)

def EvsIn (w:World) (lo g n:Nat) (es:List EvV) (j:Nat):Prop :=
 ∃ cs,w.heap[g]? = some (.cells cs 62 (0,0))∧cs.size=n * 9∧∀ i e,i<j→es[i]? = some e→EvIn w lo cs i e

theorem EvIn.on {w w':World} {lo:Nat} {cs:Array Value} {i:Nat} {e:EvV} (h:EvIn w lo cs i e) (hb:Bw w w'):EvIn w' lo cs i e:=by
 obtain⟨a,b,h1,h2,h3⟩:=h
 exact⟨a,b,h1,own_below h2 hb,own_below h3 hb⟩

theorem EvIn.set {w w':World} {lo g:Nat} {cs cs':Array Value} {i:Nat} {e:EvV} {cx:Array Value} (h:EvIn w lo cs i e) (hblk:w.heap[g]? = some (.cells cx 62 (0,0))) (hg:w.grownBy w' (some g)) (hcs:∀ j,j<9→cs'[i * 9+j]? = cs[i * 9+j]?):EvIn w' lo cs' i e:=by
 obtain⟨a,b,h1,h2,h3⟩:=h
 have ne:∀ {v:Value} {n:Nat} {xs:Zvs},w.ownsRow lo 3 1 v n xs→v.ownBlock≠some g:=by
  intro v n xs ho q
  rcases ho.2 with ⟨rfl,-⟩|⟨g2,cap,cur,rfl,-,hgb,-⟩
  ·cases q
  ·cases q
   rw[hblk] at hgb
   cases hgb
 refine⟨a,b,fun j u hu=>?_,h2.kept hg (Or.inr (fun q=>ne h2 q)),h3.kept hg (Or.inr (fun q=>ne h3 q))⟩
 have hj:j<9:=by simpa [evL] using (zGi.1 hu).1
 rw[hcs j hj]
 exact h1 j u hu

theorem EvsIn.at_ {w:World} {lo g n:Nat} {es:List EvV} (h:EvsIn w lo g n es n) (hn:es.length=n) (hm:n≤maxLen) (hf:∀ e∈es,(∀ z∈e.levels,(Lit.int .i64 z).wf=true)∧(∀ z∈e.prev,(Lit.int .i64 z).wf=true)∧e.text.length≤maxLen):EvsAt w (some ⟨g,0,none⟩) n n es:=by
 obtain⟨cs,hb,hs,hin⟩:=h
 refine⟨hn,Nat.le_refl _,hm,fun i e he=>?_⟩
 have hi:i<n:=by rw[← hn];exact (zGi.1 he).1
 obtain⟨a,b,h1,h2,h3⟩:=hin i e hi he
 obtain⟨f1,f2,f3⟩:=hf e (zMg he)
 obtain⟨_,_,q1,k1⟩:=z0d h2 f1
 cases q1
 obtain⟨_,_,q2,k2⟩:=z0d h3 f2
 cases q2
 refine⟨g,0,_,_,_,_,rfl,⟨fun j u hu=>?_,k1,k2,f3⟩⟩
 rw[Nat.zero_add]
 exact zb hb _ (h1 j u hu)

structure RowS (w:World) (lo hi:Nat) (v:Value) (n:Nat):Prop where
 own:∃ xs,w.ownsRow lo 3 1 v n xs
 top:∀ q,v.ownBlock=some q→q<hi

theorem RowS.on {w w':World} {lo hi:Nat} {v:Value} {n:Nat} (h:RowS w lo hi v n) (hb:Bw w w'):RowS w' lo hi v n:=by
 obtain⟨⟨xs,h1⟩,h2⟩:=h
 exact⟨⟨xs,own_below h1 hb⟩,h2⟩

theorem RowS.cells {w w':World} {lo hi g:Nat} {v:Value} {n:Nat} {cx:Array Value} (h:RowS w lo hi v n) (hblk:w.heap[g]? = some (.cells cx 62 (0,0))) (hg:w.grownBy w' (some g)):RowS w' lo hi v n:=by
 obtain⟨⟨xs,h1⟩,h2⟩:=h
 refine⟨⟨xs,h1.kept hg (Or.inr (fun q=>?_))⟩,h2⟩
 rcases h1.2 with ⟨rfl,-⟩|⟨g2,cap,cur,rfl,-,hgb,-⟩
 ·cases q
 ·cases q
  rw[hblk] at hgb
  cases hgb

theorem RowS.row {w w':World} {lo hi:Nat} {v v2:Value} {n n2:Nat} {xs2 ys2:Zvs} (h:RowS w lo hi v n) (h2:w.ownsRow lo 3 1 v2 n2 xs2) (h2':w'.ownsRow lo 3 1 v2 n2 ys2) (hg:w.grownBy w' v2.ownBlock):RowS w' lo hi v n:=by
 obtain⟨⟨xs,h1⟩,h3⟩:=h
 exact⟨zna h1 h2 h2' hg,h3⟩

structure EvSh (w:World) (lo hi g:Nat) (es:List EvV):Prop where
 lo_:lo≤g
 hi_:g<hi
 blk:∃ cs,w.heap[g]? = some (.cells cs 62 (0,0))∧cs.size=es.length * 9∧∀ i e,es[i]? = some e→∃ vl vp,cs[i * 9+5]? = some vl∧cs[i * 9+7]? = some vp∧RowS w lo hi vl e.levels.length∧RowS w lo hi vp e.prev.length

theorem EvSh.on {w w':World} {lo hi g:Nat} {es:List EvV} (h:EvSh w lo hi g es) (hb:Bw w w'):EvSh w' lo hi g es:=by
 obtain⟨h1,h2,cs,h3,h4,h5⟩:=h
 refine⟨h1,h2,cs,(hb.block g (ze h3)).trans h3,h4,fun i e he=>?_⟩
 obtain⟨vl,vp,q1,q2,q3,q4⟩:=h5 i e he
 exact⟨vl,vp,q1,q2,q3.on hb,q4.on hb⟩

theorem EvSh.cell {w:World} {lo hi g:Nat} {es:List EvV} (h:EvSh w lo hi g es) {j c:Nat} (hc:c<9) (h5:c≠5) (h7:c≠7) (u:Value):EvSh (w.setCell ⟨g,j * 9+c,none⟩ u) lo hi g es:=by
 obtain⟨h1,h2,cs,h3,h4,hx⟩:=h
 refine⟨h1,h2,_,z2q (k:=j * 9+c) u h3,by simpa using h4,fun i e he=>?_⟩
 obtain⟨vl,vp,q1,q2,q3,q4⟩:=hx i e he
 have hg:=z1h w g (j * 9+c) u
 exact⟨vl,vp,by rw[Array.getElem?_setIfInBounds_ne (by omega)];exact q1,by rw[Array.getElem?_setIfInBounds_ne (by omega)];exact q2,q3.cells h3 hg,q4.cells h3 hg⟩

theorem EvSh.cell0 {w:World} {lo hi g:Nat} {es:List EvV} (h:EvSh w lo hi g es) {j:Nat} (u:Value):EvSh (w.setCell ⟨g,j * 9,none⟩ u) lo hi g es:=h.cell (j:=j) (c:=0) (by omega) (by omega) (by omega) u

theorem EvSh.row {w w':World} {lo hi g:Nat} {es:List EvV} (h:EvSh w lo hi g es) {v2:Value} {n2:Nat} {xs2 ys2:Zvs} (h2:w.ownsRow lo 3 1 v2 n2 xs2) (h2':w'.ownsRow lo 3 1 v2 n2 ys2) (hg:w.grownBy w' v2.ownBlock):EvSh w' lo hi g es:=by
 obtain⟨h1,hh,cs,h3,h4,hx⟩:=h
 have hne:some g≠v2.ownBlock:=by
  intro q
  rcases h2.2 with ⟨rfl,-⟩|⟨g2,cap,cur,rfl,-,hgb,-⟩
  ·cases q
  ·cases q
   rw[h3] at hgb
   cases hgb
 refine⟨h1,hh,cs,(hg.block g (ze h3) hne).trans h3,h4,fun i e he=>?_⟩
 obtain⟨vl,vp,q1,q2,q3,q4⟩:=hx i e he
 exact⟨vl,vp,q1,q2,q3.row h2 h2' hg,q4.row h2 h2' hg⟩

theorem EvSh.get {w:World} {lo hi g:Nat} {es:List EvV} (h:EvSh w lo hi g es) {j:Nat} {e:EvV} (he:es[j]? = some e) :
  ∃ u0 u1 u2 u3 u4 vl u6 vp u8,w.cell? ⟨g,j * 9,none⟩=some u0∧w.cell? ⟨g,j * 9+1,none⟩=some u1∧w.cell? ⟨g,j * 9+2,none⟩=some u2∧w.cell? ⟨g,j * 9+3,none⟩=some u3∧w.cell? ⟨g,j * 9+4,none⟩=some u4∧w.cell? ⟨g,j * 9+5,none⟩=some vl∧w.cell? ⟨g,j * 9+6,none⟩=some u6∧w.cell? ⟨g,j * 9+7,none⟩=some vp∧w.cell? ⟨g,j * 9+8,none⟩=some u8 ∧
   (∀ m,w.frozen? ⟨g,m,none⟩=false)∧RowS w lo hi vl e.levels.length∧RowS w lo hi vp e.prev.length:=by
 obtain⟨h1,h2,cs,h3,h4,hx⟩:=h
 obtain⟨vl,vp,q1,q2,q3,q4⟩:=hx j e he
 have hj:j<es.length:=(zGi.1 he).1
 obtain⟨u0,u1,u2,u3,u4,u5,u6,u7,u8,c0,c1,c2,c3,c4,c5,c6,c7,c8⟩:=zel (o:=j * 9) h3 (by omega)
 exact⟨u0,u1,u2,u3,u4,vl,u6,vp,u8,c0,c1,c2,c3,c4,zb h3 _ q1,c6,zb h3 _ q2,c8,fun m=>zh h3 m,q3,q4⟩

theorem EvsIn.sh {w:World} {lo g n:Nat} {es:List EvV} (h:EvsIn w lo g n es n) (hn:es.length=n) (hlo:lo≤g):EvSh w lo w.heap.size g es:=by
 obtain⟨cs,hb,hs,hin⟩:=h
 refine⟨hlo,ze hb,cs,hb,by rw[hs,hn],fun i e he=>?_⟩
 have hi:i<n:=by rw[← hn];exact (zGi.1 he).1
 obtain⟨a,b,h1,h2,h3⟩:=hin i e hi he
 exact⟨_,_,h1 5 _ rfl,h1 7 _ rfl,⟨⟨_,h2⟩,fun q hq=>(h2.lt q hq).2⟩,⟨⟨_,h3⟩,fun q hq=>(h3.lt q hq).2⟩⟩

end Go.Proofs.YtfeebdcmlnapiaaGreat
