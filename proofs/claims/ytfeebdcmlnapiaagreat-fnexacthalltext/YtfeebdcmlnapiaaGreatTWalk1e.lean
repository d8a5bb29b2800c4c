/-
  Walks.
-/
import Derived.Test.YtfeebdcmlnapiaaGreatTWalk9b
import Derived.Test.YtfeebdcmlnapiaaGreatTBuildW
set_option maxHeartbeats 8000000
set_option linter.unusedVariables false
set_option linter.unusedSimpArgs false
namespace Go.Proofs.YtfeebdcmlnapiaaGreat
open Go.RowKit P1 K
theorem y4d (s:ByteArray) (hs:s.size≤20000) (w:World) :
  Calls Tryz.prog 149 #[.string s] w fun e w'=>e=.returned (.tuple #[.string (⟨(varB s.size).toArray⟩++s),.bool true])∧Bw w w':=by
 have hl:=y3b s.size
 go_enter Tryz.func149,Tryz.ntmps149
 go_wp2_with (go_at_call 185;refine (y42 s.size (by omega) _).mono ?_;rintro e w1 ⟨rfl,hb1⟩)
 go_ret2
 exact⟨rfl,hb1⟩

open P9 P11 P12
attribute [local go_sem ↓] Go.wp_at_zero Go.wp_at_succ

def EvS (w:World) (id kd sn us mb dp:Int) (xl xp:Value) (tx:Zbs) (L:List (Nat × Zin)) (w':World):Prop :=
 Bw w w'∧EB w' w.heap.size id kd sn us mb dp xl xp tx∧∀ p∈L,IntsAt w' (some ⟨p.1,0,none⟩) p.2.length p.2.length p.2

section
variable {w w' w'':World} {id kd sn us mb dp:Int} {xl xp:Value} {tx:Zbs} {L:List (Nat × Zin)}

theorem EvS.call (h:EvS w id kd sn us mb dp xl xp tx L w') (hb:Below w'.heap.size w' w''):EvS w id kd sn us mb dp xl xp tx L w'' :=
 ⟨zTr h.1 hb,h.2.1.on hb h.2.1.lt,fun p hp=>(h.2.2 p hp).below hb⟩

theorem EvS.grow (h:EvS w id kd sn us mb dp xl xp tx L w') (o:Obj):EvS w id kd sn us mb dp xl xp tx L (w'.alloc o):=h.call (zBa)

theorem EvS.drew (h:EvS w id kd sn us mb dp xl xp tx L w'):EvS w id kd sn us mb dp xl xp tx L w'.drew:=h.call zBr.drew

theorem EvS.less {p:Nat × Zin} (h:EvS w id kd sn us mb dp xl xp tx (p::L) w'):EvS w id kd sn us mb dp xl xp tx L w':=⟨h.1,h.2.1,fun q hq=>h.2.2 q (List.mem_cons_of_mem _ hq)⟩

theorem EvS.all (h:EvS w id kd sn us mb dp xl xp tx L w'):EvS w id kd sn us mb dp xl xp tx [] w':=⟨h.1,h.2.1,fun q hq=>by cases hq⟩

theorem EvS.more {G:Nat} {zs:Zin} (h:EvS w id kd sn us mb dp xl xp tx L w') (hi:IntsAt w' (some ⟨G,0,none⟩) zs.length zs.length zs):EvS w id kd sn us mb dp xl xp tx ((G,zs)::L) w' :=
 ⟨h.1,h.2.1,fun q hq=>by
  rcases List.mem_cons.1 hq with rfl|hq
  ·exact hi
  ·exact h.2.2 q hq⟩

theorem EvS.get (h:EvS w id kd sn us mb dp xl xp tx L w') (p:Nat × Zin) (hp:p∈L):IntsAt w' (some ⟨p.1,0,none⟩) p.2.length p.2.length p.2:=h.2.2 p hp

theorem EvS.cells (h:EvS w id kd sn us mb dp xl xp tx L w'):EV w' w.heap.size id kd sn us mb dp xl xp tx:=h.2.1.ev
end

theorem y3l {W:World} {G:Nat} {zs:Zin} {cs:Array Value} {ty:TypeId} (hG:W.heap.size=G) (hc:cs.toList=zs.map z03) (hf:∀ z∈zs,(Lit.int .i64 z).wf=true∧zs.length≤4):IntsAt (W.alloc (.cells cs ty)) (some ⟨G,0,none⟩) zs.length zs.length zs:=by
 refine⟨rfl,Nat.le_refl _,?_,fun z hz=>(hf z hz).1,fun i z hz=>⟨G,0,rfl,?_⟩⟩
 ·cases zs with
  | nil=>unfold maxLen;simp
  | cons z r=>have:=(hf z (by simp)).2;unfold maxLen;omega
 ·subst hG
  rw[Nat.zero_add]
  refine zb (heap_alloc_new _ _) i ?_
  rw[← Array.getElem?_toList,hc,List.getElem?_map,hz]
  rfl

theorem y3c {W:World} {G:Nat} {zs:Zin} {cs:Array Value} {ty:TypeId} (hG:W.heap.size=G) (hc:cs.toList=zs.map z03) (hf:∀ z∈zs,(Lit.int .i64 z).wf=true∧zs.length≤4):IntsAt (W.alloc (.cells cs ty)).drew (some ⟨G,0,none⟩) zs.length zs.length zs:=(y3l hG hc hf).below zBr.drew

theorem y3i {z:Int} (h0:-1000000000≤z) (h1:z≤1000000000000):∀ y∈[z],(Lit.int .i64 y).wf=true∧[z].length≤4:=by
 intro y hy
 simp at hy
 subst hy
 exact⟨z3o h0 h1,by simp⟩

theorem y4u {a b c d:Int} (h0:0≤a∧a≤255) (h1:0≤b∧b≤255) (h2:0≤c∧c≤255) (h3:0≤d∧d≤255):∀ y∈[a,b,c,d],(Lit.int .i64 y).wf=true∧[a,b,c,d].length≤4:=by
 intro y hy
 simp at hy
 refine⟨?_,by simp⟩
 rcases hy with rfl|rfl|rfl|rfl<;>exact z3o (by omega) (by omega)

theorem y3u (z:Int) (hz:0≤z∧z≤1000000000) (G:Nat) (w:World) (h:IntsAt w (some ⟨G,0,none⟩) 1 1 [z]) :
  Calls Tryz.prog 148 #[.slice (some ⟨G,0,none⟩) 1 1] w fun e w'=>e=.returned (.string ⟨(varZ z).toArray⟩)∧Bw w w':=by
 have:=y40 (some ⟨G,0,none⟩) 1 1 [z] (by omega) (by intro y hy;simp at hy;subst hy;exact hz) w h
 simpa using this

theorem y5n (e:EvV):((((varZ e.id++[byB e.kind,byB e.sender,byB e.user,byB e.member])++(varB e.levels.length++e.levels.map byB))++y3a e.text)++(varB e.prev.length++e.prev.flatMap varZ))++varZ e.depth=evB e:=by
 simp[evB,y3t]

theorem y3w (l:Zbs) (hl:l.length≤20000) (w:World) :
  Calls Tryz.prog 149 #[.string ⟨l.toArray⟩] w fun e w'=>e=.returned (.tuple #[.string ⟨(y3a l).toArray⟩,.bool true])∧Bw w w':=by
 have:=y4d ⟨l.toArray⟩ hl w
 rw[y4h,y4g] at this
 exact this

theorem y4c (id kd sn us mb dp:Int) (oa:Zoa) (n cl:Nat) (tx:Zbs) (ob:Zoa) (m cp:Nat) (zl zp:Zin) (hx:tx.length≤1048576) (w:World) (hat:IntsAt w oa n cl zl) (hbt:IntsAt w ob m cp zp) :
  Calls Tryz.prog 150 #[z3e id kd sn us mb dp (.slice oa n cl) (.slice ob m cp) tx] w fun e w'=>e=.returned (etV (y43 (⟨id,kd,sn,us,mb,zl,tx,zp,dp⟩:EvV)))∧Bw w w':=by
 have hn:=hat.len
 have hm:=hbt.len
 have Ab:=ZZ (fun w hat hbt=>z7w id kd sn us mb dp oa n cl tx ob m cp zl zp hx w hat hbt)
 have Ah:=ZZ (EB.new w id kd sn us mb dp (.slice oa n cl) (.slice ob m cp) tx)
 have hb0:=(Below.refl w.heap.size w).alloc zLe (.cells #[.int .i64 id,.int .i64 kd,.int .i64 sn,.int .i64 us,.int .i64 mb,.slice oa n cl,.string ⟨tx.toArray⟩,.slice ob m cp,.int .i64 dp] 62)
 have HB0:=ZZ hb0
 have Au:=ZZ (hat.below hb0)
 have Bo:=ZZ (hbt.below hb0)
 have HAT:=ZZ hat
 have AA:=ZZ hbt
 clear hat hbt hb0
 cases cok:evOk (⟨id,kd,sn,us,mb,zl,tx,zp,dp⟩:EvV) with
 | false =>
  rw[y5i cok]
  rw[cok] at Ab
  clear cok
  go_enter Tryz.func150,Tryz.ntmps150
  go_wp2_with fail
  refine (Ab.o _ Au.o Bo.o).mono ?_
  rintro e w1 ⟨rfl,hb1⟩
  go_wp2_with fail
  go_ret2
  exact⟨rfl,zTr HB0.o hb1⟩
 | true =>
  rw[y4a cok]
  have hin:=zhb cok
  rw[cok] at Ab
  clear cok
  have hid:=hin.id
  have hkd:=hin.kind
  have hsn:=hin.sender
  have hus:=hin.user
  have hmb:=hin.member
  have hdp:=hin.depth
  have hnm:=hin.many
  have hpm:=hin.prevs
  have htx:=hin.text
  have hsl:=(y3g tx).1
  have Cu:=ZZ (fun w=>y3w tx (by have:=hin.text;simp only at this;omega) w)
  have AC:=ZZ (fun (G:Nat) w h=>y45 (some ⟨G,0,none⟩) 4 4 [kd,sn,us,mb] (by omega) (by have a:=hin.kind;have b:=hin.sender;have c:=hin.user;have d:=hin.member;simp only at a b c d;intro z hz;simp at hz;rcases hz with rfl|rfl|rfl|rfl<;>omega) w h)
  have HVN:=ZZ (fun G w h=>y3u (n:Int) (by have:=hin.many;simp only at this;omega) G w h)
  have Ay:=ZZ (fun w h=>y45 oa n cl zl (by have:=hin.many;simp only at this;omega) (fun z hz=>by have:=hin.levels z hz;omega) w h)
  have HVM:=ZZ (fun G w h=>y3u (m:Int) (by have:=hin.prevs;simp only at this;omega) G w h)
  have CR:=ZZ (fun w h=>y40 ob m cp zp (by have:=hin.prevs;simp only at this;omega) (fun z hz=>by have:=hin.prev z hz;omega) w h)
  simp only at hid hkd hsn hus hmb hdp hnm hpm htx
  have HVI:=ZZ (fun G w h=>y3u id (by omega) G w h)
  have HVD:=ZZ (fun G w h=>y3u dp (by omega) G w h)
  have hvs:=y3q zp
  rw[← y5n]
  simp only
  rw[hn] at hnm ⊢
  rw[hm] at hpm hvs ⊢
  rw[show varZ (n:Int)=varB n from rfl] at HVN
  rw[show varZ (m:Int)=varB m from rfl] at HVM
  clear hin
  have hv1:=y36 id
  have hv2:=y3b n
  have hv3:=y3b m
  have hv4:=y36 dp
  have hl1:(varZ id++[byB kd,byB sn,byB us,byB mb]).length≤14:=by simp;omega
  have hl2:(varB n++zl.map byB).length≤15:=by simp;omega
  have hl3:(varB m++zp.flatMap varZ).length≤40:=by rw[List.length_append];omega
  have f1:=y37 Tryz.prog (varZ id) [byB kd,byB sn,byB us,byB mb] (by simp;omega)
  have f2:=y37 Tryz.prog (varB n) (zl.map byB) (by simp;omega)
  have f3:=y37 Tryz.prog (varB m) (zp.flatMap varZ) (by omega)
  rw[show [kd,sn,us,mb].map byB=[byB kd,byB sn,byB us,byB mb] from rfl] at AC
  generalize varZ id++[byB kd,byB sn,byB us,byB mb]=AH at hl1 f1 ⊢
  generalize varB n++zl.map byB=LE at hl2 f2 ⊢
  generalize varB m++zp.flatMap varZ=PR at hl3 f3 ⊢
  generalize y3a tx=SH at hsl Cu ⊢
  have f4:=y37 Tryz.prog AH LE (by omega)
  have f5:=y37 Tryz.prog (AH++LE) SH (by rw[List.length_append];omega)
  have f6:=y37 Tryz.prog ((AH++LE)++SH) PR (by rw[List.length_append,List.length_append];omega)
  have f7:=y37 Tryz.prog (((AH++LE)++SH)++PR) (varZ dp) (by rw[List.length_append,List.length_append,List.length_append];omega)
  generalize (⟨((((AH++LE)++SH)++PR)++varZ dp).toArray⟩:ByteArray)=Z4 at f7 ⊢
  generalize (⟨(((AH++LE)++SH)++PR).toArray⟩:ByteArray)=Z3 at f6 f7
  generalize (⟨((AH++LE)++SH).toArray⟩:ByteArray)=Z2 at f5 f6
  generalize (⟨(AH++LE).toArray⟩:ByteArray)=Z1 at f4 f5
  generalize (⟨AH.toArray⟩:ByteArray)=YA at f1 f4
  generalize (⟨LE.toArray⟩:ByteArray)=YL at f2 f4
  generalize (⟨SH.toArray⟩:ByteArray)=YS at f5 Cu
  generalize (⟨PR.toArray⟩:ByteArray)=YP at f3 f6
  generalize (⟨(varZ id).toArray⟩:ByteArray)=X1 at f1 HVI
  generalize (⟨[byB kd,byB sn,byB us,byB mb].toArray⟩:ByteArray)=X2 at f1 AC
  generalize (⟨(varB n).toArray⟩:ByteArray)=X3 at f2 HVN
  generalize (⟨(zl.map byB).toArray⟩:ByteArray)=X4 at f2 Ay
  generalize (⟨(varB m).toArray⟩:ByteArray)=X5 at f3 HVM
  generalize (⟨(zp.flatMap varZ).toArray⟩:ByteArray)=X6 at f3 CR
  generalize (⟨(varZ dp).toArray⟩:ByteArray)=X7 at f7 HVD
  clear hv1 hv2 hv3 hv4 hl1 hl2 hl3 hsl hvs hn hm
  go_enter Tryz.func150,Tryz.ntmps150
  go_wp2_with fail
  refine (Ab.o _ Au.o Bo.o).mono ?_
  rintro e w1 ⟨rfl,hb1⟩
  have A9:=ZZ (Ah.o.on hb1 Ah.o.lt)
  have HB1:=ZZ (zTr HB0.o hb1)
  clear hb1 Ah HB0 Au Bo
  obtain⟨z0,z1,z2,z3,z4,z5,z6,z7,z8⟩:=A9.o.ev
  go_wp2_with fail
  clear z0 z1 z2 z3 z4 z5 z6 z7 z8
  refine (Cu.o _).mono ?_
  rintro e w2 ⟨rfl,hb2⟩
  have HH3:=ZZ (show EvS w id kd sn us mb dp (.slice oa n cl) (.slice ob m cp) tx [] w2 from ⟨zTr HB1.o hb2,A9.o.on hb2 A9.o.lt,fun q hq=>by cases hq⟩)
  clear hb2 A9 HB1
  go_wp2_with fail
  refine wp_region_held_drew (S:=EvS w id kd sn us mb dp (.slice oa n cl) (.slice ob m cp) tx []) (by kernel_rfl) HH3.o.drew (fun hHeld=>?_)
  refine tkW 0 rfl (v:=?_) (Or.inl ⟨by rfl,?_⟩) ?_;rotate_left
  ·(intro wz hSw;obtain⟨z0,z1,z2,z3,z4,z5,z6,z7,z8⟩:=EvS.cells hSw;clear hSw;go_simp;first|done|with_reducible rfl)
  refine tkW 1 rfl (v:=?_) (Or.inl ⟨by rfl,?_⟩) ?_;rotate_left
  ·(intro wz hSw;obtain⟨z0,z1,z2,z3,z4,z5,z6,z7,z8⟩:=EvS.cells hSw;clear hSw;go_simp;first|done|with_reducible rfl)
  refine tkW 4 rfl (v:=?_) (Or.inl ⟨by rfl,?_⟩) ?_;rotate_left
  ·(intro wz hSw;obtain⟨z0,z1,z2,z3,z4,z5,z6,z7,z8⟩:=EvS.cells hSw;clear hSw;go_simp;first|done|with_reducible rfl)
  refine tkW 5 rfl (v:=?_) (Or.inl ⟨by rfl,?_⟩) ?_;rotate_left
  ·(intro wz hSw;obtain⟨z0,z1,z2,z3,z4,z5,z6,z7,z8⟩:=EvS.cells hSw;clear hSw;go_simp;first|done|with_reducible rfl)
  refine tkW 6 rfl (v:=?_) (Or.inl ⟨by rfl,?_⟩) ?_;rotate_left
  ·(intro wz hSw;obtain⟨z0,z1,z2,z3,z4,z5,z6,z7,z8⟩:=EvS.cells hSw;clear hSw;go_simp;first|done|with_reducible rfl)
  refine tkW 7 rfl (v:=?_) (Or.inl ⟨by rfl,?_⟩) ?_;rotate_left
  ·(intro wz hSw;obtain⟨z0,z1,z2,z3,z4,z5,z6,z7,z8⟩:=EvS.cells hSw;clear hSw;go_simp;first|done|with_reducible rfl)
  refine tkW 8 rfl (v:=?_) (Or.inl ⟨by rfl,?_⟩) ?_;rotate_left
  ·(intro wz hSw;obtain⟨z0,z1,z2,z3,z4,z5,z6,z7,z8⟩:=EvS.cells hSw;clear hSw;go_simp;first|done|with_reducible rfl)
  refine tkW 9 rfl (v:=?_) (Or.inl ⟨by rfl,?_⟩) ?_;rotate_left
  ·(intro wz hSw;obtain⟨z0,z1,z2,z3,z4,z5,z6,z7,z8⟩:=EvS.cells hSw;clear hSw;go_simp;first|done|with_reducible rfl)
  refine tkW 10 rfl (v:=?_) (Or.inl ⟨by rfl,?_⟩) ?_;rotate_left
  ·(intro wz hSw;obtain⟨z0,z1,z2,z3,z4,z5,z6,z7,z8⟩:=EvS.cells hSw;clear hSw;go_simp;first|done|with_reducible rfl)
  refine tkW 11 rfl (v:=?_) (Or.inl ⟨by rfl,?_⟩) ?_;rotate_left
  ·(intro wz hSw;obtain⟨z0,z1,z2,z3,z4,z5,z6,z7,z8⟩:=EvS.cells hSw;clear hSw;go_simp;first|done|with_reducible rfl)
  refine wpAnyH_ready (rs:=[2,12]) (by kernel_rfl) (by simp) ?_
  refine AllReadyH.cons rfl (fun K hK=>?_) ?_
  ·rw[if_pos (by rfl)]
   go_simp
   refine hK.out _ _ ?_ (fun hHeld=>?_)
   ·exact EvS.grow hHeld _
   clear hK K
   try simp only[Act.put,List.getElem_toArray,List.getElem_cons_zero,List.getElem_cons_succ,List.setIfInBounds_toArray,List.set_cons_zero,List.set_cons_succ]
   refine y3f (S':=EvS w id kd sn us mb dp (.slice oa n cl) (.slice ob m cp) tx [(w2.heap.size,[id])]) (fun _ h=>EvS.less h) _ _ _ _ ?_
   replace hHeld:(EvS w id kd sn us mb dp (.slice oa n cl) (.slice ob m cp) tx [(w2.heap.size,[id])]) _:=EvS.more hHeld (y3c (zs:=[id]) (by first|rfl|simp) rfl (y3i (by omega) (by omega)))
   refine wpAnyH_ready (rs:=[3,12]) (by kernel_rfl) (by simp) ?_
   refine AllReadyH.cons rfl (fun K hK=>?_) ?_
   ·rw[if_pos (by rfl)]
    go_simp
    go_at_call 148
    refine (HVI.o (w2.heap.size) _ (EvS.get hHeld (w2.heap.size,[id]) (by simp))).mono ?_
    rintro r wA3 ⟨rfl,hbwA3⟩
    try go_simp
    refine hK.out _ _ ?_ (fun hHeld=>?_)
    ·exact EvS.call hHeld hbwA3
    clear hK K
    try simp only[Act.put,List.getElem_toArray,List.getElem_cons_zero,List.getElem_cons_succ,List.setIfInBounds_toArray,List.set_cons_zero,List.set_cons_succ]
    clear hbwA3
    refine wpAnyH_ready (rs:=[12]) (by kernel_rfl) (by simp) ?_
    refine AllReadyH.cons rfl (fun K hK=>?_) ?_
    ·rw[if_pos (by rfl)]
     go_simp
     refine hK.out _ _ ?_ (fun hHeld=>?_)
     ·exact EvS.grow hHeld _
     clear hK K
     try simp only[Act.put,List.getElem_toArray,List.getElem_cons_zero,List.getElem_cons_succ,List.setIfInBounds_toArray,List.set_cons_zero,List.set_cons_succ]
     refine y3f (S':=EvS w id kd sn us mb dp (.slice oa n cl) (.slice ob m cp) tx [(wA3.heap.size,[kd,sn,us,mb]),(w2.heap.size,[id])]) (fun _ h=>EvS.less h) _ _ _ _ ?_
     replace hHeld:(EvS w id kd sn us mb dp (.slice oa n cl) (.slice ob m cp) tx [(wA3.heap.size,[kd,sn,us,mb]),(w2.heap.size,[id])]) _:=EvS.more hHeld (y3l (zs:=[kd,sn,us,mb]) (by first|rfl|simp) rfl (y4u (by omega) (by omega) (by omega) (by omega)))
     refine wpAnyH_ready (rs:=[13]) (by kernel_rfl) (by simp) ?_
     refine AllReadyH.cons rfl (fun K hK=>?_) ?_
     ·rw[if_pos (by rfl)]
      go_simp
      go_at_call 188
      refine (AC.o (wA3.heap.size) _ (EvS.get hHeld (wA3.heap.size,[kd,sn,us,mb]) (by simp))).mono ?_
      rintro r wA13 ⟨rfl,hbwA13⟩
      try go_simp
      refine hK.out _ _ ?_ (fun hHeld=>?_)
      ·exact EvS.call hHeld hbwA13
      clear hK K
      try simp only[Act.put,List.getElem_toArray,List.getElem_cons_zero,List.getElem_cons_succ,List.setIfInBounds_toArray,List.set_cons_zero,List.set_cons_succ]
      clear hbwA13
      refine tkW 14 rfl (v:=?_) (Or.inl ⟨by rfl,?_⟩) ?_;rotate_left
      ·(intro wz hSw;obtain⟨z0,z1,z2,z3,z4,z5,z6,z7,z8⟩:=EvS.cells hSw;clear hSw;go_simp;first|done|with_reducible rfl)
      refine tkW 15 rfl (v:=?_) (Or.inl ⟨by rfl,?_⟩) ?_;rotate_left
      ·(intro wz hSw;obtain⟨z0,z1,z2,z3,z4,z5,z6,z7,z8⟩:=EvS.cells hSw;clear hSw;go_simp;first|done|with_reducible rfl)
      try simp only[Act.put,List.getElem_toArray,List.getElem_cons_zero,List.getElem_cons_succ,List.setIfInBounds_toArray,List.set_cons_zero,List.set_cons_succ]
      refine wpAnyH_done (by kernel_rfl) ?_ _
      have HH4:=ZZ (EvS.all hHeld)
      clear hHeld HH3
      go_wp2_with fail
      refine wp_region_held_drew (S:=EvS w id kd sn us mb dp (.slice oa n cl) (.slice ob m cp) tx []) (by kernel_rfl) HH4.o.drew (fun hHeld=>?_)
      refine tkW 0 rfl (v:=?_) (Or.inl ⟨by rfl,?_⟩) ?_;rotate_left
      ·(intro wz hSw;obtain⟨z0,z1,z2,z3,z4,z5,z6,z7,z8⟩:=EvS.cells hSw;clear hSw;go_simp;first|done|with_reducible rfl)
      refine tkW 1 rfl (v:=?_) (Or.inl ⟨by rfl,?_⟩) ?_;rotate_left
      ·(intro wz hSw;obtain⟨z0,z1,z2,z3,z4,z5,z6,z7,z8⟩:=EvS.cells hSw;clear hSw;go_simp;first|done|with_reducible rfl)
      refine tkW 2 rfl (v:=?_) (Or.inl ⟨by rfl,?_⟩) ?_;rotate_left
      ·(intro wz hSw;obtain⟨z0,z1,z2,z3,z4,z5,z6,z7,z8⟩:=EvS.cells hSw;clear hSw;go_simp;first|done|with_reducible rfl)
      refine tkW 5 rfl (v:=?_) (Or.inl ⟨by rfl,?_⟩) ?_;rotate_left
      ·(intro wz hSw;obtain⟨z0,z1,z2,z3,z4,z5,z6,z7,z8⟩:=EvS.cells hSw;clear hSw;go_simp;first|done|with_reducible rfl)
      refine tkW 6 rfl (v:=?_) (Or.inl ⟨by rfl,?_⟩) ?_;rotate_left
      ·(intro wz hSw;obtain⟨z0,z1,z2,z3,z4,z5,z6,z7,z8⟩:=EvS.cells hSw;clear hSw;go_simp;first|done|with_reducible rfl)
      refine wpAnyH_ready (rs:=[3]) (by kernel_rfl) (by simp) ?_
      refine AllReadyH.cons rfl (fun K hK=>?_) ?_
      ·rw[if_pos (by rfl)]
       go_simp
       refine hK.out _ _ ?_ (fun hHeld=>?_)
       ·exact EvS.grow hHeld _
       clear hK K
       try simp only[Act.put,List.getElem_toArray,List.getElem_cons_zero,List.getElem_cons_succ,List.setIfInBounds_toArray,List.set_cons_zero,List.set_cons_succ]
       refine y3f (S':=EvS w id kd sn us mb dp (.slice oa n cl) (.slice ob m cp) tx [(wA13.heap.size,[(n:Int)])]) (fun _ h=>EvS.less h) _ _ _ _ ?_
       replace hHeld:(EvS w id kd sn us mb dp (.slice oa n cl) (.slice ob m cp) tx [(wA13.heap.size,[(n:Int)])]) _:=EvS.more hHeld (y3c (zs:=[(n:Int)]) (by first|rfl|simp) rfl (y3i (by omega) (by omega)))
       refine wpAnyH_ready (rs:=[4]) (by kernel_rfl) (by simp) ?_
       refine AllReadyH.cons rfl (fun K hK=>?_) ?_
       ·rw[if_pos (by rfl)]
        go_simp
        go_at_call 148
        refine (HVN.o (wA13.heap.size) _ (EvS.get hHeld (wA13.heap.size,[(n:Int)]) (by simp))).mono ?_
        rintro r wB4 ⟨rfl,hbwB4⟩
        try go_simp
        refine hK.out _ _ ?_ (fun hHeld=>?_)
        ·exact EvS.call hHeld hbwB4
        clear hK K
        try simp only[Act.put,List.getElem_toArray,List.getElem_cons_zero,List.getElem_cons_succ,List.setIfInBounds_toArray,List.set_cons_zero,List.set_cons_succ]
        clear hbwB4
        refine wpAnyH_ready (rs:=[7]) (by kernel_rfl) (by simp) ?_
        refine AllReadyH.cons rfl (fun K hK=>?_) ?_
        ·rw[if_pos (by rfl)]
         go_simp
         go_at_call 188
         refine (Ay.o _ (HAT.o.below hHeld.1)).mono ?_
         rintro r wB7 ⟨rfl,hbwB7⟩
         try go_simp
         refine hK.out _ _ ?_ (fun hHeld=>?_)
         ·exact EvS.call hHeld hbwB7
         clear hK K
         try simp only[Act.put,List.getElem_toArray,List.getElem_cons_zero,List.getElem_cons_succ,List.setIfInBounds_toArray,List.set_cons_zero,List.set_cons_succ]
         clear hbwB7
         refine tkW 8 rfl (v:=?_) (Or.inl ⟨by rfl,?_⟩) ?_;rotate_left
         ·(intro wz hSw;obtain⟨z0,z1,z2,z3,z4,z5,z6,z7,z8⟩:=EvS.cells hSw;clear hSw;go_simp;first|done|with_reducible rfl)
         refine tkW 9 rfl (v:=?_) (Or.inl ⟨by rfl,?_⟩) ?_;rotate_left
         ·(intro wz hSw;obtain⟨z0,z1,z2,z3,z4,z5,z6,z7,z8⟩:=EvS.cells hSw;clear hSw;go_simp;first|done|with_reducible rfl)
         try simp only[Act.put,List.getElem_toArray,List.getElem_cons_zero,List.getElem_cons_succ,List.setIfInBounds_toArray,List.set_cons_zero,List.set_cons_succ]
         refine wpAnyH_done (by kernel_rfl) ?_ _
         have HH5:=ZZ (EvS.all hHeld)
         clear hHeld HH4
         go_wp2_with fail
         refine wp_region_held_drew (S:=EvS w id kd sn us mb dp (.slice oa n cl) (.slice ob m cp) tx []) (by kernel_rfl) HH5.o.drew (fun hHeld=>?_)
         refine tkW 0 rfl (v:=?_) (Or.inl ⟨by rfl,?_⟩) ?_;rotate_left
         ·(intro wz hSw;obtain⟨z0,z1,z2,z3,z4,z5,z6,z7,z8⟩:=EvS.cells hSw;clear hSw;go_simp;first|done|with_reducible rfl)
         refine tkW 1 rfl (v:=?_) (Or.inl ⟨by rfl,?_⟩) ?_;rotate_left
         ·(intro wz hSw;obtain⟨z0,z1,z2,z3,z4,z5,z6,z7,z8⟩:=EvS.cells hSw;clear hSw;go_simp;first|done|with_reducible rfl)
         refine tkW 2 rfl (v:=?_) (Or.inl ⟨by rfl,?_⟩) ?_;rotate_left
         ·(intro wz hSw;obtain⟨z0,z1,z2,z3,z4,z5,z6,z7,z8⟩:=EvS.cells hSw;clear hSw;go_simp;first|done|with_reducible rfl)
         refine tkW 5 rfl (v:=?_) (Or.inl ⟨by rfl,?_⟩) ?_;rotate_left
         ·(intro wz hSw;obtain⟨z0,z1,z2,z3,z4,z5,z6,z7,z8⟩:=EvS.cells hSw;clear hSw;go_simp;first|done|with_reducible rfl)
         refine tkW 6 rfl (v:=?_) (Or.inl ⟨by rfl,?_⟩) ?_;rotate_left
         ·(intro wz hSw;obtain⟨z0,z1,z2,z3,z4,z5,z6,z7,z8⟩:=EvS.cells hSw;clear hSw;go_simp;first|done|with_reducible rfl)
         refine wpAnyH_ready (rs:=[3]) (by kernel_rfl) (by simp) ?_
         refine AllReadyH.cons rfl (fun K hK=>?_) ?_
         ·rw[if_pos (by rfl)]
          go_simp
          refine hK.out _ _ ?_ (fun hHeld=>?_)
          ·exact EvS.grow hHeld _
          clear hK K
          try simp only[Act.put,List.getElem_toArray,List.getElem_cons_zero,List.getElem_cons_succ,List.setIfInBounds_toArray,List.set_cons_zero,List.set_cons_succ]
          refine y3f (S':=EvS w id kd sn us mb dp (.slice oa n cl) (.slice ob m cp) tx [(wB7.heap.size,[(m:Int)])]) (fun _ h=>EvS.less h) _ _ _ _ ?_
          replace hHeld:(EvS w id kd sn us mb dp (.slice oa n cl) (.slice ob m cp) tx [(wB7.heap.size,[(m:Int)])]) _:=EvS.more hHeld (y3c (zs:=[(m:Int)]) (by first|rfl|simp) rfl (y3i (by omega) (by omega)))
          refine wpAnyH_ready (rs:=[4]) (by kernel_rfl) (by simp) ?_
          refine AllReadyH.cons rfl (fun K hK=>?_) ?_
          ·rw[if_pos (by rfl)]
           go_simp
           go_at_call 148
           refine (HVM.o (wB7.heap.size) _ (EvS.get hHeld (wB7.heap.size,[(m:Int)]) (by simp))).mono ?_
           rintro r wC4 ⟨rfl,hbwC4⟩
           try go_simp
           refine hK.out _ _ ?_ (fun hHeld=>?_)
           ·exact EvS.call hHeld hbwC4
           clear hK K
           try simp only[Act.put,List.getElem_toArray,List.getElem_cons_zero,List.getElem_cons_succ,List.setIfInBounds_toArray,List.set_cons_zero,List.set_cons_succ]
           clear hbwC4
           refine wpAnyH_ready (rs:=[7]) (by kernel_rfl) (by simp) ?_
           refine AllReadyH.cons rfl (fun K hK=>?_) ?_
           ·rw[if_pos (by rfl)]
            go_simp
            go_at_call 148
            refine (CR.o _ (AA.o.below hHeld.1)).mono ?_
            rintro r wC7 ⟨rfl,hbwC7⟩
            try go_simp
            refine hK.out _ _ ?_ (fun hHeld=>?_)
            ·exact EvS.call hHeld hbwC7
            clear hK K
            try simp only[Act.put,List.getElem_toArray,List.getElem_cons_zero,List.getElem_cons_succ,List.setIfInBounds_toArray,List.set_cons_zero,List.set_cons_succ]
            clear hbwC7
            refine tkW 8 rfl (v:=?_) (Or.inl ⟨by rfl,?_⟩) ?_;rotate_left
            ·(intro wz hSw;obtain⟨z0,z1,z2,z3,z4,z5,z6,z7,z8⟩:=EvS.cells hSw;clear hSw;go_simp;first|done|with_reducible rfl)
            refine tkW 9 rfl (v:=?_) (Or.inl ⟨by rfl,?_⟩) ?_;rotate_left
            ·(intro wz hSw;obtain⟨z0,z1,z2,z3,z4,z5,z6,z7,z8⟩:=EvS.cells hSw;clear hSw;go_simp;first|done|with_reducible rfl)
            try simp only[Act.put,List.getElem_toArray,List.getElem_cons_zero,List.getElem_cons_succ,List.setIfInBounds_toArray,List.set_cons_zero,List.set_cons_succ]
            refine wpAnyH_done (by kernel_rfl) ?_ _
            have HH6:=ZZ (EvS.all hHeld)
            clear hHeld HH5
            obtain⟨z0,z1,z2,z3,z4,z5,z6,z7,z8⟩:=EvS.cells HH6.o
            go_wp2_with fail
            have hb9:=(Below.refl wC7.heap.size wC7).alloc zLe (.cells #[.int .i64 dp] 3)
            have KU:=ZZ (zTr HH6.o.1 hb9)
            have HI9:=ZZ (y3l (W:=wC7) (G:=wC7.heap.size) (zs:=[dp]) (cs:=#[.int .i64 dp]) (ty:=3) rfl rfl (y3i (by omega) (by omega)))
            clear hb9 z0 z1 z2 z3 z4 z5 z6 z7 z8
            refine (HVD.o (wC7.heap.size) _ HI9.o).mono ?_
            rintro e w9 ⟨rfl,hbe⟩
            go_wp2_with fail
            go_ret2
            exact⟨rfl,zTr KU.o hbe⟩
           exact AllReadyH.nil
          exact AllReadyH.nil
         exact AllReadyH.nil
        exact AllReadyH.nil
       exact AllReadyH.nil
      exact AllReadyH.nil
     exact AllReadyH.nil
    exact AllReadyH.nil
   refine AllReadyH.cons rfl (fun K hK=>?_) ?_
   ·rw[if_pos (by rfl)]
    go_simp
    refine hK.out _ _ ?_ (fun hHeld=>?_)
    ·exact EvS.grow hHeld _
    clear hK K
    try simp only[Act.put,List.getElem_toArray,List.getElem_cons_zero,List.getElem_cons_succ,List.setIfInBounds_toArray,List.set_cons_zero,List.set_cons_succ]
    refine y3f (S':=EvS w id kd sn us mb dp (.slice oa n cl) (.slice ob m cp) tx [(w2.heap.size+1,[kd,sn,us,mb]),(w2.heap.size,[id])]) (fun _ h=>EvS.less h) _ _ _ _ ?_
    replace hHeld:(EvS w id kd sn us mb dp (.slice oa n cl) (.slice ob m cp) tx [(w2.heap.size+1,[kd,sn,us,mb]),(w2.heap.size,[id])]) _:=EvS.more hHeld (y3c (zs:=[kd,sn,us,mb]) (by first|rfl|simp) rfl (y4u (by omega) (by omega) (by omega) (by omega)))
    refine wpAnyH_ready (rs:=[3]) (by kernel_rfl) (by simp) ?_
    refine AllReadyH.cons rfl (fun K hK=>?_) ?_
    ·rw[if_pos (by rfl)]
     go_simp
     go_at_call 148
     refine (HVI.o (w2.heap.size) _ (EvS.get hHeld (w2.heap.size,[id]) (by simp))).mono ?_
     rintro r wA3 ⟨rfl,hbwA3⟩
     try go_simp
     refine hK.out _ _ ?_ (fun hHeld=>?_)
     ·exact EvS.call hHeld hbwA3
     clear hK K
     try simp only[Act.put,List.getElem_toArray,List.getElem_cons_zero,List.getElem_cons_succ,List.setIfInBounds_toArray,List.set_cons_zero,List.set_cons_succ]
     clear hbwA3
     refine wpAnyH_ready (rs:=[13]) (by kernel_rfl) (by simp) ?_
     refine AllReadyH.cons rfl (fun K hK=>?_) ?_
     ·rw[if_pos (by rfl)]
      go_simp
      go_at_call 188
      refine (AC.o (w2.heap.size+1) _ (EvS.get hHeld (w2.heap.size+1,[kd,sn,us,mb]) (by simp))).mono ?_
      rintro r wA13 ⟨rfl,hbwA13⟩
      try go_simp
      refine hK.out _ _ ?_ (fun hHeld=>?_)
      ·exact EvS.call hHeld hbwA13
      clear hK K
      try simp only[Act.put,List.getElem_toArray,List.getElem_cons_zero,List.getElem_cons_succ,List.setIfInBounds_toArray,List.set_cons_zero,List.set_cons_succ]
      clear hbwA13
      refine tkW 14 rfl (v:=?_) (Or.inl ⟨by rfl,?_⟩) ?_;rotate_left
      ·(intro wz hSw;obtain⟨z0,z1,z2,z3,z4,z5,z6,z7,z8⟩:=EvS.cells hSw;clear hSw;go_simp;first|done|with_reducible rfl)
      refine tkW 15 rfl (v:=?_) (Or.inl ⟨by rfl,?_⟩) ?_;rotate_left
      ·(intro wz hSw;obtain⟨z0,z1,z2,z3,z4,z5,z6,z7,z8⟩:=EvS.cells hSw;clear hSw;go_simp;first|done|with_reducible rfl)
      try simp only[Act.put,List.getElem_toArray,List.getElem_cons_zero,List.getElem_cons_succ,List.setIfInBounds_toArray,List.set_cons_zero,List.set_cons_succ]
      refine wpAnyH_done (by kernel_rfl) ?_ _
      have HH4:=ZZ (EvS.all hHeld)
      clear hHeld HH3
      go_wp2_with fail
      refine wp_region_held_drew (S:=EvS w id kd sn us mb dp (.slice oa n cl) (.slice ob m cp) tx []) (by kernel_rfl) HH4.o.drew (fun hHeld=>?_)
      refine tkW 0 rfl (v:=?_) (Or.inl ⟨by rfl,?_⟩) ?_;rotate_left
      ·(intro wz hSw;obtain⟨z0,z1,z2,z3,z4,z5,z6,z7,z8⟩:=EvS.cells hSw;clear hSw;go_simp;first|done|with_reducible rfl)
      refine tkW 1 rfl (v:=?_) (Or.inl ⟨by rfl,?_⟩) ?_;rotate_left
      ·(intro wz hSw;obtain⟨z0,z1,z2,z3,z4,z5,z6,z7,z8⟩:=EvS.cells hSw;clear hSw;go_simp;first|done|with_reducible rfl)
      refine tkW 2 rfl (v:=?_) (Or.inl ⟨by rfl,?_⟩) ?_;rotate_left
      ·(intro wz hSw;obtain⟨z0,z1,z2,z3,z4,z5,z6,z7,z8⟩:=EvS.cells hSw;clear hSw;go_simp;first|done|with_reducible rfl)
      refine tkW 5 rfl (v:=?_) (Or.inl ⟨by rfl,?_⟩) ?_;rotate_left
      ·(intro wz hSw;obtain⟨z0,z1,z2,z3,z4,z5,z6,z7,z8⟩:=EvS.cells hSw;clear hSw;go_simp;first|done|with_reducible rfl)
      refine tkW 6 rfl (v:=?_) (Or.inl ⟨by rfl,?_⟩) ?_;rotate_left
      ·(intro wz hSw;obtain⟨z0,z1,z2,z3,z4,z5,z6,z7,z8⟩:=EvS.cells hSw;clear hSw;go_simp;first|done|with_reducible rfl)
      refine wpAnyH_ready (rs:=[3]) (by kernel_rfl) (by simp) ?_
      refine AllReadyH.cons rfl (fun K hK=>?_) ?_
      ·rw[if_pos (by rfl)]
       go_simp
       refine hK.out _ _ ?_ (fun hHeld=>?_)
       ·exact EvS.grow hHeld _
       clear hK K
       try simp only[Act.put,List.getElem_toArray,List.getElem_cons_zero,List.getElem_cons_succ,List.setIfInBounds_toArray,List.set_cons_zero,List.set_cons_succ]
       refine y3f (S':=EvS w id kd sn us mb dp (.slice oa n cl) (.slice ob m cp) tx [(wA13.heap.size,[(n:Int)])]) (fun _ h=>EvS.less h) _ _ _ _ ?_
       replace hHeld:(EvS w id kd sn us mb dp (.slice oa n cl) (.slice ob m cp) tx [(wA13.heap.size,[(n:Int)])]) _:=EvS.more hHeld (y3c (zs:=[(n:Int)]) (by first|rfl|simp) rfl (y3i (by omega) (by omega)))
       refine wpAnyH_ready (rs:=[4]) (by kernel_rfl) (by simp) ?_
       refine AllReadyH.cons rfl (fun K hK=>?_) ?_
       ·rw[if_pos (by rfl)]
        go_simp
        go_at_call 148
        refine (HVN.o (wA13.heap.size) _ (EvS.get hHeld (wA13.heap.size,[(n:Int)]) (by simp))).mono ?_
        rintro r wB4 ⟨rfl,hbwB4⟩
        try go_simp
        refine hK.out _ _ ?_ (fun hHeld=>?_)
        ·exact EvS.call hHeld hbwB4
        clear hK K
        try simp only[Act.put,List.getElem_toArray,List.getElem_cons_zero,List.getElem_cons_succ,List.setIfInBounds_toArray,List.set_cons_zero,List.set_cons_succ]
        clear hbwB4
        refine wpAnyH_ready (rs:=[7]) (by kernel_rfl) (by simp) ?_
        refine AllReadyH.cons rfl (fun K hK=>?_) ?_
        ·rw[if_pos (by rfl)]
         go_simp
         go_at_call 188
         refine (Ay.o _ (HAT.o.below hHeld.1)).mono ?_
         rintro r wB7 ⟨rfl,hbwB7⟩
         try go_simp
         refine hK.out _ _ ?_ (fun hHeld=>?_)
         ·exact EvS.call hHeld hbwB7
         clear hK K
         try simp only[Act.put,List.getElem_toArray,List.getElem_cons_zero,List.getElem_cons_succ,List.setIfInBounds_toArray,List.set_cons_zero,List.set_cons_succ]
         clear hbwB7
         refine tkW 8 rfl (v:=?_) (Or.inl ⟨by rfl,?_⟩) ?_;rotate_left
         ·(intro wz hSw;obtain⟨z0,z1,z2,z3,z4,z5,z6,z7,z8⟩:=EvS.cells hSw;clear hSw;go_simp;first|done|with_reducible rfl)
         refine tkW 9 rfl (v:=?_) (Or.inl ⟨by rfl,?_⟩) ?_;rotate_left
         ·(intro wz hSw;obtain⟨z0,z1,z2,z3,z4,z5,z6,z7,z8⟩:=EvS.cells hSw;clear hSw;go_simp;first|done|with_reducible rfl)
         try simp only[Act.put,List.getElem_toArray,List.getElem_cons_zero,List.getElem_cons_succ,List.setIfInBounds_toArray,List.set_cons_zero,List.set_cons_succ]
         refine wpAnyH_done (by kernel_rfl) ?_ _
         have HH5:=ZZ (EvS.all hHeld)
         clear hHeld HH4
         go_wp2_with fail
         refine wp_region_held_drew (S:=EvS w id kd sn us mb dp (.slice oa n cl) (.slice ob m cp) tx []) (by kernel_rfl) HH5.o.drew (fun hHeld=>?_)
         refine tkW 0 rfl (v:=?_) (Or.inl ⟨by rfl,?_⟩) ?_;rotate_left
         ·(intro wz hSw;obtain⟨z0,z1,z2,z3,z4,z5,z6,z7,z8⟩:=EvS.cells hSw;clear hSw;go_simp;first|done|with_reducible rfl)
         refine tkW 1 rfl (v:=?_) (Or.inl ⟨by rfl,?_⟩) ?_;rotate_left
         ·(intro wz hSw;obtain⟨z0,z1,z2,z3,z4,z5,z6,z7,z8⟩:=EvS.cells hSw;clear hSw;go_simp;first|done|with_reducible rfl)
         refine tkW 2 rfl (v:=?_) (Or.inl ⟨by rfl,?_⟩) ?_;rotate_left
         ·(intro wz hSw;obtain⟨z0,z1,z2,z3,z4,z5,z6,z7,z8⟩:=EvS.cells hSw;clear hSw;go_simp;first|done|with_reducible rfl)
         refine tkW 5 rfl (v:=?_) (Or.inl ⟨by rfl,?_⟩) ?_;rotate_left
         ·(intro wz hSw;obtain⟨z0,z1,z2,z3,z4,z5,z6,z7,z8⟩:=EvS.cells hSw;clear hSw;go_simp;first|done|with_reducible rfl)
         refine tkW 6 rfl (v:=?_) (Or.inl ⟨by rfl,?_⟩) ?_;rotate_left
         ·(intro wz hSw;obtain⟨z0,z1,z2,z3,z4,z5,z6,z7,z8⟩:=EvS.cells hSw;clear hSw;go_simp;first|done|with_reducible rfl)
         refine wpAnyH_ready (rs:=[3]) (by kernel_rfl) (by simp) ?_
         refine AllReadyH.cons rfl (fun K hK=>?_) ?_
         ·rw[if_pos (by rfl)]
          go_simp
          refine hK.out _ _ ?_ (fun hHeld=>?_)
          ·exact EvS.grow hHeld _
          clear hK K
          try simp only[Act.put,List.getElem_toArray,List.getElem_cons_zero,List.getElem_cons_succ,List.setIfInBounds_toArray,List.set_cons_zero,List.set_cons_succ]
          refine y3f (S':=EvS w id kd sn us mb dp (.slice oa n cl) (.slice ob m cp) tx [(wB7.heap.size,[(m:Int)])]) (fun _ h=>EvS.less h) _ _ _ _ ?_
          replace hHeld:(EvS w id kd sn us mb dp (.slice oa n cl) (.slice ob m cp) tx [(wB7.heap.size,[(m:Int)])]) _:=EvS.more hHeld (y3c (zs:=[(m:Int)]) (by first|rfl|simp) rfl (y3i (by omega) (by omega)))
          refine wpAnyH_ready (rs:=[4]) (by kernel_rfl) (by simp) ?_
          refine AllReadyH.cons rfl (fun K hK=>?_) ?_
          ·rw[if_pos (by rfl)]
           go_simp
           go_at_call 148
           refine (HVM.o (wB7.heap.size) _ (EvS.get hHeld (wB7.heap.size,[(m:Int)]) (by simp))).mono ?_
           rintro r wC4 ⟨rfl,hbwC4⟩
           try go_simp
           refine hK.out _ _ ?_ (fun hHeld=>?_)
           ·exact EvS.call hHeld hbwC4
           clear hK K
           try simp only[Act.put,List.getElem_toArray,List.getElem_cons_zero,List.getElem_cons_succ,List.setIfInBounds_toArray,List.set_cons_zero,List.set_cons_succ]
           clear hbwC4
           refine wpAnyH_ready (rs:=[7]) (by kernel_rfl) (by simp) ?_
           refine AllReadyH.cons rfl (fun K hK=>?_) ?_
           ·rw[if_pos (by rfl)]
            go_simp
            go_at_call 148
            refine (CR.o _ (AA.o.below hHeld.1)).mono ?_
            rintro r wC7 ⟨rfl,hbwC7⟩
            try go_simp
            refine hK.out _ _ ?_ (fun hHeld=>?_)
            ·exact EvS.call hHeld hbwC7
            clear hK K
            try simp only[Act.put,List.getElem_toArray,List.getElem_cons_zero,List.getElem_cons_succ,List.setIfInBounds_toArray,List.set_cons_zero,List.set_cons_succ]
            clear hbwC7
            refine tkW 8 rfl (v:=?_) (Or.inl ⟨by rfl,?_⟩) ?_;rotate_left
            ·(intro wz hSw;obtain⟨z0,z1,z2,z3,z4,z5,z6,z7,z8⟩:=EvS.cells hSw;clear hSw;go_simp;first|done|with_reducible rfl)
            refine tkW 9 rfl (v:=?_) (Or.inl ⟨by rfl,?_⟩) ?_;rotate_left
            ·(intro wz hSw;obtain⟨z0,z1,z2,z3,z4,z5,z6,z7,z8⟩:=EvS.cells hSw;clear hSw;go_simp;first|done|with_reducible rfl)
            try simp only[Act.put,List.getElem_toArray,List.getElem_cons_zero,List.getElem_cons_succ,List.setIfInBounds_toArray,List.set_cons_zero,List.set_cons_succ]
            refine wpAnyH_done (by kernel_rfl) ?_ _
            have HH6:=ZZ (EvS.all hHeld)
            clear hHeld HH5
            obtain⟨z0,z1,z2,z3,z4,z5,z6,z7,z8⟩:=EvS.cells HH6.o
            go_wp2_with fail
            have hb9:=(Below.refl wC7.heap.size wC7).alloc zLe (.cells #[.int .i64 dp] 3)
            have KU:=ZZ (zTr HH6.o.1 hb9)
            have HI9:=ZZ (y3l (W:=wC7) (G:=wC7.heap.size) (zs:=[dp]) (cs:=#[.int .i64 dp]) (ty:=3) rfl rfl (y3i (by omega) (by omega)))
            clear hb9 z0 z1 z2 z3 z4 z5 z6 z7 z8
            refine (HVD.o (wC7.heap.size) _ HI9.o).mono ?_
            rintro e w9 ⟨rfl,hbe⟩
            go_wp2_with fail
            go_ret2
            exact⟨rfl,zTr KU.o hbe⟩
           exact AllReadyH.nil
          exact AllReadyH.nil
         exact AllReadyH.nil
        exact AllReadyH.nil
       exact AllReadyH.nil
      exact AllReadyH.nil
     exact AllReadyH.nil
    exact AllReadyH.nil
   exact AllReadyH.nil
  refine AllReadyH.cons rfl (fun K hK=>?_) ?_
  ·rw[if_pos (by rfl)]
   go_simp
   refine hK.out _ _ ?_ (fun hHeld=>?_)
   ·exact EvS.grow hHeld _
   clear hK K
   try simp only[Act.put,List.getElem_toArray,List.getElem_cons_zero,List.getElem_cons_succ,List.setIfInBounds_toArray,List.set_cons_zero,List.set_cons_succ]
   refine y3f (S':=EvS w id kd sn us mb dp (.slice oa n cl) (.slice ob m cp) tx [(w2.heap.size,[kd,sn,us,mb])]) (fun _ h=>EvS.less h) _ _ _ _ ?_
   replace hHeld:(EvS w id kd sn us mb dp (.slice oa n cl) (.slice ob m cp) tx [(w2.heap.size,[kd,sn,us,mb])]) _:=EvS.more hHeld (y3c (zs:=[kd,sn,us,mb]) (by first|rfl|simp) rfl (y4u (by omega) (by omega) (by omega) (by omega)))
   refine wpAnyH_ready (rs:=[2]) (by kernel_rfl) (by simp) ?_
   refine AllReadyH.cons rfl (fun K hK=>?_) ?_
   ·rw[if_pos (by rfl)]
    go_simp
    refine hK.out _ _ ?_ (fun hHeld=>?_)
    ·exact EvS.grow hHeld _
    clear hK K
    try simp only[Act.put,List.getElem_toArray,List.getElem_cons_zero,List.getElem_cons_succ,List.setIfInBounds_toArray,List.set_cons_zero,List.set_cons_succ]
    refine y3f (S':=EvS w id kd sn us mb dp (.slice oa n cl) (.slice ob m cp) tx [(w2.heap.size+1,[id]),(w2.heap.size,[kd,sn,us,mb])]) (fun _ h=>EvS.less h) _ _ _ _ ?_
    replace hHeld:(EvS w id kd sn us mb dp (.slice oa n cl) (.slice ob m cp) tx [(w2.heap.size+1,[id]),(w2.heap.size,[kd,sn,us,mb])]) _:=EvS.more hHeld (y3c (zs:=[id]) (by first|rfl|simp) rfl (y3i (by omega) (by omega)))
    refine wpAnyH_ready (rs:=[3]) (by kernel_rfl) (by simp) ?_
    refine AllReadyH.cons rfl (fun K hK=>?_) ?_
    ·rw[if_pos (by rfl)]
     go_simp
     go_at_call 148
     refine (HVI.o (w2.heap.size+1) _ (EvS.get hHeld (w2.heap.size+1,[id]) (by simp))).mono ?_
     rintro r wA3 ⟨rfl,hbwA3⟩
     try go_simp
     refine hK.out _ _ ?_ (fun hHeld=>?_)
     ·exact EvS.call hHeld hbwA3
     clear hK K
     try simp only[Act.put,List.getElem_toArray,List.getElem_cons_zero,List.getElem_cons_succ,List.setIfInBounds_toArray,List.set_cons_zero,List.set_cons_succ]
     clear hbwA3
     refine wpAnyH_ready (rs:=[13]) (by kernel_rfl) (by simp) ?_
     refine AllReadyH.cons rfl (fun K hK=>?_) ?_
     ·rw[if_pos (by rfl)]
      go_simp
      go_at_call 188
      refine (AC.o (w2.heap.size) _ (EvS.get hHeld (w2.heap.size,[kd,sn,us,mb]) (by simp))).mono ?_
      rintro r wA13 ⟨rfl,hbwA13⟩
      try go_simp
      refine hK.out _ _ ?_ (fun hHeld=>?_)
      ·exact EvS.call hHeld hbwA13
      clear hK K
      try simp only[Act.put,List.getElem_toArray,List.getElem_cons_zero,List.getElem_cons_succ,List.setIfInBounds_toArray,List.set_cons_zero,List.set_cons_succ]
      clear hbwA13
      refine tkW 14 rfl (v:=?_) (Or.inl ⟨by rfl,?_⟩) ?_;rotate_left
      ·(intro wz hSw;obtain⟨z0,z1,z2,z3,z4,z5,z6,z7,z8⟩:=EvS.cells hSw;clear hSw;go_simp;first|done|with_reducible rfl)
      refine tkW 15 rfl (v:=?_) (Or.inl ⟨by rfl,?_⟩) ?_;rotate_left
      ·(intro wz hSw;obtain⟨z0,z1,z2,z3,z4,z5,z6,z7,z8⟩:=EvS.cells hSw;clear hSw;go_simp;first|done|with_reducible rfl)
      try simp only[Act.put,List.getElem_toArray,List.getElem_cons_zero,List.getElem_cons_succ,List.setIfInBounds_toArray,List.set_cons_zero,List.set_cons_succ]
      refine wpAnyH_done (by kernel_rfl) ?_ _
      have HH4:=ZZ (EvS.all hHeld)
      clear hHeld HH3
      go_wp2_with fail
      refine wp_region_held_drew (S:=EvS w id kd sn us mb dp (.slice oa n cl) (.slice ob m cp) tx []) (by kernel_rfl) HH4.o.drew (fun hHeld=>?_)
      refine tkW 0 rfl (v:=?_) (Or.inl ⟨by rfl,?_⟩) ?_;rotate_left
      ·(intro wz hSw;obtain⟨z0,z1,z2,z3,z4,z5,z6,z7,z8⟩:=EvS.cells hSw;clear hSw;go_simp;first|done|with_reducible rfl)
      refine tkW 1 rfl (v:=?_) (Or.inl ⟨by rfl,?_⟩) ?_;rotate_left
      ·(intro wz hSw;obtain⟨z0,z1,z2,z3,z4,z5,z6,z7,z8⟩:=EvS.cells hSw;clear hSw;go_simp;first|done|with_reducible rfl)
      refine tkW 2 rfl (v:=?_) (Or.inl ⟨by rfl,?_⟩) ?_;rotate_left
      ·(intro wz hSw;obtain⟨z0,z1,z2,z3,z4,z5,z6,z7,z8⟩:=EvS.cells hSw;clear hSw;go_simp;first|done|with_reducible rfl)
      refine tkW 5 rfl (v:=?_) (Or.inl ⟨by rfl,?_⟩) ?_;rotate_left
      ·(intro wz hSw;obtain⟨z0,z1,z2,z3,z4,z5,z6,z7,z8⟩:=EvS.cells hSw;clear hSw;go_simp;first|done|with_reducible rfl)
      refine tkW 6 rfl (v:=?_) (Or.inl ⟨by rfl,?_⟩) ?_;rotate_left
      ·(intro wz hSw;obtain⟨z0,z1,z2,z3,z4,z5,z6,z7,z8⟩:=EvS.cells hSw;clear hSw;go_simp;first|done|with_reducible rfl)
      refine wpAnyH_ready (rs:=[3]) (by kernel_rfl) (by simp) ?_
      refine AllReadyH.cons rfl (fun K hK=>?_) ?_
      ·rw[if_pos (by rfl)]
       go_simp
       refine hK.out _ _ ?_ (fun hHeld=>?_)
       ·exact EvS.grow hHeld _
       clear hK K
       try simp only[Act.put,List.getElem_toArray,List.getElem_cons_zero,List.getElem_cons_succ,List.setIfInBounds_toArray,List.set_cons_zero,List.set_cons_succ]
       refine y3f (S':=EvS w id kd sn us mb dp (.slice oa n cl) (.slice ob m cp) tx [(wA13.heap.size,[(n:Int)])]) (fun _ h=>EvS.less h) _ _ _ _ ?_
       replace hHeld:(EvS w id kd sn us mb dp (.slice oa n cl) (.slice ob m cp) tx [(wA13.heap.size,[(n:Int)])]) _:=EvS.more hHeld (y3c (zs:=[(n:Int)]) (by first|rfl|simp) rfl (y3i (by omega) (by omega)))
       refine wpAnyH_ready (rs:=[4]) (by kernel_rfl) (by simp) ?_
       refine AllReadyH.cons rfl (fun K hK=>?_) ?_
       ·rw[if_pos (by rfl)]
        go_simp
        go_at_call 148
        refine (HVN.o (wA13.heap.size) _ (EvS.get hHeld (wA13.heap.size,[(n:Int)]) (by simp))).mono ?_
        rintro r wB4 ⟨rfl,hbwB4⟩
        try go_simp
        refine hK.out _ _ ?_ (fun hHeld=>?_)
        ·exact EvS.call hHeld hbwB4
        clear hK K
        try simp only[Act.put,List.getElem_toArray,List.getElem_cons_zero,List.getElem_cons_succ,List.setIfInBounds_toArray,List.set_cons_zero,List.set_cons_succ]
        clear hbwB4
        refine wpAnyH_ready (rs:=[7]) (by kernel_rfl) (by simp) ?_
        refine AllReadyH.cons rfl (fun K hK=>?_) ?_
        ·rw[if_pos (by rfl)]
         go_simp
         go_at_call 188
         refine (Ay.o _ (HAT.o.below hHeld.1)).mono ?_
         rintro r wB7 ⟨rfl,hbwB7⟩
         try go_simp
         refine hK.out _ _ ?_ (fun hHeld=>?_)
         ·exact EvS.call hHeld hbwB7
         clear hK K
         try simp only[Act.put,List.getElem_toArray,List.getElem_cons_zero,List.getElem_cons_succ,List.setIfInBounds_toArray,List.set_cons_zero,List.set_cons_succ]
         clear hbwB7
         refine tkW 8 rfl (v:=?_) (Or.inl ⟨by rfl,?_⟩) ?_;rotate_left
         ·(intro wz hSw;obtain⟨z0,z1,z2,z3,z4,z5,z6,z7,z8⟩:=EvS.cells hSw;clear hSw;go_simp;first|done|with_reducible rfl)
         refine tkW 9 rfl (v:=?_) (Or.inl ⟨by rfl,?_⟩) ?_;rotate_left
         ·(intro wz hSw;obtain⟨z0,z1,z2,z3,z4,z5,z6,z7,z8⟩:=EvS.cells hSw;clear hSw;go_simp;first|done|with_reducible rfl)
         try simp only[Act.put,List.getElem_toArray,List.getElem_cons_zero,List.getElem_cons_succ,List.setIfInBounds_toArray,List.set_cons_zero,List.set_cons_succ]
         refine wpAnyH_done (by kernel_rfl) ?_ _
         have HH5:=ZZ (EvS.all hHeld)
         clear hHeld HH4
         go_wp2_with fail
         refine wp_region_held_drew (S:=EvS w id kd sn us mb dp (.slice oa n cl) (.slice ob m cp) tx []) (by kernel_rfl) HH5.o.drew (fun hHeld=>?_)
         refine tkW 0 rfl (v:=?_) (Or.inl ⟨by rfl,?_⟩) ?_;rotate_left
         ·(intro wz hSw;obtain⟨z0,z1,z2,z3,z4,z5,z6,z7,z8⟩:=EvS.cells hSw;clear hSw;go_simp;first|done|with_reducible rfl)
         refine tkW 1 rfl (v:=?_) (Or.inl ⟨by rfl,?_⟩) ?_;rotate_left
         ·(intro wz hSw;obtain⟨z0,z1,z2,z3,z4,z5,z6,z7,z8⟩:=EvS.cells hSw;clear hSw;go_simp;first|done|with_reducible rfl)
         refine tkW 2 rfl (v:=?_) (Or.inl ⟨by rfl,?_⟩) ?_;rotate_left
         ·(intro wz hSw;obtain⟨z0,z1,z2,z3,z4,z5,z6,z7,z8⟩:=EvS.cells hSw;clear hSw;go_simp;first|done|with_reducible rfl)
         refine tkW 5 rfl (v:=?_) (Or.inl ⟨by rfl,?_⟩) ?_;rotate_left
         ·(intro wz hSw;obtain⟨z0,z1,z2,z3,z4,z5,z6,z7,z8⟩:=EvS.cells hSw;clear hSw;go_simp;first|done|with_reducible rfl)
         refine tkW 6 rfl (v:=?_) (Or.inl ⟨by rfl,?_⟩) ?_;rotate_left
         ·(intro wz hSw;obtain⟨z0,z1,z2,z3,z4,z5,z6,z7,z8⟩:=EvS.cells hSw;clear hSw;go_simp;first|done|with_reducible rfl)
         refine wpAnyH_ready (rs:=[3]) (by kernel_rfl) (by simp) ?_
         refine AllReadyH.cons rfl (fun K hK=>?_) ?_
         ·rw[if_pos (by rfl)]
          go_simp
          refine hK.out _ _ ?_ (fun hHeld=>?_)
          ·exact EvS.grow hHeld _
          clear hK K
          try simp only[Act.put,List.getElem_toArray,List.getElem_cons_zero,List.getElem_cons_succ,List.setIfInBounds_toArray,List.set_cons_zero,List.set_cons_succ]
          refine y3f (S':=EvS w id kd sn us mb dp (.slice oa n cl) (.slice ob m cp) tx [(wB7.heap.size,[(m:Int)])]) (fun _ h=>EvS.less h) _ _ _ _ ?_
          replace hHeld:(EvS w id kd sn us mb dp (.slice oa n cl) (.slice ob m cp) tx [(wB7.heap.size,[(m:Int)])]) _:=EvS.more hHeld (y3c (zs:=[(m:Int)]) (by first|rfl|simp) rfl (y3i (by omega) (by omega)))
          refine wpAnyH_ready (rs:=[4]) (by kernel_rfl) (by simp) ?_
          refine AllReadyH.cons rfl (fun K hK=>?_) ?_
          ·rw[if_pos (by rfl)]
           go_simp
           go_at_call 148
           refine (HVM.o (wB7.heap.size) _ (EvS.get hHeld (wB7.heap.size,[(m:Int)]) (by simp))).mono ?_
           rintro r wC4 ⟨rfl,hbwC4⟩
           try go_simp
           refine hK.out _ _ ?_ (fun hHeld=>?_)
           ·exact EvS.call hHeld hbwC4
           clear hK K
           try simp only[Act.put,List.getElem_toArray,List.getElem_cons_zero,List.getElem_cons_succ,List.setIfInBounds_toArray,List.set_cons_zero,List.set_cons_succ]
           clear hbwC4
           refine wpAnyH_ready (rs:=[7]) (by kernel_rfl) (by simp) ?_
           refine AllReadyH.cons rfl (fun K hK=>?_) ?_
           ·rw[if_pos (by rfl)]
            go_simp
            go_at_call 148
            refine (CR.o _ (AA.o.below hHeld.1)).mono ?_
            rintro r wC7 ⟨rfl,hbwC7⟩
            try go_simp
            refine hK.out _ _ ?_ (fun hHeld=>?_)
            ·exact EvS.call hHeld hbwC7
            clear hK K
            try simp only[Act.put,List.getElem_toArray,List.getElem_cons_zero,List.getElem_cons_succ,List.setIfInBounds_toArray,List.set_cons_zero,List.set_cons_succ]
            clear hbwC7
            refine tkW 8 rfl (v:=?_) (Or.inl ⟨by rfl,?_⟩) ?_;rotate_left
            ·(intro wz hSw;obtain⟨z0,z1,z2,z3,z4,z5,z6,z7,z8⟩:=EvS.cells hSw;clear hSw;go_simp;first|done|with_reducible rfl)
            refine tkW 9 rfl (v:=?_) (Or.inl ⟨by rfl,?_⟩) ?_;rotate_left
            ·(intro wz hSw;obtain⟨z0,z1,z2,z3,z4,z5,z6,z7,z8⟩:=EvS.cells hSw;clear hSw;go_simp;first|done|with_reducible rfl)
            try simp only[Act.put,List.getElem_toArray,List.getElem_cons_zero,List.getElem_cons_succ,List.setIfInBounds_toArray,List.set_cons_zero,List.set_cons_succ]
            refine wpAnyH_done (by kernel_rfl) ?_ _
            have HH6:=ZZ (EvS.all hHeld)
            clear hHeld HH5
            obtain⟨z0,z1,z2,z3,z4,z5,z6,z7,z8⟩:=EvS.cells HH6.o
            go_wp2_with fail
            have hb9:=(Below.refl wC7.heap.size wC7).alloc zLe (.cells #[.int .i64 dp] 3)
            have KU:=ZZ (zTr HH6.o.1 hb9)
            have HI9:=ZZ (y3l (W:=wC7) (G:=wC7.heap.size) (zs:=[dp]) (cs:=#[.int .i64 dp]) (ty:=3) rfl rfl (y3i (by omega) (by omega)))
            clear hb9 z0 z1 z2 z3 z4 z5 z6 z7 z8
            refine (HVD.o (wC7.heap.size) _ HI9.o).mono ?_
            rintro e w9 ⟨rfl,hbe⟩
            go_wp2_with fail
            go_ret2
            exact⟨rfl,zTr KU.o hbe⟩
           exact AllReadyH.nil
          exact AllReadyH.nil
         exact AllReadyH.nil
        exact AllReadyH.nil
       exact AllReadyH.nil
      exact AllReadyH.nil
     exact AllReadyH.nil
    exact AllReadyH.nil
   exact AllReadyH.nil
  exact AllReadyH.nil

end Go.Proofs.YtfeebdcmlnapiaaGreat
