/-
  Walks.
-/
import Derived.Test.YtfeebdcmlnapiaaGreatTShelf
import Derived.Test.YtfeebdcmlnapiaaGreatTIterI
set_option maxRecDepth 100000
set_option maxHeartbeats 4000000
set_option linter.unusedVariables false
set_option linter.unusedSimpArgs false
namespace Go.Proofs.YtfeebdcmlnapiaaGreat
open Go.RowKit K
theorem y5t:liesAt Tryz.prog Tryz.prog.depth 213 (2 / Tryz.prog.cellsOf 213) 0 213 1=true:=by kernel_rfl

theorem y5d:∃ j,Tryz.prog.info? 213=some j∧j.size≠0:=by
 have h:(Tryz.prog.info? 213).map (·.size)=some 2:=by kernel_rfl
 obtain⟨j,hj,h2⟩:=Option.map_eq_some_iff.1 h
 exact⟨j,hj,by rw[h2];decide⟩

theorem y5u:(Tryz.prog.info? 5).map (fun i=>(i.zero,i.size,i.bytes))=some (some (.int .u8 0),1,1):=by kernel_rfl

theorem y4v (b:Nat) (w:World) (h:w.cell? ⟨b,0,none⟩=some (.pointer (some ⟨b,0,none⟩))) :
  Calls Tryz.prog 219 #[.pointer (some ⟨b,0,none⟩)] w fun e w'=>e=.returned (.tuple #[])∧w'=w:=by
 obtain⟨j,hj,-⟩:=y5d
 have hne:=Lib.run_neq_ptr_same w ⟨b,0,none⟩ Tryz.underlying211 hj
 go_enter Tryz.func219,Tryz.ntmps219
 go_wp2
 go_end0
 exact⟨rfl,rfl⟩

theorem y4n (b:Nat) (w:World) (h:w.cell? ⟨b,0,none⟩=some (.pointer none)) (hsh:w.shape? b=some (213,2)) (hf:w.frozen? ⟨b,0,none⟩=false) :
  Calls Tryz.prog 219 #[.pointer (some ⟨b,0,none⟩)] w fun e w'=>e=.returned (.tuple #[])∧w'=w.setCell ⟨b,0,none⟩ (.pointer (some ⟨b,0,none⟩)):=by
 obtain⟨j,hj,hz⟩:=y5d
 have hA:=Lib.run_to_unsafe w ⟨b,0,none⟩ Tryz.underlying211 Tryz.underlying259 hj hz hsh (Nat.zero_lt_succ 1)
 have hE:=@run_callFunc_extern Tryz.prog 243 _ Extern.AbiNoEscape.same Tryz.func243 (by kernel_rfl) (by kernel_rfl) (by kernel_rfl) (by kernel_rfl)
 have hN:=fun x=>Lib.run_noEscape (P:=Tryz.prog) w x
 have hC:=Lib.run_from_unsafe w ⟨b,0,none⟩ Tryz.underlying259 Tryz.underlying211 hj hsh y5t
 go_enter Tryz.func219,Tryz.ntmps219
 go_wp2
 go_end0
 exact⟨rfl,rfl⟩

theorem y51 (B b:Nat) (bs:Zvs) (w:World) (h:Lib.IsBuilder 213 5 B b bs w) :
  Calls Tryz.prog 219 #[.pointer (some ⟨b,0,none⟩)] w fun e w'=>e=.returned (.tuple #[])∧Lib.BuilderAt 213 5 B b (.pointer (some ⟨b,0,none⟩)) bs w'∧Below B w w':=by
 rcases h with h|h
 ·refine (y4n b w h.cell0 h.shape h.frozen0).mono ?_
  rintro e w' ⟨rfl,rfl⟩
  exact⟨rfl,h.used _,(Below.refl B w).setCell (p:=⟨b,0,none⟩) h.1 _⟩
 ·refine (y4v b w h.cell0).mono ?_
  rintro e w' ⟨rfl,rfl⟩
  exact⟨rfl,h,Below.refl B _⟩

theorem y4o (B b:Nat) (bs:Zvs) (s:ByteArray) (w:World) (h:Lib.IsBuilder 213 5 B b bs w) (hlen:bs.length+s.size≤140737488355328) (hBw:B≤w.heap.size) :
  Calls Tryz.prog 186 #[.pointer (some ⟨b,0,none⟩),.string s] w fun e w'=>e=.returned (.tuple #[.int .i64 s.size,.nilIface])∧Lib.IsBuilder 213 5 B b (bs++Lib.strCells s) w'∧Below B w w':=by
 obtain⟨i0,hi,hz0,hz1,hz2⟩:=info_parts y5u
 have HC:=ZZ (y51 B b bs w h)
 clear h
 go_enter Tryz.func186,Tryz.ntmps186
 go_wp2_with fail
 refine HC.o.mono ?_
 rintro e w1 ⟨rfl,h1,hb1⟩
 obtain⟨hB,v,hbk,hown,hne⟩:=h1
 have c1:w1.cell? ⟨b,1,none⟩=some v:=zb hbk 1 rfl
 go_wp2_with (at_builtin;refine Lib.wpList_append_own_string _ rfl _ _ 97 9 rfl B 5 i0 Tryz.underlying97 Tryz.underlying9 hi hz0 hz1 hz2 _ _ _ rfl hown s rfl ?c3 ?c4 ?c5 ?_)
 case c3=>unfold maxLen;omega
 case c4=>omega
 case c5=>have:=hb1.size;omega
 intro v' w2 hown' hgrow _
 have hlt:b<w1.heap.size:=ze hbk
 have hb2:w2.heap[b]? = some (.cells #[.pointer (some ⟨b,0,none⟩),v] 213 (0,0)):=(hgrow.block b hlt (fun e=>hne e.symm)).trans hbk
 have d1:w2.cell? ⟨b,1,none⟩=some v:=zb hb2 1 rfl
 have f1:w2.frozen? ⟨b,1,none⟩=false:=zh hb2 1
 have hend:Below B w (w2.setCell ⟨b,1,none⟩ v'):=(hb1.grown hgrow (by have:=hb1.size;omega) (fun k hk=>(hown.lt k hk).1)).setCell (p:=⟨b,1,none⟩) hB _
 have hput:=Lib.BuilderAt.put (T:=213) (e:=5) hB hb2 (bs':=bs++Lib.strCells s) (by simpa [Lib.strCells_length] using hown') (by decide)
 obtain⟨ao,n',cap,rfl⟩:∃ ao n' cap,v'=.slice ao n' cap:=by
  rcases hown'.2 with ⟨hv,_⟩|⟨g,cap,cur,hv,_⟩
  ·exact⟨_,_,_,hv⟩
  ·exact⟨_,_,_,hv⟩
 clear hown' hgrow hb2 hown hbk c1
 go_wp2_with fail
 go_ret2
 exact⟨rfl,Or.inr hput,hend⟩

theorem y54 {T e:TypeId} {B b:Nat} {bs:Zvs} {w w':World} (h:Lib.IsBuilder T e B b bs w) (hb:Bw w w'):Lib.IsBuilder T e B b bs w':=by
 have key:∀ p,Lib.BuilderAt T e B b p bs w→Lib.BuilderAt T e B b p bs w':=by
  rintro p ⟨hB,v,hbk,hown,hne⟩
  exact⟨hB,v,(hb.block b (ze hbk)).trans hbk,own_below hown hb,hne⟩
 exact h.imp (key _) (key _)

open P1 P9 P11 P12
theorem y36 (z:Int):(varZ z).length≤10:=y3b _

theorem y3q:∀ (zs:Zin),(zs.flatMap varZ).length≤10 * zs.length
 | []=>by simp
 | z::r=>by
  have h1:=y36 z
  have h2:=y3q r
  simp only[List.flatMap_cons,List.length_append,List.length_cons]
  omega

theorem y4w {zs:Zin} {j:Nat} {z:Int} (h:zs[j]? = some z):(zs.take (j+1)).flatMap varZ=(zs.take j).flatMap varZ++varZ z:=by
 rw[List.take_add_one,h]
 simp

theorem y40 (oa:Zoa) (n cap:Nat) (zs:Zin) (hn:n≤1048576) (hz:∀ z∈zs,0≤z∧z≤1000000000) (w:World) (hat:IntsAt w oa n cap zs) :
  Calls Tryz.prog 148 #[.slice oa n cap] w fun e w'=>e=.returned (.string ⟨(zs.flatMap varZ).toArray⟩)∧Bw w w':=by
 have HN:=ZZ hat.len
 have HAT:=ZZ hat
 have HZ:=ZZ hz
 clear hat hz
 go_enter Tryz.func148,Tryz.ntmps148
 go_wp2_with fail
 go_loopw [10] (fun i wr=>∃ (j:Nat),i=.int .i64 (j:Int)∧j≤n∧Lib.IsBuilder 213 5 w.heap.size w.heap.size (Lib.byteCells ((zs.take j).flatMap varZ)) wr∧Bw w wr) (fun i _=>n - (intOf i).toNat)
 case atStart=>exact⟨0,rfl,Nat.zero_le _,by rw[List.take_zero];exact Lib.fresh_isBuilder _ _ w,zBa⟩
 case round =>
  obtain⟨j,rfl,hj,hbu,hbel⟩:=hrel
  have JN:=ZZ hbu
  have HBL:=ZZ hbel
  by_cases hlt:j<n
  ·have j0:(j:Int)<(n:Int):=by omega
   obtain⟨z,b,q,hz,hidx,hb,c0,hwf⟩:=(HAT.o.below hbel).get Tryz.underlying60 z0f j hlt
   obtain⟨hz0,hz1⟩:=HZ.o z (zMg hz)
   have AO:=ZZ (y4w hz)
   have KC:=ZZ (y3q (zs.take j))
   obtain⟨k,rfl⟩:=Int.eq_ofNat_of_zero_le hz0
   have hk:k≤1000000000:=by omega
   clear hz hbu hbel hz0 hz1
   go_wp2_with fail
   refine (y42 k hk _).mono ?_
   rintro e w1 ⟨rfl,hb1⟩
   have HB1:=ZZ (zTr HBL.o hb1)
   have HU1:=ZZ (y54 JN.o hb1)
   clear hb1 hidx c0
   go_wp2_with fail
   refine (y4o w.heap.size w.heap.size _ ⟨(varB k).toArray⟩ w1 HU1.o ?_ HB1.o.size).mono ?_
   ·have h1:=KC.o
    have h2:=y3b k
    rw[List.length_take] at h1
    show (Lib.byteCells _).length+(varB k).length≤_
    unfold Lib.byteCells
    rw[List.length_map]
    omega
   rintro e w2 ⟨rfl,hu2,hb2⟩
   have HU2:=ZZ (show Lib.IsBuilder 213 5 w.heap.size w.heap.size (Lib.byteCells ((zs.take (j+1)).flatMap varZ)) w2 by
    rw[AO.o]
    unfold Lib.byteCells
    rw[List.map_append]
    exact hu2)
   have HB2:=ZZ (HB1.o.trans hb2)
   clear hu2 hb2
   go_wp2_with fail
   go_roundw
   case rel=>exact⟨j+1,by go_num,by omega,HU2.o,HB2.o⟩
   case measure=>simp[intOf];omega
  ·have hjn:j=n:=by omega
   have HUE:=ZZ (show Lib.IsBuilder 213 5 w.heap.size w.heap.size (Lib.byteCells (zs.flatMap varZ)) wr by
    have:=JN.o
    rw[hjn,zTl (by rw[HN.o];exact Nat.le_refl _)] at this
    exact this)
   clear hbu hbel
   go_wp2_with fail
   refine (Tryz.Builder_String_any w.heap.size w.heap.size _ wr HUE.o HBL.o.size).mono ?_
   rintro e w1 ⟨rfl,hb1⟩
   go_wp2_with fail
   go_ret
   exact⟨rfl,HBL.o.trans hb1⟩

theorem y4k {zs:Zin} {j:Nat} {z:Int} (h:zs[j]? = some z):(zs.map byB).take (j+1)=(zs.map byB).take j++[byB z]:=by
 rw[List.take_add_one,List.getElem?_map,h]
 simp

theorem y5c {z:Int} (h:0≤z∧z≤255):z=((byB z).toNat:Int):=(y5x h).symm

theorem y45 (oa:Zoa) (n cap:Nat) (zs:Zin) (hn:n≤1048576) (hz:∀ z∈zs,0≤z∧z≤255) (w:World) (hat:IntsAt w oa n cap zs) :
  Calls Tryz.prog 188 #[.slice oa n cap] w fun e w'=>e=.returned (.string ⟨(zs.map byB).toArray⟩)∧Bw w w':=by
 have HN:=ZZ hat.len
 have HAT:=ZZ hat
 have HZ:=ZZ hz
 clear hat hz
 go_enter Tryz.func188,Tryz.ntmps188
 go_wp2_with fail
 go_loopw [3,8] (fun v i wr=>∃ (j:Nat),i=.int .i64 (j:Int)∧j≤n∧wr.ownsRow w.heap.size 5 1 v j (B8 ((zs.map byB).take j))∧Bw w wr) (fun _ i _=>n - (intOf i).toNat)
 case atStart=>exact⟨0,rfl,Nat.zero_le _,World.ownsRow_nil _ _ _ _,zBr⟩
 case round =>
  obtain⟨j,rfl,hj,hown,hbel⟩:=hrel
  have hsz:=hbel.size
  by_cases hlt:j<n
  ·have j0:(j:Int)<(n:Int):=by omega
   obtain⟨z,b,q,hz,hidx,hb,c0,hwf⟩:=(HAT.o.below hbel).get Tryz.underlying60 z0f j hlt
   obtain⟨hz1,hz4⟩:=HZ.o z (zMg hz)
   have HX:=ZZ (y4k hz)
   have Gq:=ZZ (y5c ⟨hz1,hz4⟩)
   clear hz
   go_wp2_with (at_builtin;refine y0t rfl _ _ 97 rfl Tryz.underlying97 infoByte rfl rfl hown rfl rfl hbel hsz (by unfold maxLen;omega) (by omega) ?_)
   intro v' w1 hown' hbel' _
   have R:=ZZ (show w1.ownsRow w.heap.size 5 1 v' (j+1) (B8 ((zs.map byB).take (j+1))) by
    rw[HX.o,← y4s _ (byB z) z Gq.o]
    exact hown')
   have R2:=ZZ hbel'
   clear hown' hbel' hown hbel
   go_wp2
   go_roundw
   case rel=>exact⟨j+1,by go_num,by omega,R.o,R2.o⟩
   case measure=>simp[intOf];omega
  ·have hjn:j=n:=by omega
   rw[hjn,zTl (by rw[List.length_map,HN.o];exact Nat.le_refl _)] at hown
   have hconv:=y3j (P:=Tryz.prog) (src:=97) (dst:=9) Tryz.underlying97 Tryz.underlying5 Tryz.underlying9 hown
   clear hown
   go_wp2
   go_ret
   exact⟨rfl,hbel⟩

theorem y3o (z:Int) (hz:0≤z∧z≤255) (w:World) :
  Calls Tryz.prog 147 #[.int .i64 z] w fun e w'=>e=.returned (.string ⟨[byB z].toArray⟩)∧Bw w w':=by
 obtain⟨h0,h1⟩:=hz
 have hconv:=y4t (P:=Tryz.prog) w (src:=97) (dst:=9) Tryz.underlying97 Tryz.underlying5 Tryz.underlying9 (byB z)
 rw[← y5c ⟨h0,h1⟩] at hconv
 go_enter Tryz.func147,Tryz.ntmps147
 go_wp2_with fail
 go_ret
 exact⟨rfl,zBa⟩

attribute [local go_sem ↓] Go.wp_at_zero Go.wp_at_succ

theorem y3k {w2:World} (m:InW (Bw w2)) {w3:World} (h:Below m.w.heap.size m.w w3):Bw w2 w3:=zTr m.h h

theorem y5h {w w2:World} (hb:Bw w w2) (m:InW (Bw w2)):Bw w m.w:=zTr hb m.h

theorem y37 (P:Program) (a b:Zbs) (h:a.length+b.length≤1048576) (wx:World):(Op.stringOp .add ⟨a.toArray⟩ ⟨b.toArray⟩).run P wx=.ok (.string ⟨(a++b).toArray⟩) wx:=by
 rw[← y4g]
 exact run_string_add_sum _ _ _ (by rw[y4h,y4h];omega)

theorem y5s {zs:Zin} {pre:Zbs} {j:Nat} {z:Int} (h:zs[j]? = some z):pre++(zs.map byB).take (j+1)=(pre++(zs.map byB).take j)++[byB z]:=by
 rw[y4k h,List.append_assoc]

def y44 (kd sn us mb:Int) (n:Nat):Zbs:=(((([byB kd]++[byB sn])++[byB us])++[byB mb])++varB n)

theorem y5b (id kd sn us mb dp:Int) (zl zp:Zin) (tx:Zbs):y44 kd sn us mb zl.length++zl.map byB++y3a tx=y3t (⟨id,kd,sn,us,mb,zl,tx,zp,dp⟩:EvV):=by
 simp[y44,y3t]

theorem y5f (kd sn us mb:Int) (n:Nat):(y44 kd sn us mb n).length≤14:=by
 have:=y3b n
 simp[y44]
 omega

theorem y4l (id kd sn us mb dp:Int) (oa:Zoa) (n cl:Nat) (tx:Zbs) (ob:Zoa) (m cp:Nat) (zl zp:Zin) {id' dp':Int} {zp':Zin} (he:EvIn (⟨id',kd,sn,us,mb,zl,tx,zp',dp'⟩:EvV)) (w:World) (hat:IntsAt w oa n cl zl) :
  Calls Tryz.prog 99 #[z3e id kd sn us mb dp (.slice oa n cl) (.slice ob m cp) tx] w fun e w'=>e=.returned (.string ⟨(y3t (⟨id,kd,sn,us,mb,zl,tx,zp,dp⟩:EvV)).toArray⟩)∧Bw w w':=by
 have hn:=hat.len
 have hkd:=he.kind
 have hsn:=he.sender
 have hus:=he.user
 have hmb:=he.member
 have hmany:=he.many
 have htx:=he.text
 have Ay:=ZZ he.levels
 simp only at hkd hsn hus hmb hmany htx Ay
 rw[hn] at hmany
 rw[← y5b id kd sn us mb dp zl zp tx,hn]
 have hhl:=y5f kd sn us mb n
 have hvl:=y3b n
 have f1:=y37 Tryz.prog [byB kd] [byB sn] (by simp)
 have f2:=y37 Tryz.prog ([byB kd]++[byB sn]) [byB us] (by simp)
 have f3:=y37 Tryz.prog (([byB kd]++[byB sn])++[byB us]) [byB mb] (by simp)
 have f4:∀ wx,(Op.stringOp .add ⟨((([byB kd]++[byB sn])++[byB us])++[byB mb]).toArray⟩ ⟨(varB n).toArray⟩).run Tryz.prog wx=.ok (.string ⟨(y44 kd sn us mb n).toArray⟩) wx:=y37 Tryz.prog _ (varB n) (by simp;omega)
 have Jb:=ZZ (y3o kd (by omega))
 have HY2:=ZZ (y3o sn (by omega))
 have HY3:=ZZ (y3o us (by omega))
 have HY4:=ZZ (y3o mb (by omega))
 have HV:=ZZ (y3z n (by omega))
 generalize (⟨((([byB kd]++[byB sn])++[byB us])++[byB mb]).toArray⟩:ByteArray)=Y3 at f3 f4
 generalize (⟨(([byB kd]++[byB sn])++[byB us]).toArray⟩:ByteArray)=Y2 at f2 f3
 generalize (⟨([byB kd]++[byB sn]).toArray⟩:ByteArray)=Y1 at f1 f2
 generalize (⟨[byB kd].toArray⟩:ByteArray)=X1 at f1 Jb
 generalize (⟨[byB sn].toArray⟩:ByteArray)=X2 at f1 HY2
 generalize (⟨[byB us].toArray⟩:ByteArray)=X3 at f2 HY3
 generalize (⟨[byB mb].toArray⟩:ByteArray)=X4 at f3 HY4
 generalize (⟨(varB n).toArray⟩:ByteArray)=X5 at f4 HV
 generalize y44 kd sn us mb n=H0 at f4 hhl ⊢
 have Ah:=ZZ (EB.new w id kd sn us mb dp (.slice oa n cl) (.slice ob m cp) tx)
 have HB0:=ZZ ((Below.refl w.heap.size w).alloc zLe (.cells #[.int .i64 id,.int .i64 kd,.int .i64 sn,.int .i64 us,.int .i64 mb,.slice oa n cl,.string ⟨tx.toArray⟩,.slice ob m cp,.int .i64 dp] 62))
 have HAT:=ZZ hat
 have Cu:=ZZ (y41 tx (by omega))
 have Dc:=ZZ (y3g tx)
 have HN:=ZZ hn
 clear hat hn he
 go_enter Tryz.func99,Tryz.ntmps99
 go_wp2_with fail
 generalize (w.alloc (.cells #[.int .i64 id,.int .i64 kd,.int .i64 sn,.int .i64 us,.int .i64 mb,.slice oa n cl,.string ⟨tx.toArray⟩,.slice ob m cp,.int .i64 dp] 62))=w0 at Ah HB0 ⊢
 refine zn (F:=Bw w0) (by kernel_rfl) (by kernel_rfl) zBr.drew ?_
 have hne:Nonempty (InW (Bw w0)):=⟨⟨_,zBr⟩⟩
 have hev:=fun m:InW (Bw w0)=>(Ah.o.on m.h Ah.o.lt).ev
 have k0:=fun m=>(hev m).c0
 have k1:=fun m=>(hev m).c1
 have k2:=fun m=>(hev m).c2
 have k3:=fun m=>(hev m).c3
 have k4:=fun m=>(hev m).c4
 have k5:=fun m=>(hev m).c5
 have k6:=fun m=>(hev m).c6
 have k7:=fun m=>(hev m).c7
 have k8:=fun m=>(hev m).c8
 clear hev
 repeat (go_big_quiet_step (first
  | (go_at_call 147;(with_reducible refine (Jb.o _).mono ?_);rintro e w3 ⟨rfl,hb3⟩;exact⟨rfl,⟨w3,y3k _ hb3⟩,rfl⟩)
  | (go_at_call 147;(with_reducible refine (HY2.o _).mono ?_);rintro e w3 ⟨rfl,hb3⟩;exact⟨rfl,⟨w3,y3k _ hb3⟩,rfl⟩)
  | (go_at_call 147;(with_reducible refine (HY3.o _).mono ?_);rintro e w3 ⟨rfl,hb3⟩;exact⟨rfl,⟨w3,y3k _ hb3⟩,rfl⟩)
  | (go_at_call 147;(with_reducible refine (HY4.o _).mono ?_);rintro e w3 ⟨rfl,hb3⟩;exact⟨rfl,⟨w3,y3k _ hb3⟩,rfl⟩)
  | (go_at_call 48;(with_reducible refine (HV.o _).mono ?_);rintro e w3 ⟨rfl,hb3⟩;exact⟨rfl,⟨w3,y3k _ hb3⟩,rfl⟩)))
 refine wpQuiet_nil ?_
 intro _ hw'
 obtain⟨nq,hw''⟩:=hw'
 subst hw''
 have HB1:=ZZ nq.h
 clear hne k0 k1 k2 k3 k4 k5 k6 k7 k8
 generalize nq.w=w1 at HB1 ⊢
 go_wp2_with fail
 go_loopw [3,4] (fun s i wr=>∃ (j:Nat) (S:ByteArray),i=.int .i64 (j:Int)∧j≤n∧s=.string S∧S=⟨(H0++(zl.map byB).take j).toArray⟩∧Bw w0 wr) (fun _ i _=>n - (intOf i).toNat)
 case atStart=>exact⟨0,_,rfl,Nat.zero_le _,rfl,by simp,HB1.o⟩
 case round =>
  obtain⟨j,S,rfl,hj,rfl,hS,hbel⟩:=hrel
  have HS:=ZZ hS
  have HBL:=ZZ hbel
  have CQ:=ZZ (zTr HB0.o hbel)
  have A8:=ZZ (Ah.o.on hbel Ah.o.lt)
  clear hS hbel
  obtain⟨c0,c1,c2,c3,c4,c5,c6,c7,c8⟩:=A8.o.ev
  by_cases hlt:j<n
  ·have j0:(j:Int)<(n:Int):=by omega
   obtain⟨z,b,q,hz,hidx,hb,cz,hwf⟩:=(HAT.o.below CQ.o).get Tryz.underlying60 z0f j hlt
   obtain⟨hz1,hz4⟩:=Ay.o z (zMg hz)
   have HBY:=ZZ (y3o z (by omega))
   have hadd:=y37 Tryz.prog (H0++(zl.map byB).take j) [byB z] (by rw[List.length_append,List.length_take];simp;omega)
   rw[← y5s hz,← HS.o] at hadd
   obtain⟨S',hS'⟩:∃ S':ByteArray,(⟨(H0++(zl.map byB).take (j+1)).toArray⟩:ByteArray)=S':=⟨_,rfl⟩
   rw[hS'] at hadd
   have HS':=ZZ hS'
   generalize (⟨[byB z].toArray⟩:ByteArray)=X at HBY hadd
   clear hz hS'
   go_wp2_with fail
   refine (HBY.o _).mono ?_
   rintro e w2 ⟨rfl,hb2⟩
   have HB2:=ZZ (zTr HBL.o hb2)
   clear hb2
   go_wp2_with fail
   go_roundw
   case rel=>exact⟨j+1,S',by go_num,by omega,rfl,HS'.o.symm,HB2.o⟩
   case measure=>simp[intOf];omega
  ·have hjn:j=n:=by omega
   have hadd:=y37 Tryz.prog (H0++zl.map byB) (y3a tx) (by have:=Dc.o;rw[List.length_append,List.length_map,HN.o];omega)
   have e1:(⟨(H0++zl.map byB).toArray⟩:ByteArray)=S:=by
    rw[HS.o,hjn,zTl (by rw[List.length_map,HN.o];exact Nat.le_refl _)]
   rw[e1] at hadd
   clear e1
   generalize (⟨(y3a tx).toArray⟩:ByteArray)=X at Cu hadd
   go_wp2_with fail
   refine (Cu.o _).mono ?_
   rintro e w2 ⟨rfl,hb2⟩
   have HB2:=ZZ (zTr CQ.o hb2)
   clear hb2
   go_wp2_with fail
   go_ret
   exact⟨by simp,HB2.o⟩

attribute [local go_sem ↓] Go.wp_at_zero Go.wp_at_succ

def etV (r:Option (Zbs)):Value:=match r with|some x=>.tuple #[.string ⟨x.toArray⟩,.bool true]|none=>.tuple #[.string ⟨#[]⟩,.bool false]

theorem y5i {e:EvV} (h:evOk e=false):etV (y43 e)=.tuple #[.string ⟨#[]⟩,.bool false]:=by simp[etV,y43,h]

theorem y4a {e:EvV} (h:evOk e=true):etV (y43 e)=.tuple #[.string ⟨(evB e).toArray⟩,.bool true]:=by simp[etV,y43,h]

theorem y5j (e:EvV):((varZ e.id++y3t e)++varB e.prev.length)++e.prev.flatMap varZ++varZ e.depth=evB e:=by simp[evB]

theorem y4m {e:EvV} (h:EvIn e):(y3t e).length≤60:=by
 have h1:=y3b e.levels.length
 have h2:=(y3g e.text).1
 have h3:=h.many
 have h4:=h.text
 simp[y3t]
 omega

theorem y4b (id kd sn us mb dp:Int) (oa:Zoa) (n cl:Nat) (tx:Zbs) (ob:Zoa) (m cp:Nat) (zl zp:Zin) (hx:tx.length≤1048576) (w:World) (hat:IntsAt w oa n cl zl) (hbt:IntsAt w ob m cp zp) :
  Calls Tryz.prog 50 #[z3e id kd sn us mb dp (.slice oa n cl) (.slice ob m cp) tx] w fun e w'=>e=.returned (etV (y43 (⟨id,kd,sn,us,mb,zl,tx,zp,dp⟩:EvV)))∧Bw w w':=by
 have hm:=hbt.len
 have Ab:=ZZ (fun w hat hbt=>z7s id kd sn us mb dp oa n cl tx ob m cp zl zp hx w hat hbt)
 have Ah:=ZZ (EB.new w id kd sn us mb dp (.slice oa n cl) (.slice ob m cp) tx)
 have hb0:=(Below.refl w.heap.size w).alloc zLe (.cells #[.int .i64 id,.int .i64 kd,.int .i64 sn,.int .i64 us,.int .i64 mb,.slice oa n cl,.string ⟨tx.toArray⟩,.slice ob m cp,.int .i64 dp] 62)
 have HB0:=ZZ hb0
 have Au:=ZZ (hat.below hb0)
 have Bo:=ZZ (hbt.below hb0)
 have HAT:=ZZ hat
 have AA:=ZZ hbt
 clear hat hbt hb0
 cases cok:evOk (⟨id,kd,sn,us,mb,zl,tx,zp,dp⟩:EvV) with
 | false =>
  rw[y5i cok]
  rw[cok] at Ab
  clear cok
  go_enter Tryz.func50,Tryz.ntmps50
  go_wp2_with fail
  refine (Ab.o _ Au.o Bo.o).mono ?_
  rintro e w1 ⟨rfl,hb1⟩
  go_wp2_with fail
  go_ret2
  exact⟨rfl,zTr HB0.o hb1⟩
 | true =>
  rw[y4a cok]
  have hin:=zhb cok
  rw[cok] at Ab
  clear cok
  have hid:=hin.id
  have hdp:=hin.depth
  have hpm:=hin.prevs
  have CR:=ZZ hin.prev
  have hbl:=y4m hin
  have BH:=ZZ (fun w hat=>y4l id kd sn us mb dp oa n cl tx ob m cp zl zp hin w hat)
  simp only at hid hdp hpm CR
  rw[← y5j]
  simp only
  rw[hm] at hpm ⊢
  generalize y3t (⟨id,kd,sn,us,mb,zl,tx,zp,dp⟩:EvV)=BO at hbl BH ⊢
  clear hin
  have hv1:=y36 id
  have hv2:=y3b m
  have f1:=y37 Tryz.prog (varZ id) BO (by omega)
  have f2:=y37 Tryz.prog (varZ id++BO) (varB m) (by simp;omega)
  have H1:=ZZ (y3h id (by omega) (by omega))
  rw[show varB id.toNat=varZ id from rfl] at H1
  have H2:=ZZ (y3z m (by omega))
  have hhl:((varZ id++BO)++varB m).length≤100:=by simp;omega
  generalize (varZ id++BO)++varB m=H0 at f2 hhl ⊢
  generalize (⟨(varZ id++BO).toArray⟩:ByteArray)=Y1 at f1 f2
  generalize (⟨(varZ id).toArray⟩:ByteArray)=X1 at f1 H1
  generalize (⟨BO.toArray⟩:ByteArray)=X2 at f1 BH
  generalize (⟨(varB m).toArray⟩:ByteArray)=X3 at f2 H2
  have H3:=ZZ (y3h dp (by omega) (by omega))
  rw[show varB dp.toNat=varZ dp from rfl] at H3
  have hv3:=y36 dp
  have HN:=ZZ hm
  clear hm
  go_enter Tryz.func50,Tryz.ntmps50
  go_wp2_with fail
  refine (Ab.o _ Au.o Bo.o).mono ?_
  rintro e w0 ⟨rfl,hb1⟩
  have A9:=ZZ (Ah.o.on hb1 Ah.o.lt)
  have HB1:=ZZ (zTr HB0.o hb1)
  clear hb1 Ah HB0 Au Bo
  go_wp2_with fail
  refine zn (F:=Bw w0) (by kernel_rfl) (by kernel_rfl) zBr.drew ?_
  have hne:Nonempty (InW (Bw w0)):=⟨⟨_,zBr⟩⟩
  have hev:=fun m:InW (Bw w0)=>(A9.o.on m.h A9.o.lt).ev
  have k0:=fun m=>(hev m).c0
  have k1:=fun m=>(hev m).c1
  have k2:=fun m=>(hev m).c2
  have k3:=fun m=>(hev m).c3
  have k4:=fun m=>(hev m).c4
  have k5:=fun m=>(hev m).c5
  have k6:=fun m=>(hev m).c6
  have k7:=fun m=>(hev m).c7
  have k8:=fun m=>(hev m).c8
  clear hev
  repeat (go_big_quiet_step (first
   | (go_at_call 48;with_reducible refine (H1.o _).mono ?_;rintro e w3 ⟨rfl,hb3⟩;exact⟨rfl,⟨w3,y3k _ hb3⟩,rfl⟩)
   | (go_at_call 48;with_reducible refine (H2.o _).mono ?_;rintro e w3 ⟨rfl,hb3⟩;exact⟨rfl,⟨w3,y3k _ hb3⟩,rfl⟩)
   | (go_at_call 99;refine (BH.o _ (HAT.o.below (y5h HB1.o _))).mono ?_;rintro e w3 ⟨rfl,hb3⟩;exact⟨rfl,⟨w3,y3k _ hb3⟩,rfl⟩)))
  refine wpQuiet_nil ?_
  intro _ hw'
  obtain⟨nq,hw''⟩:=hw'
  subst hw''
  have HB2:=ZZ nq.h
  clear hne k0 k1 k2 k3 k4 k5 k6 k7 k8
  generalize nq.w=w1 at HB2 ⊢
  go_wp2_with fail
  go_loopw [4,5] (fun s i wr=>∃ (j:Nat) (S:ByteArray),i=.int .i64 (j:Int)∧j≤m∧s=.string S∧S=⟨(H0++(zp.take j).flatMap varZ).toArray⟩∧Bw w0 wr) (fun _ i _=>m - (intOf i).toNat)
  case atStart=>exact⟨0,_,rfl,Nat.zero_le _,rfl,by simp,HB2.o⟩
  case round =>
   obtain⟨j,S,rfl,hj,rfl,hS,hbel⟩:=hrel
   have HS:=ZZ hS
   have HBL:=ZZ hbel
   have CQ:=ZZ (zTr HB1.o hbel)
   have A8:=ZZ (A9.o.on hbel A9.o.lt)
   have hvs:=y3q (zp.take j)
   rw[List.length_take] at hvs
   clear hS hbel
   obtain⟨c0,c1,c2,c3,c4,c5,c6,c7,c8⟩:=A8.o.ev
   by_cases hlt:j<m
   ·have j0:(j:Int)<(m:Int):=by omega
    obtain⟨z,b,q,hz,hidx,hb,cz,hwf⟩:=(AA.o.below CQ.o).get Tryz.underlying60 z0f j hlt
    obtain⟨hz1,hz4⟩:=CR.o z (zMg hz)
    have HBY:=ZZ (y3h z (by omega) (by omega))
    rw[show varB z.toNat=varZ z from rfl] at HBY
    have hvz:=y36 z
    have hadd:=y37 Tryz.prog (H0++(zp.take j).flatMap varZ) (varZ z) (by rw[List.length_append];omega)
    rw[List.append_assoc,← y4w hz,← HS.o] at hadd
    obtain⟨S',hS'⟩:∃ S':ByteArray,(⟨(H0++(zp.take (j+1)).flatMap varZ).toArray⟩:ByteArray)=S':=⟨_,rfl⟩
    rw[hS'] at hadd
    have HS':=ZZ hS'
    generalize (⟨(varZ z).toArray⟩:ByteArray)=X at HBY hadd
    clear hz hS' hvs hvz
    go_wp2_with fail
    refine (HBY.o _).mono ?_
    rintro e w2 ⟨rfl,hb2⟩
    have HB3:=ZZ (zTr HBL.o hb2)
    clear hb2
    go_wp2_with fail
    go_roundw
    case rel=>exact⟨j+1,S',by go_num,by omega,rfl,HS'.o.symm,HB3.o⟩
    case measure=>simp[intOf];omega
   ·have hjn:j=m:=by omega
    have hadd:=y37 Tryz.prog (H0++zp.flatMap varZ) (varZ dp) (by have:=y3q zp;have:=HN.o;rw[List.length_append];omega)
    have e1:(⟨(H0++zp.flatMap varZ).toArray⟩:ByteArray)=S:=by
     rw[HS.o,hjn,zTl (by rw[HN.o];exact Nat.le_refl _)]
    rw[e1] at hadd
    clear e1 hvs
    generalize (⟨(varZ dp).toArray⟩:ByteArray)=X at H3 hadd
    go_wp2_with fail
    refine (H3.o _).mono ?_
    rintro e w2 ⟨rfl,hb2⟩
    have HB3:=ZZ (zTr CQ.o hb2)
    clear hb2
    go_wp2_with fail
    go_ret2
    exact⟨by simp,HB3.o⟩

end Go.Proofs.YtfeebdcmlnapiaaGreat
