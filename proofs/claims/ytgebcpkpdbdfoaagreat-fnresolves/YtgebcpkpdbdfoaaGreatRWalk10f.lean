/-
  Walks.
-/
import Derived.Test.YtgebcpkpdbdfoaaGreatREv5
import Derived.Test.YtgebcpkpdbdfoaaGreatRShelf
import Derived.Test.YtgebcpkpdbdfoaaGreatRBase
import Derived.Deep.Cut
set_option linter.unusedVariables false
set_option linter.unusedSimpArgs false
namespace Go.Proofs.YtgebcpkpdbdfoaaGreat
open Go.RowKit P5 P9 P12 P14 K

theorem z9n {w:World} {n cap:Nat} {zs:List Int} (h:IntsAt w none n cap zs):zs=[]∧n=0:=by
 have:zs=[]:=by
  cases zs with
  | nil=>rfl
  | cons x r =>
   obtain⟨b,o,he,_⟩:=h.at_ 0 x rfl
   cases he
 subst this
 exact⟨rfl,by have:=h.len;simpa using this.symm⟩

theorem zcy (zs:List Int):∀ u∈zs.map zu,u.oneCell'=true:=by
 intro u hu
 obtain⟨z,_,rfl⟩:=List.mem_map.1 hu
 rfl

theorem z7x {P:Program} {w:World} (t ty e:TypeId) (i:TypeInfo) (ht:P.underlying t=some (.slice e)) (hi:P.info? e=some i) (oa:Option Addr) (n cap c:Nat) (hn:n≤cap) :
  (Builtin.append_ #[t,t] ty #[.slice oa n cap,.slice none 0 c]).run P w=.ok (.slice oa n cap) w:=by
 have hfc:(Builtin.firstCells i.size 0 (.slice none 0 c)).run P w=.ok #[] w:=by simp[Builtin.firstCells]
 cases oa with
 | none=>simp[Builtin.append_,run_underlying ht,sizeOf,typeInfo,hi,Builtin.lenOf,hfc,storeCells,hn]
 | some a=>simp[Builtin.append_,run_underlying ht,sizeOf,typeInfo,hi,Builtin.lenOf,hfc,storeCells,hn]

theorem z6m {w:World} {ops:Array Oper} {rest:List Oper} {o:Oper} {a:Act} {Q:Exit→Act→World→Prop} (hgd:o.guard=none) (sx x:Operand)
  (ho:o.op=.call { callee:=.builtin .append,args:=#[sx,x],argTypes:=#[32,32] })
  {base:Nat} {v:Value} {n:Nat} {xs:List Value} (hs:a.eval sx=v) (hown:w.ownsRow base 3 1 v n xs)
  {oa:Option Addr} {m cap:Nat} {zs:List Int} (hx:a.eval x=.slice oa m cap) (hat:IntsAt w oa m cap zs)
  (hbase:base≤w.heap.size) (h63:n+m≤maxLen) (hbytes:(n+m) * 8≤140737488355328)
  (h:∀ v' w',w'.ownsRow base 3 1 v' (n+m) (xs++zs.map zu)→w.grownBy w' v.ownBlock→wpList Tryz.prog ops Q rest (a.put o.dst v') w'):wpList Tryz.prog ops Q (o::rest) a w:=by
 obtain⟨i,hi,hz,h1,h2⟩:=info_parts z11
 cases oa with
 | none =>
  obtain⟨rfl,rfl⟩:=z9n hat
  refine wpList_plain hgd fun K hK=>?_
  obtain⟨ov,cv,hv,hnc⟩:∃ (oa:Option Addr) (cap:Nat),v=.slice oa n cap∧n≤cap:=by
   rcases hown.2 with ⟨h1,h2⟩|⟨g',cap,cur,h1,-,-,h5,-⟩
   ·exact⟨_,_,by rw[h1,h2],by omega⟩
   ·exact⟨_,_,h1,h5⟩
  subst hv
  have hr:=z7x (w:=w) 32 o.type 3 i Tryz.underlying32 hi ov n cv cap hnc
  unfold Oper.wp execOp
  simp only[ho,resolve,invoke,builtin,Sem.run_bind,Sem.run_pure,Result.andThen_ok,List.map_toArray,List.map_cons,List.map_nil,hs,hx,hr]
  exact hK _ _ (h _ _ (by simpa using hown) (World.grownBy.refl _ _))
 | some ad =>
  have hsp:ad.spot=none∨zs=[]:=by
   cases zs with
   | nil=>exact .inr rfl
   | cons y r =>
    obtain⟨b,o',he,_⟩:=hat.at_ 0 y rfl
    exact .inl (by cases he;rfl)
  refine wpList_append_own _ hgd sx x 32 ho base 3 i _ 1 8 Tryz.underlying32 hi hz h1 h2 rfl (by decide) v n xs hs hown ad m cap (zs.map zu) hx (by simp[hat.len]) ?_ (zcy zs) h63 hbytes hbase (fun v' w' h2 h3 _=>h v' w' h2 h3)
  intro j u hu
  rw[List.getElem?_map] at hu
  cases hz':zs[j]? with
  | none=>rw[hz'] at hu;cases hu
  | some z =>
   rw[hz'] at hu
   obtain⟨b,o',he,hc⟩:=hat.at_ j z hz'
   cases he
   cases hu
   rw[Addr.add_mid]
   exact hc

set_option maxRecDepth 100000 in
theorem zdr (oa:Option Addr) (n cap:Nat) (zs:List Int) (hn20:n≤1048576) (w:World) (hat:IntsAt w oa n cap zs) :
  Calls Tryz.prog 121 #[.slice oa n cap] w fun e w'=>∃ v,e=.returned v∧w'.ownsRow w.heap.size 3 1 v n (zs.map zu)∧Below w.heap.size w w':=by
 cases oa with
 | none =>
  obtain⟨rfl,rfl⟩:=z9n hat
  refine (Tryz.slices_Clone_int_nil 0 cap w).mono ?_
  rintro e w' ⟨rfl,rfl⟩
  exact⟨_,rfl,World.ownsRow_nil _ _ _ _,Below.refl _ _⟩
 | some ad =>
  by_cases hz:zs=[]
  ·subst hz
   have:n=0:=by have:=hat.len;simpa using this.symm
   subst this
   refine (Tryz.slices_Clone_int_zero ad cap w).mono ?_
   rintro e w' ⟨v,rfl,h1,_,h3⟩
   exact⟨v,rfl,h1,h3⟩
  ·obtain⟨b,o,he⟩:∃ b o,(some ad:Option Addr)=some ⟨b,o,none⟩:=by
    cases zs with
    | nil=>exact absurd rfl hz
    | cons y r=>obtain⟨b,o,he,_⟩:=hat.at_ 0 y rfl;exact⟨b,o,he⟩
   cases he
   have hl:=hat.len
   refine (Tryz.slices_Clone_int b o n cap zs w (by omega) (by omega) (fun j hj=>?_)).mono ?_
   ·obtain⟨b',o',he,hc⟩:=hat.at_ j zs[j] (List.getElem?_eq_getElem hj)
    cases he
    rw[hc]
    simp[List.getD_eq_getElem?_getD,List.getElem?_eq_getElem hj]
   ·rintro e w' ⟨v,rfl,h1,_,h3⟩
    rw[List.take_of_length_le (by omega)] at h1
    exact⟨v,rfl,h1,h3⟩

def zmf (w:World) (e:EvV) (r:Ending) (w':World):Prop :=
 ∃ vl vp,r=.returned (evv e vl vp)∧EvOwn w' w.heap.size vl vp e.levels.length e.prev.length e.levels e.prev∧Below w.heap.size w w'

theorem zid {w:World} {b1 b2:Nat} {e1 e2:TypeId} {k1 k2 n1 n2:Nat} {v1 v2:Value} {xs1 xs2:List Value} {w2:World} (h1:w.ownsRow b1 e1 k1 v1 n1 xs1) (h2:w2.ownsRow b2 e2 k2 v2 n2 xs2) (hb:w.heap.size≤b2):∀ k,v1.ownBlock=some k→v2.ownBlock≠some k:=by
 intro k q1 q2
 have:=(h1.lt k q1).2
 have:=(h2.lt k q2).1
 omega

end Go.Proofs.YtgebcpkpdbdfoaaGreat

namespace Go.Proofs.YtgebcpkpdbdfoaaGreat
open Go.RowKit P5 P9 P12 P14 K

set_option maxHeartbeats 8000000 in
theorem zfm (e:EvV) (xa:Option Addr) (xc:Nat) (ya:Option Addr) (yc:Nat) (h1:e.levels.length≤1048576) (h2:e.text.length≤1048576) (h3:e.prev.length≤1048576) (w:World) (hx:IntsAt w xa e.levels.length xc e.levels) (hy:IntsAt w ya e.prev.length yc e.prev) :
  Calls Tryz.prog 69 #[evv e (.slice xa e.levels.length xc) (.slice ya e.prev.length yc)] w (zmf w e):=by
 have hb0:=((Below.refl w.heap.size w).alloc (Nat.le_refl _) (.cells (zh e.id e.kind e.sender e.user e.member e.depth (.slice xa e.levels.length xc) (.slice ya e.prev.length yc) e.text) 47)).alloc (by simp) (.cells (zh 0 0 0 0 0 0 (.slice none 0 0) (.slice none 0 0) []) 47)
 have Ar:=hide ((EB.new w e.id e.kind e.sender e.user e.member e.depth (.slice xa e.levels.length xc) (.slice ya e.prev.length yc) e.text).on ((Below.refl _ _).alloc (Nat.le_refl _) (.cells (zh 0 0 0 0 0 0 (.slice none 0 0) (.slice none 0 0) []) 47)) (by simp))
 have Al:=hide (show EB ((w.alloc (.cells (zh e.id e.kind e.sender e.user e.member e.depth (.slice xa e.levels.length xc) (.slice ya e.prev.length yc) e.text) 47)).alloc (.cells (zh 0 0 0 0 0 0 (.slice none 0 0) (.slice none 0 0) []) 47)) (w.heap.size+1) 0 0 0 0 0 0 (.slice none 0 0) (.slice none 0 0) [] by
  have:=EB.new (w.alloc (.cells (zh e.id e.kind e.sender e.user e.member e.depth (.slice xa e.levels.length xc) (.slice ya e.prev.length yc) e.text) 47)) 0 0 0 0 0 0 (.slice none 0 0) (.slice none 0 0) []
  rw[World.size_alloc] at this
  exact this)
 have HX0:=hide (hx.below (hb0.alloc (by simp;omega) (.cells #[] 3)))
 have GR:=hide hy
 have HB0:=hide hb0
 clear hb0 hx hy
 obtain⟨id,kd,sn,us,mb,zl,tx,zp,dp⟩:=e
 simp only at *
 obtain⟨n,hn⟩:∃ n,zl.length=n:=⟨_,rfl⟩
 obtain⟨m,hm⟩:∃ m,zp.length=m:=⟨_,rfl⟩
 rw[hn] at HX0 Ar Al HB0 h1
 rw[hm] at GR Ar Al HB0 HX0 h3
 have HZ0:=hide (show ((w.alloc (.cells #[.int .i64 id,.int .i64 kd,.int .i64 sn,.int .i64 us,.int .i64 mb,.slice xa n xc,.string ⟨tx.toArray⟩,.slice ya m yc,.int .i64 dp] 47)).alloc (.cells #[.int .i64 0,.int .i64 0,.int .i64 0,.int .i64 0,.int .i64 0,.slice none 0 0,.string ⟨#[]⟩,.slice none 0 0,.int .i64 0] 47)).heap.size=w.heap.size+1+1 by simp)
 have HOW:=hide (show (((w.alloc (.cells #[.int .i64 id,.int .i64 kd,.int .i64 sn,.int .i64 us,.int .i64 mb,.slice xa n xc,.string ⟨tx.toArray⟩,.slice ya m yc,.int .i64 dp] 47)).alloc (.cells #[.int .i64 0,.int .i64 0,.int .i64 0,.int .i64 0,.int .i64 0,.slice none 0 0,.string ⟨#[]⟩,.slice none 0 0,.int .i64 0] 47)).alloc (.cells #[] 3)).ownsRow (w.heap.size+1+1) 3 1 (.slice (some ⟨w.heap.size+1+1,0,none⟩) 0 0) 0 [] by
  have:=World.ownsRow_made (w:=((w.alloc (.cells #[.int .i64 id,.int .i64 kd,.int .i64 sn,.int .i64 us,.int .i64 mb,.slice xa n xc,.string ⟨tx.toArray⟩,.slice ya m yc,.int .i64 dp] 47)).alloc (.cells #[.int .i64 0,.int .i64 0,.int .i64 0,.int .i64 0,.int .i64 0,.slice none 0 0,.string ⟨#[]⟩,.slice none 0 0,.int .i64 0] 47))) (e:=3) (size:=1) #[] 0 (Nat.le_refl _) (by decide) rfl
  simpa using this)
 rw[hn,hm]
 have HN:=hide hn
 have HM:=hide hm
 clear hn hm
 go_enter Tryz.func69,Tryz.ntmps69
 go_upto_region 2 with (at_builtin;refine z6m rfl _ _ rfl rfl HOW.out rfl HX0.out (by first|(simp;done)|(simp;omega)) (by unfold maxLen;omega) (by omega) ?_;intro v1 w1 ho1 hg1;rw[Nat.zero_add] at ho1;obtain⟨o1,c1,rfl⟩:=zb ho1;have hg1':World.grownBy _ w1 (some (w.heap.size+1+1)):=hg1;have Ah:=hide ((Ar.out.on ((Below.refl _ _).alloc (Nat.le_refl _) (.cells #[] 3)) Ar.out.lt).kept hg1' (fun q=>by have:=Option.some.inj q;omega));have HR1:=hide ((Al.out.on ((Below.refl _ _).alloc (Nat.le_refl _) (.cells #[] 3)) Al.out.lt).kept hg1' (fun q=>by have:=Option.some.inj q;omega));have HB1:=hide ((HB0.out.alloc HB0.out.size (.cells #[] 3)).grown hg1' (Nat.le_trans HB0.out.size (by simp)) (fun k hk=>by cases hk;omega));have BF:=hide ho1;have hz1:=hg1.size;clear hg1 hg1' ho1;obtain⟨a0,a1,a2,a3,a4,a5,a6,a7,a8⟩:=Ah.out.ev;have f5:=Ah.out.free 5)
 have HE2:=hide (Ah.out.put5 (.slice o1 n c1))
 have HR2:=hide (HR1.out.set (k:=5) (p:=w.heap.size) (.slice o1 n c1) (by omega))
 have HB2:=hide (HB1.out.setCell (p:=⟨w.heap.size,5,none⟩) (by simp) (.slice o1 n c1))
 have AA:=hide (z8c BF.out (p:=⟨w.heap.size,5,none⟩) (by show w.heap.size<w.heap.size+1+1;omega) (.slice o1 n c1))
 have hz2:w.heap.size+1+1+1≤(w1.setCell ⟨w.heap.size,5,none⟩ (.slice o1 n c1)).heap.size:=by simp at hz1 ⊢;omega
 clear a0 a1 a2 a3 a4 a5 a6 a7 a8 f5 Ah HR1 HB1 BF hz1 Ar Al HB0 HX0 HOW
 generalize w1.setCell ⟨w.heap.size,5,none⟩ (.slice o1 n c1)=w2 at HE2 HR2 HB2 AA hz2 ⊢
 have JG:=hide (GR.out.below (HB2.out.alloc HB2.out.size (.cells #[] 3)))
 have GU:=hide (World.ownsRow_made (w:=w2) (e:=3) (size:=1) #[] 0 (Nat.le_refl _) (by decide) rfl)
 obtain⟨a0,a1,a2,a3,a4,a5,a6,a7,a8⟩:=HE2.out.ev
 have hev2:=HE2.out.lt
 go_upto_region 3 with (at_builtin;refine z6m rfl _ _ rfl rfl GU.out rfl JG.out (by simp) (by unfold maxLen;omega) (by omega) ?_;intro v5 w5 ho5 hg5;rw[Nat.zero_add] at ho5;obtain⟨o5,c5,rfl⟩:=zb ho5;have hg5':World.grownBy _ w5 (some w2.heap.size):=hg5;have JH:=hide ((HE2.out.on ((Below.refl _ _).alloc (Nat.le_refl _) (.cells #[] 3)) HE2.out.lt).kept hg5' (fun q=>by have:=Option.some.inj q;omega));have GV:=hide ((HR2.out.on ((Below.refl _ _).alloc (Nat.le_refl _) (.cells #[] 3)) HR2.out.lt).kept hg5' (fun q=>by have:=Option.some.inj q;omega));have CP:=hide ((HB2.out.alloc HB2.out.size (.cells #[] 3)).grown hg5' (Nat.le_trans HB2.out.size (by simp)) (fun k hk=>by cases hk;omega));have Cj:=hide ((AA.out.alloc (.cells #[] 3)).kept hg5' (Or.inr (fun q=>by have:=(AA.out.lt _ q).2;omega)));have Ab:=hide (zid AA.out ho5 (Nat.le_refl _));have JI:=hide ho5;have hz5:=hg5.size;clear hg5 hg5' ho5;obtain⟨b0,b1,b2,b3,b4,b5,b6,b7,b8⟩:=JH.out.ev;have f7:=JH.out.free 7)
 clear a0 a1 a2 a3 a4 a5 a6 a7 a8
 have Av:=hide (JH.out.put7 (.slice o5 m c5))
 have Cx:=hide (GV.out.set (k:=7) (p:=w.heap.size) (.slice o5 m c5) (by omega))
 have CF:=hide (CP.out.setCell (p:=⟨w.heap.size,7,none⟩) (by simp) (.slice o5 m c5))
 have Dk:=hide (z8c Cj.out (p:=⟨w.heap.size,7,none⟩) (by show w.heap.size<w.heap.size+1+1;omega) (.slice o5 m c5))
 have EI:=hide (z8c JI.out (p:=⟨w.heap.size,7,none⟩) (by show w.heap.size<w2.heap.size;omega) (.slice o5 m c5))
 clear b0 b1 b2 b3 b4 b5 b6 b7 b8 f7 JH GV CP Cj JI HE2 HR2 HB2 JG GU
 generalize w5.setCell ⟨w.heap.size,7,none⟩ (.slice o5 m c5)=w6 at Av Cx CF Dk EI ⊢
 obtain⟨a0,a1,a2,a3,a4,a5,a6,a7,a8⟩:=Av.out.ev
 obtain⟨r0,r1,r2,r3,r4,r5,r6,r7,r8⟩:=Cx.out.ev
 have z0:=Cx.out.free 0
 have z1:=Cx.out.free 1
 have z2:=Cx.out.free 2
 have z3:=Cx.out.free 3
 have z4:=Cx.out.free 4
 have z5:=Cx.out.free 5
 have z6:=Cx.out.free 6
 have z7:=Cx.out.free 7
 have z8:=Cx.out.free 8
 go_wp2_with fail
 obtain⟨w7,hw7,hE7,hg7⟩:=Cx.out.all id kd sn us mb dp (.slice o1 n c1) (.slice o5 m c5) tx
 rw[hw7]
 obtain⟨q0,q1,q2,q3,q4,q5,q6,q7,q8⟩:=hE7.ev
 have hn:=HN.out
 have hm:=HM.out
 subst hn
 subst hm
 refine bodyPost_ret (v:=z2g id kd sn us mb dp (.slice o1 zl.length c1) (.slice o5 zp.length c5) tx) (by simp[results,Tryz.results69,go_sem,q0,q1,q2,q3,q4,q5,q6,q7,q8]) rfl ⟨_,_,rfl,⟨?_,?_,Ab.out⟩,?_⟩
 ·exact zq (Dk.out.kept hg7 (Or.inr (fun q=>by have:=Dk.out.lt (w.heap.size+1) q;omega))) (by omega)
 ·exact zq (EI.out.kept hg7 (Or.inr (fun q=>by have:=EI.out.lt (w.heap.size+1) q;omega))) (by omega)
 ·exact CF.out.grown hg7 (CF.out.size) (fun k hk=>by cases hk;omega)

end Go.Proofs.YtgebcpkpdbdfoaaGreat

namespace Go.Proofs.YtgebcpkpdbdfoaaGreat
open Go.RowKit P5 P9 P12 P14 K

def noEv:EvV:=⟨0,0,0,0,0,[],[],[],0⟩

def evKn (es:List EvV) (id:Int):EvV × Bool:=match zi es id with|some e=>(e,true)|none=>(noEv,false)

theorem z1f {es:List EvV} {id:Int} {e:EvV} (h:zi es id=some e):evKn es id=(e,true):=by unfold evKn;rw[h]

theorem z1g {es:List EvV} {id:Int} (h:zi es id=none):evKn es id=(noEv,false):=by unfold evKn;rw[h]

theorem zcz {es:List EvV} {j:Nat} {e:EvV} (id:Int) (h:es[j]? = some e):zi (es.drop j) id=if e.id=id then some e else zi (es.drop (j+1)) id:=by
 obtain⟨hj,rfl⟩:=List.getElem?_eq_some_iff.1 h
 rw[List.drop_eq_getElem_cons hj]
 rfl

theorem zie {es:List EvV} (h:FineE es) (id:Int):(evKn es id).1.levels.length≤1048576∧(evKn es id).1.text.length≤1048576∧(evKn es id).1.prev.length≤1048576:=by
 cases hf:zi es id with
 | none=>rw[z1g hf];simp[noEv]
 | some e=>rw[z1f hf];exact h.one (z2c hf).1

def z9o (w:World) (e:EvV) (ok:Bool) (r:Ending) (w':World):Prop :=
 ∃ xa xc ya yc,r=.returned (.tuple #[evv e (.slice xa e.levels.length xc) (.slice ya e.prev.length yc),.bool ok])∧IntsAt w' xa e.levels.length xc e.levels∧IntsAt w' ya e.prev.length yc e.prev∧Below w.heap.size w w'

def zef (w0 w:World) (e:EvV) (ok:Bool) (r:Ending) (w':World):Prop :=
 ∃ xa xc ya yc,r=.returned (.tuple #[evv e (.slice xa e.levels.length xc) (.slice ya e.prev.length yc),.bool ok])∧IntsAt w0 xa e.levels.length xc e.levels∧IntsAt w0 ya e.prev.length yc e.prev∧Below w.heap.size w w'

set_option maxHeartbeats 4000000 in
theorem z9e (w0:World) (oa:Option Addr) (n cap:Nat) (es:List EvV) (id:Int) (w:World) (hat:EvsAt w0 oa n cap es) (hb00:Below w0.heap.size w0 w) :
  Calls Tryz.prog 48 #[.slice oa n cap,.int .i64 id] w (zef w0 w (evKn es id).1 (evKn es id).2):=by
 have DR:=hide hb00
 clear hb00
 have hmx:=Nat.le_trans hat.room hat.most
 unfold maxLen at hmx
 have HN:=hide hat.len
 have HAT:=hide hat
 have Al:=hide (EB.new w 0 0 0 0 0 0 (.slice none 0 0) (.slice none 0 0) [])
 have HB0:=hide ((Below.refl w.heap.size w).alloc (Nat.le_refl _) (.cells (zh 0 0 0 0 0 0 (.slice none 0 0) (.slice none 0 0) []) 47))
 obtain⟨R,hR⟩:∃ R,evKn es id=R:=⟨_,rfl⟩
 rw[hR]
 have CQ:=hide (show ∀ x,zi es id=some x→R=(x,true) from fun x hx=>by rw[← hR];exact z1f hx)
 have Dp:=hide (show zi es id=none→R=(noEv,false) from fun hx=>by rw[← hR];exact z1g hx)
 clear hat hR
 go_enter Tryz.func48,Tryz.ntmps48
 go_wp2_with fail
 go_loopw [10] (fun i wr=>∃ (j:Nat),i=.int .i64 (j:Int)∧j≤n∧zi (es.drop j) id=zi es id∧EB wr w.heap.size 0 0 0 0 0 0 (.slice none 0 0) (.slice none 0 0) []∧Below w.heap.size w wr) (fun i _=>n - (intOf i).toNat)
 case atStart=>exact⟨0,rfl,Nat.zero_le _,rfl,Al.out,HB0.out⟩
 case round =>
  obtain⟨j,rfl,hj,hrest,hres,hbel⟩:=hrel
  have Aq:=hide hres
  have hsz:=hbel.size
  have hlt0:=hres.lt
  clear hres
  by_cases hlt:j<n
  ·have j0:(j:Int)<(n:Int):=by omega
   obtain⟨e,b,q,xa,xc,ya,yc,he,hidx,hev⟩:=HAT.out.get Tryz.underlying24 z1p j hlt
   obtain⟨c0,c1,c2,c3,c4,c5,c6,c7,c8⟩:=(hev.below (DR.out.trans (hbel.mono DR.out.size))).cs
   rw[zcz id he] at hrest
   have Af:=hide hev
   clear hev he
   by_cases hk:e.id=id
   ·have g:(e.id==id)=true:=by simpa using hk
    rw[if_pos hk] at hrest
    have hRe:=CQ.out e hrest.symm
    subst hRe
    clear hk hrest Dp CQ
    obtain⟨r0,r1,r2,r3,r4,r5,r6,r7,r8⟩:=Aq.out.ev
    have z0:=Aq.out.free 0
    have z1:=Aq.out.free 1
    have z2:=Aq.out.free 2
    have z3:=Aq.out.free 3
    have z4:=Aq.out.free 4
    have z5:=Aq.out.free 5
    have z6:=Aq.out.free 6
    have z7:=Aq.out.free 7
    have z8:=Aq.out.free 8
    go_wp2_with fail
    obtain⟨w7,hw7,hE7,hg7⟩:=Aq.out.all e.id e.kind e.sender e.user e.member e.depth (.slice xa e.levels.length xc) (.slice ya e.prev.length yc) e.text
    rw[hw7]
    have hB7:=hbel.grown hg7 hsz (fun k hk=>by cases hk;exact Nat.le_refl _)
    have hBA:=(Below.refl w7.heap.size w7).alloc (Nat.le_refl _) (.cells (zh e.id e.kind e.sender e.user e.member e.depth (.slice xa e.levels.length xc) (.slice ya e.prev.length yc) e.text) 47)
    obtain⟨q0,q1,q2,q3,q4,q5,q6,q7,q8⟩:=(hE7.on hBA hE7.lt).ev
    have hB8:=hB7.trans (hBA.mono hB7.size)
    exact bodyPost_ret (v:=.tuple #[evv e (.slice xa e.levels.length xc) (.slice ya e.prev.length yc),.bool true]) (by simp[results,Tryz.results48,go_sem,q0,q1,q2,q3,q4,q5,q6,q7,q8]) rfl ⟨xa,xc,ya,yc,rfl,Af.out.lev,Af.out.prv,hB8⟩
   ·have g:(e.id==id)=false:=by simpa using hk
    rw[if_neg hk] at hrest
    have HR:=hide hrest
    clear hk hrest
    have BN:=hide ((Below.refl wr.heap.size wr).alloc (Nat.le_refl _) (.cells (zh e.id e.kind e.sender e.user e.member e.depth (.slice xa e.levels.length xc) (.slice ya e.prev.length yc) e.text) 47))
    have HR1:=hide (Aq.out.on BN.out Aq.out.lt)
    have HB1:=hide (hbel.trans (BN.out.mono hsz))
    go_wp2_with fail
    go_roundw
    case rel=>exact⟨j+1,by go_num,by omega,HR.out,HR1.out,HB1.out⟩
    case measure=>simp[intOf];omega
  ·have hjn:j=n:=by omega
   have hnone:zi es id=none:=by rw[← hrest,hjn,← HN.out,List.drop_length];rfl
   have hRe:=Dp.out hnone
   subst hRe
   clear hrest hnone CQ Dp
   obtain⟨r0,r1,r2,r3,r4,r5,r6,r7,r8⟩:=Aq.out.ev
   have z0:=Aq.out.free 0
   have z1:=Aq.out.free 1
   have z2:=Aq.out.free 2
   have z3:=Aq.out.free 3
   have z4:=Aq.out.free 4
   have z5:=Aq.out.free 5
   have z6:=Aq.out.free 6
   have z7:=Aq.out.free 7
   have z8:=Aq.out.free 8
   go_wp2_with fail
   obtain⟨w7,hw7,hE7,hg7⟩:=Aq.out.all 0 0 0 0 0 0 (.slice none 0 0) (.slice none 0 0) []
   try rw[hw7]
   obtain⟨q0,q1,q2,q3,q4,q5,q6,q7,q8⟩:=hE7.ev
   have hB7:=hbel.grown hg7 hsz (fun k hk=>by cases hk;exact Nat.le_refl _)
   exact bodyPost_ret (v:=.tuple #[evv noEv (.slice none 0 0) (.slice none 0 0),.bool false]) (by simp[results,Tryz.results48,go_sem,q0,q1,q2,q3,q4,q5,q6,q7,q8,noEv]) rfl ⟨none,0,none,0,rfl,z4b _,z4b _,hB7⟩

theorem zeg (oa:Option Addr) (n cap:Nat) (es:List EvV) (id:Int) (w:World) (hat:EvsAt w oa n cap es) :
  Calls Tryz.prog 48 #[.slice oa n cap,.int .i64 id] w (z9o w (evKn es id).1 (evKn es id).2) :=
 (z9e w oa n cap es id w hat (Below.refl _ _)).mono fun r w' ⟨xa,xc,ya,yc,h1,h2,h3,h4⟩=>⟨xa,xc,ya,yc,h1,h2.below h4,h3.below h4,h4⟩

set_option maxHeartbeats 4000000 in
theorem z5e (w0:World) (oa:Option Addr) (n cap:Nat) (es:List EvV) (id:Int) (w:World) (hat:EvsAt w0 oa n cap es) (hb00:Below w0.heap.size w0 w) :
  Calls Tryz.prog 54 #[.slice oa n cap,.int .i64 id] w (zef w0 w (evKn es id).1 (evKn es id).2):=by
 have DR:=hide hb00
 clear hb00
 have hmx:=Nat.le_trans hat.room hat.most
 unfold maxLen at hmx
 have HN:=hide hat.len
 have HAT:=hide hat
 have Al:=hide (EB.new w 0 0 0 0 0 0 (.slice none 0 0) (.slice none 0 0) [])
 have HB0:=hide ((Below.refl w.heap.size w).alloc (Nat.le_refl _) (.cells (zh 0 0 0 0 0 0 (.slice none 0 0) (.slice none 0 0) []) 47))
 obtain⟨R,hR⟩:∃ R,evKn es id=R:=⟨_,rfl⟩
 rw[hR]
 have CQ:=hide (show ∀ x,zi es id=some x→R=(x,true) from fun x hx=>by rw[← hR];exact z1f hx)
 have Dp:=hide (show zi es id=none→R=(noEv,false) from fun hx=>by rw[← hR];exact z1g hx)
 clear hat hR
 go_enter Tryz.func54,Tryz.ntmps54
 go_wp2_with fail
 go_loopw [6] (fun i wr=>∃ (j:Nat),i=.int .i64 (j:Int)∧j≤n∧zi (es.drop j) id=zi es id∧EB wr w.heap.size 0 0 0 0 0 0 (.slice none 0 0) (.slice none 0 0) []∧Below w.heap.size w wr) (fun i _=>n - (intOf i).toNat)
 case atStart=>exact⟨0,rfl,Nat.zero_le _,rfl,Al.out,HB0.out⟩
 case round =>
  obtain⟨j,rfl,hj,hrest,hres,hbel⟩:=hrel
  have Aq:=hide hres
  have hsz:=hbel.size
  have hlt0:=hres.lt
  clear hres
  by_cases hlt:j<n
  ·have j0:(j:Int)<(n:Int):=by omega
   obtain⟨e,b,q,xa,xc,ya,yc,he,hidx,hev⟩:=HAT.out.get Tryz.underlying24 z1p j hlt
   obtain⟨c0,c1,c2,c3,c4,c5,c6,c7,c8⟩:=(hev.below (DR.out.trans (hbel.mono DR.out.size))).cs
   rw[zcz id he] at hrest
   have Af:=hide hev
   clear hev he
   by_cases hk:e.id=id
   ·have g:(e.id==id)=true:=by simpa using hk
    rw[if_pos hk] at hrest
    have hRe:=CQ.out e hrest.symm
    subst hRe
    clear hk hrest Dp CQ
    obtain⟨r0,r1,r2,r3,r4,r5,r6,r7,r8⟩:=Aq.out.ev
    have z0:=Aq.out.free 0
    have z1:=Aq.out.free 1
    have z2:=Aq.out.free 2
    have z3:=Aq.out.free 3
    have z4:=Aq.out.free 4
    have z5:=Aq.out.free 5
    have z6:=Aq.out.free 6
    have z7:=Aq.out.free 7
    have z8:=Aq.out.free 8
    go_wp2_with fail
    obtain⟨w7,hw7,hE7,hg7⟩:=Aq.out.all e.id e.kind e.sender e.user e.member e.depth (.slice xa e.levels.length xc) (.slice ya e.prev.length yc) e.text
    rw[hw7]
    have hB7:=hbel.grown hg7 hsz (fun k hk=>by cases hk;exact Nat.le_refl _)
    obtain⟨q0,q1,q2,q3,q4,q5,q6,q7,q8⟩:=hE7.ev
    have hB8:=hB7
    exact bodyPost_ret (v:=.tuple #[evv e (.slice xa e.levels.length xc) (.slice ya e.prev.length yc),.bool true]) (by simp[results,Tryz.results54,go_sem,q0,q1,q2,q3,q4,q5,q6,q7,q8]) rfl ⟨xa,xc,ya,yc,rfl,Af.out.lev,Af.out.prv,hB8⟩
   ·have g:(e.id==id)=false:=by simpa using hk
    rw[if_neg hk] at hrest
    have HR:=hide hrest
    clear hk hrest
    go_wp2_with fail
    go_roundw
    case rel=>exact⟨j+1,by go_num,by omega,HR.out,Aq.out,hbel⟩
    case measure=>simp[intOf];omega
  ·have hjn:j=n:=by omega
   have hnone:zi es id=none:=by rw[← hrest,hjn,← HN.out,List.drop_length];rfl
   have hRe:=Dp.out hnone
   subst hRe
   clear hrest hnone CQ Dp
   obtain⟨r0,r1,r2,r3,r4,r5,r6,r7,r8⟩:=Aq.out.ev
   have z0:=Aq.out.free 0
   have z1:=Aq.out.free 1
   have z2:=Aq.out.free 2
   have z3:=Aq.out.free 3
   have z4:=Aq.out.free 4
   have z5:=Aq.out.free 5
   have z6:=Aq.out.free 6
   have z7:=Aq.out.free 7
   have z8:=Aq.out.free 8
   go_wp2_with fail
   obtain⟨w7,hw7,hE7,hg7⟩:=Aq.out.all 0 0 0 0 0 0 (.slice none 0 0) (.slice none 0 0) []
   try rw[hw7]
   obtain⟨q0,q1,q2,q3,q4,q5,q6,q7,q8⟩:=hE7.ev
   have hB7:=hbel.grown hg7 hsz (fun k hk=>by cases hk;exact Nat.le_refl _)
   exact bodyPost_ret (v:=.tuple #[evv noEv (.slice none 0 0) (.slice none 0 0),.bool false]) (by simp[results,Tryz.results54,go_sem,q0,q1,q2,q3,q4,q5,q6,q7,q8,noEv]) rfl ⟨none,0,none,0,rfl,z4b _,z4b _,hB7⟩

theorem z4c (oa:Option Addr) (n cap:Nat) (es:List EvV) (id:Int) (w:World) (hat:EvsAt w oa n cap es) :
  Calls Tryz.prog 54 #[.slice oa n cap,.int .i64 id] w (z9o w (evKn es id).1 (evKn es id).2) :=
 (z5e w oa n cap es id w hat (Below.refl _ _)).mono fun r w' ⟨xa,xc,ya,yc,h1,h2,h3,h4⟩=>⟨xa,xc,ya,yc,h1,h2.below h4,h3.below h4,h4⟩

end Go.Proofs.YtgebcpkpdbdfoaaGreat
