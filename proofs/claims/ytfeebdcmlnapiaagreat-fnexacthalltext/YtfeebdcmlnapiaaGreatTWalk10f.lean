/-
  Walks.
-/
import Derived.Test.YtfeebdcmlnapiaaGreatTEv3
import Derived.Test.YtfeebdcmlnapiaaGreatTShelf
set_option maxRecDepth 100000
set_option maxHeartbeats 4000000
set_option linter.unusedVariables false
set_option linter.unusedSimpArgs false
namespace Go.Proofs.YtfeebdcmlnapiaaGreat
open Go.RowKit P1 P5 P9 P11 P12 P14 K
theorem zcv {w:World} {n cap:Nat} {zs:Zin} (h:IntsAt w none n cap zs):zs=[]∧n=0:=by
 have:zs=[]:=by
  cases zs with
  | nil=>rfl
  | cons x r =>
   obtain⟨b,o,he,_⟩:=h.at_ 0 x rfl
   cases he
 subst this
 exact⟨rfl,by have:=h.len;simpa using this.symm⟩

theorem zjq (zs:Zin):∀ u∈zs.map z03,u.oneCell'=true:=by
 intro u hu
 obtain⟨z,_,rfl⟩:=List.mem_map.1 hu
 rfl

theorem zb6 {P:Program} {w:World} (t ty e:TypeId) (i:TypeInfo) (ht:P.underlying t=some (.slice e)) (hi:P.info? e=some i) (oa:Zoa) (n cap c:Nat) (hn:n≤cap) :
  (Builtin.append_ #[t,t] ty #[.slice oa n cap,.slice none 0 c]).run P w=.ok (.slice oa n cap) w:=by
 have hfc:(Builtin.firstCells i.size 0 (.slice none 0 c)).run P w=.ok #[] w:=by simp[Builtin.firstCells]
 cases oa with
 | none=>simp[Builtin.append_,run_underlying ht,sizeOf,typeInfo,hi,Builtin.lenOf,hfc,storeCells,hn]
 | some a=>simp[Builtin.append_,run_underlying ht,sizeOf,typeInfo,hi,Builtin.lenOf,hfc,storeCells,hn]

theorem zdq (oa:Zoa) (n cap:Nat) (zs:Zin) (hn20:n≤1048576) (w:World) (hat:IntsAt w oa n cap zs) :
  Calls Tryz.prog 222 #[.slice oa n cap] w fun e w'=>∃ v,e=.returned v∧w'.ownsRow w.heap.size 3 1 v n (zs.map z03)∧Bw w w':=by
 cases oa with
 | none =>
  obtain⟨rfl,rfl⟩:=zcv hat
  refine (Tryz.slices_Clone_int_nil 0 cap w).mono ?_
  rintro e w' ⟨rfl,rfl⟩
  exact⟨_,rfl,World.ownsRow_nil _ _ _ _,zBr⟩
 | some ad =>
  by_cases hz:zs=[]
  ·subst hz
   have:n=0:=by have:=hat.len;simpa using this.symm
   subst this
   refine (Tryz.slices_Clone_int_zero ad cap w).mono ?_
   rintro e w' ⟨v,rfl,h1,_,h3⟩
   exact⟨v,rfl,h1,h3⟩
  ·obtain⟨b,o,he⟩:∃ b o,(some ad:Zoa)=some ⟨b,o,none⟩:=by
    cases zs with
    | nil=>exact absurd rfl hz
    | cons y r=>obtain⟨b,o,he,_⟩:=hat.at_ 0 y rfl;exact⟨b,o,he⟩
   cases he
   have hl:=hat.len
   refine (Tryz.slices_Clone_int b o n cap zs w (by omega) (by omega) (fun j hj=>?_)).mono ?_
   ·obtain⟨b',o',he,hc⟩:=hat.at_ j zs[j] (List.getElem?_eq_getElem hj)
    cases he
    rw[hc]
    simp[List.getD_eq_getElem?_getD,List.getElem?_eq_getElem hj]
   ·rintro e w' ⟨v,rfl,h1,_,h3⟩
    rw[zTl (by omega)] at h1
    exact⟨v,rfl,h1,h3⟩

def noEv:EvV:=⟨0,0,0,0,0,[],[],[],0⟩

def evKn (es:List EvV) (id:Int):EvV × Bool:=match zf es id with|some e=>(e,true)|none=>(noEv,false)

theorem z15 {es:List EvV} {id:Int} {e:EvV} (h:zf es id=some e):evKn es id=(e,true):=by unfold evKn;rw[h]

theorem z16 {es:List EvV} {id:Int} (h:zf es id=none):evKn es id=(noEv,false):=by unfold evKn;rw[h]

theorem zcw {es:List EvV} {j:Nat} {e:EvV} (id:Int) (h:es[j]? = some e):zf (es.drop j) id=if e.id=id then some e else zf (es.drop (j+1)) id:=by
 obtain⟨hj,rfl⟩:=zGi.1 h
 rw[List.drop_eq_getElem_cons hj]
 rfl

theorem zjr {es:List EvV} (h:FineE es) (id:Int):(evKn es id).1.levels.length≤1048576∧(evKn es id).1.text.length≤1048576∧(evKn es id).1.prev.length≤1048576:=by
 cases hf:zf es id with
 | none=>rw[z16 hf];simp[noEv]
 | some e=>rw[z15 hf];exact h.one (z2h hf).1

def z9j (w:World) (e:EvV) (ok:Bool) (r:Ending) (w':World):Prop :=
 ∃ xa xc ya yc,r=.returned (.tuple #[evv e (.slice xa e.levels.length xc) (.slice ya e.prev.length yc),.bool ok])∧IntsAt w' xa e.levels.length xc e.levels∧IntsAt w' ya e.prev.length yc e.prev∧Bw w w'

def zem (w0 w:World) (e:EvV) (ok:Bool) (r:Ending) (w':World):Prop :=
 ∃ xa xc ya yc,r=.returned (.tuple #[evv e (.slice xa e.levels.length xc) (.slice ya e.prev.length yc),.bool ok])∧IntsAt w0 xa e.levels.length xc e.levels∧IntsAt w0 ya e.prev.length yc e.prev∧Bw w w'

theorem z9a (w0:World) (oa:Zoa) (n cap:Nat) (es:List EvV) (id:Int) (w:World) (hat:EvsAt w0 oa n cap es) (hb00:Bw w0 w) :
  Calls Tryz.prog 173 #[.slice oa n cap,.int .i64 id] w (zem w0 w (evKn es id).1 (evKn es id).2):=by
 have Cx:=ZZ hb00
 clear hb00
 have hmx:=zNt hat.room hat.most
 unfold maxLen at hmx
 have HN:=ZZ hat.len
 have HAT:=ZZ hat
 have Ad:=ZZ (EB.new w 0 0 0 0 0 0 (.slice none 0 0) (.slice none 0 0) [])
 have HB0:=ZZ ((Below.refl w.heap.size w).alloc zLe (.cells (zk 0 0 0 0 0 0 (.slice none 0 0) (.slice none 0 0) []) 62))
 obtain⟨R,hR⟩:∃ R,evKn es id=R:=⟨_,rfl⟩
 rw[hR]
 have BR:=ZZ (show ∀ x,zf es id=some x→R=(x,true) from fun x hx=>by rw[← hR];exact z15 hx)
 have Ce:=ZZ (show zf es id=none→R=(noEv,false) from fun hx=>by rw[← hR];exact z16 hx)
 clear hat hR
 go_enter Tryz.func173,Tryz.ntmps173
 go_wp2_with fail
 go_loopw [10] (fun i wr=>∃ (j:Nat),i=.int .i64 (j:Int)∧j≤n∧zf (es.drop j) id=zf es id∧EB wr w.heap.size 0 0 0 0 0 0 (.slice none 0 0) (.slice none 0 0) []∧Bw w wr) (fun i _=>n - (intOf i).toNat)
 case atStart=>exact⟨0,rfl,Nat.zero_le _,rfl,Ad.o,HB0.o⟩
 case round =>
  obtain⟨j,rfl,hj,hrest,hres,hbel⟩:=hrel
  have Ae:=ZZ hres
  have hsz:=hbel.size
  have hlt0:=hres.lt
  clear hres
  by_cases hlt:j<n
  ·have j0:(j:Int)<(n:Int):=by omega
   obtain⟨e,b,q,xa,xc,ya,yc,he,hidx,hev⟩:=HAT.o.get Tryz.underlying29 z2t j hlt
   obtain⟨c0,c1,c2,c3,c4,c5,c6,c7,c8⟩:=(hev.below (zTr Cx.o hbel)).cs
   rw[zcw id he] at hrest
   have A8:=ZZ hev
   clear hev he
   by_cases hk:e.id=id
   ·have g:(e.id==id)=true:=by simpa using hk
    rw[if_pos hk] at hrest
    have hRe:=BR.o e hrest.symm
    subst hRe
    clear hk hrest Ce BR
    obtain⟨r0,r1,r2,r3,r4,r5,r6,r7,r8⟩:=Ae.o.ev
    have z0:=Ae.o.free 0
    have z1:=Ae.o.free 1
    have z2:=Ae.o.free 2
    have z3:=Ae.o.free 3
    have z4:=Ae.o.free 4
    have z5:=Ae.o.free 5
    have z6:=Ae.o.free 6
    have z7:=Ae.o.free 7
    have z8:=Ae.o.free 8
    go_wp2_with fail
    obtain⟨w7,hw7,hE7,hg7⟩:=Ae.o.all e.id e.kind e.sender e.user e.member e.depth (.slice xa e.levels.length xc) (.slice ya e.prev.length yc) e.text
    rw[hw7]
    have hB7:=hbel.grown hg7 hsz (fun k hk=>by cases hk;exact Nat.le_refl _)
    have hBA:=(Below.refl w7.heap.size w7).alloc zLe (.cells (zk e.id e.kind e.sender e.user e.member e.depth (.slice xa e.levels.length xc) (.slice ya e.prev.length yc) e.text) 62)
    obtain⟨q0,q1,q2,q3,q4,q5,q6,q7,q8⟩:=(hE7.on hBA hE7.lt).ev
    have hB8:=zTr hB7 hBA
    exact bodyPost_ret (v:=.tuple #[evv e (.slice xa e.levels.length xc) (.slice ya e.prev.length yc),.bool true]) (by simp[results,Tryz.results173,go_sem,q0,q1,q2,q3,q4,q5,q6,q7,q8]) rfl ⟨xa,xc,ya,yc,rfl,A8.o.lev,A8.o.prv,hB8⟩
   ·have g:(e.id==id)=false:=by simpa using hk
    rw[if_neg hk] at hrest
    have HR:=ZZ hrest
    clear hk hrest
    have Bh:=ZZ ((Below.refl wr.heap.size wr).alloc zLe (.cells (zk e.id e.kind e.sender e.user e.member e.depth (.slice xa e.levels.length xc) (.slice ya e.prev.length yc) e.text) 62))
    have HR1:=ZZ (Ae.o.on Bh.o Ae.o.lt)
    have HB1:=ZZ (hbel.trans (Bh.o.mono hsz))
    go_wp2_with fail
    go_roundw
    case rel=>exact⟨j+1,by go_num,by omega,HR.o,HR1.o,HB1.o⟩
    case measure=>simp[intOf];omega
  ·have hjn:j=n:=by omega
   have hnone:zf es id=none:=by rw[← hrest,hjn,← HN.o,List.drop_length];rfl
   have hRe:=Ce.o hnone
   subst hRe
   clear hrest hnone BR Ce
   obtain⟨r0,r1,r2,r3,r4,r5,r6,r7,r8⟩:=Ae.o.ev
   have z0:=Ae.o.free 0
   have z1:=Ae.o.free 1
   have z2:=Ae.o.free 2
   have z3:=Ae.o.free 3
   have z4:=Ae.o.free 4
   have z5:=Ae.o.free 5
   have z6:=Ae.o.free 6
   have z7:=Ae.o.free 7
   have z8:=Ae.o.free 8
   go_wp2_with fail
   obtain⟨w7,hw7,hE7,hg7⟩:=Ae.o.all 0 0 0 0 0 0 (.slice none 0 0) (.slice none 0 0) []
   try rw[hw7]
   obtain⟨q0,q1,q2,q3,q4,q5,q6,q7,q8⟩:=hE7.ev
   have hB7:=hbel.grown hg7 hsz (fun k hk=>by cases hk;exact Nat.le_refl _)
   exact bodyPost_ret (v:=.tuple #[evv noEv (.slice none 0 0) (.slice none 0 0),.bool false]) (by simp[results,Tryz.results173,go_sem,q0,q1,q2,q3,q4,q5,q6,q7,q8,noEv]) rfl ⟨none,0,none,0,rfl,z3p _,z3p _,hB7⟩

theorem zen (oa:Zoa) (n cap:Nat) (es:List EvV) (id:Int) (w:World) (hat:EvsAt w oa n cap es) :
  Calls Tryz.prog 173 #[.slice oa n cap,.int .i64 id] w (z9j w (evKn es id).1 (evKn es id).2) :=
 (z9a w oa n cap es id w hat zBr).mono fun r w' ⟨xa,xc,ya,yc,h1,h2,h3,h4⟩=>⟨xa,xc,ya,yc,h1,h2.below h4,h3.below h4,h4⟩

theorem z4x (w0:World) (oa:Zoa) (n cap:Nat) (es:List EvV) (id:Int) (w:World) (hat:EvsAt w0 oa n cap es) (hb00:Bw w0 w) :
  Calls Tryz.prog 123 #[.slice oa n cap,.int .i64 id] w (zem w0 w (evKn es id).1 (evKn es id).2):=by
 have Cx:=ZZ hb00
 clear hb00
 have hmx:=zNt hat.room hat.most
 unfold maxLen at hmx
 have HN:=ZZ hat.len
 have HAT:=ZZ hat
 have Ad:=ZZ (EB.new w 0 0 0 0 0 0 (.slice none 0 0) (.slice none 0 0) [])
 have HB0:=ZZ ((Below.refl w.heap.size w).alloc zLe (.cells (zk 0 0 0 0 0 0 (.slice none 0 0) (.slice none 0 0) []) 62))
 obtain⟨R,hR⟩:∃ R,evKn es id=R:=⟨_,rfl⟩
 rw[hR]
 have BR:=ZZ (show ∀ x,zf es id=some x→R=(x,true) from fun x hx=>by rw[← hR];exact z15 hx)
 have Ce:=ZZ (show zf es id=none→R=(noEv,false) from fun hx=>by rw[← hR];exact z16 hx)
 clear hat hR
 go_enter Tryz.func123,Tryz.ntmps123
 go_wp2_with fail
 go_loopw [6] (fun i wr=>∃ (j:Nat),i=.int .i64 (j:Int)∧j≤n∧zf (es.drop j) id=zf es id∧EB wr w.heap.size 0 0 0 0 0 0 (.slice none 0 0) (.slice none 0 0) []∧Bw w wr) (fun i _=>n - (intOf i).toNat)
 case atStart=>exact⟨0,rfl,Nat.zero_le _,rfl,Ad.o,HB0.o⟩
 case round =>
  obtain⟨j,rfl,hj,hrest,hres,hbel⟩:=hrel
  have Ae:=ZZ hres
  have hsz:=hbel.size
  have hlt0:=hres.lt
  clear hres
  by_cases hlt:j<n
  ·have j0:(j:Int)<(n:Int):=by omega
   obtain⟨e,b,q,xa,xc,ya,yc,he,hidx,hev⟩:=HAT.o.get Tryz.underlying29 z2t j hlt
   obtain⟨c0,c1,c2,c3,c4,c5,c6,c7,c8⟩:=(hev.below (zTr Cx.o hbel)).cs
   rw[zcw id he] at hrest
   have A8:=ZZ hev
   clear hev he
   by_cases hk:e.id=id
   ·have g:(e.id==id)=true:=by simpa using hk
    rw[if_pos hk] at hrest
    have hRe:=BR.o e hrest.symm
    subst hRe
    clear hk hrest Ce BR
    obtain⟨r0,r1,r2,r3,r4,r5,r6,r7,r8⟩:=Ae.o.ev
    have z0:=Ae.o.free 0
    have z1:=Ae.o.free 1
    have z2:=Ae.o.free 2
    have z3:=Ae.o.free 3
    have z4:=Ae.o.free 4
    have z5:=Ae.o.free 5
    have z6:=Ae.o.free 6
    have z7:=Ae.o.free 7
    have z8:=Ae.o.free 8
    go_wp2_with fail
    obtain⟨w7,hw7,hE7,hg7⟩:=Ae.o.all e.id e.kind e.sender e.user e.member e.depth (.slice xa e.levels.length xc) (.slice ya e.prev.length yc) e.text
    rw[hw7]
    have hB7:=hbel.grown hg7 hsz (fun k hk=>by cases hk;exact Nat.le_refl _)
    obtain⟨q0,q1,q2,q3,q4,q5,q6,q7,q8⟩:=hE7.ev
    have hB8:=hB7
    exact bodyPost_ret (v:=.tuple #[evv e (.slice xa e.levels.length xc) (.slice ya e.prev.length yc),.bool true]) (by simp[results,Tryz.results123,go_sem,q0,q1,q2,q3,q4,q5,q6,q7,q8]) rfl ⟨xa,xc,ya,yc,rfl,A8.o.lev,A8.o.prv,hB8⟩
   ·have g:(e.id==id)=false:=by simpa using hk
    rw[if_neg hk] at hrest
    have HR:=ZZ hrest
    clear hk hrest
    go_wp2_with fail
    go_roundw
    case rel=>exact⟨j+1,by go_num,by omega,HR.o,Ae.o,hbel⟩
    case measure=>simp[intOf];omega
  ·have hjn:j=n:=by omega
   have hnone:zf es id=none:=by rw[← hrest,hjn,← HN.o,List.drop_length];rfl
   have hRe:=Ce.o hnone
   subst hRe
   clear hrest hnone BR Ce
   obtain⟨r0,r1,r2,r3,r4,r5,r6,r7,r8⟩:=Ae.o.ev
   have z0:=Ae.o.free 0
   have z1:=Ae.o.free 1
   have z2:=Ae.o.free 2
   have z3:=Ae.o.free 3
   have z4:=Ae.o.free 4
   have z5:=Ae.o.free 5
   have z6:=Ae.o.free 6
   have z7:=Ae.o.free 7
   have z8:=Ae.o.free 8
   go_wp2_with fail
   obtain⟨w7,hw7,hE7,hg7⟩:=Ae.o.all 0 0 0 0 0 0 (.slice none 0 0) (.slice none 0 0) []
   try rw[hw7]
   obtain⟨q0,q1,q2,q3,q4,q5,q6,q7,q8⟩:=hE7.ev
   have hB7:=hbel.grown hg7 hsz (fun k hk=>by cases hk;exact Nat.le_refl _)
   exact bodyPost_ret (v:=.tuple #[evv noEv (.slice none 0 0) (.slice none 0 0),.bool false]) (by simp[results,Tryz.results123,go_sem,q0,q1,q2,q3,q4,q5,q6,q7,q8,noEv]) rfl ⟨none,0,none,0,rfl,z3p _,z3p _,hB7⟩

theorem z4i (oa:Zoa) (n cap:Nat) (es:List EvV) (id:Int) (w:World) (hat:EvsAt w oa n cap es) :
  Calls Tryz.prog 123 #[.slice oa n cap,.int .i64 id] w (z9j w (evKn es id).1 (evKn es id).2) :=
 (z4x w oa n cap es id w hat zBr).mono fun r w' ⟨xa,xc,ya,yc,h1,h2,h3,h4⟩=>⟨xa,xc,ya,yc,h1,h2.below h4,h3.below h4,h4⟩

end Go.Proofs.YtfeebdcmlnapiaaGreat
