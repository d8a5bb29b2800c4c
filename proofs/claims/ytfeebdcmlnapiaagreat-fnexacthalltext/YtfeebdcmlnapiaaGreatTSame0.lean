/-
  Walks.
-/
import Derived.Test.YtfeebdcmlnapiaaGreatTRoomW1
import Derived.Test.YtfeebdcmlnapiaaGreatTWeb4
set_option maxRecDepth 100000
set_option maxHeartbeats 4000000
set_option linter.unusedVariables false
set_option linter.unusedSimpArgs false
namespace Go.Proofs.YtfeebdcmlnapiaaGreat
open Go.RowKit P1 P5 P9 P11 P12 P14 K
noncomputable def eqB {α:Type} (x y:α):Bool:=@decide (x=y) (Classical.propDecidable _)

theorem z2e {α:Type} {x y:α} (h:x=y):eqB x y=true:=@decide_eq_true _ (Classical.propDecidable _) h

theorem z1k {α:Type} {x y:α} (h:x≠y):eqB x y=false:=@decide_eq_false _ (Classical.propDecidable _) h

theorem zi0 {α:Type} {x y:α}:eqB x y=true↔x=y:=⟨fun h=>@of_decide_eq_true _ (Classical.propDecidable _) h,z2e⟩

theorem z4e {α:Type} {s t:List α} {j:Nat} {x:α} (h:s.take j=t.take j) (h1:s[j]? = some x) (h2:t[j]? = some x):s.take (j+1)=t.take (j+1):=by
 rw[List.take_add_one,List.take_add_one,h,h1,h2]

theorem zn5 {α:Type}:∀ {l:List α},l.length=2→∃ a b,l=[a,b]
 | [a,b],_=>⟨a,b,rfl⟩
 | [],h=>by simp at h
 | [_],h=>by simp at h
 | _::_::_::_,h=>by simp at h

theorem zdn (a b c d:Int) (w:World):(binOp .neq 79 (.agg #[.int .i64 a,.int .i64 b]) (.agg #[.int .i64 c,.int .i64 d])).run Tryz.prog w=.ok (.bool (!(a==c&&b==d))) w:=by
 have hf:Tryz.prog.underlying 79=some (.struct (Tryz.prog.fieldsOf 79)):=by kernel_rfl
 have hp:Tryz.prog.stoodInHeld 79=false:=by kernel_rfl
 have hl : (Tryz.prog.fieldsOf 79).toList.map (fun f => (f.name == "_", f.type, f.offset)) = [(false, 3, 0), (false, 3, 1)] := by kernel_rfl
 rw[run_neq_struct,run_equalIn_struct w 9999 _ _ _ hf hp]
 generalize (Tryz.prog.fieldsOf 79).toList=fs at hl
 obtain⟨f,g,rfl⟩:=zn5 (show fs.length=2 by have:=congrArg List.length hl;simpa using this)
 simp only[List.map_cons,List.map_nil,List.cons.injEq,Prod.mk.injEq,and_true,beq_eq_false_iff_ne,ne_eq] at hl
 obtain⟨⟨h1,h2,h3⟩,⟨h4,h5,h6⟩⟩:=hl
 have hI:=fun (x y:Int) (w:World)=>run_equalIn_int (P:=Tryz.prog) w 9998 3 .i64 .i64 x y Tryz.underlying3
 cases hac:(a==c)<;>cases hbd:(b==d)<;>simp[Op.eqFields,h1,h2,h3,h4,h5,h6,part,hI,hac,hbd,Result.andThen,Tryz.sizeOf3]

theorem zdo (x y:Int × Int):(x.1==y.1&&x.2==y.2)=eqB x y:=by
 rw[Bool.eq_iff_iff,zi0]
 simp only[Bool.and_eq_true,beq_iff_eq]
 exact⟨fun h=>Prod.ext h.1 h.2,fun h=>by rw[h];exact⟨rfl,rfl⟩⟩

theorem y1h (oa:Zoa) (n cap:Nat) (s:Zin) (ob:Zoa) (m cb:Nat) (t:Zin) (hn20:n≤1048576) (w:World) (hs:IntsAt w oa n cap s) (ht:IntsAt w ob m cb t) :
  Calls Tryz.prog 96 #[.slice oa n cap,.slice ob m cb] w fun e w'=>e=.returned (.bool (eqB s t))∧Bw w w':=by
 have hsl:=hs.len
 have htl:=ht.len
 by_cases hnm:n=m
 ·subst hnm
  have HS:=ZZ hs
  have HT:=ZZ ht
  have Dc:=ZZ hsl
  have Ea:=ZZ htl
  clear hs ht hsl htl
  go_enter Tryz.func96,Tryz.ntmps96
  go_wp2_with fail
  go_loopw [13] (fun x wr=>∃ (j q:Nat),x=.int .i64 (j:Int)∧j≤n∧s.take j=t.take j∧wr=w.drewN q) (fun x _=>n - (intOf x).toNat)
  case atStart=>exact⟨0,0,rfl,Nat.zero_le _,by simp,rfl⟩
  case round =>
   obtain⟨j,q,rfl,hj,htk,rfl⟩:=hrel
   have Af:=ZZ htk
   clear htk
   by_cases hlt:j<n
   ·have j0:(j:Int)<(n:Int):=by omega
    obtain⟨x,bx,qx,hx,hidx,hbx,c0,_⟩:=HS.o.get Tryz.underlying60 z0f j hlt
    obtain⟨y,bY,qy,hy,hidy,hby,d0,_⟩:=HT.o.get Tryz.underlying60 z0f j hlt
    have HX:=ZZ hx
    have HY:=ZZ hy
    clear hx hy
    by_cases e:x=y
    ·have HE:=ZZ e
     have q3:(x != y)=false:=by simpa using e
     clear e
     go_wp2_with fail
     go_quiet (fail)
     go_wp2_with fail
     go_roundw
     case rel=>exact⟨j+1,q+nq,by go_num,by omega,z4e Af.o HX.o (by first|exact HY.o|(rw[HE.o];exact HY.o)),by simp⟩
     case measure=>simp[intOf];omega
    ·have HE:=ZZ e
     have q3:(x != y)=true:=by simpa using e
     clear e
     go_wp2_with fail
     go_quiet (fail)
     go_wp2_with fail
     go_ret
     refine⟨?_,below_drewN (below_drewN zBr _) _⟩
     rw[z1k (fun h=>HE.o (by
      have h1:=HX.o
      rw[h,HY.o] at h1
      exact (zSi h1).symm))]
     rfl
   ·have hst:s=t:=by
     have h1:=Af.o
     rwa [zTl (by rw[Dc.o];omega),zTl (by rw[Ea.o];omega)] at h1
    have HST:=ZZ hst
    clear hst
    go_wp2_with fail
    go_ret
    exact⟨by rw[z2e HST.o];rfl,below_drewN zBr _⟩
 ·have Bq:=ZZ (show s≠t from fun h=>hnm (by rw[← hsl,← htl,h]))
  have h1:=zNt ht.room ht.most
  unfold maxLen at h1
  have q2:((n:Int) != (m:Int))=true:=by rw[bne_iff_ne];omega
  clear hs ht hsl htl hnm
  go_enter Tryz.func96,Tryz.ntmps96
  go_wp2_with fail
  go_ret
  exact⟨by rw[z1k Bq.o];rfl,zBr⟩

theorem zb0 (oa:Zoa) (n cap:Nat) (s:Zii) (ob:Zoa) (m cb:Nat) (t:Zii) (hn20:n≤1048576) (w:World) (hs:ItemsAt w oa n cap s) (ht:ItemsAt w ob m cb t) :
  Calls Tryz.prog 33 #[.slice oa n cap,.slice ob m cb] w fun e w'=>e=.returned (.bool (eqB s t))∧Bw w w':=by
 have hsl:=hs.len
 have htl:=ht.len
 by_cases hnm:n=m
 ·subst hnm
  have HS:=ZZ hs
  have HT:=ZZ ht
  have Dc:=ZZ hsl
  have Ea:=ZZ htl
  clear hs ht hsl htl
  go_enter Tryz.func33,Tryz.ntmps33
  go_wp2_with fail
  go_loopw [13] (fun x wr=>∃ (j q:Nat),x=.int .i64 (j:Int)∧j≤n∧s.take j=t.take j∧wr=w.drewN q) (fun x _=>n - (intOf x).toNat)
  case atStart=>exact⟨0,0,rfl,Nat.zero_le _,by simp,rfl⟩
  case round =>
   obtain⟨j,q,rfl,hj,htk,rfl⟩:=hrel
   have Af:=ZZ htk
   clear htk
   by_cases hlt:j<n
   ·have j0:(j:Int)<(n:Int):=by omega
    obtain⟨x,bx,qx,hx,hidx,hbx,c0,c1⟩:=HS.o.get Tryz.underlying74 z1i j hlt
    obtain⟨y,bY,qy,hy,hidy,hby,d0,d1⟩:=HT.o.get Tryz.underlying74 z1i j hlt
    have hne:=fun W=>zdn x.1 x.2 y.1 y.2 W
    rw[zdo x y] at hne
    have HX:=ZZ hx
    have HY:=ZZ hy
    clear hx hy
    by_cases e:x=y
    ·have HE:=ZZ e
     rw[z2e e] at hne
     clear e
     go_wp2_with fail
     go_quiet (fail)
     go_wp2_with fail
     go_roundw
     case rel=>exact⟨j+1,q+nq,by go_num,by omega,z4e Af.o HX.o (by first|exact HY.o|(rw[HE.o];exact HY.o)),by simp⟩
     case measure=>simp[intOf];omega
    ·have HE:=ZZ e
     rw[z1k e] at hne
     clear e
     go_wp2_with fail
     go_quiet (fail)
     go_wp2_with fail
     go_ret
     refine⟨?_,below_drewN (below_drewN zBr _) _⟩
     rw[z1k (fun h=>HE.o (by
      have h1:=HX.o
      rw[h,HY.o] at h1
      exact (zSi h1).symm))]
     rfl
   ·have hst:s=t:=by
     have h1:=Af.o
     rwa [zTl (by rw[Dc.o];omega),zTl (by rw[Ea.o];omega)] at h1
    have HST:=ZZ hst
    clear hst
    go_wp2_with fail
    go_ret
    exact⟨by rw[z2e HST.o];rfl,below_drewN zBr _⟩
 ·have Bq:=ZZ (show s≠t from fun h=>hnm (by rw[← hsl,← htl,h]))
  have h1:=zNt ht.room ht.most
  unfold maxLen at h1
  have q2:((n:Int) != (m:Int))=true:=by rw[bne_iff_ne];omega
  clear hs ht hsl htl hnm
  go_enter Tryz.func33,Tryz.ntmps33
  go_wp2_with fail
  go_ret
  exact⟨by rw[z1k Bq.o];rfl,zBr⟩

open P15
def rmGo (d:List EvV) (s:List St) (g:List Bool):List EvV→Option (List St × List Bool)
 | []=>some (s,g)
 | e::r=>if z0l d s e=true then rmGo (d++[e]) (s++[z0s d s e]) (g++[allowed d (befS d s e.prev) e]) r else none

theorem z8u {es:List EvV} {j:Nat} {e:EvV} (h:es[j]? = some e) (d:List EvV) (s:List St) (g:List Bool):rmGo d s g (es.drop j)=if z0l d s e=true then rmGo (d++[e]) (s++[z0s d s e]) (g++[allowed d (befS d s e.prev) e]) (es.drop (j+1)) else none:=by
 obtain⟨hj,rfl⟩:=zGi.1 h
 rw[List.drop_eq_getElem_cons hj]
 rfl

theorem z98:∀ (r:List EvV) (d:List EvV) (s:List St) (g:List Bool) {s':List St} {g':List Bool},rmGo d s g r=some (s',g')→∃ t u,s'=s++t∧g'=g++u∧t.length=r.length∧u.length=r.length
 | [],d,s,g,s',g',h=>by
  unfold rmGo at h
  cases h
  exact⟨[],[],by simp,by simp,rfl,rfl⟩
 | e::r,d,s,g,s',g',h=>by
  unfold rmGo at h
  split at h
  ·obtain⟨t,u,h1,h2,h3,h4⟩:=z98 r _ _ _ h
   exact⟨z0s d s e::t,allowed d (befS d s e.prev) e::u,by rw[h1];simp,by rw[h2];simp,by simp[h3],by simp[h4]⟩
  ·cases h

noncomputable def z0x (es:List EvV) (ss:List St) (gs:List Bool):Bool:=decide (es.length≤40)&&match rmGo [] [] [] es with
 | none=>false
 | some x=>eqB x.1 ss&&eqB x.2 gs

section
variable {es:List EvV} {ss:List St} {gs:List Bool}

theorem z5y (h:rmGo [] [] [] es=none):z0x es ss gs=false:=by
 unfold z0x
 rw[h]
 simp

theorem zar (h:ss.length≠es.length∨gs.length≠es.length):z0x es ss gs=false:=by
 unfold z0x
 cases hr:rmGo [] [] [] es with
 | none=>simp
 | some x =>
  obtain⟨s',g'⟩:=x
  obtain⟨t,u,h1,h2,h3,h4⟩:=z98 es [] [] [] hr
  simp only[List.nil_append] at h1 h2
  subst h1 h2
  simp only
  rcases h with h|h
  ·rw[z1k (x:=s') (y:=ss) (fun e=>h (by rw[← e];exact h3))];simp
  ·rw[z1k (x:=g') (y:=gs) (fun e=>h (by rw[← e];exact h4)),Bool.and_false,Bool.and_false]

theorem zfw {d r:List EvV} {j:Nat} {a:St} {g:List Bool} (h:rmGo [] [] [] es=rmGo d (ss.take j++[a]) g r) (hj:j<ss.length) (hne:ss[j]?≠some a):z0x es ss gs=false:=by
 cases hr:rmGo d (ss.take j++[a]) g r with
 | none=>exact z5y (h.trans hr)
 | some x =>
  obtain⟨s',g'⟩:=x
  obtain⟨t,u,h1,h2,_,_⟩:=z98 r _ _ _ hr
  unfold z0x
  rw[h.trans hr]
  simp only
  rw[z1k (x:=s') (y:=ss) (fun e=>hne (by
   have hl:(ss.take j).length=j:=by rw[List.length_take];omega
   rw[← e,h1,List.append_assoc,List.getElem?_append_right (by omega),hl]
   simp))]
  simp

theorem zh5 {d r:List EvV} {j:Nat} {b:Bool} {s:List St} (h:rmGo [] [] [] es=rmGo d s (gs.take j++[b]) r) (hj:j<gs.length) (hne:gs[j]?≠some b):z0x es ss gs=false:=by
 cases hr:rmGo d s (gs.take j++[b]) r with
 | none=>exact z5y (h.trans hr)
 | some x =>
  obtain⟨s',g'⟩:=x
  obtain⟨t,u,h1,h2,_,_⟩:=z98 r _ _ _ hr
  unfold z0x
  rw[h.trans hr]
  simp only
  rw[z1k (x:=g') (fun e=>hne (by
   have hl:(gs.take j).length=j:=by rw[List.length_take];omega
   rw[← e,h2,List.append_assoc,List.getElem?_append_right (by omega),hl]
   simp))]
  simp

theorem zjl (h:rmGo [] [] [] es=some (ss,gs)) (hl:es.length≤40):z0x es ss gs=true:=by
 unfold z0x
 rw[h,decide_eq_true hl]
 simp only
 rw[z2e rfl,z2e rfl]
 rfl

theorem zh6 {s':List St} {g':List Bool} (h:rmGo [] [] [] es=some (s',g')) (hl:es.length≤40):z0x es ss gs=(eqB s' ss&&eqB g' gs):=by
 unfold z0x
 rw[h,decide_eq_true hl]
 rfl

theorem zh7 (h:¬ es.length≤40):z0x es ss gs=false:=by
 unfold z0x
 rw[decide_eq_false h]
 rfl
end

theorem z99 {e:EvV} (h:evOk e=true):evw e≤1000:=by
 have h1:=(zhb h)
 have h2:=h1.many
 have h3:=h1.text
 have h4:=h1.prevs
 unfold evw
 omega

theorem EvsAt.take {w:World} {oa:Zoa} {n cap:Nat} {es:List EvV} (h:EvsAt w oa n cap es) {j:Nat} (hj:j≤n):EvsAt w oa j cap (es.take j):=by
 have h1:=h.len
 have h2:=h.room
 refine⟨by rw[List.length_take];omega,by omega,h.most,fun i e he=>?_⟩
 have:i<j:=by
  have:=(zGi.1 he).1
  rw[List.length_take] at this
  omega
 rw[List.getElem?_take_of_lt this] at he
 exact h.at_ i e he

theorem elemV:Tryz.prog.underlying 29=some (.slice (Tryz.prog.elem 29)):=by kernel_rfl

theorem zor (w:World):(sizeOf (Tryz.prog.elem 29)).run Tryz.prog w=.ok 9 w:=by kernel_rfl

theorem zlf (a:Addr) (n cap:Nat) (y:Int) (r:Nat) (hy:y=r) (h2:r≤cap) (ha:a.spot=none) (w:World) :
  (Instr.slice 29 (.slice (some a) n cap) none (some (.int .i64 y)) none).run Tryz.prog w=.ok (.slice (some a) r cap) w:=by
 subst hy
 obtain⟨b,o,sp⟩:=a
 simp only at ha
 subst ha
 rw[run_slice_h w 29 (some ⟨b,o,none⟩) n cap elemV .i64 r (by omega) (by omega),zor]
 simp[sliced,Addr.add]

end Go.Proofs.YtfeebdcmlnapiaaGreat
