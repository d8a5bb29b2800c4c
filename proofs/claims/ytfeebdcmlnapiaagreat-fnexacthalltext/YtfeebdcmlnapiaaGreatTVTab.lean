/-
  Walks.
-/
import Derived.Test.YtfeebdcmlnapiaaGreatTPlain1
set_option linter.unusedVariables false
namespace Go.Proofs.YtfeebdcmlnapiaaGreat
open Go.RowKit P14 K
def z1z (v:Value):Option (DataW Value × List MemPlace):=some (.held v,[])

def updV (F:Int→Option Value) (k:Int) (v:Option Value):Int→Option Value:=fun x=>if x=k then v else F x

theorem z14 (F:Int→Option Value) (k:Int) (v:Option Value):updV F k v k=v:=if_pos rfl

theorem z0j (F:Int→Option Value) {k x:Int} (v:Option Value) (h:x≠k):updV F k v x=F x:=if_neg h

structure VTab (w:World) (b:Nat) (F:Int→Option Value) (m:Nat) (D:DataW Value):Prop where
 own:w.ownsMap Tryz.prog 3 z1z b m D
 size:Maps.size D=m
 no:∀ k,F k=none→Maps.has D (.int .i64 k)=false
 yes:∀ k v,F k=some v→Maps.has D (.int .i64 k)=true∧∀ d,D.atKey (.int .i64 k) d=.held v
 wide:∀ k v,F k=some v→(Lit.int .i64 k).wf=true

theorem zi5 {w:World} {b n:Nat} {D:DataW Value} (h:w.ownsMap Tryz.prog 3 z1z b n D):w.ownsMap Tryz.prog 3 z1z b (Maps.size D) D:=by
 obtain⟨es,clock,hb,F,hs,rfl⟩:=h
 exact⟨es,clock,hb,F,by simp[Maps.size,length_sorted],rfl⟩

variable {w w':World} {b m:Nat} {F:Int→Option Value} {D:DataW Value}

theorem VTab.kept (h:VTab w b F m D) {row:Option Nat} (hg:w.grownBy w' row) (hr:some b≠row):VTab w' b F m D :=
 ⟨h.own.kept hg hr,h.size,h.no,h.yes,h.wide⟩

theorem VTab.below (h:VTab w b F m D) (hb:Bw w w'):VTab w' b F m D:=h.kept (row:=none) (z0y hb) (fun e=>by cases e)

theorem VTab.lt (h:VTab w b F m D):b<w.heap.size:=h.own.lt

theorem VTab.look (h:VTab w b F m D) {t e:TypeId} (ht:Tryz.prog.underlying t=some (.map 3 e)) {zv:Value} (hz:(zeroValue e).run Tryz.prog w=.ok zv w) {k:Int} (hk:(Lit.int .i64 k).wf=true) :
  (Instr.lookup t (.map (some b)) (.int .i64 k) true).run Tryz.prog w=.ok (.tuple #[(F k).getD zv,.bool (F k).isSome]) w:=by
 obtain⟨v,ps,hr,hv⟩:=h.own.look_ok (Maps.int_keyed Tryz.underlying3) ht hz (zd:=.held zv) (zp:=[]) rfl (keyI hk)
 have hv1:DataW.held v=D.atKey (.int .i64 k) (.held zv):=congrArg Prod.fst (zSi hv)
 cases hF:F k with
 | none =>
  have hh:=h.no k hF
  rw[Maps.atKey_of_not_has hh] at hv1
  rw[hh] at hr
  cases hv1
  exact hr
 | some u =>
  obtain⟨h1,h2⟩:=h.yes k u hF
  rw[h2] at hv1
  rw[h1] at hr
  cases hv1
  exact hr

theorem VTab.get (h:VTab w b F m D) {t e:TypeId} (ht:Tryz.prog.underlying t=some (.map 3 e)) {zv:Value} (hz:(zeroValue e).run Tryz.prog w=.ok zv w) {k:Int} (hk:(Lit.int .i64 k).wf=true) :
  (Instr.lookup t (.map (some b)) (.int .i64 k) false).run Tryz.prog w=.ok ((F k).getD zv) w:=by
 obtain⟨v,ps,hr,hv⟩:=h.own.lookup (Maps.int_keyed Tryz.underlying3) ht hz (zd:=.held zv) (zp:=[]) rfl (keyI hk)
 have hv1:DataW.held v=D.atKey (.int .i64 k) (.held zv):=congrArg Prod.fst (zSi hv)
 cases hF:F k with
 | none =>
  rw[Maps.atKey_of_not_has (h.no k hF)] at hv1
  cases hv1
  exact hr
 | some u =>
  rw[(h.yes k u hF).2] at hv1
  cases hv1
  exact hr

theorem VTab.store (h:VTab w b F m D) {k:Int} {v:Value} (hk:(Lit.int .i64 k).wf=true) {n:Nat} (ho:w'.ownsMap Tryz.prog 3 z1z b n (D.put (.int .i64 k) (.held v))) :
  VTab w' b (updV F k (some v)) (if (F k).isSome then m else m+1) (D.put (.int .i64 k) (.held v)):=by
 have hD:=h.own.isMap
 have hT:=h.own.tidy (Maps.int_keyed Tryz.underlying3)
 have hsz:Maps.size (D.put (.int .i64 k) (.held v))=if (F k).isSome then m else m+1:=by
  rw[Maps.size_put hT,h.size]
  cases hF:F k with
  | none=>rw[h.no k hF];rfl
  | some f0=>rw[(h.yes k f0 hF).1];rfl
 refine⟨?_,hsz,fun x hx=>?_,fun x j hx=>?_,fun x j hx=>?_⟩
 ·rw[← hsz];exact zi5 ho
 ·by_cases e:x=k
  ·subst e;rw[z14] at hx;cases hx
  ·rw[z0j _ _ e] at hx
   rw[Maps.has_put_other (z6n e)]
   exact h.no x hx
 ·by_cases e:x=k
  ·subst e
   rw[z14] at hx
   cases hx
   refine⟨by rw[Maps.has_put_same hD (z3v x)],fun d=>?_⟩
   rw[Maps.atKey_put_same hD (z3v x)]
  ·rw[z0j _ _ e] at hx
   rw[Maps.has_put_other (z6n e)]
   refine⟨(h.yes x j hx).1,fun d=>?_⟩
   rw[Maps.atKey_put_other (z6n e)]
   exact (h.yes x j hx).2 d
 ·by_cases e:x=k
  ·subst e;exact hk
  ·rw[z0j _ _ e] at hx
   exact h.wide x j hx

theorem z8x (w:World):VTab (w.alloc (.map #[] 0)) w.heap.size (fun _=>none) 0 (.map []) :=
 ⟨World.ownsMap_made w Tryz.prog 3 z1z,rfl,fun k _=>rfl,fun k i h=>by simp at h,fun k i h=>by simp at h⟩

end Go.Proofs.YtfeebdcmlnapiaaGreat
