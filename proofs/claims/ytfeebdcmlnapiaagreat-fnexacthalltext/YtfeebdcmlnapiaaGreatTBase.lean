/-
  Walks.
-/
import Derived.Test.YtfeebdcmlnapiaaGreatTPlain1
set_option maxHeartbeats 1000000
set_option linter.unusedVariables false
set_option linter.unusedSimpArgs false
namespace Go.Proofs.YtfeebdcmlnapiaaGreat
open Go.RowKit P1 K
theorem infoByte:(Tryz.prog.info? 5).map (fun i=>(i.zero,i.size,i.bytes))=some (some (.int .u8 0),1,1):=by kernel_rfl

theorem y3y (x:Nat) (h:x<256):(UInt8.ofNat x).toNat=x:=by
 simp[UInt8.toNat_ofNat'];omega

abbrev bl (s:ByteArray):Zbs:=s.data.toList

end Go.Proofs.YtfeebdcmlnapiaaGreat
namespace Go.Proofs.YtfeebdcmlnapiaaGreat.K
open Go

structure InW (F:World→Prop) where
 w:World
 h:F w

theorem zn {P:Program} {F:World→Prop} {id:Nat} {Q:Exit→Act→World→Prop} {a:Act} {w:World} {l:List Oper} (hm:P.follows .mixedOrders=true) (hB:Region.lexB .any l.toArray=true) (hF:F w.drew)
  (h:wpQuiet P l.toArray (fun w'=>∃ n:InW F,w'=n.w) (fun a'=>∀ w',(∃ n:InW F,w'=n.w)→Q .normal a' w') l a):(Code.region id l.toArray true).wp P Q a w :=
 wp_region_quiet (C:=fun w'=>∃ n:InW F,w'=n.w) hm hB ⟨⟨_,hF⟩,rfl⟩ (by simpa using h)

theorem ciW {w:World} {a:Addr} {u:Value} (h:w.cell? a=some u):∀ m:InW (fun w'=>RowKit.Below w.heap.size w w'),m.w.cell? a=some u:=fun m=>(m.h.cell (World.block_lt_of_cell? _ _ h)).trans h

abbrev iwW {w2:World} {m:InW (fun w'=>RowKit.Below w2.heap.size w2 w')} {w3:World} (h:RowKit.Below m.w.heap.size m.w w3):InW (fun w'=>RowKit.Below w2.heap.size w2 w'):=⟨w3,m.h.trans (h.mono m.h.size)⟩

end Go.Proofs.YtfeebdcmlnapiaaGreat.K

namespace Go.Proofs.YtfeebdcmlnapiaaGreat
open Go.RowKit P5 P9 K
theorem z3o {z:Int} (h0:-1000000000≤z) (h1:z≤1000000000000):(Lit.int .i64 z).wf=true:=by
 simp[Lit.wf,IntKind.min,IntKind.max,IntKind.signed,IntKind.bits]
 omega

open P1
def VarRel (n:Nat) (w:World) (m:Nat) (v:Value) (wr:World):Prop :=
 ∃ (f:Nat) (xs:Zbs),m≤1000000000∧m<128 ^ (f+1)∧xs.length+f=9∧xs++varF f m=varB n∧wr.ownsRow w.heap.size 5 1 v xs.length (B8 xs)∧Bw w wr

theorem VarRel.next {n m:Nat} {w w':World} {v':Value} (hm:m≤1000000000) (hi:127<m) {f:Nat} {xs:Zbs} (hf:m<128 ^ (f+1)) (hl:xs.length+f=9) (hxs:xs++varF f m=varB n)
  (hown:w'.ownsRow w.heap.size 5 1 v' (xs.length+1) (B8 xs++[.int .u8 ((m:Int) % 128+128)])) (hbel:Bw w w'):VarRel n w (m / 128) v' w':=by
 obtain⟨f',rfl,h1,h2⟩:=y5m f n m xs hf hxs hi
 refine⟨f',xs++[UInt8.ofNat (m % 128+128)],by omega,h1,by simp;omega,h2,?_,hbel⟩
 rw[y4s xs (UInt8.ofNat (m % 128+128)) _ (by rw[y3y _ (by omega)];omega)] at hown
 simpa using hown

theorem y53 {n m:Nat} {w w':World} {v':Value} (lo:m≤127) {f:Nat} {xs:Zbs} (hxs:xs++varF f m=varB n)
  (hown:w'.ownsRow w.heap.size 5 1 v' (xs.length+1) (B8 xs++[.int .u8 (m:Int)])) :
  w'.ownsRow w.heap.size 5 1 v' (xs.length+1) (B8 (varB n)):=by
 rw[y4s xs (UInt8.ofNat m) _ (by rw[y3y _ (by omega)]),y5r f n m xs hxs lo] at hown
 exact hown

theorem y3z (n:Nat) (hn:n≤1000000000) (w:World) :
  Calls Tryz.prog 48 #[.int .i64 n] w fun e w'=>e=.returned (.string ⟨(varB n).toArray⟩)∧Bw w w':=by
 go_enter Tryz.func48,Tryz.ntmps48
 go_wp2
 go_loopw [0,3] (fun t v wr=>∃ m:Nat,t=.int .i64 m∧VarRel n w m v wr) (fun t _ _=>(intOf t).toNat)
 case atStart =>
  refine⟨n,rfl,9,[],hn,by omega,rfl,rfl,?_,zBa⟩
  exact World.ownsRow_made (w:=w) #[] 0 zLe (by decide) rfl
 case round =>
  obtain⟨m,rfl,f,xs,hm,hf,hl,hxs,hown,hbel⟩:=hrel
  have HX:Hd (xs++varF f m=varB n):=hxs
  have HF:Hd (xs.length+f=9):=hl
  have HM:Hd (m<128 ^ (f+1)):=hf
  have hl':xs.length≤9:=by omega
  clear hxs hl hf
  have hsz:=hbel.size
  by_cases hlt:127<m
  ·go_wp2_with (at_builtin;refine y0t rfl _ _ 97 rfl Tryz.underlying97 infoByte rfl rfl hown rfl rfl hbel hsz (by unfold maxLen;omega) (by omega) ?_)
   intro v' w1 hown' hbel' _
   have R:=VarRel.next hm hlt HM.o HF.o HX.o hown' hbel'
   clear hown' hbel' hown hbel
   go_wp2
   go_roundw
   case rel=>exact⟨m / 128,by go_num,R⟩
   case measure=>simp[intOf];omega
  ·go_wp2_with (at_builtin;refine y0t rfl _ _ 97 rfl Tryz.underlying97 infoByte rfl rfl hown rfl rfl hbel hsz (by unfold maxLen;omega) (by omega) ?_)
   intro v' w1 hown' hbel' _
   have R:=y53 (n:=n) (by omega) HX.o hown'
   have hconv:=y3j (P:=Tryz.prog) (src:=97) (dst:=9) Tryz.underlying97 Tryz.underlying5 Tryz.underlying9 R
   clear hown' hown hbel R
   go_wp2
   go_ret
   exact⟨rfl,hbel'⟩

theorem y42 (n:Nat) (hn:n≤1000000000) (w:World) :
  Calls Tryz.prog 185 #[.int .i64 n] w fun e w'=>e=.returned (.tuple #[.string ⟨(varB n).toArray⟩,.bool true])∧Bw w w':=by
 have g1:¬ ((n:Int)<0):=by omega
 have g2:¬ ((1000000000:Int)<(n:Int)):=by omega
 go_enter Tryz.func185,Tryz.ntmps185
 go_wp2
 go_loopw [0,4] (fun t v wr=>∃ m:Nat,t=.int .i64 m∧VarRel n w m v wr) (fun t _ _=>(intOf t).toNat)
 case atStart=>exact⟨n,rfl,9,[],hn,by omega,rfl,rfl,World.ownsRow_nil _ _ _ _,zBr⟩
 case round =>
  obtain⟨m,rfl,f,xs,hm,hf,hl,hxs,hown,hbel⟩:=hrel
  have HX:Hd (xs++varF f m=varB n):=hxs
  have HF:Hd (xs.length+f=9):=hl
  have HM:Hd (m<128 ^ (f+1)):=hf
  have hl':xs.length≤9:=by omega
  clear hxs hl hf
  have hsz:=hbel.size
  by_cases hlt:127<m
  ·go_wp2_with (at_builtin;refine y0t rfl _ _ 97 rfl Tryz.underlying97 infoByte rfl rfl hown rfl rfl hbel hsz (by unfold maxLen;omega) (by omega) ?_)
   intro v' w1 hown' hbel' _
   have R:=VarRel.next hm hlt HM.o HF.o HX.o hown' hbel'
   clear hown' hbel' hown hbel
   go_wp2
   go_roundw
   case rel=>exact⟨m / 128,by go_num,R⟩
   case measure=>simp[intOf];omega
  ·go_wp2_with (at_builtin;refine y0t rfl _ _ 97 rfl Tryz.underlying97 infoByte rfl rfl hown rfl rfl hbel hsz (by unfold maxLen;omega) (by omega) ?_)
   intro v' w1 hown' hbel' _
   have R:=y53 (n:=n) (by omega) HX.o hown'
   have hconv:=y3j (P:=Tryz.prog) (src:=97) (dst:=9) Tryz.underlying97 Tryz.underlying5 Tryz.underlying9 R
   clear hown' hown hbel R
   go_wp2
   go_ret2
   exact⟨rfl,hbel'⟩

theorem z01 (x a b:Int) (h0:a≤x) (h1:x≤b) (w:World) :
  Calls Tryz.prog 39 #[.int .i64 x,.int .i64 a,.int .i64 b] w fun e w'=>e=.returned (.bool true)∧w=w':=by
 go_enter Tryz.func39,Tryz.ntmps39
 go_wp2
 go_ret
 exact⟨rfl,rfl⟩

theorem z05 (x a b:Int) (h:x<a∨b<x) (w:World) :
  Calls Tryz.prog 39 #[.int .i64 x,.int .i64 a,.int .i64 b] w fun e w'=>e=.returned (.bool false)∧w=w':=by
 by_cases h0:x<a
 ·go_enter Tryz.func39,Tryz.ntmps39
  go_wp2
  go_ret
  exact⟨rfl,rfl⟩
 ·have h1:¬ x≤b:=by omega
  have h2:a≤x:=by omega
  clear h h0
  go_enter Tryz.func39,Tryz.ntmps39
  go_wp2
  go_ret
  exact⟨rfl,rfl⟩

theorem z4m (x a b:Int) (w:World) :
  Calls Tryz.prog 39 #[.int .i64 x,.int .i64 a,.int .i64 b] w fun e w'=>e=.returned (.bool (decide (a≤x)&&decide (x≤b)))∧w'=w:=by
 by_cases h:a≤x∧x≤b
 ·rw[decide_eq_true h.1,decide_eq_true h.2]
  exact (z01 x a b h.1 h.2 w).mono fun e w' ⟨h1,h2⟩=>⟨h1,h2.symm⟩
 ·have:(decide (a≤x)&&decide (x≤b))=false:=by simp;omega
  rw[this]
  exact (z05 x a b (by omega) w).mono fun e w' ⟨h1,h2⟩=>⟨h1,h2.symm⟩

theorem z5m (x a b:Int) (h0:a≤x) (h1:x≤b) (w:World) :
  Calls Tryz.prog 93 #[.int .i64 x,.int .i64 a,.int .i64 b] w fun e w'=>e=.returned (.bool true)∧w=w':=by
 go_enter Tryz.func93,Tryz.ntmps93
 go_wp2
 go_ret
 exact⟨rfl,rfl⟩

theorem z7j (x a b:Int) (h:x<a∨b<x) (w:World) :
  Calls Tryz.prog 93 #[.int .i64 x,.int .i64 a,.int .i64 b] w fun e w'=>e=.returned (.bool false)∧w=w':=by
 by_cases h0:x<a
 ·go_enter Tryz.func93,Tryz.ntmps93
  go_wp2
  go_ret
  exact⟨rfl,rfl⟩
 ·have h1:¬ x≤b:=by omega
  have h2:a≤x:=by omega
  clear h h0
  go_enter Tryz.func93,Tryz.ntmps93
  go_wp2
  go_ret
  exact⟨rfl,rfl⟩

theorem z6f (x a b:Int) (w:World) :
  Calls Tryz.prog 93 #[.int .i64 x,.int .i64 a,.int .i64 b] w fun e w'=>e=.returned (.bool (decide (a≤x)&&decide (x≤b)))∧w=w':=by
 by_cases h:a≤x∧x≤b
 ·rw[decide_eq_true h.1,decide_eq_true h.2]
  exact z5m x a b h.1 h.2 w
 ·have:(decide (a≤x)&&decide (x≤b))=false:=by simp;omega
  rw[this]
  exact z7j x a b (by omega) w

def Drew (w w':World):Prop:=∃ q,w'=w.drewN q

theorem Drew.more {w w':World} (h:Drew w w') (q:Nat):Drew w (w'.drewN q):=by
 obtain⟨k,rfl⟩:=h
 exact⟨k+q,by simp⟩

theorem Drew.below {w w':World} (h:Drew w w'):Bw w w':=by
 obtain⟨k,rfl⟩:=h
 exact below_drewN zBr _

theorem IntsAt.drew {w w':World} {oa:Zoa} {n cap:Nat} {zs:Zin} (h:IntsAt w oa n cap zs) (hd:Drew w w'):IntsAt w' oa n cap zs:=h.below hd.below

end Go.Proofs.YtfeebdcmlnapiaaGreat
