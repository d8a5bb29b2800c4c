/-
  Walks.
-/
import Derived.Test.YtgebcpkpdbdfoaaGreatRBase
import Derived.Deep.RegionHeld3
import Derived.Deep.QuietTactic
import Derived.BigQuiet
import Derived.Laws.BitsLemmas
import Derived.WalkSmall
import Derived.Test.YtgebcpkpdbdfoaaGreatREv5
import Derived.Maps.AppendAt
set_option linter.unusedVariables false
set_option linter.unusedSimpArgs false
namespace Go.Proofs.YtgebcpkpdbdfoaaGreat
open Go.RowKit K

theorem zmj (n:Int):bits .and .i64 n 255=n % 256:=by
 have h255:(BitVec.ofInt 64 255).toNat=2 ^ 8 - 1:=by decide
 have key:(BitVec.ofInt 64 n &&& BitVec.ofInt 64 255).toNat=(n % ((2 ^ 64:Nat):Int)).toNat % 2 ^ 8:=by
  rw[BitVec.toNat_and,BitVec.toNat_ofInt,h255,Nat.and_two_pow_sub_one_eq_mod]
 show IntKind.i64.wrap ((BitVec.ofInt 64 n &&& BitVec.ofInt 64 255).toNat:Nat)=n % 256
 rw[key,IntKind.wrap_i64]
 omega

theorem zmx (n:Int):bits .and .i64 n 1073741823=n % 1073741824:=by
 have h255:(BitVec.ofInt 64 1073741823).toNat=2 ^ 30 - 1:=by decide
 have key:(BitVec.ofInt 64 n &&& BitVec.ofInt 64 1073741823).toNat=(n % ((2 ^ 64:Nat):Int)).toNat % 2 ^ 30:=by
  rw[BitVec.toNat_and,BitVec.toNat_ofInt,h255,Nat.and_two_pow_sub_one_eq_mod]
 show IntKind.i64.wrap ((BitVec.ofInt 64 n &&& BitVec.ofInt 64 1073741823).toNat:Nat)=n % 1073741824
 rw[key,IntKind.wrap_i64]
 omega

def zhf (k:IntKind) (w:World) (a:Option Addr) (len cap:Nat) (zs:List Int):Prop :=
 (a=none∧len=0∧cap=0∧zs=[]) ∨
 ∃ x,a=some x∧len≤cap∧cap≤maxLen∧zs.length=cap∧(∀ i,i<zs.length→w.cell? (x.add i)=some (.int k (zs.getD i 0)))∧∀ n∈zs,(Lit.int k n).wf=true

def CodeAt (B:Nat) (w:World) (a:Option Addr) (len:Nat):Prop :=
 ∀ j:Nat,j<len→∃ (x:Addr) (b:UInt8),a=some x∧x.block<B∧w.cell? (x.add j)=some (.int .u8 (b.toNat:Int))

theorem add_block (x:Addr) (j:Nat):(x.add j).block=x.block:=by unfold Addr.add;split<;>rfl

theorem zdx {w:World} {a:Option Addr} {len cap:Nat} {zs:List Int} (h:zhf .u8 w a len cap zs):CodeAt w.heap.size w a len:=by
 intro j hj
 rcases h with ⟨_,rfl,_⟩|⟨x,rfl,hl,hm,hz,hc,hw⟩
 ·omega
 ·have hj':j<zs.length:=by omega
  have h1:=hc j hj'
  have hmem:zs.getD j 0∈zs:=by
   rw[List.getD_eq_getElem?_getD,List.getElem?_eq_getElem hj',Option.getD_some];exact List.getElem_mem _
  have h2:=hw _ hmem
  obtain⟨u0,u1⟩:0≤zs.getD j 0∧zs.getD j 0≤255:=by simpa [Lit.wf,IntKind.min,IntKind.max,IntKind.signed,IntKind.bits] using h2
  refine⟨x,UInt8.ofNat (zs.getD j 0).toNat,rfl,?_,?_⟩
  ·have:=World.block_lt_of_cell? w _ h1
   rwa [add_block] at this
  ·rw[h1,z6r _ (by omega),Int.toNat_of_nonneg u0]

theorem CodeAt.below {B:Nat} {w w':World} {a:Option Addr} {len:Nat} (h:CodeAt B w a len) (hb:Below B w w'):CodeAt B w' a len:=by
 intro j hj
 obtain⟨x,b,h1,h2,h3⟩:=h j hj
 exact⟨x,b,h1,h2,by rw[hb.cell (by rw[add_block];exact h2)];exact h3⟩

def CurAt (B:Nat) (w:World) (p:Nat) (a:Option Addr) (len cap:Nat):Prop :=
 B≤p∧len≤1048576∧CodeAt B w a len∧∃ (i:Nat) (h:Int),i≤len∧w.heap[p]? = some (.cells #[.slice a len cap,.int .i64 (i:Int),.int .i64 h] 135 (0,0))

theorem CurAt.kept {B p:Nat} {w w':World} {a:Option Addr} {len cap:Nat} (h:CurAt B w p a len cap) (hb:Below B w w') (hp:w'.heap[p]? = w.heap[p]?):CurAt B w' p a len cap:=by
 obtain⟨h1,h2,h3,i,x,h4,h5⟩:=h
 exact⟨h1,h2,h3.below hb,i,x,h4,by rw[hp];exact h5⟩

theorem CurAt.lt {B p:Nat} {w:World} {a:Option Addr} {len cap:Nat} (h:CurAt B w p a len cap):p<w.heap.size:=by
 obtain⟨_,_,_,_,_,_,h5⟩:=h
 exact (Array.getElem?_eq_some_iff.1 h5).1

theorem zah {w:World} {p k:Nat} {cs:Array Value} {e:TypeId} (v:Value) (h:w.heap[p]? = some (.cells cs e (0,0))):(w.setCell ⟨p,k,none⟩ v).heap[p]? = some (.cells (cs.setIfInBounds k v) e (0,0)):=by
 simp only[World.setCell,Array.getElem?_modify,if_true,h]
 rfl

theorem grownBy_setCell (w:World) (p k:Nat) (v:Value):w.grownBy (w.setCell ⟨p,k,none⟩ v) (some p) :=
 ⟨rfl,rfl,rfl,by simp[World.setCell],fun j hj hne=>Below.heap_setCell _ _ _ _ (fun e=>hne (by rw[e]))⟩

theorem grownBy_trans {a b c:World} {r:Option Nat} (h:a.grownBy b r) (k:b.grownBy c r):a.grownBy c r :=
 ⟨k.os.trans h.os,k.tape.trans h.tape,k.output.trans h.output,Nat.le_trans h.size k.size,fun j hj hne=>(k.block j (Nat.lt_of_lt_of_le hj h.size) hne).trans (h.block j hj hne)⟩

theorem zbi {a w w':World} {r:Option Nat} (h:a.grownBy w r) (h1:w'.os=w.os) (h2:w'.tape=w.tape) (h3:w'.output=w.output) (h4:w'.heap=w.heap):a.grownBy w' r :=
 ⟨h1.trans h.os,h2.trans h.tape,h3.trans h.output,by rw[h4];exact h.size,fun k hk hn=>by rw[h4];exact h.block k hk hn⟩

theorem zdy {B p:Nat} {w w':World} (h:w.grownBy w' (some p)) (hB:B≤p) (hs:B≤w.heap.size):Below B w w' :=
 (Below.refl B w).grown h hs (fun k hk=>by cases hk;exact hB)

theorem zd5 {w:World} {p:Nat} {v0 v1 v2:Value} {e:TypeId} (hb:w.heap[p]? = some (.cells #[v0,v1,v2] e (0,0))) :
  w.cell? ⟨p,0,none⟩=some v0∧w.cell? ⟨p,1,none⟩=some v1∧w.cell? ⟨p,2,none⟩=some v2∧w.frozen? ⟨p,1,none⟩=false∧w.frozen? ⟨p,2,none⟩=false :=
 ⟨by rw[cell_of_row w p 0 _ _ _ hb];rfl,by rw[cell_of_row w p 1 _ _ _ hb];rfl,by rw[cell_of_row w p 2 _ _ _ hb];rfl,by simp[World.frozen?,hb],by simp[World.frozen?,hb]⟩

set_option maxHeartbeats 1000000 in
theorem z4x (B p:Nat) (a:Option Addr) (len cap:Nat) (w:World) (hc:CurAt B w p a len cap) :
  Calls Tryz.prog 119 #[.pointer (some ⟨p,0,none⟩)] w fun e w'=>∃ x:Nat,x<256∧e=.returned (.int .i64 (x:Int))∧CurAt B w' p a len cap∧w.grownBy w' (some p):=by
 have HC:=hide hc
 obtain⟨hB,hlen,hcode,i,h,hi,hb⟩:=hc
 have hsz:p<w.heap.size:=HC.out.lt
 obtain⟨c0,c1,c2,f1,f2⟩:=zd5 hb
 have HB:=hide hb
 clear hb
 have ha:=zmj
 go_enter Tryz.func119,Tryz.ntmps119
 go_wp2_with fail
 generalize wrap64 (wrap64 (h * 6364136223846793005)+1442695040888963407)=h2
 have hb2:=zah (k:=2) (.int .i64 h2) HB.out
 have hg2:=grownBy_setCell w p 2 (.int .i64 h2)
 obtain⟨w2,hw2⟩:∃ w2,w.setCell ⟨p,2,none⟩ (.int .i64 h2)=w2:=⟨_,rfl⟩
 rw[hw2] at hb2 hg2 ⊢
 have hb2':w2.heap[p]? = some (.cells #[.slice a len cap,.int .i64 (i:Int),.int .i64 h2] 135 (0,0)):=hb2
 clear hw2 hb2 c0 c1 c2 f1 f2
 have HG:=hide hg2
 have hcode2:CodeAt B w2 a len:=hcode.below (zdy hg2 hB (by omega))
 obtain⟨c0,c1,c2,f1,f2⟩:=zd5 hb2'
 have HB2:=hide hb2'
 clear hg2 hcode hb2' HB
 by_cases hlt:i<len
 ·obtain⟨x,b,rfl,hx1,hx2⟩:=hcode2 i hlt
  have hbt:=b.toNat_lt
  go_quiet (fail)
  go_wp2_with fail
  go_quiet (fail)
  go_wp2_with fail
  go_quiet (fail)
  go_wp2_with fail
  go_ret
  refine⟨_,?_,congrArg (fun x=>Ending.returned (Value.int .i64 x)) (Int.toNat_of_nonneg ?_).symm,⟨hB,hlen,?_,i+1,h2,by omega,?_⟩,?_⟩
  ·have:=Int.emod_lt_of_pos (bits BinOp.xor IntKind.i64 (h2 / 8589934592) (h2 / 35184372088832)+(b.toNat:Int)) (show (0:Int)<256 by decide)
   have:=Int.emod_nonneg (bits BinOp.xor IntKind.i64 (h2 / 8589934592) (h2 / 35184372088832)+(b.toNat:Int)) (show (256:Int)≠0 by decide)
   omega
  ·exact Int.emod_nonneg _ (by decide)
  ·exact hcode2.below ((zeb (Below.refl _ _) rfl rfl rfl rfl:Below B w2 (w2.drewN _)).setCell hB _)
  ·exact zah (w:=w2.drewN _) (k:=1) (.int .i64 ((i:Int)+1)) HB2.out
  ·refine grownBy_trans ?_ (grownBy_setCell _ p 1 _)
   exact zbi HG.out rfl rfl rfl rfl
 ·go_quiet (fail)
  go_wp2_with fail
  go_quiet (fail)
  go_wp2_with fail
  go_ret
  refine⟨_,?_,congrArg (fun x=>Ending.returned (Value.int .i64 x)) (Int.toNat_of_nonneg ?_).symm,⟨hB,hlen,?_,i,h2,hi,?_⟩,?_⟩
  ·have:=Int.emod_lt_of_pos (bits BinOp.xor IntKind.i64 (h2 / 8589934592) (h2 / 35184372088832)) (show (0:Int)<256 by decide)
   have:=Int.emod_nonneg (bits BinOp.xor IntKind.i64 (h2 / 8589934592) (h2 / 35184372088832)) (show (256:Int)≠0 by decide)
   omega
  ·exact Int.emod_nonneg _ (by decide)
  ·exact hcode2.below (zeb (Below.refl _ _) rfl rfl rfl rfl)
  ·exact HB2.out
  ·exact zbi HG.out rfl rfl rfl rfl

set_option maxHeartbeats 1000000 in
theorem z1u (B p:Nat) (a:Option Addr) (len cap:Nat) (n:Nat) (h0:0<n) (h1:n≤4294967296) (w:World) (hc:CurAt B w p a len cap) :
  Calls Tryz.prog 66 #[.pointer (some ⟨p,0,none⟩),.int .i64 (n:Int)] w fun e w'=>∃ x:Nat,x<n∧e=.returned (.int .i64 (x:Int))∧CurAt B w' p a len cap∧w.grownBy w' (some p):=by
 have HC:=hide hc
 clear hc
 have g1:¬ ((n:Int)≤0):=by omega
 by_cases hn:n≤256
 ·have g2:decide ((n:Int)≤256)=true:=by simp;omega
  go_enter Tryz.func66,Tryz.ntmps66
  go_wp2_with (go_at_call 119;refine (z4x B p a len cap _ HC.out).mono ?_;rintro e w1 ⟨x,hx,rfl,hc1,hg1⟩;have DI:=hide hc1;have Dv:=hide hg1;clear hc1 hg1)
  go_ret
  exact⟨x % n,Nat.mod_lt _ h0,by simp,DI.out,Dv.out⟩
 ·have g2:decide ((n:Int)≤256)=false:=by simp;omega
  go_enter Tryz.func66,Tryz.ntmps66
  go_wp2_with fail
  refine (z4x B p a len cap _ HC.out).mono ?_
  rintro e w1 ⟨x1,hx1,rfl,hc1,hg1⟩
  have DI:=hide hc1
  have Dv:=hide hg1
  clear hc1 hg1
  go_wp2_with fail
  refine (z4x B p a len cap _ DI.out).mono ?_
  rintro e w2 ⟨x2,hx2,rfl,hc2,hg2⟩
  have Gx:=hide hc2
  have HG2:=hide (grownBy_trans Dv.out hg2)
  clear hc2 hg2
  go_wp2_with fail
  refine (z4x B p a len cap _ Gx.out).mono ?_
  rintro e w3 ⟨x3,hx3,rfl,hc3,hg3⟩
  have Gy:=hide hc3
  have Ch:=hide (grownBy_trans HG2.out hg3)
  clear hc3 hg3
  go_wp2_with fail
  refine (z4x B p a len cap _ Gy.out).mono ?_
  rintro e w4 ⟨x4,hx4,rfl,hc4,hg4⟩
  have Jc:=hide hc4
  have AP:=hide (grownBy_trans Ch.out hg4)
  clear hc4 hg4
  go_wp2_with fail
  go_ret
  exact⟨(x1 * 16777216+x2 * 65536+x3 * 256+x4) % n,Nat.mod_lt _ h0,by simp,Jc.out,AP.out⟩

end Go.Proofs.YtgebcpkpdbdfoaaGreat

namespace Go.Proofs.YtgebcpkpdbdfoaaGreat
open Go.RowKit K

set_option maxHeartbeats 1000000 in
theorem zhg (B:Nat) (a:Option Addr) (len cap:Nat) (w:World) (hlen:len≤1048576) (hB:B≤w.heap.size) (hcode:CodeAt B w a len) :
  Calls Tryz.prog 43 #[.slice a len cap] w fun e w'=>e=.returned (.pointer (some ⟨w.heap.size,0,none⟩))∧CurAt B w' w.heap.size a len cap∧Below w.heap.size w w':=by
 have HC:=hide hcode
 clear hcode
 have ha:=zmx
 go_enter Tryz.func43,Tryz.ntmps43
 go_wp2_with fail
 go_loop [3,4] (fun h i=>∃ (k:Nat) (x:Int),i=.int .i64 (k:Int)∧h=.int .i64 x∧k≤len) (fun _ i=>len - (intOf i).toNat)
 case atStart=>exact⟨0,_,rfl,rfl,Nat.zero_le _⟩
 case round =>
  obtain⟨k,x,rfl,rfl,hk⟩:=hrel
  by_cases hlt:k<len
  ·by_cases h4:k<4000
   ·have g1:decide ((k:Int)<(len:Int))=true:=by simp;omega
    have g2:decide ((k:Int)<4000)=true:=by simp;omega
    obtain⟨y,b,rfl,hx1,hx2⟩:=HC.out k hlt
    have hbt:=b.toNat_lt
    go_wp2_with fail
    go_round
    case rel=>exact⟨k+1,_,by go_num,rfl,by omega⟩
    case measure=>simp[intOf];omega
   ·have g1:decide ((k:Int)<(len:Int))=true:=by simp;omega
    have g2:decide ((k:Int)<4000)=false:=by simp;omega
    go_wp2_with fail
    go_ret
    exact⟨rfl,⟨hB,hlen,HC.out.below ((Below.refl _ _).alloc hB _),0,x,Nat.zero_le _,heap_alloc_new w _⟩,(Below.refl _ _).alloc (Nat.le_refl _) _⟩
  ·have g1:decide ((k:Int)<(len:Int))=false:=by simp;omega
   go_wp2_with fail
   go_ret
   exact⟨rfl,⟨hB,hlen,HC.out.below ((Below.refl _ _).alloc hB _),0,x,Nat.zero_le _,heap_alloc_new w _⟩,(Below.refl _ _).alloc (Nat.le_refl _) _⟩

theorem zmk (a:Option Addr) (len cap:Nat) (h:len≤1048576) (w:World) :
  Calls Tryz.prog 9 #[.slice a len cap] w fun e w'=>e=.returned (.bool false)∧w=w':=by
 have g:decide ((1048576:Int)<(len:Int))=false:=by simp;omega
 go_enter Tryz.func9,Tryz.ntmps9
 go_wp2_with fail
 go_ret
 exact⟨rfl,rfl⟩

theorem zlu (a:Option Addr) (len cap:Nat) (h:1048576<len) (w:World) :
  Calls Tryz.prog 9 #[.slice a len cap] w fun e w'=>e=.returned (.bool true)∧w=w':=by
 have g:decide ((1048576:Int)<(len:Int))=true:=by simp;omega
 go_enter Tryz.func9,Tryz.ntmps9
 go_wp2_with fail
 go_ret
 exact⟨rfl,rfl⟩

end Go.Proofs.YtgebcpkpdbdfoaaGreat

namespace Go.Proofs.YtgebcpkpdbdfoaaGreat
open Go.RowKit K

theorem z3s (B p:Nat) (a:Option Addr) (len cap:Nat) (n:Nat) (h0:0<n) (h1:n≤4294967296) (w:World) (hc:CurAt B w p a len cap) :
  Calls Tryz.prog 99 #[.pointer (some ⟨p,0,none⟩),.int .i64 (n:Int)] w fun e w'=>∃ b:Bool,e=.returned (.bool b)∧CurAt B w' p a len cap∧w.grownBy w' (some p):=by
 go_enter Tryz.func99,Tryz.ntmps99
 go_wp2_with fail
 refine (z1u B p a len cap n h0 h1 _ hc).mono ?_
 rintro e w1 ⟨x,hx,rfl,hc1,hg1⟩
 go_wp2_with fail
 go_ret
 exact⟨_,rfl,hc1,hg1⟩

theorem zke {w:World} {base:Nat} {e:TypeId} {g n cap:Nat} {xs:List Value} (h:w.ownsRow base e 1 (.slice (some ⟨g,0,none⟩) n cap) n xs) (j:Nat) (u:Value) (hu:xs[j]? = some u):w.cell? ⟨g,j,none⟩=some u:=by
 have:=h.cells (g:=g) rfl j u hu
 have ha:(⟨g,0,none⟩:Addr).add j=⟨g,j,none⟩:=by unfold Addr.add;split<;>simp_all
 rwa [ha] at this

def I64z (l:List Int):List Value:=l.map (fun n:Int=>Value.int .i64 n)

theorem z2n (B p:Nat) (a:Option Addr) (len cap:Nat) (base:Nat) (v:Value) (xs:List Int) (h0:0<xs.length) (h1:xs.length≤1000000) (w:World) (hp:p<base)
  (hown:w.ownsRow base 3 1 v xs.length (I64z xs)) (hc:CurAt B w p a len cap) :
  Calls Tryz.prog 169 #[.pointer (some ⟨p,0,none⟩),v] w fun e w'=>∃ x∈xs,e=.returned (.int .i64 x)∧CurAt B w' p a len cap∧w.grownBy w' (some p):=by
 have HO:=hide hown
 obtain⟨hl,hnil|⟨g,capP,cur,rfl,hgB,hgh,hcapP,hmaxP,hcurS,htake⟩⟩:=hown
 ·omega
 clear hl hgh hcurS htake hmaxP
 go_enter Tryz.func169,Tryz.ntmps169
 go_wp2_with fail
 refine (z1u B p a len cap xs.length h0 (by omega) _ hc).mono ?_
 rintro e w1 ⟨i,hi,rfl,hc1,hg1⟩
 have hown1:=HO.out.kept hg1 (by right;simp[Value.ownBlock];omega)
 have hce:=zke hown1 i (.int .i64 xs[i]) (by simp[I64z,hi])
 have i0:(0:Int)≤(i:Int):=by omega
 have i1:(i:Int)<(xs.length:Int):=by omega
 have DI:=hide hc1
 have Dv:=hide hg1
 clear hc1 hg1 hown1 hc HO
 go_wp2_with fail
 go_ret
 exact⟨xs[i],List.getElem_mem _,rfl,DI.out,Dv.out⟩

end Go.Proofs.YtgebcpkpdbdfoaaGreat

namespace Go.Proofs.YtgebcpkpdbdfoaaGreat
open Go.RowKit P9 P12 K

theorem z02 {a b c:World} {r:Option Nat} (h:a.grownBy b r) (k:Below a.heap.size b c):a.grownBy c r :=
 ⟨k.os.trans h.os,k.tape.trans h.tape,k.output.trans h.output,Nat.le_trans h.size k.size,fun i hi hne=>(k.block i hi).trans (h.block i hi hne)⟩

theorem z4y {w:World} {b:Nat} {id kd sn us mb dp:Int} {xl xp:Value} {tx:List UInt8} {base2:Nat} {e2:TypeId} {k2:Nat} {v2:Value} {n2:Nat} {xs2:List Value} (hj:EB w b id kd sn us mb dp xl xp tx) (ho:w.ownsRow base2 e2 k2 v2 n2 xs2) (hne:e2≠47):v2.ownBlock≠some b:=by
 intro e1
 rcases ho.2 with ⟨rfl,-⟩|⟨g,cap,cur,rfl,-,hgb,-⟩
 ·cases e1
 ·cases e1
  unfold EB at hj
  rw[hgb] at hj
  injection hj with hj
  injection hj with h1 h2 h3
  exact hne h2

section
variable {w w':World} {b base top:Nat} {id kd sn us mb dp:Int} {vl vp:Value} {tx:List UInt8} {n m k:Nat} {zl zp:List Int}

end

end Go.Proofs.YtgebcpkpdbdfoaaGreat

namespace Go.Proofs.YtgebcpkpdbdfoaaGreat
open Go.RowKit P9 P12 K

theorem z5w {P:Program} {w:World} {ops:Array Oper} {o:Oper} {a:Act} {K:Act→World→Prop} {Q:Exit→Act→World→Prop} {E:Prop} (hgd:o.guard=none) (s x:Operand) (t:TypeId)
  (ho:o.op=.call { callee:=.builtin .append,args:=#[s,x],argTypes:=#[t,t] })
  {base:Nat} {e:TypeId} {z:Value} {bytes:Nat} (ht:P.underlying t=some (.slice e)) (hi:(P.info? e).map (fun i=>(i.zero,i.size,i.bytes))=some (some z,1,bytes)) (hzs:z.cells.size=1)
  {v:Value} {n:Nat} {xs:List Value} (hs:a.eval s=v) (hown:w.ownsRow base e 1 v n xs)
  {b m c:Nat} {cs:Array Value} (hx:a.eval x=.slice (some ⟨b,0,none⟩) m c) (hm:cs.toList.length=m) (hb:w.heap[b]? = some (.cells cs e (0,0))) (hu:∀ u∈cs.toList,u.oneCell'=true)
  (hbase:base≤w.heap.size) (h63:n+m≤maxLen) (hbytes:(n+m) * bytes≤140737488355328)
  (h:∀ v' w',w'.ownsRow base e 1 v' (n+m) (xs++cs.toList)→w.grownBy w' v.ownBlock→(v'.ownBlock=v.ownBlock∨v'.ownBlock=some w.heap.size)→K (a.put o.dst v') w') :
  if Region.wanted o (yielded ops a.tmps)=true then Oper.wp P o a w K Q else E:=by
 obtain⟨i,hi,hz,h1,h2⟩:=info_parts hi
 have hw:Region.wanted o (yielded ops a.tmps)=true:=by simp[Region.wanted,hgd]
 rw[if_pos hw]
 obtain⟨v',w',hr,k2,k3,k4,k5⟩:=run_append_own_at (P:=P) w base t o.type e i z 1 bytes ht hi hz h1 h2 hzs (by decide) v n xs hown ⟨b,0,none⟩ m c cs.toList (by rw[hm];omega) (World.news_of_block hb) hu h63 hbytes hbase
 unfold Oper.wp execOp
 simp only[ho,resolve,invoke,builtin,Sem.run_bind,Sem.run_pure,Result.andThen_ok,List.map_toArray,List.map_cons,List.map_nil,hs,hx,hr]
 exact h v' w' k2 k3 k5

structure DE (B p:Nat) (a:Option Addr) (len cap:Nat) (w W:World) (R b:Nat) (id kd sn us mb dp:Int) (xl xp:Value) (tx:List UInt8) (vl vp:Value) (n m:Nat) (zl zp:List Int):Prop where
 cur:CurAt B W p a len cap
 r:EB W R 0 0 0 0 0 0 (.slice none 0 0) (.slice none 0 0) []
 e:EB W b id kd sn us mb dp xl xp tx
 gr:w.grownBy W (some p)
 l:W.ownsRow w.heap.size 3 1 vl n (zl.map zu)
 q:W.ownsRow w.heap.size 3 1 vp m (zp.map zu)
 ne:∀ k,vl.ownBlock=some k→vp.ownBlock≠some k
 hp:p<w.heap.size
 hB:B≤w.heap.size
 hR:w.heap.size≤R
 hb:w.heap.size≤b
 hne:R≠b
 fl:∀ z∈zl,(Lit.int .i64 z).wf=true
 fp:∀ z∈zp,(Lit.int .i64 z).wf=true

section
variable {B p:Nat} {a:Option Addr} {len cap:Nat} {w W W':World} {R b:Nat} {id kd sn us mb dp:Int} {xl xp:Value} {tx:List UInt8} {vl vp:Value} {n m:Nat} {zl zp:List Int}

theorem DE.drawn (h:DE B p a len cap w W R b id kd sn us mb dp xl xp tx vl vp n m zl zp) (hc:CurAt B W' p a len cap) (hg:W.grownBy W' (some p)):DE B p a len cap w W' R b id kd sn us mb dp xl xp tx vl vp n m zl zp :=
 ⟨hc,h.r.kept hg (fun q=>by have:=Option.some.inj q;have:=h.hp;have:=h.hR;omega),h.e.kept hg (fun q=>by have:=Option.some.inj q;have:=h.hp;have:=h.hb;omega),zm h.gr hg,
  h.l.kept hg (Or.inr (fun q=>by have:=h.l.lt p q;have:=h.hp;omega)),h.q.kept hg (Or.inr (fun q=>by have:=h.q.lt p q;have:=h.hp;omega)),h.ne,h.hp,h.hB,h.hR,h.hb,h.hne,h.fl,h.fp⟩

theorem DE.on (h:DE B p a len cap w W R b id kd sn us mb dp xl xp tx vl vp n m zl zp) (hb:Below W.heap.size W W'):DE B p a len cap w W' R b id kd sn us mb dp xl xp tx vl vp n m zl zp :=
 ⟨h.cur.kept (hb.mono (Nat.le_trans h.hB h.gr.size)) (hb.block p h.cur.lt),h.r.on hb h.r.lt,h.e.on hb h.e.lt,zm h.gr (z19 hb),own_below h.l hb,own_below h.q hb,h.ne,h.hp,h.hB,h.hR,h.hb,h.hne,h.fl,h.fp⟩

theorem DE.grow (h:DE B p a len cap w W R b id kd sn us mb dp xl xp tx vl vp n m zl zp) (o:Obj):DE B p a len cap w (W.alloc o) R b id kd sn us mb dp xl xp tx vl vp n m zl zp:=h.on ((Below.refl _ _).alloc (Nat.le_refl _) o)

theorem DE.drew (h:DE B p a len cap w W R b id kd sn us mb dp xl xp tx vl vp n m zl zp):DE B p a len cap w W.drew R b id kd sn us mb dp xl xp tx vl vp n m zl zp:=h.on (Below.refl _ _).drew

theorem DE.put (h:DE B p a len cap w W R b id kd sn us mb dp xl xp tx vl vp n m zl zp) {id' kd' sn' us' mb' dp':Int} {xl' xp':Value} {tx':List UInt8} {k:Nat} {v:Value}
  (he:EB (W.setCell ⟨b,k,none⟩ v) b id' kd' sn' us' mb' dp' xl' xp' tx'):DE B p a len cap w (W.setCell ⟨b,k,none⟩ v) R b id' kd' sn' us' mb' dp' xl' xp' tx' vl vp n m zl zp:=by
 have hg:=z01 W b k v
 have hlow:Below w.heap.size W (W.setCell ⟨b,k,none⟩ v):=(Below.refl _ _).setCell h.hb v
 exact⟨h.cur.kept (hlow.mono h.hB) (hlow.block p h.hp),h.r.kept hg (fun q=>h.hne (Option.some.inj q).symm),he,z02 h.gr hlow,h.l.kept hg (Or.inr (z4y h.e h.l (by decide))),h.q.kept hg (Or.inr (z4y h.e h.q (by decide))),h.ne,h.hp,h.hB,h.hR,h.hb,h.hne,h.fl,h.fp⟩

theorem DE.pushL (h:DE B p a len cap w W R b id kd sn us mb dp xl xp tx vl vp n m zl zp) {vl':Value} {n':Nat} {zl':List Int} (ho:W'.ownsRow w.heap.size 3 1 vl' n' (zl'.map zu)) (hg:W.grownBy W' vl.ownBlock) (hor:vl'.ownBlock=vl.ownBlock∨vl'.ownBlock=some W.heap.size) (hf:∀ z∈zl',(Lit.int .i64 z).wf=true) :
  DE B p a len cap w W' R b id kd sn us mb dp xl xp tx vl' vp n' m zl' zp:=by
 have hlow:Below w.heap.size W W':=(Below.refl _ _).grown hg h.gr.size (fun k hk=>(h.l.lt k hk).1)
 refine⟨h.cur.kept (hlow.mono h.hB) (hlow.block p h.hp),h.r.kept hg (z4y h.r h.l (by decide)),h.e.kept hg (z4y h.e h.l (by decide)),z02 h.gr hlow,ho,h.q.kept hg ?_,?_,h.hp,h.hB,h.hR,h.hb,h.hne,hf,h.fp⟩
 ·cases hq:vp.ownBlock with
  | none=>exact Or.inl rfl
  | some j=>exact Or.inr (fun q=>h.ne j q.symm hq)
 ·intro k hk hq
  rcases hor with hor|hor
  ·exact h.ne k (hor ▸ hk) hq
  ·have:=(h.q.lt k hq).2
   rw[hor] at hk
   have:=Option.some.inj hk
   omega

end

def EvD (N M:Nat) (B p:Nat) (a:Option Addr) (len cap:Nat) (w:World) (e:Ending) (w':World):Prop :=
 ∃ (id kd sn us mb dp:Int) (vl vp:Value) (tx:List UInt8) (n m:Nat) (zl zp:List Int),e=.returned (z2g id kd sn us mb dp vl vp tx)∧n≤N∧m≤M∧tx.length≤30∧EvOwn w' w.heap.size vl vp n m zl zp∧(∀ z∈zl,(Lit.int .i64 z).wf=true)∧(∀ z∈zp,(Lit.int .i64 z).wf=true)∧CurAt B w' p a len cap∧w.grownBy w' (some p)

theorem z6j (l:List Int) (n:Int):l.map zu++[.int .i64 n]=(l++[n]).map zu:=by simp[zu]

theorem za5 {l:List Int} {z:Int} (h:∀ y∈l,(Lit.int .i64 y).wf=true) (hz:-1000000000≤z∧z≤1000000000000):∀ y∈l++[z],(Lit.int .i64 y).wf=true:=by
 intro y hy
 rcases List.mem_append.1 hy with hy|hy
 ·exact h y hy
 ·simp at hy;subst hy;exact z2o hz.1 hz.2

theorem zlv:(Tryz.prog.info? 9).map (·.size)=some 1:=by kernel_rfl

set_option maxHeartbeats 1000000 in
theorem zd6 (B p:Nat) (a:Option Addr) (len cap:Nat) (g k:Nat) (ns:List (List UInt8)) (w:World) (hc:CurAt B w p a len cap) (h0:0<k) (h1:k≤1000) (hgp:g≠p) (hns:∀ j,j<k→∃ l,ns[j]? = some l∧w.cell? ⟨g,j,none⟩=some (.string ⟨l.toArray⟩)) :
  Calls Tryz.prog 170 #[.pointer (some ⟨p,0,none⟩),.slice (some ⟨g,0,none⟩) k k] w fun e w'=>∃ l:List UInt8,l∈ns∧e=.returned (.string ⟨l.toArray⟩)∧CurAt B w' p a len cap∧w.grownBy w' (some p):=by
 have HC:=hide hc
 have Ac:=hide hns
 clear hc hns
 go_enter Tryz.func170,Tryz.ntmps170
 go_wp2_with fail
 refine (z1u B p a len cap k h0 (by omega) _ HC.out).mono ?_
 rintro e w1 ⟨x,hx,rfl,hc1,hg1⟩
 obtain⟨l,hl,hcell⟩:=Ac.out x hx
 have c1:=hg1.cell hcell (fun e=>hgp (Option.some.inj e))
 have hidx:∀ wx,(Instr.indexAt 59 (.slice (some ⟨g,0,none⟩) k k) (.int .i64 (x:Int))).run Tryz.prog wx=.ok (.pointer (some ⟨g,x,none⟩)) wx:=fun wx=>by
  have:=run_indexAt_slice wx 59 9 1 Tryz.underlying59 zlv g 0 k k x hx
  rwa [Nat.zero_add,Nat.mul_one] at this
 have HM:=hide (List.mem_of_getElem? hl)
 have DI:=hide hc1
 have Dv:=hide hg1
 clear hl hcell hc1 hg1 HC Ac
 go_wp2_with fail
 go_ret
 exact⟨l,HM.out,rfl,DI.out,Dv.out⟩

end Go.Proofs.YtgebcpkpdbdfoaaGreat
