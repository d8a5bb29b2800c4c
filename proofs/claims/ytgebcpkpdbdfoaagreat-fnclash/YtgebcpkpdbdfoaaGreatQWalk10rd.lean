/-
  Walks and mathematics of Walk10rd, LawOrd1.
-/
import Derived.Test.YtgebcpkpdbdfoaaGreatQWalk10rc
import Derived.Test.YtgebcpkpdbdfoaaGreatQWalk12m
import Derived.Test.YtgebcpkpdbdfoaaGreatQDraw1
import Derived.Test.YtgebcpkpdbdfoaaGreatQWalk11za
import Derived.Test.YtgebcpkpdbdfoaaGreatQOrd1
set_option linter.unusedVariables false
set_option linter.unusedSimpArgs false
namespace Go.Proofs.YtgebcpkpdbdfoaaGreat
open Go.RowKit P1 P5 P9 P12 P14 P15 K

structure OutK (w W:World) (br be:Nat) (oa:Option Addr) (ca:Nat) (es:List EvV) (vs vg:Value) (ob:Option Addr) (cb:Nat) (s:St) (e:EvV) (xa:Option Addr) (xc:Nat) (ya:Option Addr) (yc:Nat):Prop where
 rm:W.heap[br]? = some (.cells #[.slice oa es.length ca,vs,vg] 41 (0,0))
 eb:EB W be e.id e.kind e.sender e.user e.member e.depth (.slice xa e.levels.length xc) (.slice ya e.prev.length yc) e.text
 ev:EvsAt W oa es.length ca es
 it:ItemsAt W ob s.length cb s
 lx:IntsAt W xa e.levels.length xc e.levels
 ly:IntsAt W ya e.prev.length yc e.prev
 bl:Below w.heap.size w W

theorem OutK.on {w W W':World} {br be:Nat} {oa:Option Addr} {ca:Nat} {es:List EvV} {vs vg:Value} {ob:Option Addr} {cb:Nat} {s:St} {e:EvV} {xa:Option Addr} {xc:Nat} {ya:Option Addr} {yc:Nat} (h:OutK w W br be oa ca es vs vg ob cb s e xa xc ya yc) (hb:Below W.heap.size W W'):OutK w W' br be oa ca es vs vg ob cb s e xa xc ya yc :=
 ⟨(hb.block br (zf h.rm)).trans h.rm,h.eb.on hb h.eb.lt,h.ev.below hb,h.it.below hb,h.lx.below hb,h.ly.below hb,h.bl.trans (hb.mono h.bl.size)⟩

end Go.Proofs.YtgebcpkpdbdfoaaGreat

namespace Go.Proofs.YtgebcpkpdbdfoaaGreat
open Go.RowKit P1 P5 P9 P12 P14 P15 P16 P17 K

set_option maxHeartbeats 1000000 in
theorem zfj (oa:Option Addr) (n cap:Nat) (ob:Option Addr) (cap':Nat) (zs:List Int) (hn20:n≤1048576) (w:World) (hat:IntsAt w oa n cap zs) (hbt:IntsAt w ob n cap' zs) :
  Calls Tryz.prog 17 #[.slice oa n cap,.slice ob n cap'] w fun e w'=>e=.returned (.bool true)∧Below w.heap.size w w':=by
 have HAT:=hide hat
 have Ce:=hide hbt
 clear hat hbt
 go_enter Tryz.func17,Tryz.ntmps17
 go_wp2_with fail
 go_loopw [5] (fun i wr=>∃ (j q:Nat),i=.int .i64 (j:Int)∧j≤n∧wr=w.drewN q) (fun i _=>n - (intOf i).toNat)
 case atStart=>exact⟨0,0,rfl,Nat.zero_le _,rfl⟩
 case round =>
  obtain⟨j,q,rfl,hj,rfl⟩:=hrel
  by_cases hlt:j < n
  ·have j0:(j:Int) < (n:Int):=by omega
   obtain⟨z,b,p,hz,hidx,hb,c0,hwf⟩:=HAT.out.get Tryz.underlying32 z0m j hlt
   obtain⟨z',b',p',hz',hidx',hb',c0',hwf'⟩:=Ce.out.get Tryz.underlying32 z0m j hlt
   rw[hz] at hz'
   cases hz'
   clear hz
   go_wp2_with fail
   go_quiet (fail)
   go_wp2_with fail
   go_roundw
   case rel=>exact⟨j+1,q+nq,by go_num,by omega,by simp⟩
   case measure=>simp[intOf];omega
  ·go_wp2_with fail
   go_ret
   exact⟨rfl,below_drewN (Below.refl _ _) _⟩

theorem inL_iff {zs:List Int} {x:Int}:inL zs x=true ↔ x∈zs:=List.contains_iff_mem

set_option maxHeartbeats 1000000 in
theorem zdq (oa:Option Addr) (n cap:Nat) (zs:List Int) (x:Int) (w:World) (hat:IntsAt w oa n cap zs) :
  Calls Tryz.prog 20 #[.slice oa n cap,.int .i64 x] w fun e w'=>e=.returned (.bool (inL zs x))∧w'=w:=by
 have hmx:=Nat.le_trans hat.room hat.most
 unfold maxLen at hmx
 have HN:=hide hat.len
 have HAT:=hide hat
 clear hat
 go_enter Tryz.func20,Tryz.ntmps20
 go_wp2_with fail
 go_loop [5] (fun i=>∃ (j:Nat),i=.int .i64 (j:Int)∧j≤n∧inL (zs.take j) x=false) (fun i=>n - (intOf i).toNat)
 case atStart=>exact⟨0,rfl,Nat.zero_le _,by simp[inL]⟩
 case round =>
  obtain⟨j,rfl,hj,hno⟩:=hrel
  have M6:=hide hno
  clear hno
  by_cases hlt:j < n
  ·have j0:(j:Int) < (n:Int):=by omega
   obtain⟨z,b,q,hz,hidx,hb,c0,hwf⟩:=HAT.out.get Tryz.underlying32 z0m j hlt
   have AZ:=hide (z4s hz)
   have HZ:=hide hz
   clear hz
   cases hzx:(z == x)
   ·have Bb:=hide (show inL (zs.take (j+1)) x=false from by
     have h1:=M6.out
     have h2:¬ z=x:=by simpa using hzx
     rw[AZ.out]
     rw[Bool.eq_false_iff] at h1 ⊢
     intro q
     apply h1
     rw[inL_iff] at q ⊢
     rcases List.mem_append.1 q with q | q
     ·exact q
     ·simp at q;exact absurd q.symm h2)
    go_wp2_with fail
    go_round
    case rel=>exact⟨j+1,by go_num,by omega,Bb.out⟩
    case measure=>simp[intOf];omega
   ·have Gn:=hide (show inL zs x=true from by
     have h2:z=x:=by simpa using hzx
     rw[inL_iff,← h2]
     exact List.mem_of_getElem? HZ.out)
    go_wp2_with fail
    go_ret
    exact⟨by first | exact Gn.out | exact Gn.out.symm | simp[Gn.out],rfl⟩
  ·have Bb:=hide (show inL zs x=false from by
    have h1:=M6.out
    rwa [List.take_of_length_le (by rw[HN.out];omega)] at h1)
   go_wp2_with fail
   go_ret
   exact⟨by first | exact Bb.out | exact Bb.out.symm | simp[Bb.out],rfl⟩

structure JO (W:World) (ct:Nat→Option Value) (e:EvV) (V:Gh) (w:World):Prop where
 pt:PT ct V
 bel:Below W.heap.size W w
 k8:∀ v,V 6=some v→∃ ol cl oq cq,v=.tuple #[evv e (.slice ol e.levels.length cl) (.slice oq e.prev.length cq),.bool true]∧w.ownsRow W.heap.size 3 1 (.slice ol e.levels.length cl) e.levels.length (e.levels.map zu)∧w.ownsRow W.heap.size 3 1 (.slice oq e.prev.length cq) e.prev.length (e.prev.map zu)
 m9:∀ v,V 7=some v→V 6=some v
 x10:∀ v,V 8=some v→∃ t,V 6=some (.tuple #[v,t])
 x11:∀ v,V 9=some v→∃ t,V 6=some (.tuple #[t,v])
 b12:∀ v,V 10=some v→∃ b,v=.pointer (some ⟨b,0,none⟩)∧W.heap.size≤b∧(V 11=none→EB w b 0 0 0 0 0 0 (.slice none 0 0) (.slice none 0 0) [])∧(V 11≠none→∃ ol cl oq cq t,V 6=some (.tuple #[evv e (.slice ol e.levels.length cl) (.slice oq e.prev.length cq),t])∧EB w b e.id e.kind e.sender e.user e.member e.depth (.slice ol e.levels.length cl) (.slice oq e.prev.length cq) e.text)
 x14:∀ v,V 12=some v→V 9=some v

section
variable {W:World} {ct:Nat→Option Value} {e:EvV} {V:Gh} {w w':World}

theorem JO.on (h:JO W ct e V w) (hb:Below w.heap.size w w'):JO W ct e V w':=by
 refine⟨h.pt,h.bel.trans (hb.mono h.bel.size),fun v hv=>?_,h.m9,h.x10,h.x11,fun v hv=>?_,h.x14⟩
 ·obtain⟨ol,cl,oq,cq,q1,q2,q3⟩:=h.k8 v hv
  exact⟨ol,cl,oq,cq,q1,own_below q2 hb,own_below q3 hb⟩
 ·obtain⟨b,q1,q2,q3,q4⟩:=h.b12 v hv
  refine⟨b,q1,q2,fun hn=>(q3 hn).on hb (q3 hn).lt,fun hn=>?_⟩
  obtain⟨ol,cl,oq,cq,t,r1,r2⟩:=q4 hn
  exact⟨ol,cl,oq,cq,t,r1,r2.on hb r2.lt⟩

theorem JO.put (h:JO W ct e V w) {i:Nat} {v:Value} (hi:V i=none) (hc:∀ c,ct i=some c→v=c)
  (a8:i=6→∃ ol cl oq cq,v=.tuple #[evv e (.slice ol e.levels.length cl) (.slice oq e.prev.length cq),.bool true]∧w.ownsRow W.heap.size 3 1 (.slice ol e.levels.length cl) e.levels.length (e.levels.map zu)∧w.ownsRow W.heap.size 3 1 (.slice oq e.prev.length cq) e.prev.length (e.prev.map zu))
  (a9:i=7→V 6=some v) (a10:i=8→∃ t,V 6=some (.tuple #[v,t])) (a11:i=9→∃ t,V 6=some (.tuple #[t,v]))
  (a12:i=10→∃ b,v=.pointer (some ⟨b,0,none⟩)∧W.heap.size≤b∧EB w b 0 0 0 0 0 0 (.slice none 0 0) (.slice none 0 0) []∧V 11=none) (a13:i≠11) (a14:i=12→V 9=some v):JO W ct e (V.set i v) w:=by
 refine⟨h.pt.set hc,h.bel,fun u hu=>?_,fun u hu=>?_,fun u hu=>?_,fun u hu=>?_,fun u hu=>?_,fun u hu=>?_⟩
 ·by_cases e8:6=i
  ·subst e8;rw[Gh.set_self] at hu;cases hu;exact a8 rfl
  ·rw[Gh.set_ne V v e8] at hu;exact h.k8 u hu
 ·by_cases e9:7=i
  ·subst e9;rw[Gh.set_self] at hu;cases hu;exact zx hi (a9 rfl)
  ·rw[Gh.set_ne V v e9] at hu;exact zx hi (h.m9 u hu)
 ·by_cases e9:8=i
  ·subst e9;rw[Gh.set_self] at hu;cases hu;obtain⟨t,ht⟩:=a10 rfl;exact⟨t,zx hi ht⟩
  ·rw[Gh.set_ne V v e9] at hu;obtain⟨t,ht⟩:=h.x10 u hu;exact⟨t,zx hi ht⟩
 ·by_cases e9:9=i
  ·subst e9;rw[Gh.set_self] at hu;cases hu;obtain⟨t,ht⟩:=a11 rfl;exact⟨t,zx hi ht⟩
  ·rw[Gh.set_ne V v e9] at hu;obtain⟨t,ht⟩:=h.x11 u hu;exact⟨t,zx hi ht⟩
 ·by_cases e9:10=i
  ·subst e9
   rw[Gh.set_self] at hu
   cases hu
   obtain⟨b,q1,q2,q3,q4⟩:=a12 rfl
   refine⟨b,q1,q2,fun _=>q3,fun hn=>?_⟩
   rw[Gh.set_ne V _ (by decide),q4] at hn
   exact absurd rfl hn
  ·rw[Gh.set_ne V v e9] at hu
   obtain⟨b,q1,q2,q3,q4⟩:=h.b12 u hu
   refine⟨b,q1,q2,fun hn=>?_,fun hn=>?_⟩
   ·rw[Gh.set_ne V v (Ne.symm a13)] at hn;exact q3 hn
   ·rw[Gh.set_ne V v (Ne.symm a13)] at hn
    obtain⟨ol,cl,oq,cq,t,r1,r2⟩:=q4 hn
    exact⟨ol,cl,oq,cq,t,zx hi r1,r2⟩
 ·by_cases e9:12=i
  ·subst e9;rw[Gh.set_self] at hu;cases hu;exact zx hi (a14 rfl)
  ·rw[Gh.set_ne V v e9] at hu;exact zx hi (h.x14 u hu)

theorem JO.s13 (h:JO W ct e V w) {t v:Value} {b:Nat} {ol oq:Option Addr} {cl cq:Nat} (hi:V 11=none) (h8:V 6=some (.tuple #[evv e (.slice ol e.levels.length cl) (.slice oq e.prev.length cq),t])) (hct:ct 11=none) (h12:V 10=some (.pointer (some ⟨b,0,none⟩))) (hb:EB w b 0 0 0 0 0 0 (.slice none 0 0) (.slice none 0 0) []) (hbW:W.heap.size≤b) (hg:w.grownBy w' (some b)) (hb':EB w' b e.id e.kind e.sender e.user e.member e.depth (.slice ol e.levels.length cl) (.slice oq e.prev.length cq) e.text):JO W ct e (V.set 11 v) w':=by
 refine⟨h.pt.set (fun c hc=>by rw[hct] at hc;cases hc),h.bel.grown hg h.bel.size (fun q hq=>by cases hq;exact hbW),fun u hu=>?_,fun u hu=>?_,fun u hu=>?_,fun u hu=>?_,fun u hu=>?_,fun u hu=>?_⟩
 ·rw[Gh.set_ne V _ (by decide)] at hu
  obtain⟨ol,cl,oq,cq,q1,q2,q3⟩:=h.k8 u hu
  exact⟨ol,cl,oq,cq,q1,ze q2 hg hb (by decide),ze q3 hg hb (by decide)⟩
 ·rw[Gh.set_ne V _ (by decide)] at hu;exact zx hi (h.m9 u hu)
 ·rw[Gh.set_ne V _ (by decide)] at hu;obtain⟨t,ht⟩:=h.x10 u hu;exact⟨t,zx hi ht⟩
 ·rw[Gh.set_ne V _ (by decide)] at hu;obtain⟨t,ht⟩:=h.x11 u hu;exact⟨t,zx hi ht⟩
 ·rw[Gh.set_ne V _ (by decide),h12] at hu
  cases hu
  refine⟨b,rfl,hbW,fun hn=>?_,fun _=>⟨ol,cl,oq,cq,t,zx hi h8,hb'⟩⟩
  rw[Gh.set_self] at hn
  cases hn
 ·rw[Gh.set_ne V _ (by decide)] at hu;exact zx hi (h.x14 u hu)
end

structure JT (W:World) (ct:Nat→Option Value) (B:Nat) (vb:Value) (zs R:List Int) (V:Gh) (w:World):Prop where
 pt:PT ct V
 gr:V 6=none→W.grownBy w vb.ownBlock
 r0:V 5=none→w.ownsRow B 3 1 vb zs.length (zs.map zu)
 r5:V 6=none→∀ v,V 5=some v→w.ownsRow B 3 1 v (zs++zs).length ((zs++zs).map zu)
 r6:∀ v,V 6=some v→∃ w8,W.grownBy w8 vb.ownBlock∧Below w8.heap.size w8 w∧w.ownsRow w8.heap.size 3 1 v R.length (R.map zu)
 m7:∀ v,V 7=some v→V 6=some v

section
variable {W:World} {ct:Nat→Option Value} {B:Nat} {vb:Value} {zs R:List Int} {V:Gh} {w w':World}

theorem JT.put (h:JT W ct B vb zs R V w) {i:Nat} {v:Value} (hc:ct i=some v) (h5:i≠5) (h6:i≠6) (h7:i≠7):JT W ct B vb zs R (V.set i v) w:=by
 refine⟨h.pt.set (fun c hc'=>by rw[hc] at hc';cases hc';rfl),?_,?_,?_,?_,?_⟩ <;> simp only[Gh.set_ne V v (Ne.symm h5),Gh.set_ne V v (Ne.symm h6),Gh.set_ne V v (Ne.symm h7)]
 ·exact h.gr
 ·exact h.r0
 ·exact h.r5
 ·exact h.r6
 ·exact h.m7
end

end Go.Proofs.YtgebcpkpdbdfoaaGreat
