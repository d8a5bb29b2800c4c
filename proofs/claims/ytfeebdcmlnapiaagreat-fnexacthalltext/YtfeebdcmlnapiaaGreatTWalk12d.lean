/-
  Walks.
-/
import Derived.Test.YtfeebdcmlnapiaaGreatTRoom1
set_option maxRecDepth 100000
set_option maxHeartbeats 8000000
set_option linter.unusedVariables false
set_option linter.unusedSimpArgs false
namespace Go.Proofs.YtfeebdcmlnapiaaGreat
open Go.RowKit P1 P5 P9 P11 P12 P14 P15 K
theorem zhr:(Tryz.prog.info? 62).map (fun i=>(i.zero,i.size,i.bytes))=some (some (.agg #[.int .i64 0,.int .i64 0,.int .i64 0,.int .i64 0,.int .i64 0,.slice none 0 0,.string ⟨#[]⟩,.slice none 0 0,.int .i64 0]),9,112):=zhc

theorem zkr:(Tryz.prog.info? 4).map (fun i=>(i.zero,i.size,i.bytes))=some (some (.bool false),1,1):=by kernel_rfl

def ct12 (R:Nat) (ve vs vg ev sv:Value) (g:Bool):Nat→Option Value
 | 1=>some (.pointer (some ⟨R,0,none⟩))
 | 2=>some ve
 | 4=>some ev
 | 8=>some (.pointer (some ⟨R,1,none⟩))
 | 9=>some vs
 | 11=>some sv
 | 15=>some (.pointer (some ⟨R,2,none⟩))
 | 16=>some vg
 | 18=>some (.bool g)
 | _=>none

def PT (ct:Nat→Option Value) (V:Gh):Prop:=∀ k v c,V k=some v→ct k=some c→v=c

theorem PT.set {ct:Nat→Option Value} {V:Gh} (h:PT ct V) {i:Nat} {v:Value} (hc:∀ c,ct i=some c→v=c):PT ct (V.set i v):=by
 intro k u c hk hc'
 by_cases e:k=i
 ·subst e
  rw[Gh.set_self] at hk
  cases hk
  exact hc c hc'
 ·rw[Gh.set_ne V v e] at hk
  exact h k u c hk hc'

structure RB (B:Nat) (V:Gh) (w:World):Prop where
 b21:∀ v,V 21=some v→∃ x y z,V 6=some x∧V 13=some y∧V 20=some z∧v=.agg #[x,y,z]
 b22:∀ v,V 22=some v→∃ b,v=.pointer (some ⟨b,0,none⟩)∧B≤b∧∃ cs,w.heap[b]? = some (.cells cs 32 (0,0))∧cs.size=3∧(V 23≠none→∃ x y z,V 6=some x∧V 13=some y∧V 20=some z∧cs=#[x,y,z])

theorem RB.start {B:Nat} {w:World}:RB B (fun _=>none) w:=by
 refine⟨?_,?_⟩<;>(intro v h;cases h)

theorem z0v {V:Gh} {j k:Nat} {v x:Value} (hj:V j=none) (h:V k=some x):V.set j v k=some x:=by
 by_cases e:k=j
 ·subst e
  rw[hj] at h
  cases h
 ·rw[Gh.set_ne V v e]
  exact h

theorem RB.set {B:Nat} {V:Gh} {w:World} (h:RB B V w) {j:Nat} (v:Value) (hj:V j=none) (h1:21≠j) (h2:22≠j) (h3:23≠j):RB B (V.set j v) w:=by
 refine⟨fun u hu=>?_,fun u hu=>?_⟩
 ·rw[Gh.set_ne V v h1] at hu
  obtain⟨x,y,z,q1,q2,q3,q4⟩:=h.b21 u hu
  exact⟨x,y,z,z0v hj q1,z0v hj q2,z0v hj q3,q4⟩
 ·rw[Gh.set_ne V v h2] at hu
  obtain⟨b,q1,qB,cs,q2,q3,q4⟩:=h.b22 u hu
  refine⟨b,q1,qB,cs,q2,q3,fun hn=>?_⟩
  rw[Gh.set_ne V v h3] at hn
  obtain⟨x,y,z,q5,q6,q7,q8⟩:=q4 hn
  exact⟨x,y,z,z0v hj q5,z0v hj q6,z0v hj q7,q8⟩

theorem RB.world {B:Nat} {V:Gh} {w w':World} (h:RB B V w) {r:Option Nat} (hg:w.grownBy w' r) (hr:∀ g,r=some g→∃ cs' e' f,w.heap[g]? = some (.cells cs' e' f)∧e'≠32):RB B V w':=by
 refine⟨h.b21,fun u hu=>?_⟩
 obtain⟨b,q1,qB,cs,q2,q3,q4⟩:=h.b22 u hu
 refine⟨b,q1,qB,cs,(hg.block b (ze q2) (fun he=>?_)).trans q2,q3,q4⟩
 obtain⟨cs',e',f,p1,p2⟩:=hr b he.symm
 rw[q2] at p1
 cases p1
 exact p2 rfl

structure J12 (B:Nat) (W:World) (ct:Nat→Option Value) (n:Nat) (xs ys zs:Zvs) (cE cS cG:Array Value) (V:Gh) (w:World):Prop where
 pt:PT ct V
 bel:Below B W w
 up:B≤w.heap.size
 ce:Chain B 62 9 n xs cE 0 3 5 6 V w
 cs:Chain B 74 1 n ys cS 7 10 12 13 V w
 cg:Chain B 4 1 n zs cG 14 17 19 20 V w
 rb:RB B V w

theorem z19 {w:World} {base:Nat} {e e2:TypeId} {k:Nat} {v:Value} {n:Nat} {xs:Zvs} (h:w.ownsRow base e k v n xs) (hne:e≠e2):∀ g,v.ownBlock=some g→∃ cs' e' f,w.heap[g]? = some (.cells cs' e' f)∧e'≠e2:=by
 intro g hg
 rcases h.2 with ⟨rfl,-⟩|⟨g',cap,cur,rfl,-,hb,-⟩
 ·cases hg
 ·cases hg
  exact⟨_,_,_,hb,hne⟩

section
variable {B:Nat} {W:World} {ct:Nat→Option Value} {n:Nat} {xs ys zs:Zvs} {cE cS cG:Array Value} {V:Gh} {w w':World}

theorem J12.pure (h:J12 B W ct n xs ys zs cE cS cG V w) {i:Nat} {v:Value} (hi:V i=none) (hc:ct i=some v) (h6:i∈[1,2,4,8,9,11,15,16,18]):J12 B W ct n xs ys zs cE cS cG (V.set i v) w:=by
 simp only[List.mem_cons,List.mem_nil_iff,or_false] at h6
 exact⟨h.pt.set (fun c hc'=>by rw[hc] at hc';cases hc';rfl),h.bel,h.up,h.ce.set v (by omega) (by omega) (by omega) (by omega),h.cs.set v (by omega) (by omega) (by omega) (by omega),h.cg.set v (by omega) (by omega) (by omega) (by omega),h.rb.set v hi (by omega) (by omega) (by omega)⟩

theorem z0a (w:World) (o:Obj):w.grownBy (w.alloc o) none:=by
 have h:Bw w (w.alloc o):=zBa
 exact⟨h.os,h.tape,h.output,h.size,fun k hk _=>h.block k hk⟩

theorem z0w {P:Nat→Prop}:∀ g,(none:Option Nat)=some g→P g:=fun g h=>by cases h

theorem z8o {v:Value} {base k m:Nat} {e:TypeId} {us:Zvs} (h:J12 B W ct n xs ys zs cE cS cG V w) (ho:w.ownsRow B e k v m us) (hg:w.grownBy w' v.ownBlock):Below B W w'∧B≤w'.heap.size :=
 ⟨h.bel.grown hg h.up (fun q hq=>(ho.lt q hq).1),zNt h.up hg.size⟩

theorem z3a (h:J12 B W ct n xs ys zs cE cS cG V w) (o:Obj):Below B W (w.alloc o)∧B≤(w.alloc o).heap.size:=⟨h.bel.alloc h.up o,by have:=h.up;simp;omega⟩

theorem J12.e0 (h:J12 B W ct n xs ys zs cE cS cG V w) (hi:V 0=none) (h1:V 3=none) (hct:ct 0=none):J12 B W ct n xs ys zs cE cS cG (V.set 0 (.slice (some ⟨w.heap.size,0,none⟩) 0 0)) (w.alloc (.cells #[] 62)) :=
 ⟨h.pt.set (fun c hc=>by rw[hct] at hc;cases hc),(z3a h _).1,(z3a h _).2,h.ce.s0 h.up h1 (by decide) (by decide) (by decide),(h.cs.world (z0a _ _) z0w).set _ (by decide) (by decide) (by decide) (by decide),(h.cg.world (z0a _ _) z0w).set _ (by decide) (by decide) (by decide) (by decide),(h.rb.world (z0a _ _) z0w).set _ hi (by decide) (by decide) (by decide)⟩

theorem J12.e1 (h:J12 B W ct n xs ys zs cE cS cG V w) {v0 v':Value} (hi:V 3=none) (h0:V 0=some v0) (h3:V 6=none) (hct:ct 3=none) (ho:w'.ownsRow B 62 9 v' n xs) (hg:w.grownBy w' v0.ownBlock) (hl:v'.ownBlock=v0.ownBlock∨v'.ownBlock=some w.heap.size):J12 B W ct n xs ys zs cE cS cG (V.set 3 v') w':=by
 have hr:=h.ce.c0 v0 h0 hi
 have hu:=z8o (base:=B) h hr hg
 exact⟨h.pt.set (fun c hc=>by rw[hct] at hc;cases hc),hu.1,hu.2,h.ce.s1 h0 hi h3 ho hg hl (by decide) (by decide) (by decide),(h.cs.world hg (z19 hr (by decide))).set _ (by decide) (by decide) (by decide) (by decide),(h.cg.world hg (z19 hr (by decide))).set _ (by decide) (by decide) (by decide) (by decide),(h.rb.world hg (z19 hr (by decide))).set _ hi (by decide) (by decide) (by decide)⟩

theorem J12.e2 (h:J12 B W ct n xs ys zs cE cS cG V w) (hi:V 5=none) (hct:ct 5=none):J12 B W ct n xs ys zs cE cS cG (V.set 5 (.slice (some ⟨w.heap.size,0,none⟩) 1 1)) (w.alloc (.cells cE 62)) :=
 ⟨h.pt.set (fun c hc=>by rw[hct] at hc;cases hc),(z3a h _).1,(z3a h _).2,h.ce.s2 (by decide) (by decide) (by decide),(h.cs.world (z0a _ _) z0w).set _ (by decide) (by decide) (by decide) (by decide),(h.cg.world (z0a _ _) z0w).set _ (by decide) (by decide) (by decide) (by decide),(h.rb.world (z0a _ _) z0w).set _ hi (by decide) (by decide) (by decide)⟩

theorem J12.e3 (h:J12 B W ct n xs ys zs cE cS cG V w) {v1 v':Value} (hi:V 6=none) (h1:V 3=some v1) (hct:ct 6=none) (ho:w'.ownsRow B 62 9 v' (n+1) (xs++cE.toList)) (hg:w.grownBy w' v1.ownBlock):J12 B W ct n xs ys zs cE cS cG (V.set 6 v') w':=by
 have hr:=h.ce.c1 v1 h1 hi
 have hu:=z8o (base:=B) h hr hg
 exact⟨h.pt.set (fun c hc=>by rw[hct] at hc;cases hc),hu.1,hu.2,h.ce.s3 h1 ho (by decide),(h.cs.world hg (z19 hr (by decide))).set _ (by decide) (by decide) (by decide) (by decide),(h.cg.world hg (z19 hr (by decide))).set _ (by decide) (by decide) (by decide) (by decide),(h.rb.world hg (z19 hr (by decide))).set _ hi (by decide) (by decide) (by decide)⟩

theorem J12.s0 (h:J12 B W ct n xs ys zs cE cS cG V w) (hi:V 7=none) (h1:V 10=none) (hct:ct 7=none):J12 B W ct n xs ys zs cE cS cG (V.set 7 (.slice (some ⟨w.heap.size,0,none⟩) 0 0)) (w.alloc (.cells #[] 74)) :=
 ⟨h.pt.set (fun c hc=>by rw[hct] at hc;cases hc),(z3a h _).1,(z3a h _).2,(h.ce.world (z0a _ _) z0w).set _ (by decide) (by decide) (by decide) (by decide),h.cs.s0 h.up h1 (by decide) (by decide) (by decide),(h.cg.world (z0a _ _) z0w).set _ (by decide) (by decide) (by decide) (by decide),(h.rb.world (z0a _ _) z0w).set _ hi (by decide) (by decide) (by decide)⟩

theorem J12.s1 (h:J12 B W ct n xs ys zs cE cS cG V w) {v0 v':Value} (hi:V 10=none) (h0:V 7=some v0) (h3:V 13=none) (hct:ct 10=none) (ho:w'.ownsRow B 74 1 v' n ys) (hg:w.grownBy w' v0.ownBlock) (hl:v'.ownBlock=v0.ownBlock∨v'.ownBlock=some w.heap.size):J12 B W ct n xs ys zs cE cS cG (V.set 10 v') w':=by
 have hr:=h.cs.c0 v0 h0 hi
 have hu:=z8o (base:=B) h hr hg
 exact⟨h.pt.set (fun c hc=>by rw[hct] at hc;cases hc),hu.1,hu.2,(h.ce.world hg (z19 hr (by decide))).set _ (by decide) (by decide) (by decide) (by decide),h.cs.s1 h0 hi h3 ho hg hl (by decide) (by decide) (by decide),(h.cg.world hg (z19 hr (by decide))).set _ (by decide) (by decide) (by decide) (by decide),(h.rb.world hg (z19 hr (by decide))).set _ hi (by decide) (by decide) (by decide)⟩

theorem J12.s2 (h:J12 B W ct n xs ys zs cE cS cG V w) (hi:V 12=none) (hct:ct 12=none):J12 B W ct n xs ys zs cE cS cG (V.set 12 (.slice (some ⟨w.heap.size,0,none⟩) 1 1)) (w.alloc (.cells cS 74)) :=
 ⟨h.pt.set (fun c hc=>by rw[hct] at hc;cases hc),(z3a h _).1,(z3a h _).2,(h.ce.world (z0a _ _) z0w).set _ (by decide) (by decide) (by decide) (by decide),h.cs.s2 (by decide) (by decide) (by decide),(h.cg.world (z0a _ _) z0w).set _ (by decide) (by decide) (by decide) (by decide),(h.rb.world (z0a _ _) z0w).set _ hi (by decide) (by decide) (by decide)⟩

theorem J12.s3 (h:J12 B W ct n xs ys zs cE cS cG V w) {v1 v':Value} (hi:V 13=none) (h1:V 10=some v1) (hct:ct 13=none) (ho:w'.ownsRow B 74 1 v' (n+1) (ys++cS.toList)) (hg:w.grownBy w' v1.ownBlock):J12 B W ct n xs ys zs cE cS cG (V.set 13 v') w':=by
 have hr:=h.cs.c1 v1 h1 hi
 have hu:=z8o (base:=B) h hr hg
 exact⟨h.pt.set (fun c hc=>by rw[hct] at hc;cases hc),hu.1,hu.2,(h.ce.world hg (z19 hr (by decide))).set _ (by decide) (by decide) (by decide) (by decide),h.cs.s3 h1 ho (by decide),(h.cg.world hg (z19 hr (by decide))).set _ (by decide) (by decide) (by decide) (by decide),(h.rb.world hg (z19 hr (by decide))).set _ hi (by decide) (by decide) (by decide)⟩

theorem J12.g0 (h:J12 B W ct n xs ys zs cE cS cG V w) (hi:V 14=none) (h1:V 17=none) (hct:ct 14=none):J12 B W ct n xs ys zs cE cS cG (V.set 14 (.slice (some ⟨w.heap.size,0,none⟩) 0 0)) (w.alloc (.cells #[] 4)) :=
 ⟨h.pt.set (fun c hc=>by rw[hct] at hc;cases hc),(z3a h _).1,(z3a h _).2,(h.ce.world (z0a _ _) z0w).set _ (by decide) (by decide) (by decide) (by decide),(h.cs.world (z0a _ _) z0w).set _ (by decide) (by decide) (by decide) (by decide),h.cg.s0 h.up h1 (by decide) (by decide) (by decide),(h.rb.world (z0a _ _) z0w).set _ hi (by decide) (by decide) (by decide)⟩

theorem J12.g1 (h:J12 B W ct n xs ys zs cE cS cG V w) {v0 v':Value} (hi:V 17=none) (h0:V 14=some v0) (h3:V 20=none) (hct:ct 17=none) (ho:w'.ownsRow B 4 1 v' n zs) (hg:w.grownBy w' v0.ownBlock) (hl:v'.ownBlock=v0.ownBlock∨v'.ownBlock=some w.heap.size):J12 B W ct n xs ys zs cE cS cG (V.set 17 v') w':=by
 have hr:=h.cg.c0 v0 h0 hi
 have hu:=z8o (base:=B) h hr hg
 exact⟨h.pt.set (fun c hc=>by rw[hct] at hc;cases hc),hu.1,hu.2,(h.ce.world hg (z19 hr (by decide))).set _ (by decide) (by decide) (by decide) (by decide),(h.cs.world hg (z19 hr (by decide))).set _ (by decide) (by decide) (by decide) (by decide),h.cg.s1 h0 hi h3 ho hg hl (by decide) (by decide) (by decide),(h.rb.world hg (z19 hr (by decide))).set _ hi (by decide) (by decide) (by decide)⟩

theorem J12.g2 (h:J12 B W ct n xs ys zs cE cS cG V w) (hi:V 19=none) (hct:ct 19=none):J12 B W ct n xs ys zs cE cS cG (V.set 19 (.slice (some ⟨w.heap.size,0,none⟩) 1 1)) (w.alloc (.cells cG 4)) :=
 ⟨h.pt.set (fun c hc=>by rw[hct] at hc;cases hc),(z3a h _).1,(z3a h _).2,(h.ce.world (z0a _ _) z0w).set _ (by decide) (by decide) (by decide) (by decide),(h.cs.world (z0a _ _) z0w).set _ (by decide) (by decide) (by decide) (by decide),h.cg.s2 (by decide) (by decide) (by decide),(h.rb.world (z0a _ _) z0w).set _ hi (by decide) (by decide) (by decide)⟩

theorem J12.g3 (h:J12 B W ct n xs ys zs cE cS cG V w) {v1 v':Value} (hi:V 20=none) (h1:V 17=some v1) (hct:ct 20=none) (ho:w'.ownsRow B 4 1 v' (n+1) (zs++cG.toList)) (hg:w.grownBy w' v1.ownBlock):J12 B W ct n xs ys zs cE cS cG (V.set 20 v') w':=by
 have hr:=h.cg.c1 v1 h1 hi
 have hu:=z8o (base:=B) h hr hg
 exact⟨h.pt.set (fun c hc=>by rw[hct] at hc;cases hc),hu.1,hu.2,(h.ce.world hg (z19 hr (by decide))).set _ (by decide) (by decide) (by decide) (by decide),(h.cs.world hg (z19 hr (by decide))).set _ (by decide) (by decide) (by decide) (by decide),h.cg.s3 h1 ho (by decide),(h.rb.world hg (z19 hr (by decide))).set _ hi (by decide) (by decide) (by decide)⟩

theorem J12.b21 (h:J12 B W ct n xs ys zs cE cS cG V w) {x y z:Value} (hi:V 21=none) (h6:V 6=some x) (h13:V 13=some y) (h20:V 20=some z) (hct:ct 21=none):J12 B W ct n xs ys zs cE cS cG (V.set 21 (.agg #[x,y,z])) w :=
 ⟨h.pt.set (fun c hc=>by rw[hct] at hc;cases hc),h.bel,h.up,h.ce.set _ (by decide) (by decide) (by decide) (by decide),h.cs.set _ (by decide) (by decide) (by decide) (by decide),h.cg.set _ (by decide) (by decide) (by decide) (by decide),by
  refine⟨fun u hu=>?_,fun u hu=>?_⟩
  ·rw[Gh.set_self] at hu
   cases hu
   exact⟨x,y,z,z0v hi h6,z0v hi h13,z0v hi h20,rfl⟩
  ·rw[Gh.set_ne V _ (by decide)] at hu
   obtain⟨b,q1,qB,cs,q2,q3,q4⟩:=h.rb.b22 u hu
   refine⟨b,q1,qB,cs,q2,q3,fun hn=>?_⟩
   rw[Gh.set_ne V _ (by decide)] at hn
   obtain⟨x',y',z',q5,q6,q7,q8⟩:=q4 hn
   exact⟨x',y',z',z0v hi q5,z0v hi q6,z0v hi q7,q8⟩⟩

theorem J12.b22 (h:J12 B W ct n xs ys zs cE cS cG V w) (hi:V 22=none) (h23:V 23=none) (hct:ct 22=none) {c0:Array Value} (hc0:c0.size=3):J12 B W ct n xs ys zs cE cS cG (V.set 22 (.pointer (some ⟨w.heap.size,0,none⟩))) (w.alloc (.cells c0 32)) :=
 ⟨h.pt.set (fun c hc=>by rw[hct] at hc;cases hc),(z3a h _).1,(z3a h _).2,(h.ce.world (z0a _ _) z0w).set _ (by decide) (by decide) (by decide) (by decide),(h.cs.world (z0a _ _) z0w).set _ (by decide) (by decide) (by decide) (by decide),(h.cg.world (z0a _ _) z0w).set _ (by decide) (by decide) (by decide) (by decide),by
  refine⟨fun u hu=>?_,fun u hu=>?_⟩
  ·rw[Gh.set_ne V _ (by decide)] at hu
   obtain⟨x,y,z,q1,q2,q3,q4⟩:=h.rb.b21 u hu
   exact⟨x,y,z,z0v hi q1,z0v hi q2,z0v hi q3,q4⟩
  ·rw[Gh.set_self] at hu
   cases hu
   refine⟨w.heap.size,rfl,h.up,c0,heap_alloc_new w _,hc0,fun hn=>?_⟩
   rw[Gh.set_ne V _ (by decide),h23] at hn
   exact absurd rfl hn⟩

theorem J12.b23 (h:J12 B W ct n xs ys zs cE cS cG V w) {x y z:Value} {b:Nat} {cs:Array Value} (hi:V 23=none) (h6:V 6=some x) (h13:V 13=some y) (h20:V 20=some z) (hct:ct 23=none) (h22:V 22=some (.pointer (some ⟨b,0,none⟩))) (hb:w.heap[b]? = some (.cells cs 32 (0,0))) (hB:B≤b) (hg:w.grownBy w' (some b)) (hb':w'.heap[b]? = some (.cells #[x,y,z] 32 (0,0))) (v:Value):J12 B W ct n xs ys zs cE cS cG (V.set 23 v) w' :=
 ⟨h.pt.set (fun c hc=>by rw[hct] at hc;cases hc),h.bel.grown hg h.up (fun q hq=>by cases hq;exact hB),zNt h.up hg.size,(h.ce.world hg (fun g hg'=>by cases hg';exact⟨_,_,_,hb,by decide⟩)).set _ (by decide) (by decide) (by decide) (by decide),(h.cs.world hg (fun g hg'=>by cases hg';exact⟨_,_,_,hb,by decide⟩)).set _ (by decide) (by decide) (by decide) (by decide),(h.cg.world hg (fun g hg'=>by cases hg';exact⟨_,_,_,hb,by decide⟩)).set _ (by decide) (by decide) (by decide) (by decide),by
  refine⟨fun u hu=>?_,fun u hu=>?_⟩
  ·rw[Gh.set_ne V _ (by decide)] at hu
   obtain⟨x,y,z,q1,q2,q3,q4⟩:=h.rb.b21 u hu
   exact⟨x,y,z,z0v hi q1,z0v hi q2,z0v hi q3,q4⟩
  ·rw[Gh.set_ne V _ (by decide),h22] at hu
   cases hu
   exact⟨b,rfl,hB,_,hb',rfl,fun _=>⟨x,y,z,z0v hi h6,z0v hi h13,z0v hi h20,rfl⟩⟩⟩
end

def ziv:List (Option Tmp × Op):=[(some 64,.buildSlice 29 0 #[]),(some 65,.fieldAddr 32 (.tmp 2) 0),(some 66,.load 29 (.tmp 65)),(some 67,.call { callee:=.builtin .append,args:=#[.tmp 64,.tmp 66],argTypes:=#[29,29] }),(some 68,.load 62 (.tmp 3)),(some 69,.buildSlice 29 1 #[(0,.tmp 68)]),(some 70,.call { callee:=.builtin .append,args:=#[.tmp 67,.tmp 69],argTypes:=#[29,29] }),(some 71,.buildSlice 30 0 #[]),(some 72,.fieldAddr 32 (.tmp 2) 1),(some 73,.load 30 (.tmp 72)),(some 74,.call { callee:=.builtin .append,args:=#[.tmp 71,.tmp 73],argTypes:=#[30,30] }),(some 75,.move (.tmp 6)),(some 76,.buildSlice 30 1 #[(0,.tmp 75)]),(some 77,.call { callee:=.builtin .append,args:=#[.tmp 74,.tmp 76],argTypes:=#[30,30] }),(some 78,.buildSlice 24 0 #[]),(some 79,.fieldAddr 32 (.tmp 2) 2),(some 80,.load 24 (.tmp 79)),(some 81,.call { callee:=.builtin .append,args:=#[.tmp 78,.tmp 80],argTypes:=#[24,24] }),(some 82,.move (.tmp 8)),(some 83,.buildSlice 24 1 #[(0,.tmp 82)]),(some 84,.call { callee:=.builtin .append,args:=#[.tmp 81,.tmp 83],argTypes:=#[24,24] }),(some 85,.build 32 #[(0,.tmp 70),(1,.tmp 77),(2,.tmp 84)]),(some 9,.alloc 32),(none,.store 32 (.tmp 9) (.tmp 85))]

def z5x:List (List Nat):=[[],[],[1],[0,2],[],[4],[3,5],[],[],[8],[6,7,9],[],[11],[10,12],[],[],[15],[13,14,16],[],[18],[17,19],[6,13,20],[],[0,1,2,3,4,5,6,7,8,9,10,11,12,13,14,15,16,17,18,19,20,21,22]]

def z3r (ops:Array Oper):List (Option Tmp × Op):=ops.toList.map fun o=>(o.dst,o.op)

def zbv (ops:Array Oper):Bool:=ops.all fun o=>o.guard.isNone

def z7c (ops:Array Oper) (T:List (List Nat)):Bool:=(List.range T.length).all fun i=>((T[i]?).getD []).all fun k=>match ops[i]? with
 | some o=>o.after.any fun e=>Region.binds .any e&&e.on==k
 | none=>false

def z2d (ops:Array Oper) (t:Nat):Bool:=ops.all fun o=>o.dst != some t

theorem zmg {ops:Array Oper} {t:Nat} (h:z2d ops t=true):∀ (k:Nat) o,ops[k]? = some o→o.dst≠some t:=by
 intro k o ho hd
 have:=Array.all_eq_true_iff_forall_mem.1 h o (Array.mem_of_getElem? ho)
 simp[hd] at this

theorem z2n {ops:Array Oper} {T:List (Option Tmp × Op)} (h:z3r ops=T) {i:Nat} {o:Oper} (ho:ops[i]? = some o):T[i]? = some (o.dst,o.op):=by
 rw[← h]
 unfold z3r
 rw[List.getElem?_map,Array.getElem?_toList,ho]
 rfl

theorem z5t {ops:Array Oper} {T:List (List Nat)} (h:z7c ops T=true) {i:Nat} {o:Oper} (ho:ops[i]? = some o) {V:Gh} (hV:∀ e∈o.after,Region.binds .any e=true→(V e.on).isSome=true) {l:List Nat} (hl:T[i]? = some l):∀ k∈l,∃ v,V k=some v:=by
 intro k hk
 have h1:=(List.all_eq_true.1 h) i (List.mem_range.2 (zGi.1 hl).1)
 rw[hl] at h1
 have h2:=(List.all_eq_true.1 h1) k hk
 simp only[ho] at h2
 rw[← Array.any_toList] at h2
 obtain⟨e,he,hb⟩:=List.any_eq_true.1 h2
 replace he:e∈o.after:=by simpa using he
 simp only[Bool.and_eq_true,beq_iff_eq] at hb
 obtain⟨hb1,rfl⟩:=hb
 exact Option.isSome_iff_exists.1 (hV e he hb1)

theorem z9z {ops:Array Oper} (h:zbv ops=true) {i:Nat} {o:Oper} (ho:ops[i]? = some o):o.guard=none:=by
 have:=Array.all_eq_true_iff_forall_mem.1 h o (Array.mem_of_getElem? ho)
 simpa using this

theorem zy {T:List (Option Tmp × Op)} {i:Nat} {d:Option Tmp} {p q:Op} (h:T[i]? = some (d,p)) (hq:(T[i]?).map (·.2)=some q):p=q:=by
 rw[h] at hq
 exact zSi hq

theorem evD {ops:Array Oper} {V:Gh} {a0:Act} {T:List (Option Tmp × Op)} {M:Nat} (hd:z2z ops=true) (htab:z3r ops=T) (hsz:M≤a0.tmps.size) (k t:Nat) {v:Value} (hk:(T[k]?).map (fun x=>(x.1,decide (t<M)))=some (some t,true)) (g:V k=some v):(actG ops V a0 ops.size).eval (.tmp t)=v:=by
 cases ht:T[k]? with
 | none=>rw[ht] at hk;cases hk
 | some x =>
  rw[ht] at hk
  simp only[Option.map_some,Option.some.injEq,Prod.mk.injEq,decide_eq_true_eq] at hk
  obtain⟨h1,h2⟩:=hk
  have hl:k<ops.size:=by
   have:=(zGi.1 ht).1
   rw[← htab] at this
   simpa [z3r] using this
  have ho:ops[k]? = some ops[k]:=Array.getElem?_eq_getElem hl
  have h3:=z2n htab ho
  rw[ht] at h3
  have h4:ops[k].dst=some t:=by rw[← h1,zSi h3]
  exact z3n hd ho h4 g (by omega) _ hl

theorem runH {f:Operand→Value} {o:Oper} {X:Op} (h:o.op=X):execOp f o=execOp f ⟨o.dst,X,o.type,o.pos,o.after,o.guard⟩:=by
 cases o
 cases h
 rfl

theorem evO {ops:Array Oper} {V:Gh} {a0:Act} {t:Nat} {v:Value} (n:z2d ops t=true) (e:a0.eval (.tmp t)=v):(actG ops V a0 ops.size).eval (.tmp t)=v:=(zbp ops.size (zmg n)).trans e

theorem evT {ops:Array Oper} {V:Gh} {a0:Act} {T:List (Option Tmp × Op)} {M:Nat} (hd:z2z ops=true) (htab:z3r ops=T) (hsz:M≤a0.tmps.size) (k t:Nat) {v:Value} (hk:(T[k]?).map (fun x=>(x.1,decide (t<M)))=some (some t,true)) (g:V k=some v):(actG ops V a0 ops.size).tmps[t]?.getD undef=v:=by
 have h:=evD hd htab hsz k t hk g
 simpa only [Act.eval,Array.getD_eq_getD_getElem?] using h

theorem evP {ops:Array Oper} {V:Gh} {a0:Act} {t:Nat} {v:Value} (n:z2d ops t=true) (e:a0.eval (.tmp t)=v):(actG ops V a0 ops.size).tmps[t]?.getD undef=v:=by
 have h:=evO (V:=V) n e
 simpa only [Act.eval,Array.getD_eq_getD_getElem?] using h

theorem gM {P:Program} {ops:Array Oper} {Q:Exit→Act→World→Prop} {i:Nat} {o:Oper} {a:Act} {w:World} {v:Value} {x:Operand} {K:Act→World→Prop} (ho:ops[i]? = some o) (hg:o.guard=none) (hop:o.op=.move x) (hE:a.eval x=v) (hK:K (a.put o.dst v) w):wpOp P ops Q i K a w :=
 gop ho hg (by rw[runH hop,← hE];rfl) hK

theorem z7d {ops:Array Oper} {T:List (List Nat)} (hdp:z7c ops T=true) {V:Gh} (hcl:Closed ops V) (k l:Nat) (hk:l∈(T[k]?).getD []) (hl:V l=none):V k=none:=by
 cases hv:V k with
 | none=>rfl
 | some v =>
  exfalso
  cases ht:T[k]? with
  | none=>rw[ht] at hk;simp at hk
  | some L =>
   rw[ht] at hk
   have hkL:l∈L:=by simpa using hk
   have h1:=(List.all_eq_true.1 hdp) k (List.mem_range.2 (zGi.1 ht).1)
   rw[ht] at h1
   have h2:=(List.all_eq_true.1 h1) l hkL
   cases ho:ops[k]? with
   | none=>simp[ho] at h2
   | some o =>
    obtain⟨u,hu⟩:=z5t hdp ho (hcl k o ho (by rw[hv];rfl)) ht l hkL
    rw[hl] at hu
    cases hu

theorem za4 {w:World} {b k:Nat} {cs:Array Value} {e:TypeId} (hb:w.heap[b]? = some (.cells cs e (0,0))) (hs:cs.size=k) (h1:∀ u∈cs.toList,u.oneCell'=true):Src w k (.slice (some ⟨b,0,none⟩) 1 1) 1 cs.toList :=
 ⟨by simp[hs],h1,_,1,rfl,Nat.le_refl _,by unfold maxLen;omega,(fun h=>by cases h),fun a ha=>by
  cases ha
  exact⟨.inl rfl,World.news_of_block hb⟩⟩

theorem zmh {cs:Array Value} {x y z:Value} (h:cs.size=3):z2s cs 0 [x,y,z]=#[x,y,z]:=by
 apply Array.ext_getElem?
 intro m
 have hs:(z2s cs 0 [x,y,z]).size=3:=by rw[z8b];exact h
 match m with
 | 0=>simp[z2s,h]
 | 1=>simp[z2s,h]
 | 2=>simp[z2s,h]
 | m+3=>rw[Array.getElem?_eq_none (by omega),Array.getElem?_eq_none (by simp)]

theorem cells3 {w:World} {b:Nat} {cs:Array Value} {e:TypeId} (hb:w.heap[b]? = some (.cells cs e (0,0))) (hs:cs.size=3):w.cell? ⟨b,0,none⟩=some (cs[0]'(by omega))∧w.cell? ⟨b,1,none⟩=some (cs[1]'(by omega))∧w.cell? ⟨b,2,none⟩=some (cs[2]'(by omega)) :=
 ⟨zb hb 0 (Array.getElem?_eq_getElem (by omega)),zb hb 1 (Array.getElem?_eq_getElem (by omega)),zb hb 2 (Array.getElem?_eq_getElem (by omega))⟩

theorem zhs:(Tryz.prog.info? 74).map (fun i=>(i.zero,i.size,i.bytes))=some (some (.slice none 0 0),1,24):=by kernel_rfl

theorem z96 {id:Nat} {ops:Array Oper} {Q:Exit→Act→World→Prop} {a0:Act} {w:World} (hm:Tryz.prog.follows .mixedOrders=true) (htab:z3r ops=ziv) (hdp:z7c ops z5x=true) (hfree:zbv ops=true) (hd:z2z ops=true) (hl:ze8 ops=true) (n2:z2d ops 2=true) (n3:z2d ops 3=true) (n6:z2d ops 6=true) (n8:z2d ops 8=true)
  {R E:Nat} {ve vs vg:Value} {ev:EvV} {xl xp:Value} {o6:Zoa} {m6 c6:Nat} {g:Bool} {n:Nat} {xs ys zs:Zvs}
  (hsz:87≤a0.tmps.size) (e2:a0.eval (.tmp 2)=.pointer (some ⟨R,0,none⟩)) (e3:a0.eval (.tmp 3)=.pointer (some ⟨E,0,none⟩)) (e6:a0.eval (.tmp 6)=.slice o6 m6 c6) (e8:a0.eval (.tmp 8)=.bool g)
  (hroom:∀ w',Bw w w'→w'.cell? ⟨R,0,none⟩=some ve∧w'.cell? ⟨R,1,none⟩=some vs∧w'.cell? ⟨R,2,none⟩=some vg)
  (hevt:∀ w',Bw w w'→w'.cell? ⟨E,0,none⟩=some (.int .i64 ev.id)∧w'.cell? ⟨E,1,none⟩=some (.int .i64 ev.kind)∧w'.cell? ⟨E,2,none⟩=some (.int .i64 ev.sender)∧w'.cell? ⟨E,3,none⟩=some (.int .i64 ev.user)∧w'.cell? ⟨E,4,none⟩=some (.int .i64 ev.member)∧w'.cell? ⟨E,5,none⟩=some xl∧w'.cell? ⟨E,6,none⟩=some (.string ⟨ev.text.toArray⟩)∧w'.cell? ⟨E,7,none⟩=some xp∧w'.cell? ⟨E,8,none⟩=some (.int .i64 ev.depth))
  (hxl:xl.oneCell'=true) (hxp:xp.oneCell'=true)
  (hn:n≤1000000) (hsE:∀ w',Bw w w'→Src w' 9 ve n xs) (hsS:∀ w',Bw w w'→Src w' 1 vs n ys) (hsG:∀ w',Bw w w'→Src w' 1 vg n zs)
  (hend:∀ (V:Gh) (w':World) (x y z:Value) (b:Nat),(∀ k,k<24→∃ v,V k=some v)→V 22=some (.pointer (some ⟨b,0,none⟩))→w.heap.size≤b→w'.heap[b]? = some (.cells #[x,y,z] 32 (0,0))→Bw w w' →
   w'.ownsRow w.heap.size 62 9 x (n+1) (xs++(zk ev.id ev.kind ev.sender ev.user ev.member ev.depth xl xp ev.text).toList)→w'.ownsRow w.heap.size 74 1 y (n+1) (ys++[.slice o6 m6 c6])→w'.ownsRow w.heap.size 4 1 z (n+1) (zs++[.bool g])→Q .normal (actG ops V a0 ops.size) w'):(Code.region id ops true).wp Tryz.prog Q a0 w:=by
 have hops:ops.size=24:=by
  have:=congrArg List.length htab
  simpa [z3r,ziv] using this
 have hget:∀ k (hk:k<24),ops[k]? = some (ops[k]'(by omega)):=fun k hk=>Array.getElem?_eq_getElem (by omega)
 have hdst:∀ k t,(ziv[k]?).map (·.1)=some (some t)→(hk:k<24)→(ops[k]'(by omega)).dst=some t:=fun k t ht hk=>by
  have:=z2n htab (hget k hk)
  rw[this] at ht
  simpa using ht
 have oneE:(zk ev.id ev.kind ev.sender ev.user ev.member ev.depth xl xp ev.text).size=9∧∀ u∈(zk ev.id ev.kind ev.sender ev.user ev.member ev.depth xl xp ev.text).toList,u.oneCell'=true:=⟨rfl,by
  intro u hu
  simp only[zk,List.mem_cons,List.mem_nil_iff,or_false] at hu
  rcases hu with rfl|rfl|rfl|rfl|rfl|rfl|rfl|rfl|rfl<;>first|rfl|exact hxl|exact hxp⟩
 have oneS:(#[Value.slice o6 m6 c6]:Array Value).size=1∧∀ u∈(#[Value.slice o6 m6 c6]:Array Value).toList,u.oneCell'=true:=⟨rfl,by simp[Value.oneCell']⟩
 have oneG:(#[Value.bool g]:Array Value).size=1∧∀ u∈(#[Value.bool g]:Array Value).toList,u.oneCell'=true:=⟨rfl,by simp[Value.oneCell']⟩
 refine zbq hm hd hl (J12 w.heap.size w (ct12 R ve vs vg (.agg (zk ev.id ev.kind ev.sender ev.user ev.member ev.depth xl xp ev.text)) (.slice o6 m6 c6) g) n xs ys zs (zk ev.id ev.kind ev.sender ev.user ev.member ev.depth xl xp ev.text) #[.slice o6 m6 c6] #[.bool g]) ?_ ?_ ?_
 ·exact⟨(fun k v c h=>by cases h),zBr.drew,Nat.le_refl _,Chain.start,Chain.start,Chain.start,RB.start⟩
 ·intro i o V w7 ho hVi hdep0 hcl hJ
  have hi:i<24:=by have:=(Array.getElem?_eq_some_iff.1 ho).1;omega
  have hop0:=z2n htab ho
  have hg:=z9z hfree ho
  have hdep:∀ {l:List Nat},z5x[i]? = some l→∀ k∈l,∃ v,V k=some v:=fun hl=>z5t hdp ho hdep0 hl
  have hlate:∀ k,i∈(z5x[k]?).getD []→V k=none:=fun k hk=>z7d hdp hcl k i hk hVi
  clear hdep0 hcl
  have hcases:i=0∨i=1∨i=2∨i=3∨i=4∨i=5∨i=6∨i=7∨i=8∨i=9∨i=10∨i=11∨i=12∨i=13∨i=14∨i=15∨i=16∨i=17∨i=18∨i=19∨i=20∨i=21∨i=22∨i=23:=by omega
  rcases hcases with rfl|rfl|rfl|rfl|rfl|rfl|rfl|rfl|rfl|rfl|rfl|rfl|rfl|rfl|rfl|rfl|rfl|rfl|rfl|rfl|rfl|rfl|rfl|rfl
  ·-- 0
   have hop:o.op=.buildSlice 29 0 #[]:=zy hop0 rfl
   have hn1:V 3=none:=hlate 3 (by simp[z5x])
   refine gop ho hg ?_ ⟨_,rfl,hJ.e0 hVi hn1 rfl⟩
   rw[runH hop]
   generalize actG ops V a0 ops.size=A
   clear hJ hget hdst hroom hevt hend hdep hlate
   go_simp
  ·-- 1
   have hop:o.op=.fieldAddr 32 (.tmp 2) 0:=zy hop0 rfl
   have E2:=evO (V:=V) n2 e2
   refine gop ho hg ?_ ⟨_,rfl,hJ.pure hVi rfl (by simp)⟩
   rw[runH hop]
   generalize actG ops V a0 ops.size=A at E2 ⊢
   clear hJ hget hdst hroom hevt hend hdep hlate
   simp only[Act.eval,Array.getD_eq_getD_getElem?] at E2
   go_simp
  ·-- 2
   have hop:o.op=.load 29 (.tmp 65):=zy hop0 rfl
   obtain⟨v1,g1⟩:=hdep rfl 1 (by decide)
   have E65:=evD hd htab hsz 1 65 rfl g1
   obtain rfl:v1=_:=hJ.pt 1 v1 _ g1 rfl
   obtain⟨r0,r1,r2⟩:=hroom _ hJ.bel
   refine gop ho hg ?_ ⟨_,rfl,hJ.pure hVi rfl (by simp)⟩
   rw[runH hop]
   generalize actG ops V a0 ops.size=A at E65 ⊢
   clear hJ hget hdst hroom hevt hend hdep hlate
   simp only[Act.eval,Array.getD_eq_getD_getElem?] at E65
   go_simp
  ·-- 3
   have hop:o.op=.call { callee:=.builtin .append,args:=#[.tmp 64,.tmp 66],argTypes:=#[29,29] }:=zy hop0 rfl
   obtain⟨v0,g0⟩:=hdep rfl 0 (by decide)
   obtain⟨v2,g2⟩:=hdep rfl 2 (by decide)
   have E64:=evD hd htab hsz 0 64 rfl g0
   have E66:=evD hd htab hsz 2 66 rfl g2
   obtain rfl:v2=_:=hJ.pt 2 v2 _ g2 rfl
   have hn3:V 6=none:=hlate 6 (by simp[z5x])
   obtain⟨v',w',hr,k1,k2,k3⟩:=z1v (P:=Tryz.prog) (ty:=o.type) (t:=29) (by decide) Tryz.underlying29 zhr rfl (hJ.ce.c0 v0 g0 hVi) (hsE _ hJ.bel) hJ.up (by unfold maxLen;omega) (by omega)
   refine gop ho hg ?_ ⟨_,rfl,hJ.e1 hVi g0 hn3 rfl (by simpa using k1) k2 k3⟩
   rw[runH hop]
   simp only[execOp,resolve,invoke,builtin,Sem.run_bind,Sem.run_pure,Result.andThen_ok,List.map_toArray,List.map_cons,List.map_nil,E64,E66,hr]
  ·-- 4
   have hop:o.op=.load 62 (.tmp 3):=zy hop0 rfl
   have E3:=evO (V:=V) n3 e3
   obtain⟨t0,t1,t2,t3,t4,t5,t6,t7,t8⟩:=hevt _ hJ.bel
   refine gop ho hg ?_ ⟨_,rfl,hJ.pure hVi rfl (by simp)⟩
   rw[runH hop]
   generalize actG ops V a0 ops.size=A at E3 ⊢
   clear hJ hget hdst hroom hevt hend hdep hlate
   simp only[Act.eval,Array.getD_eq_getD_getElem?] at E3
   go_simp
  ·-- 5
   have hop:o.op=.buildSlice 29 1 #[(0,.tmp 68)]:=zy hop0 rfl
   obtain⟨v4,g4⟩:=hdep rfl 4 (by decide)
   have E68:=evD hd htab hsz 4 68 rfl g4
   obtain rfl:v4=_:=hJ.pt 4 v4 _ g4 rfl
   refine gop ho hg ?_ ⟨_,rfl,hJ.e2 hVi rfl⟩
   rw[runH hop]
   generalize actG ops V a0 ops.size=A at E68 ⊢
   clear hJ hget hdst hroom hevt hend hdep hlate
   simp only[Act.eval,Array.getD_eq_getD_getElem?] at E68
   go_simp
  ·-- 6
   have hop:o.op=.call { callee:=.builtin .append,args:=#[.tmp 67,.tmp 69],argTypes:=#[29,29] }:=zy hop0 rfl
   obtain⟨v3,g3⟩:=hdep rfl 3 (by decide)
   obtain⟨v5,g5⟩:=hdep rfl 5 (by decide)
   have E67:=evD hd htab hsz 3 67 rfl g3
   have E69:=evD hd htab hsz 5 69 rfl g5
   obtain⟨b,rfl,hb,-,-⟩:=hJ.ce.c2 v5 g5 hVi
   obtain⟨v',w',hr,k1,k2,k3⟩:=z1v (P:=Tryz.prog) (ty:=o.type) (t:=29) (by decide) Tryz.underlying29 zhr rfl (hJ.ce.c1 v3 g3 hVi) (za4 hb oneE.1 oneE.2) hJ.up (by unfold maxLen;omega) (by omega)
   refine gop ho hg ?_ ⟨_,rfl,hJ.e3 hVi g3 rfl k1 k2⟩
   rw[runH hop]
   simp only[execOp,resolve,invoke,builtin,Sem.run_bind,Sem.run_pure,Result.andThen_ok,List.map_toArray,List.map_cons,List.map_nil,E67,E69,hr]
  ·-- 7
   have hop:o.op=.buildSlice 30 0 #[]:=zy hop0 rfl
   have hn1:V 10=none:=hlate 10 (by simp[z5x])
   refine gop ho hg ?_ ⟨_,rfl,hJ.s0 hVi hn1 rfl⟩
   rw[runH hop]
   generalize actG ops V a0 ops.size=A
   clear hJ hget hdst hroom hevt hend hdep hlate
   go_simp
  ·-- 8
   have hop:o.op=.fieldAddr 32 (.tmp 2) 1:=zy hop0 rfl
   have E2:=evO (V:=V) n2 e2
   refine gop ho hg ?_ ⟨_,rfl,hJ.pure hVi rfl (by simp)⟩
   rw[runH hop]
   generalize actG ops V a0 ops.size=A at E2 ⊢
   clear hJ hget hdst hroom hevt hend hdep hlate
   simp only[Act.eval,Array.getD_eq_getD_getElem?] at E2
   go_simp
  ·-- 9
   have hop:o.op=.load 30 (.tmp 72):=zy hop0 rfl
   obtain⟨v8,g8⟩:=hdep rfl 8 (by decide)
   have E72:=evD hd htab hsz 8 72 rfl g8
   obtain rfl:v8=_:=hJ.pt 8 v8 _ g8 rfl
   obtain⟨r0,r1,r2⟩:=hroom _ hJ.bel
   refine gop ho hg ?_ ⟨_,rfl,hJ.pure hVi rfl (by simp)⟩
   rw[runH hop]
   generalize actG ops V a0 ops.size=A at E72 ⊢
   clear hJ hget hdst hroom hevt hend hdep hlate
   simp only[Act.eval,Array.getD_eq_getD_getElem?] at E72
   go_simp
  ·-- 10
   have hop:o.op=.call { callee:=.builtin .append,args:=#[.tmp 71,.tmp 73],argTypes:=#[30,30] }:=zy hop0 rfl
   obtain⟨v6,g6⟩:=hdep rfl 6 (by decide)
   obtain⟨v7,g7⟩:=hdep rfl 7 (by decide)
   obtain⟨v9,g9⟩:=hdep rfl 9 (by decide)
   have E71:=evD hd htab hsz 7 71 rfl g7
   have E73:=evD hd htab hsz 9 73 rfl g9
   obtain rfl:v9=_:=hJ.pt 9 v9 _ g9 rfl
   have hn3:V 13=none:=hlate 13 (by simp[z5x])
   obtain⟨v',w',hr,k1,k2,k3⟩:=z1v (P:=Tryz.prog) (ty:=o.type) (t:=30) (by decide) Tryz.underlying30 zhs rfl (hJ.cs.c0 v7 g7 hVi) (hsS _ hJ.bel) hJ.up (by unfold maxLen;omega) (by omega)
   refine gop ho hg ?_ ⟨_,rfl,hJ.s1 hVi g7 hn3 rfl (by simpa using k1) k2 k3⟩
   rw[runH hop]
   simp only[execOp,resolve,invoke,builtin,Sem.run_bind,Sem.run_pure,Result.andThen_ok,List.map_toArray,List.map_cons,List.map_nil,E71,E73,hr]
  ·-- 11
   have hop:o.op=.move (.tmp 6):=zy hop0 rfl
   have E6:=evO (V:=V) n6 e6
   refine gop ho hg ?_ ⟨_,rfl,hJ.pure hVi rfl (by simp)⟩
   rw[runH hop]
   generalize actG ops V a0 ops.size=A at E6 ⊢
   clear hJ hget hdst hroom hevt hend hdep hlate
   simp only[Act.eval,Array.getD_eq_getD_getElem?] at E6
   go_simp
  ·-- 12
   have hop:o.op=.buildSlice 30 1 #[(0,.tmp 75)]:=zy hop0 rfl
   obtain⟨v11,g11⟩:=hdep rfl 11 (by decide)
   have E75:=evD hd htab hsz 11 75 rfl g11
   obtain rfl:v11=_:=hJ.pt 11 v11 _ g11 rfl
   refine gop ho hg ?_ ⟨_,rfl,hJ.s2 hVi rfl⟩
   rw[runH hop]
   generalize actG ops V a0 ops.size=A at E75 ⊢
   clear hJ hget hdst hroom hevt hend hdep hlate
   simp only[Act.eval,Array.getD_eq_getD_getElem?] at E75
   go_simp
  ·-- 13
   have hop:o.op=.call { callee:=.builtin .append,args:=#[.tmp 74,.tmp 76],argTypes:=#[30,30] }:=zy hop0 rfl
   obtain⟨v10,g10⟩:=hdep rfl 10 (by decide)
   obtain⟨v12,g12⟩:=hdep rfl 12 (by decide)
   have E74:=evD hd htab hsz 10 74 rfl g10
   have E76:=evD hd htab hsz 12 76 rfl g12
   obtain⟨b,rfl,hb,-,-⟩:=hJ.cs.c2 v12 g12 hVi
   obtain⟨v',w',hr,k1,k2,k3⟩:=z1v (P:=Tryz.prog) (ty:=o.type) (t:=30) (by decide) Tryz.underlying30 zhs rfl (hJ.cs.c1 v10 g10 hVi) (za4 hb oneS.1 oneS.2) hJ.up (by unfold maxLen;omega) (by omega)
   refine gop ho hg ?_ ⟨_,rfl,hJ.s3 hVi g10 rfl k1 k2⟩
   rw[runH hop]
   simp only[execOp,resolve,invoke,builtin,Sem.run_bind,Sem.run_pure,Result.andThen_ok,List.map_toArray,List.map_cons,List.map_nil,E74,E76,hr]
  ·-- 14
   have hop:o.op=.buildSlice 24 0 #[]:=zy hop0 rfl
   have hn1:V 17=none:=hlate 17 (by simp[z5x])
   refine gop ho hg ?_ ⟨_,rfl,hJ.g0 hVi hn1 rfl⟩
   rw[runH hop]
   generalize actG ops V a0 ops.size=A
   clear hJ hget hdst hroom hevt hend hdep hlate
   go_simp
  ·-- 15
   have hop:o.op=.fieldAddr 32 (.tmp 2) 2:=zy hop0 rfl
   have E2:=evO (V:=V) n2 e2
   refine gop ho hg ?_ ⟨_,rfl,hJ.pure hVi rfl (by simp)⟩
   rw[runH hop]
   generalize actG ops V a0 ops.size=A at E2 ⊢
   clear hJ hget hdst hroom hevt hend hdep hlate
   simp only[Act.eval,Array.getD_eq_getD_getElem?] at E2
   go_simp
  ·-- 16
   have hop:o.op=.load 24 (.tmp 79):=zy hop0 rfl
   obtain⟨v15,g15⟩:=hdep rfl 15 (by decide)
   have E79:=evD hd htab hsz 15 79 rfl g15
   obtain rfl:v15=_:=hJ.pt 15 v15 _ g15 rfl
   obtain⟨r0,r1,r2⟩:=hroom _ hJ.bel
   refine gop ho hg ?_ ⟨_,rfl,hJ.pure hVi rfl (by simp)⟩
   rw[runH hop]
   generalize actG ops V a0 ops.size=A at E79 ⊢
   clear hJ hget hdst hroom hevt hend hdep hlate
   simp only[Act.eval,Array.getD_eq_getD_getElem?] at E79
   go_simp
  ·-- 17
   have hop:o.op=.call { callee:=.builtin .append,args:=#[.tmp 78,.tmp 80],argTypes:=#[24,24] }:=zy hop0 rfl
   obtain⟨v13,g13⟩:=hdep rfl 13 (by decide)
   obtain⟨v14,g14⟩:=hdep rfl 14 (by decide)
   obtain⟨v16,g16⟩:=hdep rfl 16 (by decide)
   have E78:=evD hd htab hsz 14 78 rfl g14
   have E80:=evD hd htab hsz 16 80 rfl g16
   obtain rfl:v16=_:=hJ.pt 16 v16 _ g16 rfl
   have hn3:V 20=none:=hlate 20 (by simp[z5x])
   obtain⟨v',w',hr,k1,k2,k3⟩:=z1v (P:=Tryz.prog) (ty:=o.type) (t:=24) (by decide) Tryz.underlying24 zkr rfl (hJ.cg.c0 v14 g14 hVi) (hsG _ hJ.bel) hJ.up (by unfold maxLen;omega) (by omega)
   refine gop ho hg ?_ ⟨_,rfl,hJ.g1 hVi g14 hn3 rfl (by simpa using k1) k2 k3⟩
   rw[runH hop]
   simp only[execOp,resolve,invoke,builtin,Sem.run_bind,Sem.run_pure,Result.andThen_ok,List.map_toArray,List.map_cons,List.map_nil,E78,E80,hr]
  ·-- 18
   have hop:o.op=.move (.tmp 8):=zy hop0 rfl
   have E8:=evO (V:=V) n8 e8
   refine gop ho hg ?_ ⟨_,rfl,hJ.pure hVi rfl (by simp)⟩
   rw[runH hop]
   generalize actG ops V a0 ops.size=A at E8 ⊢
   clear hJ hget hdst hroom hevt hend hdep hlate
   simp only[Act.eval,Array.getD_eq_getD_getElem?] at E8
   go_simp
  ·-- 19
   have hop:o.op=.buildSlice 24 1 #[(0,.tmp 82)]:=zy hop0 rfl
   obtain⟨v18,g18⟩:=hdep rfl 18 (by decide)
   have E82:=evD hd htab hsz 18 82 rfl g18
   obtain rfl:v18=_:=hJ.pt 18 v18 _ g18 rfl
   refine gop ho hg ?_ ⟨_,rfl,hJ.g2 hVi rfl⟩
   rw[runH hop]
   generalize actG ops V a0 ops.size=A at E82 ⊢
   clear hJ hget hdst hroom hevt hend hdep hlate
   simp only[Act.eval,Array.getD_eq_getD_getElem?] at E82
   go_simp
  ·-- 20
   have hop:o.op=.call { callee:=.builtin .append,args:=#[.tmp 81,.tmp 83],argTypes:=#[24,24] }:=zy hop0 rfl
   obtain⟨v17,g17⟩:=hdep rfl 17 (by decide)
   obtain⟨v19,g19⟩:=hdep rfl 19 (by decide)
   have E81:=evD hd htab hsz 17 81 rfl g17
   have E83:=evD hd htab hsz 19 83 rfl g19
   obtain⟨b,rfl,hb,-,-⟩:=hJ.cg.c2 v19 g19 hVi
   obtain⟨v',w',hr,k1,k2,k3⟩:=z1v (P:=Tryz.prog) (ty:=o.type) (t:=24) (by decide) Tryz.underlying24 zkr rfl (hJ.cg.c1 v17 g17 hVi) (za4 hb oneG.1 oneG.2) hJ.up (by unfold maxLen;omega) (by omega)
   refine gop ho hg ?_ ⟨_,rfl,hJ.g3 hVi g17 rfl k1 k2⟩
   rw[runH hop]
   simp only[execOp,resolve,invoke,builtin,Sem.run_bind,Sem.run_pure,Result.andThen_ok,List.map_toArray,List.map_cons,List.map_nil,E81,E83,hr]
  ·-- 21
   have hop:o.op=.build 32 #[(0,.tmp 70),(1,.tmp 77),(2,.tmp 84)]:=zy hop0 rfl
   obtain⟨v6,g6⟩:=hdep rfl 6 (by decide)
   obtain⟨v13,g13⟩:=hdep rfl 13 (by decide)
   obtain⟨v20,g20⟩:=hdep rfl 20 (by decide)
   have E70:=evD hd htab hsz 6 70 rfl g6
   have E77:=evD hd htab hsz 13 77 rfl g13
   have E84:=evD hd htab hsz 20 84 rfl g20
   refine gop ho hg ?_ ⟨_,rfl,hJ.b21 hVi g6 g13 g20 rfl⟩
   have x1:=(hJ.ce.c3 v6 g6)
   have x2:=(hJ.cs.c3 v13 g13)
   have x3:=(hJ.cg.c3 v20 g20)
   obtain⟨oa6,c6,rfl⟩:=zi x1
   obtain⟨oa13,c13,rfl⟩:=zi x2
   obtain⟨oa20,c20,rfl⟩:=zi x3
   clear x1 x2 x3
   rw[runH hop]
   generalize actG ops V a0 ops.size=A at E70 E77 E84 ⊢
   clear hJ hget hdst hroom hevt hend hdep hlate
   simp only[Act.eval,Array.getD_eq_getD_getElem?] at E70 E77 E84
   go_simp
  ·-- 22
   have hop:o.op=.alloc 32:=zy hop0 rfl
   have hn23:V 23=none:=hlate 23 (by simp[z5x])
   refine gop ho hg ?_ ⟨_,rfl,hJ.b22 (c0:=#[.slice none 0 0,.slice none 0 0,.slice none 0 0]) hVi hn23 rfl rfl⟩
   rw[runH hop]
   generalize actG ops V a0 ops.size=A
   clear hJ hget hdst hroom hevt hend hdep hlate
   go_simp
  ·-- 23
   have hop:o.op=.store 32 (.tmp 9) (.tmp 85):=zy hop0 rfl
   obtain⟨v6,g6⟩:=hdep rfl 6 (by decide)
   obtain⟨v13,g13⟩:=hdep rfl 13 (by decide)
   obtain⟨v20,g20⟩:=hdep rfl 20 (by decide)
   obtain⟨v21,g21⟩:=hdep rfl 21 (by decide)
   obtain⟨v22,g22⟩:=hdep rfl 22 (by decide)
   have E9:=evD hd htab hsz 22 9 rfl g22
   have E85:=evD hd htab hsz 21 85 rfl g21
   obtain⟨b,rfl,hBb,cs,hb,hcs,-⟩:=hJ.rb.b22 v22 g22
   obtain⟨x,y,z,q1,q2,q3,rfl⟩:=hJ.rb.b21 v21 g21
   obtain⟨hb2,hg2⟩:=zx [x,y,z] w7 cs 0 hb
   have hb3:(w7.setCells b 0 [x,y,z]).heap[b]? = some (.cells #[x,y,z] 32 (0,0)):=by rw[hb2];congr 2;exact zmh hcs
   refine z6x ho hg (w':=w7.setCells b 0 [x,y,z]) ?_ ⟨_,rfl,hJ.b23 hVi q1 q2 q3 rfl g22 hb hBb hg2 hb3 _⟩
   have x1:=(hJ.ce.c3 x q1)
   have x2:=(hJ.cs.c3 y q2)
   have x3:=(hJ.cg.c3 z q3)
   obtain⟨oa6,c6,rfl⟩:=zi x1
   obtain⟨oa13,c13,rfl⟩:=zi x2
   obtain⟨oa20,c20,rfl⟩:=zi x3
   clear x1 x2 x3
   obtain⟨k0,k1,k2⟩:=cells3 hb hcs
   have y0:=zh hb 0
   have y1:=zh hb 1
   have y2:=zh hb 2
   rw[runH hop]
   generalize actG ops V a0 ops.size=A at E9 E85 ⊢
   clear hJ hget hdst hroom hevt hend hdep hlate
   simp only[Act.eval,Array.getD_eq_getD_getElem?] at E9 E85
   go_simp
   rfl
 ·intro V w7 hall hJ
  have hall':∀ k,k<24→∃ v,V k=some v:=fun k hk=>Option.isSome_iff_exists.1 (hall k (by omega))
  obtain⟨v22,g22⟩:=hall' 22 (by omega)
  obtain⟨v23,g23⟩:=hall' 23 (by omega)
  obtain⟨b,rfl,hBb,cs,hb,hcs,hq⟩:=hJ.rb.b22 v22 g22
  obtain⟨x,y,z,q1,q2,q3,rfl⟩:=hq (by rw[g23];simp)
  exact hend V w7 x y z b hall' g22 hBb hb hJ.bel (hJ.ce.c3 x q1) (hJ.cs.c3 y q2) (hJ.cg.c3 z q3)

structure AdS (w:World) (ve vs vg:Value) (e:EvV) (xl xp:Value) (W:World):Prop where
 bel:Bw w W
 r:W.heap[w.heap.size]? = some (.cells #[ve,vs,vg] 32 (0,0))
 e:EB W (w.heap.size+1) e.id e.kind e.sender e.user e.member e.depth xl xp e.text
 rr:W.heap[w.heap.size+2]? = some (.cells #[.slice none 0 0,.slice none 0 0,.slice none 0 0] 32 (0,0))

theorem AdS.on {w:World} {ve vs vg:Value} {e:EvV} {xl xp:Value} {W W':World} (h:AdS w ve vs vg e xl xp W) (hb:Bw W W'):AdS w ve vs vg e xl xp W' :=
 ⟨zTr h.bel hb,(hb.block _ (ze h.r)).trans h.r,h.e.on hb h.e.lt,(hb.block _ (ze h.rr)).trans h.rr⟩

theorem AdS.new (w:World) (ve vs vg:Value) (e:EvV) (xl xp:Value):AdS w ve vs vg e xl xp (((w.alloc (.cells #[ve,vs,vg] 32)).alloc (.cells (zk e.id e.kind e.sender e.user e.member e.depth xl xp e.text) 62)).alloc (.cells #[.slice none 0 0,.slice none 0 0,.slice none 0 0] 32)):=by
 have h1:Bw w (w.alloc (.cells #[ve,vs,vg] 32)):=zBa
 obtain⟨w1,hw1⟩:∃ w1,w.alloc (.cells #[ve,vs,vg] 32)=w1:=⟨_,rfl⟩
 have hr1:w1.heap[w.heap.size]? = some (.cells #[ve,vs,vg] 32 (0,0)):=by rw[← hw1];exact heap_alloc_new _ _
 have hs1:w1.heap.size=w.heap.size+1:=by rw[← hw1];simp
 rw[hw1] at h1 ⊢
 clear hw1
 obtain⟨w2,hw2⟩:∃ w2,w1.alloc (.cells (zk e.id e.kind e.sender e.user e.member e.depth xl xp e.text) 62)=w2:=⟨_,rfl⟩
 have h2:Bw w1 w2:=by rw[← hw2];exact zBa
 have he2:EB w2 (w.heap.size+1) e.id e.kind e.sender e.user e.member e.depth xl xp e.text:=by rw[← hw2,← hs1];exact EB.new _ _ _ _ _ _ _ _ _ _
 have hs2:w2.heap.size=w.heap.size+2:=by rw[← hw2];simp[hs1]
 rw[hw2]
 clear hw2
 have h3:Bw w2 (w2.alloc (.cells #[.slice none 0 0,.slice none 0 0,.slice none 0 0] 32)):=zBa
 have h12:=zTr h2 h3
 refine⟨zTr h1 h12,(h12.block _ (ze hr1)).trans hr1,he2.on h3 he2.lt,?_⟩
 rw[← hs2]
 exact heap_alloc_new _ _

def zmi (p:Nat) (w:World) (es:List EvV) (sts:List St) (zs:Zvs) (e:EvV) (r:Ending) (w':World):Prop :=
 ∃ ve' vs' vg',r=.returned (.tuple #[rmv ve' vs' vg',.bool (z0l es sts e)])∧(z0l es sts e=true→RoomT p w' ve' vs' vg' (es++[e]) (sts++[z0s es sts e])∧(mask p w').ownsRow 0 4 1 vg' (es.length+1) (zs++[.bool (allowed es (befS es sts e.prev) e)]))∧(z0l es sts e=false→ve'=.slice none 0 0∧vs'=.slice none 0 0∧vg'=.slice none 0 0)∧Bw w w'

theorem zgo (p:Nat) (ve vs vg:Value) (es:List EvV) (sts:List St) (e:EvV) (xa:Zoa) (xc:Nat) (ya:Zoa) (yc:Nat) (hinv:RInv es sts) (htx:e.text.length≤1048576) (hpl:e.prev.length≤1048576) (w:World) (hp:p<w.heap.size) (xs ys zs:Zvs) (hX:RoomX p w ve vs vg es sts xs ys zs) (hlv:IntsAt (mask p w) xa e.levels.length xc e.levels) (hpv:IntsAt (mask p w) ya e.prev.length yc e.prev) :
  Calls Tryz.prog 26 #[rmv ve vs vg,evv e (.slice xa e.levels.length xc) (.slice ya e.prev.length yc)] w (zmi p w es sts zs e):=by
 obtain⟨oa,cap,rfl,hev⟩:=zf7 hX.es_ hX.ex
 obtain⟨so,sc,rfl,hst⟩:=zf8 hX.ss_ hX.sx
 have hn40:=hinv.len
 have Cj:=ZZ hinv.eqn
 have HX:=ZZ hX
 have A8:=ZZ hev.un
 have HST:=ZZ hst.un
 have HL:=ZZ hlv
 have HP:=ZZ hpv
 have Jz:=ZZ (show ∃ og cg,vg=.slice og es.length cg from by obtain⟨_,_,og,cg,h,_⟩:=hX.gs_;exact⟨og,cg,h⟩)
 obtain⟨W0,hW0⟩:∃ W0,(((w.alloc (.cells #[.slice oa es.length cap,.slice so sts.length sc,vg] 32)).alloc (.cells (zk e.id e.kind e.sender e.user e.member e.depth (.slice xa e.levels.length xc) (.slice ya e.prev.length yc) e.text) 62)).alloc (.cells #[.slice none 0 0,.slice none 0 0,.slice none 0 0] 32))=W0:=⟨_,rfl⟩
 have hA0:AdS w (.slice oa es.length cap) (.slice so sts.length sc) vg e (.slice xa e.levels.length xc) (.slice ya e.prev.length yc) W0:=by rw[← hW0];exact AdS.new _ _ _ _ _ _ _
 have HW0:=ZZ hW0
 have Au:=ZZ hA0
 have Dp:=ZZ (zdz oa es.length cap es so sts.length sc sts vg ya e.prev.length yc e.prev (by omega) hpl hinv.fine (fun s hs=>by have:=(hinv.st s hs).len;omega) (fun s hs x hx=>((hinv.st s hs).wide x hx).2) W0 (A8.o.below hA0.bel) (HST.o.below hA0.bel) (HP.o.un.below hA0.bel))
 have KZ:=ZZ (show (z2y es sts e.prev).getD []=befS es sts e.prev from rfl)
 have hbl16:=(zax hinv.ids hinv.st e.prev).len
 have Am:=ZZ (show z0l es sts e=((z2y es sts e.prev).isSome&&(evOk e&&(decide (hasI es e.id<0)&&((e.depth==z4a es e.prev)&&decide (es.length<40))))) from rfl)
 obtain⟨r0,r1,r2⟩:W0.cell? ⟨w.heap.size,0,none⟩=some (.slice oa es.length cap)∧W0.cell? ⟨w.heap.size,1,none⟩=some (.slice so sts.length sc)∧W0.cell? ⟨w.heap.size,2,none⟩=some vg:=⟨zb hA0.r 0 rfl,zb hA0.r 1 rfl,zb hA0.r 2 rfl⟩
 obtain⟨t0,t1,t2,t3,t4,t5,t6,t7,t8⟩:=hA0.e.ev
 clear hX hev hst hlv hpv hA0 hW0
 go_enter Tryz.func26,Tryz.ntmps26
 go_upto_region 1 with fail
 rw[HW0.o]
 go_upto_region 2 with (go_at_call 69;(with_reducible refine Dp.o.mono ?_);rintro r w1 ⟨v1,rfl,ho1,hb1⟩;obtain⟨o1,c1,rfl⟩:=zi ho1)
 rw[KZ.o] at ho1 ⊢
 have Bi:=ZZ (zu ho1 Au.o.bel.size)
 have HA1:=ZZ (Au.o.on hb1)
 clear ho1 hb1 r0 r1 r2 t0 t1 t2 t3 t4 t5 t6 t7 t8 Dp HW0
 have Ab:=ZZ (fun w2 (h:Bw w1 w2)=>z7s e.id e.kind e.sender e.user e.member e.depth xa e.levels.length xc e.text ya e.prev.length yc e.levels e.prev htx w2 (HL.o.un.below (zTr HA1.o.bel h)) (HP.o.un.below (zTr HA1.o.bel h)))
 have Ec:=ZZ (fun w2 (h:Bw w1 w2)=>z8z oa es.length cap es (.slice so sts.length sc) vg e.id w2 (A8.o.below (zTr HA1.o.bel h)))
 have Co:=ZZ (fun w2 (h:Bw w1 w2)=>zbd oa es.length cap es (.slice so sts.length sc) vg ya e.prev.length yc e.prev w2 (A8.o.below (zTr HA1.o.bel h)) (HP.o.un.below (zTr HA1.o.bel h)))
 rw[show evOk (⟨e.id,e.kind,e.sender,e.user,e.member,e.levels,e.text,e.prev,e.depth⟩:EvV)=evOk e from rfl] at Ab
 have hlr:w.heap.size<w1.heap.size:=ze HA1.o.r
 have hle:w.heap.size+1<w1.heap.size:=HA1.o.e.lt
 obtain⟨r0,r1,r2⟩:w1.cell? ⟨w.heap.size,0,none⟩=some (.slice oa es.length cap)∧w1.cell? ⟨w.heap.size,1,none⟩=some (.slice so sts.length sc)∧w1.cell? ⟨w.heap.size,2,none⟩=some vg:=⟨zb HA1.o.r 0 rfl,zb HA1.o.r 1 rfl,zb HA1.o.r 2 rfl⟩
 obtain⟨t0,t1,t2,t3,t4,t5,t6,t7,t8⟩:=HA1.o.e.ev
 generalize (z2y es sts e.prev).isSome=b1 at Am ⊢
 generalize evOk e=b2 at Am Ab
 generalize hasI es e.id=hk at Am Ec
 generalize z4a es e.prev=D at Am Co
 cases b1
 case' false=>have HF:=ZZ (show z0l es sts e=false by rw[Am.o];rfl)
 case' true =>
  cases b2
  case' false=>have HF:=ZZ (show z0l es sts e=false by rw[Am.o];rfl)
  case' true =>
   by_cases hk0:0≤hk
   case' pos=>have HF:=ZZ (show z0l es sts e=false by rw[Am.o,decide_eq_false (show ¬ hk<0 by omega)];rfl)
   case' neg =>
    cases hdp:(e.depth==D)
    case' false =>
     have hdp2:=z0h hdp
     have HF:=ZZ (show z0l es sts e=false by rw[Am.o,decide_eq_true (show hk<0 by omega),hdp];rfl)
    case' true =>
     have hdp2:=z0h hdp
     by_cases hlen:(40:Int)≤(es.length:Int)
     case' pos=>have HF:=ZZ (show z0l es sts e=false by rw[Am.o,decide_eq_true (show hk<0 by omega),hdp,decide_eq_false (show ¬ es.length<40 by omega)];rfl)
     case' neg=>have HF:=ZZ (show z0l es sts e=true by rw[Am.o,decide_eq_true (show hk<0 by omega),hdp,decide_eq_true (show es.length<40 by omega)];rfl)
 all_goals
  refine zn (F:=Bw w1) (by kernel_rfl) (by kernel_rfl) zBr.drew ?_
  have hne:Nonempty (InW (Bw w1)):=⟨⟨_,zBr⟩⟩
  have k0:=ciW r0
  have k1:=ciW r1
  have k2:=ciW r2
  have z0:=ciW t0
  have z1:=ciW t1
  have z2:=ciW t2
  have z3:=ciW t3
  have z4:=ciW t4
  have z5:=ciW t5
  have z6:=ciW t6
  have z7:=ciW t7
  have z8:=ciW t8
  repeat (go_big_quiet_step (first
   | (go_at_call 70;(with_reducible refine (Ab.o _ (InW.h (F:=Bw w1) _)).mono ?_);rintro e' w2 ⟨rfl,hb2⟩;exact⟨rfl,iwW hb2,rfl⟩)
   | (go_at_call 71;(with_reducible refine (Ec.o _ (InW.h (F:=Bw w1) _)).mono ?_);rintro e' w2 ⟨rfl,hb2⟩;exact⟨rfl,iwW hb2,rfl⟩)
   | (go_at_call 72;(with_reducible refine (Co.o _ (InW.h (F:=Bw w1) _)).mono ?_);rintro e' w2 ⟨rfl,hb2⟩;exact⟨rfl,iwW hb2,rfl⟩)))
  refine wpQuiet_nil ?_
  intro _ hw'
  obtain⟨nq,hw''⟩:=hw'
  subst hw''
  have hnq:=nq.h
  generalize nq.w=w3 at hnq ⊢
  have Ac:=ZZ (HA1.o.on hnq)
  have Aq:=ZZ (own_below Bi.o hnq)
  clear hne k0 k1 k2 z0 z1 z2 z3 z4 z5 z6 z7 z8 r0 r1 r2 t0 t1 t2 t3 t4 t5 t6 t7 t8
 ·
      have HAS:=ZZ (show z0s es sts e=if allowed es (befS es sts e.prev) e&&!(keyE e==0) then z0n (befS es sts e.prev) (keyE e) e.id else befS es sts e.prev from rfl)
      have hO3:=Aq.o
      obtain⟨AL,hAL⟩:∃ AL,AL=allowed es (befS es sts e.prev) e:=⟨_,rfl⟩
      have Ed:=ZZ hAL
      have Gf:=ZZ hAL
      clear hAL
      generalize befS es sts e.prev=N at Aq Bi hO3 HAS hbl16 Gf
      obtain⟨_,_,heo,hi3⟩:=z08 hO3
      cases heo
      have AU:=ZZ (z7t oa es.length cap es o1 N.length c1 N e xa xc ya yc htx w3 ⟨A8.o.below Ac.o.bel,hi3⟩ (HL.o.un.below Ac.o.bel) (HP.o.un.below Ac.o.bel))
      have BZ:=ZZ (fun w1=>z9d e (.slice xa e.levels.length xc) (.slice ya e.prev.length yc) w1)
      have r0:=zb Ac.o.r 0 rfl
      obtain⟨t0,t1,t2,t3,t4,t5,t6,t7,t8⟩:=Ac.o.e.ev
      have hle3:=Ac.o.e.lt
      clear hO3 hi3
      generalize keyE e=KY at BZ HAS
      generalize allowed es N e=al at AU HAS Gf
      cases al
      ·have HS:=ZZ (show z0s es sts e=N from HAS.o)
       go_upto_region 7 with (go_at_call 73;(with_reducible refine AU.o.mono ?_);rintro r w6 ⟨rfl,hb6⟩)
       have AZ:=ZZ (Ac.o.on hb6)
       have DJ:=ZZ (own_below Aq.o hb6)
       clear hb6 r0 t0 t1 t2 t3 t4 t5 t6 t7 t8
       obtain⟨og,cg,rfl⟩:=Jz.o
       have D8:=ZZ (z1r (p:=p) AZ.o.bel hp)
       have CO:=ZZ (HX.o.on D8.o)
       have hsz7:=AZ.o.bel.size
       refine z96 (R:=w.heap.size) (E:=w.heap.size+1) (ve:=.slice oa es.length cap) (vs:=.slice so sts.length sc) (vg:=.slice og es.length cg) (ev:=e) (xl:=.slice xa e.levels.length xc) (xp:=.slice ya e.prev.length yc) (o6:=o1) (m6:=N.length) (c6:=c1) (g:=false) (n:=es.length) (xs:=xs) (ys:=ys) (zs:=zs) (by kernel_rfl) (by kernel_rfl) (by kernel_rfl) (by kernel_rfl) (by kernel_rfl) (by kernel_rfl) (by kernel_rfl) (by kernel_rfl) (by kernel_rfl) (by kernel_rfl) (by simp[Act.put]) rfl rfl rfl rfl ?_ ?_ rfl rfl (by omega) ?_ ?_ ?_ ?_
       ·intro wz hz;exact⟨zb (AZ.o.on hz).r 0 rfl,zb (AZ.o.on hz).r 1 rfl,zb (AZ.o.on hz).r 2 rfl⟩
       ·intro wz hz;obtain⟨a0,a1,a2,a3,a4,a5,a6,a7,a8⟩:=(AZ.o.on hz).e.ev;exact⟨a0,a1,a2,a3,a4,a5,a6,a7,a8⟩
       ·intro wz hz;exact (CO.o.es_.cells (fun a u h=>(z18 h).1)).below hz
       ·intro wz hz;rw[← Cj.o];exact (CO.o.ss_.cells (fun a u h=>(z18 h).1)).below hz
       ·intro wz hz;exact (CO.o.gs_.cells (fun a u h=>(z18 h).1)).below hz
       ·intro V w8 x y z b hall g22 hBb hbb hb8 hox hoy hoz
        have Ai:=ZZ (AZ.o.on hb8)
        obtain⟨ox,cx,rfl⟩:=zi hox
        obtain⟨oy,cy,rfl⟩:=zi hoy
        obtain⟨oz,cz,rfl⟩:=zi hoz
        have Gg:=ZZ hox
        have Gi:=ZZ hoy
        have DK:=ZZ hoz
        obtain⟨v0,g0'⟩:=hall 0 (by omega)
        obtain⟨v1,g1'⟩:=hall 1 (by omega)
        obtain⟨v2,g2'⟩:=hall 2 (by omega)
        obtain⟨v3,g3'⟩:=hall 3 (by omega)
        obtain⟨v4,g4'⟩:=hall 4 (by omega)
        obtain⟨v5,g5'⟩:=hall 5 (by omega)
        obtain⟨v6,g6'⟩:=hall 6 (by omega)
        obtain⟨v7,g7'⟩:=hall 7 (by omega)
        obtain⟨v8,g8'⟩:=hall 8 (by omega)
        obtain⟨v9,g9'⟩:=hall 9 (by omega)
        obtain⟨v10,g10'⟩:=hall 10 (by omega)
        obtain⟨v11,g11'⟩:=hall 11 (by omega)
        obtain⟨v12,g12'⟩:=hall 12 (by omega)
        obtain⟨v13,g13'⟩:=hall 13 (by omega)
        obtain⟨v14,g14'⟩:=hall 14 (by omega)
        obtain⟨v15,g15'⟩:=hall 15 (by omega)
        obtain⟨v16,g16'⟩:=hall 16 (by omega)
        obtain⟨v17,g17'⟩:=hall 17 (by omega)
        obtain⟨v18,g18'⟩:=hall 18 (by omega)
        obtain⟨v19,g19'⟩:=hall 19 (by omega)
        obtain⟨v20,g20'⟩:=hall 20 (by omega)
        obtain⟨v21,g21'⟩:=hall 21 (by omega)
        obtain⟨v23,g23'⟩:=hall 23 (by omega)
        simp only[actG,List.size_toArray,List.length_cons,List.length_nil,List.getElem?_toArray,List.getElem?_cons_zero,List.getElem?_cons_succ,g0',g1',g2',g3',g4',g5',g6',g7',g8',g9',g10',g11',g12',g13',g14',g15',g16',g17',g18',g19',g20',g21',g23',g22,Act.put,List.setIfInBounds_toArray,List.set_cons_zero,List.set_cons_succ]
        clear g0'
        clear g1'
        clear g2'
        clear g3'
        clear g4'
        clear g5'
        clear g6'
        clear g7'
        clear g8'
        clear g9'
        clear g10'
        clear g11'
        clear g12'
        clear g13'
        clear g14'
        clear g15'
        clear g16'
        clear g17'
        clear g18'
        clear g19'
        clear g20'
        clear g21'
        clear g23'
        have m0:=zb hbb 0 rfl
        have m1:=zb hbb 1 rfl
        have m2:=zb hbb 2 rfl
        have q0:=zb Ai.o.rr 0 rfl
        have q1:=zb Ai.o.rr 1 rfl
        have q2:=zb Ai.o.rr 2 rfl
        have y0:=zh Ai.o.rr 0
        have y1:=zh Ai.o.rr 1
        have y2:=zh Ai.o.rr 2
        have hbne:b≠w.heap.size+2:=by have:=ze AZ.o.rr;omega
        clear hall hox hoy hoz
        go_wp2_with fail
        obtain⟨w99,hw9⟩:∃ w99,(((w8.setCell ⟨w.heap.size+2,0,none⟩ (.slice ox (es.length+1) cx)).setCell ⟨w.heap.size+2,1,none⟩ (.slice oy (es.length+1) cy)).setCell ⟨w.heap.size+2,2,none⟩ (.slice oz (es.length+1) cz))=w99:=⟨_,rfl⟩
        obtain⟨hr,hg9⟩:=zx [.slice ox (es.length+1) cx,.slice oy (es.length+1) cy,.slice oz (es.length+1) cz] w8 _ 0 Ai.o.rr
        rw[show w8.setCells (w.heap.size+2) 0 [.slice ox (es.length+1) cx,.slice oy (es.length+1) cy,.slice oz (es.length+1) cz]=w99 from hw9] at hr hg9
        rw[hw9]
        clear q0 q1 q2 y0 y1 y2
        have q0:w99.cell? ⟨w.heap.size+2,0,none⟩=some (.slice ox (es.length+1) cx):=zb hr 0 rfl
        have q1:w99.cell? ⟨w.heap.size+2,1,none⟩=some (.slice oy (es.length+1) cy):=zb hr 1 rfl
        have q2:w99.cell? ⟨w.heap.size+2,2,none⟩=some (.slice oz (es.length+1) cz):=zb hr 2 rfl
        refine bodyPost_ret (v:=.tuple #[rmv (.slice ox (es.length+1) cx) (.slice oy (es.length+1) cy) (.slice oz (es.length+1) cz),.bool true]) (by simp[results,Tryz.results26,go_sem,q0,q1,q2]) rfl ?_
        have hB9:Bw w w99:=Ai.o.bel.grown hg9 Ai.o.bel.size (fun k hk=>by cases hk;omega)
        have hb09:=z1r (p:=p) hB9 hp
        obtain⟨_,_,hqo,hq9⟩:=z08 (z2f (z1w (own_below DJ.o hb8) hg9 Ai.o.rr (by decide)) hp)
        cases hqo
        refine⟨_,_,_,by rw[HF.o],fun _=>⟨?_,by rw[← Ed.o,Gf.o];exact zu (z2f (z1w DK.o hg9 Ai.o.rr (by decide)) (show p<w6.heap.size by omega)) (Nat.zero_le _)⟩,(fun h=>by rw[HF.o] at h;cases h),hB9⟩
        rw[HS.o]
        exact RoomX.addT HX.o hb09 (B:=w6.heap.size) (by omega) (z1w Gg.o hg9 Ai.o.rr (by decide)) (by rw[Cj.o];exact z1w Gi.o hg9 Ai.o.rr (by decide)) (z1w DK.o hg9 Ai.o.rr (by decide)) (HL.o.below hb09) (HP.o.below hb09) (by unfold maxLen;omega) hq9
      ·cases hky:(KY==0)
       ·have hky2:=z0h hky
        have HS:=ZZ (show z0s es sts e=z0n N KY e.id by have h:=HAS.o;rw[hky] at h;exact h)
        go_upto_region 6 with (first
         | (go_at_call 73;(with_reducible refine AU.o.mono ?_);rintro r w6 ⟨rfl,hb6⟩;have t06:=(hb6.cell hle3).trans t0;have t16:=(hb6.cell hle3).trans t1;have t26:=(hb6.cell hle3).trans t2;have t36:=(hb6.cell hle3).trans t3;have t46:=(hb6.cell hle3).trans t4;have t56:=(hb6.cell hle3).trans t5;have t66:=(hb6.cell hle3).trans t6;have t76:=(hb6.cell hle3).trans t7;have t86:=(hb6.cell hle3).trans t8)
         | (go_at_call 74;(with_reducible refine (BZ.o _).mono ?_);rintro r w7 ⟨rfl,hb7⟩))
        have hb67:=zTr hb6 hb7
        have Dj:=ZZ (Ac.o.on hb67)
        have hO6:=own_below Aq.o hb67
        obtain⟨_,_,heo,hi6⟩:=z08 hO6
        cases heo
        have Ee:=ZZ hi6
        clear hO6 hi6 r0 t0 t1 t2 t3 t4 t5 t6 t7 t8 t06 t16 t26 t36 t46 t56 t66 t76 t86
        obtain⟨t0,t1,t2,t3,t4,t5,t6,t7,t8⟩:=Dj.o.e.ev
        have hle6:=Dj.o.e.lt
        go_region_law (first
         | (rw[if_pos (by rfl)];go_simp;go_at_call 74;refine (BZ.o _).mono ?_;rintro r w8 ⟨rfl,hb8⟩;have hb78:Bw w7 w8:=(Below.refl w7.heap.size w7).drew.trans hb8;have t08:=(hb78.cell hle6).trans t0)
         | (rw[if_pos (by rfl)];go_simp;go_at_call 75;refine (zad _ _ _ N KY e.id (by omega) w8 (Ee.o.below hb78)).mono ?_;rintro r w9 ⟨v9,rfl,ho9,hb9⟩;obtain⟨o9,c9,rfl⟩:=zi ho9))
        all_goals
         have hb79:=zTr hb78 hb9
         have AZ:=ZZ (Dj.o.on hb79)
         have DJ:=ZZ (zu ho9 (zNt Dj.o.bel.size hb78.size))
         clear ho9 t0 t1 t2 t3 t4 t5 t6 t7 t8
         go_upto_region 7 with fail
         obtain⟨og,cg,rfl⟩:=Jz.o
         have D8:=ZZ (z1r (p:=p) AZ.o.bel hp)
         have CO:=ZZ (HX.o.on D8.o)
         have hsz7:=AZ.o.bel.size
         refine z96 (R:=w.heap.size) (E:=w.heap.size+1) (ve:=.slice oa es.length cap) (vs:=.slice so sts.length sc) (vg:=.slice og es.length cg) (ev:=e) (xl:=.slice xa e.levels.length xc) (xp:=.slice ya e.prev.length yc) (o6:=o9) (m6:=(z0n N KY e.id).length) (c6:=c9) (g:=true) (n:=es.length) (xs:=xs) (ys:=ys) (zs:=zs) (by kernel_rfl) (by kernel_rfl) (by kernel_rfl) (by kernel_rfl) (by kernel_rfl) (by kernel_rfl) (by kernel_rfl) (by kernel_rfl) (by kernel_rfl) (by kernel_rfl) (by simp[Act.put]) rfl rfl rfl rfl ?_ ?_ rfl rfl (by omega) ?_ ?_ ?_ ?_
         ·intro wz hz;exact⟨zb (AZ.o.on hz).r 0 rfl,zb (AZ.o.on hz).r 1 rfl,zb (AZ.o.on hz).r 2 rfl⟩
         ·intro wz hz;obtain⟨a0,a1,a2,a3,a4,a5,a6,a7,a8⟩:=(AZ.o.on hz).e.ev;exact⟨a0,a1,a2,a3,a4,a5,a6,a7,a8⟩
         ·intro wz hz;exact (CO.o.es_.cells (fun a u h=>(z18 h).1)).below hz
         ·intro wz hz;rw[← Cj.o];exact (CO.o.ss_.cells (fun a u h=>(z18 h).1)).below hz
         ·intro wz hz;exact (CO.o.gs_.cells (fun a u h=>(z18 h).1)).below hz
         ·intro V w8 x y z b hall g22 hBb hbb hb8 hox hoy hoz
          have Ai:=ZZ (AZ.o.on hb8)
          obtain⟨ox,cx,rfl⟩:=zi hox
          obtain⟨oy,cy,rfl⟩:=zi hoy
          obtain⟨oz,cz,rfl⟩:=zi hoz
          have Gg:=ZZ hox
          have Gi:=ZZ hoy
          have DK:=ZZ hoz
          obtain⟨v0,g0'⟩:=hall 0 (by omega)
          obtain⟨v1,g1'⟩:=hall 1 (by omega)
          obtain⟨v2,g2'⟩:=hall 2 (by omega)
          obtain⟨v3,g3'⟩:=hall 3 (by omega)
          obtain⟨v4,g4'⟩:=hall 4 (by omega)
          obtain⟨v5,g5'⟩:=hall 5 (by omega)
          obtain⟨v6,g6'⟩:=hall 6 (by omega)
          obtain⟨v7,g7'⟩:=hall 7 (by omega)
          obtain⟨v8,g8'⟩:=hall 8 (by omega)
          obtain⟨v9,g9'⟩:=hall 9 (by omega)
          obtain⟨v10,g10'⟩:=hall 10 (by omega)
          obtain⟨v11,g11'⟩:=hall 11 (by omega)
          obtain⟨v12,g12'⟩:=hall 12 (by omega)
          obtain⟨v13,g13'⟩:=hall 13 (by omega)
          obtain⟨v14,g14'⟩:=hall 14 (by omega)
          obtain⟨v15,g15'⟩:=hall 15 (by omega)
          obtain⟨v16,g16'⟩:=hall 16 (by omega)
          obtain⟨v17,g17'⟩:=hall 17 (by omega)
          obtain⟨v18,g18'⟩:=hall 18 (by omega)
          obtain⟨v19,g19'⟩:=hall 19 (by omega)
          obtain⟨v20,g20'⟩:=hall 20 (by omega)
          obtain⟨v21,g21'⟩:=hall 21 (by omega)
          obtain⟨v23,g23'⟩:=hall 23 (by omega)
          simp only[actG,List.size_toArray,List.length_cons,List.length_nil,List.getElem?_toArray,List.getElem?_cons_zero,List.getElem?_cons_succ,g0',g1',g2',g3',g4',g5',g6',g7',g8',g9',g10',g11',g12',g13',g14',g15',g16',g17',g18',g19',g20',g21',g23',g22,Act.put,List.setIfInBounds_toArray,List.set_cons_zero,List.set_cons_succ]
          clear g0'
          clear g1'
          clear g2'
          clear g3'
          clear g4'
          clear g5'
          clear g6'
          clear g7'
          clear g8'
          clear g9'
          clear g10'
          clear g11'
          clear g12'
          clear g13'
          clear g14'
          clear g15'
          clear g16'
          clear g17'
          clear g18'
          clear g19'
          clear g20'
          clear g21'
          clear g23'
          have m0:=zb hbb 0 rfl
          have m1:=zb hbb 1 rfl
          have m2:=zb hbb 2 rfl
          have q0:=zb Ai.o.rr 0 rfl
          have q1:=zb Ai.o.rr 1 rfl
          have q2:=zb Ai.o.rr 2 rfl
          have y0:=zh Ai.o.rr 0
          have y1:=zh Ai.o.rr 1
          have y2:=zh Ai.o.rr 2
          have hbne:b≠w.heap.size+2:=by have:=ze AZ.o.rr;omega
          clear hall hox hoy hoz
          go_wp2_with fail
          obtain⟨w99,hw9⟩:∃ w99,(((w8.setCell ⟨w.heap.size+2,0,none⟩ (.slice ox (es.length+1) cx)).setCell ⟨w.heap.size+2,1,none⟩ (.slice oy (es.length+1) cy)).setCell ⟨w.heap.size+2,2,none⟩ (.slice oz (es.length+1) cz))=w99:=⟨_,rfl⟩
          obtain⟨hr,hg9⟩:=zx [.slice ox (es.length+1) cx,.slice oy (es.length+1) cy,.slice oz (es.length+1) cz] w8 _ 0 Ai.o.rr
          rw[show w8.setCells (w.heap.size+2) 0 [.slice ox (es.length+1) cx,.slice oy (es.length+1) cy,.slice oz (es.length+1) cz]=w99 from hw9] at hr hg9
          rw[hw9]
          clear q0 q1 q2 y0 y1 y2
          have q0:w99.cell? ⟨w.heap.size+2,0,none⟩=some (.slice ox (es.length+1) cx):=zb hr 0 rfl
          have q1:w99.cell? ⟨w.heap.size+2,1,none⟩=some (.slice oy (es.length+1) cy):=zb hr 1 rfl
          have q2:w99.cell? ⟨w.heap.size+2,2,none⟩=some (.slice oz (es.length+1) cz):=zb hr 2 rfl
          refine bodyPost_ret (v:=.tuple #[rmv (.slice ox (es.length+1) cx) (.slice oy (es.length+1) cy) (.slice oz (es.length+1) cz),.bool true]) (by simp[results,Tryz.results26,go_sem,q0,q1,q2]) rfl ?_
          have hB9:Bw w w99:=Ai.o.bel.grown hg9 Ai.o.bel.size (fun k hk=>by cases hk;omega)
          have hb09:=z1r (p:=p) hB9 hp
          obtain⟨_,_,hqo,hq9⟩:=z08 (z2f (z1w (own_below DJ.o hb8) hg9 Ai.o.rr (by decide)) hp)
          cases hqo
          refine⟨_,_,_,by rw[HF.o],fun _=>⟨?_,by rw[← Ed.o,Gf.o];exact zu (z2f (z1w DK.o hg9 Ai.o.rr (by decide)) (show p<w9.heap.size by omega)) (Nat.zero_le _)⟩,(fun h=>by rw[HF.o] at h;cases h),hB9⟩
          rw[HS.o]
          exact RoomX.addT HX.o hb09 (B:=w9.heap.size) (by omega) (z1w Gg.o hg9 Ai.o.rr (by decide)) (by rw[Cj.o];exact z1w Gi.o hg9 Ai.o.rr (by decide)) (z1w DK.o hg9 Ai.o.rr (by decide)) (HL.o.below hb09) (HP.o.below hb09) (by unfold maxLen;omega) hq9
       ·have hky2:=z0h hky
        have HS:=ZZ (show z0s es sts e=N by have h:=HAS.o;rw[hky] at h;exact h)
        go_upto_region 7 with (first
         | (go_at_call 73;(with_reducible refine AU.o.mono ?_);rintro r w6 ⟨rfl,hb6⟩;have t06:=(hb6.cell hle3).trans t0;have t16:=(hb6.cell hle3).trans t1;have t26:=(hb6.cell hle3).trans t2;have t36:=(hb6.cell hle3).trans t3;have t46:=(hb6.cell hle3).trans t4;have t56:=(hb6.cell hle3).trans t5;have t66:=(hb6.cell hle3).trans t6;have t76:=(hb6.cell hle3).trans t7;have t86:=(hb6.cell hle3).trans t8)
         | (go_at_call 74;(with_reducible refine (BZ.o _).mono ?_);rintro r w7 ⟨rfl,hb7⟩))
        have hb67:=zTr hb6 hb7
        have AZ:=ZZ (Ac.o.on hb67)
        have DJ:=ZZ (own_below Aq.o hb67)
        clear hb6 hb7 hb67 r0 t0 t1 t2 t3 t4 t5 t6 t7 t8 t06 t16 t26 t36 t46 t56 t66 t76 t86
        obtain⟨og,cg,rfl⟩:=Jz.o
        have D8:=ZZ (z1r (p:=p) AZ.o.bel hp)
        have CO:=ZZ (HX.o.on D8.o)
        have hsz7:=AZ.o.bel.size
        refine z96 (R:=w.heap.size) (E:=w.heap.size+1) (ve:=.slice oa es.length cap) (vs:=.slice so sts.length sc) (vg:=.slice og es.length cg) (ev:=e) (xl:=.slice xa e.levels.length xc) (xp:=.slice ya e.prev.length yc) (o6:=o1) (m6:=N.length) (c6:=c1) (g:=true) (n:=es.length) (xs:=xs) (ys:=ys) (zs:=zs) (by kernel_rfl) (by kernel_rfl) (by kernel_rfl) (by kernel_rfl) (by kernel_rfl) (by kernel_rfl) (by kernel_rfl) (by kernel_rfl) (by kernel_rfl) (by kernel_rfl) (by simp[Act.put]) rfl rfl rfl rfl ?_ ?_ rfl rfl (by omega) ?_ ?_ ?_ ?_
        ·intro wz hz;exact⟨zb (AZ.o.on hz).r 0 rfl,zb (AZ.o.on hz).r 1 rfl,zb (AZ.o.on hz).r 2 rfl⟩
        ·intro wz hz;obtain⟨a0,a1,a2,a3,a4,a5,a6,a7,a8⟩:=(AZ.o.on hz).e.ev;exact⟨a0,a1,a2,a3,a4,a5,a6,a7,a8⟩
        ·intro wz hz;exact (CO.o.es_.cells (fun a u h=>(z18 h).1)).below hz
        ·intro wz hz;rw[← Cj.o];exact (CO.o.ss_.cells (fun a u h=>(z18 h).1)).below hz
        ·intro wz hz;exact (CO.o.gs_.cells (fun a u h=>(z18 h).1)).below hz
        ·intro V w8 x y z b hall g22 hBb hbb hb8 hox hoy hoz
         have Ai:=ZZ (AZ.o.on hb8)
         obtain⟨ox,cx,rfl⟩:=zi hox
         obtain⟨oy,cy,rfl⟩:=zi hoy
         obtain⟨oz,cz,rfl⟩:=zi hoz
         have Gg:=ZZ hox
         have Gi:=ZZ hoy
         have DK:=ZZ hoz
         obtain⟨v0,g0'⟩:=hall 0 (by omega)
         obtain⟨v1,g1'⟩:=hall 1 (by omega)
         obtain⟨v2,g2'⟩:=hall 2 (by omega)
         obtain⟨v3,g3'⟩:=hall 3 (by omega)
         obtain⟨v4,g4'⟩:=hall 4 (by omega)
         obtain⟨v5,g5'⟩:=hall 5 (by omega)
         obtain⟨v6,g6'⟩:=hall 6 (by omega)
         obtain⟨v7,g7'⟩:=hall 7 (by omega)
         obtain⟨v8,g8'⟩:=hall 8 (by omega)
         obtain⟨v9,g9'⟩:=hall 9 (by omega)
         obtain⟨v10,g10'⟩:=hall 10 (by omega)
         obtain⟨v11,g11'⟩:=hall 11 (by omega)
         obtain⟨v12,g12'⟩:=hall 12 (by omega)
         obtain⟨v13,g13'⟩:=hall 13 (by omega)
         obtain⟨v14,g14'⟩:=hall 14 (by omega)
         obtain⟨v15,g15'⟩:=hall 15 (by omega)
         obtain⟨v16,g16'⟩:=hall 16 (by omega)
         obtain⟨v17,g17'⟩:=hall 17 (by omega)
         obtain⟨v18,g18'⟩:=hall 18 (by omega)
         obtain⟨v19,g19'⟩:=hall 19 (by omega)
         obtain⟨v20,g20'⟩:=hall 20 (by omega)
         obtain⟨v21,g21'⟩:=hall 21 (by omega)
         obtain⟨v23,g23'⟩:=hall 23 (by omega)
         simp only[actG,List.size_toArray,List.length_cons,List.length_nil,List.getElem?_toArray,List.getElem?_cons_zero,List.getElem?_cons_succ,g0',g1',g2',g3',g4',g5',g6',g7',g8',g9',g10',g11',g12',g13',g14',g15',g16',g17',g18',g19',g20',g21',g23',g22,Act.put,List.setIfInBounds_toArray,List.set_cons_zero,List.set_cons_succ]
         clear g0'
         clear g1'
         clear g2'
         clear g3'
         clear g4'
         clear g5'
         clear g6'
         clear g7'
         clear g8'
         clear g9'
         clear g10'
         clear g11'
         clear g12'
         clear g13'
         clear g14'
         clear g15'
         clear g16'
         clear g17'
         clear g18'
         clear g19'
         clear g20'
         clear g21'
         clear g23'
         have m0:=zb hbb 0 rfl
         have m1:=zb hbb 1 rfl
         have m2:=zb hbb 2 rfl
         have q0:=zb Ai.o.rr 0 rfl
         have q1:=zb Ai.o.rr 1 rfl
         have q2:=zb Ai.o.rr 2 rfl
         have y0:=zh Ai.o.rr 0
         have y1:=zh Ai.o.rr 1
         have y2:=zh Ai.o.rr 2
         have hbne:b≠w.heap.size+2:=by have:=ze AZ.o.rr;omega
         clear hall hox hoy hoz
         go_wp2_with fail
         obtain⟨w99,hw9⟩:∃ w99,(((w8.setCell ⟨w.heap.size+2,0,none⟩ (.slice ox (es.length+1) cx)).setCell ⟨w.heap.size+2,1,none⟩ (.slice oy (es.length+1) cy)).setCell ⟨w.heap.size+2,2,none⟩ (.slice oz (es.length+1) cz))=w99:=⟨_,rfl⟩
         obtain⟨hr,hg9⟩:=zx [.slice ox (es.length+1) cx,.slice oy (es.length+1) cy,.slice oz (es.length+1) cz] w8 _ 0 Ai.o.rr
         rw[show w8.setCells (w.heap.size+2) 0 [.slice ox (es.length+1) cx,.slice oy (es.length+1) cy,.slice oz (es.length+1) cz]=w99 from hw9] at hr hg9
         rw[hw9]
         clear q0 q1 q2 y0 y1 y2
         have q0:w99.cell? ⟨w.heap.size+2,0,none⟩=some (.slice ox (es.length+1) cx):=zb hr 0 rfl
         have q1:w99.cell? ⟨w.heap.size+2,1,none⟩=some (.slice oy (es.length+1) cy):=zb hr 1 rfl
         have q2:w99.cell? ⟨w.heap.size+2,2,none⟩=some (.slice oz (es.length+1) cz):=zb hr 2 rfl
         refine bodyPost_ret (v:=.tuple #[rmv (.slice ox (es.length+1) cx) (.slice oy (es.length+1) cy) (.slice oz (es.length+1) cz),.bool true]) (by simp[results,Tryz.results26,go_sem,q0,q1,q2]) rfl ?_
         have hB9:Bw w w99:=Ai.o.bel.grown hg9 Ai.o.bel.size (fun k hk=>by cases hk;omega)
         have hb09:=z1r (p:=p) hB9 hp
         obtain⟨_,_,hqo,hq9⟩:=z08 (z2f (z1w (own_below DJ.o hb8) hg9 Ai.o.rr (by decide)) hp)
         cases hqo
         refine⟨_,_,_,by rw[HF.o],fun _=>⟨?_,by rw[← Ed.o,Gf.o];exact zu (z2f (z1w DK.o hg9 Ai.o.rr (by decide)) (show p<w7.heap.size by omega)) (Nat.zero_le _)⟩,(fun h=>by rw[HF.o] at h;cases h),hB9⟩
         rw[HS.o]
         exact RoomX.addT HX.o hb09 (B:=w7.heap.size) (by omega) (z1w Gg.o hg9 Ai.o.rr (by decide)) (by rw[Cj.o];exact z1w Gi.o hg9 Ai.o.rr (by decide)) (z1w DK.o hg9 Ai.o.rr (by decide)) (HL.o.below hb09) (HP.o.below hb09) (by unfold maxLen;omega) hq9
 all_goals
  have q0:=zb Ac.o.rr 0 rfl
  have q1:=zb Ac.o.rr 1 rfl
  have q2:=zb Ac.o.rr 2 rfl
  have y0:=zh Ac.o.rr 0
  have y1:=zh Ac.o.rr 1
  have y2:=zh Ac.o.rr 2
  go_wp2_with fail
  obtain⟨w9,hw9⟩:∃ w9,(((w3.setCell ⟨w.heap.size+2,0,none⟩ (.slice none 0 0)).setCell ⟨w.heap.size+2,1,none⟩ (.slice none 0 0)).setCell ⟨w.heap.size+2,2,none⟩ (.slice none 0 0))=w9:=⟨_,rfl⟩
  obtain⟨hr,hg9⟩:=zx [.slice none 0 0,.slice none 0 0,.slice none 0 0] w3 _ 0 Ac.o.rr
  rw[show w3.setCells (w.heap.size+2) 0 [.slice none 0 0,.slice none 0 0,.slice none 0 0]=w9 from hw9] at hr hg9
  rw[hw9]
  clear q0 q1 q2 y0 y1 y2
  have q0:w9.cell? ⟨w.heap.size+2,0,none⟩=some (.slice none 0 0):=zb hr 0 rfl
  have q1:w9.cell? ⟨w.heap.size+2,1,none⟩=some (.slice none 0 0):=zb hr 1 rfl
  have q2:w9.cell? ⟨w.heap.size+2,2,none⟩=some (.slice none 0 0):=zb hr 2 rfl
  refine bodyPost_ret (v:=.tuple #[rmv (.slice none 0 0) (.slice none 0 0) (.slice none 0 0),.bool false]) (by simp[results,Tryz.results26,go_sem,q0,q1,q2]) rfl ?_
  exact⟨_,_,_,by rw[HF.o],(fun h=>by rw[HF.o] at h;cases h),(fun _=>⟨rfl,rfl,rfl⟩),Ac.o.bel.grown hg9 Ac.o.bel.size (fun k hk=>by cases hk;omega)⟩

end Go.Proofs.YtfeebdcmlnapiaaGreat
