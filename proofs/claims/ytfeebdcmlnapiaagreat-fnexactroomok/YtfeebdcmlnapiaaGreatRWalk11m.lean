/-
  Walks.
-/
import Derived.Test.YtfeebdcmlnapiaaGreatRRoom3
import Derived.Test.YtfeebdcmlnapiaaGreatRHeldB
set_option linter.unusedVariables false
set_option linter.unusedSimpArgs false
namespace Go.Proofs.YtfeebdcmlnapiaaGreat
open Go.RowKit P5 P9 P12 P14 P15 P17 K

def wtOf (es:List EvV) (s:St) (e:EvV):Wt:=⟨heavy e,z06 es s e.sender,e.depth,e.id⟩

theorem zoj {es:List EvV} {s:St} (h:Sane es s) (a b:EvV):z0k es s a b=hvW (wtOf es s a) (wtOf es s b):=by
 unfold z0k hvW wtOf
 simp only[h.lev]

theorem zkt (e:EvV):heavy e=((e.kind==3)||((e.kind==2)&&((e.sender != e.user)&&((e.member==0)||(e.member==3))))):=by
 unfold heavy
 simp only[bne]
 rw[show decide (e.kind=3)=(e.kind==3) from rfl,show decide (e.kind=2)=(e.kind==2) from rfl,show decide (e.member=0)=(e.member==0) from rfl,show decide (e.member=3)=(e.member==3) from rfl,show decide (e.sender=e.user)=(e.sender==e.user) from rfl]
 cases (e.kind==3)<;>cases (e.kind==2)<;>cases (e.member==0)<;>cases (e.member==3)<;>cases (e.sender==e.user)<;>rfl

set_option maxHeartbeats 4000000 in
theorem ziw (e:EvV) (xl xp:Value) (w:World) :
  Calls Tryz.prog 247 #[evv e xl xp] w fun r w'=>r=.returned (.bool (heavy e))∧Below w.heap.size w w':=by
 have hb0:=(Below.refl w.heap.size w).alloc (Nat.le_refl _) (.cells (zk e.id e.kind e.sender e.user e.member e.depth xl xp e.text) 62)
 have HB0:=hide hb0
 have A8:=hide (EB.new w e.id e.kind e.sender e.user e.member e.depth xl xp e.text)
 obtain⟨a0,a1,a2,a3,a4,a5,a6,a7,a8⟩:=A8.out.ev
 rw[zkt]
 cases g3:(e.kind==3)
 ·cases g2:(e.kind==2)
  ·go_enter Tryz.func247,Tryz.ntmps247
   go_wp2_with fail
   go_ret
   exact⟨by first|rfl|simp,HB0.out⟩
  ·cases gs:(e.sender != e.user)
   ·go_enter Tryz.func247,Tryz.ntmps247
    go_wp2_with fail
    go_ret
    exact⟨by first|rfl|simp,HB0.out⟩
   ·cases m0:(e.member==0)
    all_goals
     go_enter Tryz.func247,Tryz.ntmps247
     go_wp2_with fail
     go_ret
     exact⟨by first|rfl|simp,HB0.out⟩
 ·go_enter Tryz.func247,Tryz.ntmps247
  go_wp2_with fail
  go_ret
  exact⟨by first|rfl|simp,HB0.out⟩

set_option maxHeartbeats 4000000 in
theorem zix (b:Nat) (oa:Option Addr) (n cap:Nat) (es:List EvV) (s:St) (e:EvV) (xl xp:Value) (w:World) (hS:Scn w b oa n cap es s) :
  Calls Tryz.prog 226 #[scv b oa n cap,evv e xl xp] w fun r w'=>r=.returned (wtv (wtOf es s e))∧Below w.heap.size w w':=by
 obtain⟨W,hW⟩:∃ W,W=(((w.alloc (.cells #[.map (some b),.slice oa n cap] 182)).alloc (.cells (zk e.id e.kind e.sender e.user e.member e.depth xl xp e.text) 62)).alloc (.cells #[.bool false,.int .i64 0,.int .i64 0,.int .i64 0] 242)):=⟨_,rfl⟩
 have hb:Below w.heap.size w W:=by rw[hW];exact (((Below.refl w.heap.size w).alloc (Nat.le_refl _) _).alloc (by simp) _).alloc (by simp;omega) _
 have hR0:W.heap[w.heap.size]? = some (.cells #[.map (some b),.slice oa n cap] 182 (0,0)):=by
  rw[hW]
  exact ((((Below.refl _ _).alloc (Nat.le_refl _) _).alloc (by simp) _:Below (w.alloc (.cells #[.map (some b),.slice oa n cap] 182)).heap.size _ _).block w.heap.size (by simp)).trans (heap_alloc_new w _)
 have hE0:EB W (w.heap.size+1) e.id e.kind e.sender e.user e.member e.depth xl xp e.text:=by
  rw[hW]
  have:=EB.new (w.alloc (.cells #[.map (some b),.slice oa n cap] 182)) e.id e.kind e.sender e.user e.member e.depth xl xp e.text
  rw[World.size_alloc] at this
  exact this.on ((Below.refl _ _).alloc (Nat.le_refl _) _) this.lt
 have hQ0:W.heap[w.heap.size+1+1]? = some (.cells #[.bool false,.int .i64 0,.int .i64 0,.int .i64 0] 242 (0,0)):=by
  rw[hW]
  have:=heap_alloc_new ((w.alloc (.cells #[.map (some b),.slice oa n cap] 182)).alloc (.cells (zk e.id e.kind e.sender e.user e.member e.depth xl xp e.text) 62)) (.cells #[.bool false,.int .i64 0,.int .i64 0,.int .i64 0] 242)
  rw[World.size_alloc,World.size_alloc] at this
  exact this
 have hH:HeldB (w.heap.size+1+1) W (w.heap.size+1+1) 4 W.drew:=by
  refine⟨(Below.refl _ _).drew,Nat.le_of_lt (ze hQ0),fun j hj=>?_⟩
  rw[Nat.zero_add]
  refine⟨?_,zh hQ0 j⟩
  match j,hj with
  | 0,_=>exact (congrArg Option.isSome (zb hQ0 0 rfl))
  | 1,_=>exact (congrArg Option.isSome (zb hQ0 1 rfl))
  | 2,_=>exact (congrArg Option.isSome (zb hQ0 2 rfl))
  | 3,_=>exact (congrArg Option.isSome (zb hQ0 3 rfl))
 obtain⟨v0,v1,v2,v3,v4,v5,v6,v7,v8⟩:=hE0.ev
 have hon:∀ w',HeldB (w.heap.size+1+1) W (w.heap.size+1+1) 4 w'→Below w.heap.size w w':=fun w' h=>hb.trans (h.1.mono (by omega))
 have CK:=hide hon
 have AY:=hide (fun w' (h:HeldB (w.heap.size+1+1) W (w.heap.size+1+1) 4 w')=>z4c b oa n cap es s e.sender w' (hS.on (hon w' h)))
 have C8:=hide (fun w'=>ziw e xl xp w')
 generalize hhv:heavy e=hv at C8
 generalize hlv:z06 es s e.sender=lv at AY
 rw[show wtOf es s e=⟨hv,lv,e.depth,e.id⟩ from by unfold wtOf;rw[hhv,hlv]]
 have s0:∀ w',HeldB (w.heap.size+1+1) W (w.heap.size+1+1) 4 w'→w'.cell? ⟨w.heap.size,0,none⟩=some (.map (some b)):=fun w' h=>h.cell (by simp only;omega) (zb hR0 0 rfl)
 have s1:∀ w',HeldB (w.heap.size+1+1) W (w.heap.size+1+1) 4 w'→w'.cell? ⟨w.heap.size,1,none⟩=some (.slice oa n cap):=fun w' h=>h.cell (by simp only;omega) (zb hR0 1 rfl)
 have k0:∀ w',HeldB (w.heap.size+1+1) W (w.heap.size+1+1) 4 w'→w'.cell? ⟨w.heap.size+1,0,none⟩=some (.int .i64 e.id):=fun w' h=>h.cell (by simp only;omega) v0
 have k1:∀ w',HeldB (w.heap.size+1+1) W (w.heap.size+1+1) 4 w'→w'.cell? ⟨w.heap.size+1,1,none⟩=some (.int .i64 e.kind):=fun w' h=>h.cell (by simp only;omega) v1
 have k2:∀ w',HeldB (w.heap.size+1+1) W (w.heap.size+1+1) 4 w'→w'.cell? ⟨w.heap.size+1,2,none⟩=some (.int .i64 e.sender):=fun w' h=>h.cell (by simp only;omega) v2
 have k3:∀ w',HeldB (w.heap.size+1+1) W (w.heap.size+1+1) 4 w'→w'.cell? ⟨w.heap.size+1,3,none⟩=some (.int .i64 e.user):=fun w' h=>h.cell (by simp only;omega) v3
 have k4:∀ w',HeldB (w.heap.size+1+1) W (w.heap.size+1+1) 4 w'→w'.cell? ⟨w.heap.size+1,4,none⟩=some (.int .i64 e.member):=fun w' h=>h.cell (by simp only;omega) v4
 have k5:∀ w',HeldB (w.heap.size+1+1) W (w.heap.size+1+1) 4 w'→w'.cell? ⟨w.heap.size+1,5,none⟩=some (xl):=fun w' h=>h.cell (by simp only;omega) v5
 have k6:∀ w',HeldB (w.heap.size+1+1) W (w.heap.size+1+1) 4 w'→w'.cell? ⟨w.heap.size+1,6,none⟩=some (.string ⟨e.text.toArray⟩):=fun w' h=>h.cell (by simp only;omega) v6
 have k7:∀ w',HeldB (w.heap.size+1+1) W (w.heap.size+1+1) 4 w'→w'.cell? ⟨w.heap.size+1,7,none⟩=some (xp):=fun w' h=>h.cell (by simp only;omega) v7
 have k8:∀ w',HeldB (w.heap.size+1+1) W (w.heap.size+1+1) 4 w'→w'.cell? ⟨w.heap.size+1,8,none⟩=some (.int .i64 e.depth):=fun w' h=>h.cell (by simp only;omega) v8
 have r0:∀ w',HeldB (w.heap.size+1+1) W (w.heap.size+1+1) 4 w'→w'.cell? ⟨w.heap.size+1+1,0,none⟩=some (cellOf w' ⟨w.heap.size+1+1,0,none⟩):=fun w' h=>h.room (by omega)
 have q0:∀ w',HeldB (w.heap.size+1+1) W (w.heap.size+1+1) 4 w'→w'.frozen? ⟨w.heap.size+1+1,0,none⟩=false:=fun w' h=>h.free (by omega)
 have r1:∀ w',HeldB (w.heap.size+1+1) W (w.heap.size+1+1) 4 w'→w'.cell? ⟨w.heap.size+1+1,1,none⟩=some (cellOf w' ⟨w.heap.size+1+1,1,none⟩):=fun w' h=>h.room (by omega)
 have q1:∀ w',HeldB (w.heap.size+1+1) W (w.heap.size+1+1) 4 w'→w'.frozen? ⟨w.heap.size+1+1,1,none⟩=false:=fun w' h=>h.free (by omega)
 have r2:∀ w',HeldB (w.heap.size+1+1) W (w.heap.size+1+1) 4 w'→w'.cell? ⟨w.heap.size+1+1,2,none⟩=some (cellOf w' ⟨w.heap.size+1+1,2,none⟩):=fun w' h=>h.room (by omega)
 have q2:∀ w',HeldB (w.heap.size+1+1) W (w.heap.size+1+1) 4 w'→w'.frozen? ⟨w.heap.size+1+1,2,none⟩=false:=fun w' h=>h.free (by omega)
 have r3:∀ w',HeldB (w.heap.size+1+1) W (w.heap.size+1+1) 4 w'→w'.cell? ⟨w.heap.size+1+1,3,none⟩=some (cellOf w' ⟨w.heap.size+1+1,3,none⟩):=fun w' h=>h.room (by omega)
 have q3:∀ w',HeldB (w.heap.size+1+1) W (w.heap.size+1+1) 4 w'→w'.frozen? ⟨w.heap.size+1+1,3,none⟩=false:=fun w' h=>h.free (by omega)
 have HW:=hide hW
 clear hb hW hon hS hhv hlv v0 v1 v2 v3 v4 v5 v6 v7 v8 hR0 hE0 hQ0
 go_enter Tryz.func226,Tryz.ntmps226
 go_wp2_with fail
 rw[← HW.out]
 go_region_held3 (fun w'=>HeldB (w.heap.size+1+1) W (w.heap.size+1+1) 4 w') (first|exact hH|(exact HeldB.below ‹_› (by omega) hb2)|(exact HeldB.below ‹_› (by omega) hb3)|exact (((HeldB.set ‹_› (by simp) rfl _).set (by simp) rfl _).set (by simp) rfl _).set (by simp) rfl _)
  (first
   | (go_at_call 247;refine (C8.out _).mono ?_;rintro r w2 ⟨rfl,hb2⟩)
   | (go_at_call 214;refine (AY.out _ (by assumption)).mono ?_;rintro r w3 ⟨rfl,hb3⟩))
 rename_i hHe
 have hfin:=CK.out _ hHe
 have hH3:=(hH.below (by omega) hb2).below (by omega) hb3
 have z0:=r0 w3 hH3
 have z1:=r1 w3 hH3
 have z2:=r2 w3 hH3
 have z3:=r3 w3 hH3
 have JA:=hide hfin
 clear s0 s1 k0 k1 k2 k3 k4 k5 k6 k7 k8 r0 r1 r2 r3 q0 q1 q2 q3 hH hHe hH3 hfin
 go_wp2_with fail
 refine bodyPost_ret (v:=wtv ⟨hv,lv,e.depth,e.id⟩) (by simp[results,Tryz.results226,go_sem,z0,z1,z2,z3]) rfl ⟨rfl,JA.out⟩

end Go.Proofs.YtfeebdcmlnapiaaGreat
