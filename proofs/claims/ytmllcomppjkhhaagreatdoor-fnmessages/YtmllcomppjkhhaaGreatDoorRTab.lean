/-
  Walks and mathematics of Tab, Lit15.
-/
import Derived.Test.YtmllcomppjkhhaaGreatDoorRBase
import Derived.WalkSmall
import Derived.Lib.LaidTab
import Derived.Lib.SmallJoins
import Derived.Lib.AppendIntMem
import Derived.LaidSub
import Derived.Stop.Joined
import Derived.LaidMore
import Derived.Test.YtmllcomppjkhhaaGreatDoorRIntsMark
import Derived.Test.YtmllcomppjkhhaaGreatDoorRWalk1b
import Derived.Test.YtmllcomppjkhhaaGreatDoorRHeldMore
import Derived.Test.YtmllcomppjkhhaaGreatDoorRPlain1
import Derived.Test.YtmllcomppjkhhaaGreatDoorRFlat
import Derived.Laws.Small
namespace Go.Proofs.YtmllcomppjkhhaaGreatDoor.P18
end Go.Proofs.YtmllcomppjkhhaaGreatDoor.P18
namespace Go.Proofs.YtmllcomppjkhhaaGreatDoor.P3
end Go.Proofs.YtmllcomppjkhhaaGreatDoor.P3
namespace Go.Proofs.YtmllcomppjkhhaaGreatDoor
open Go.RowKit P1 K
set_option linter.unusedVariables false

theorem tab_below {w w' : World} {name : String} {k : IntKind} {zs : List Int} (h : Lib.TabIs Tryz.prog w name k zs) (hb : Below w.heap.size w w') : Lib.TabIs Tryz.prog w' name k zs := by
  unfold Lib.TabIs at h ⊢
  cases hg : Tryz.prog.globalNamed name with
  | none => unfold World.var? at h; rw [hg] at h; cases h
  | some g =>
    refine var?_below hb hg ?_ h
    unfold World.var? at h
    rw [hg] at h
    simp only [Option.bind_some] at h
    rcases Nat.lt_or_ge g w.heap.size with hlt | hge
    · exact hlt
    · rw [Array.getElem?_eq_none hge] at h; cases h

end Go.Proofs.YtmllcomppjkhhaaGreatDoor

namespace Go.Proofs.YtmllcomppjkhhaaGreatDoor.K

theorem trodVars_len {H : Type} {enc : TypeId × Value → H} {P : Program} {w : World} {spare : Nat → Bool} : ∀ {ns : List String} {gs : List (DataW H)} {ps : List MemPlace}, DataW.TrodVars enc P w spare ns gs ps → gs.length = ns.length
  | [], [], _, _ => rfl
  | [], _ :: _, _, h => h.elim
  | _ :: _, [], _, h => h.elim
  | _ :: _, _ :: _, _, h => by
    obtain ⟨_, _, _, _, _, _, _, _, _, _, hs, _⟩ := h
    simp [trodVars_len hs]
end Go.Proofs.YtmllcomppjkhhaaGreatDoor.K

namespace Go.Proofs.YtmllcomppjkhhaaGreatDoor
open Go.RowKit P1 P3 P9 P11 P12 P18 K
set_option linter.unusedVariables false
set_option linter.unusedSimpArgs false

theorem ints_lit {W : World} {G : Nat} {zs : List Int} {cs : Array Value} {ty : TypeId} (hG : W.heap.size = G) (hc : cs.toList = zs.map icell) (hf : ∀ z ∈ zs, (Lit.int .i64 z).wf = true ∧ zs.length ≤ 4) : IntsAt (W.alloc (.cells cs ty)) (some ⟨G, 0, none⟩) zs.length zs.length zs := by
  refine ⟨rfl, Nat.le_refl _, ?_, fun z hz => (hf z hz).1, fun i z hz => ⟨G, 0, rfl, ?_⟩⟩
  · cases zs with
    | nil => unfold maxLen; simp
    | cons z r => have := (hf z (by simp)).2; unfold maxLen; omega
  · subst hG
    rw [Nat.zero_add]
    refine blk_cell (heap_alloc_new _ _) i ?_
    rw [← Array.getElem?_toList, hc, List.getElem?_map, hz]
    rfl

theorem wf_one {z : Int} (h0 : -1000000000 ≤ z) (h1 : z ≤ 1000000000000) : ∀ y ∈ [z], (Lit.int .i64 y).wf = true ∧ [z].length ≤ 4 := by
  intro y hy
  simp at hy
  subst hy
  exact ⟨wf_small h0 h1, by simp⟩

def nearI (n lo hi : Int) : Int := if n < lo then lo else if hi < n then hi else n

theorem nearI_eq {n lo hi : Int} (h : lo ≤ hi) : decide (n = nearI n lo hi) = inR n lo hi := by
  unfold nearI
  rw [Bool.eq_iff_iff, decide_eq_true_iff, inR_iff]
  split
  · omega
  · split <;> omega

set_option maxHeartbeats 1000000 in
theorem nearest_any (n lo hi : Int) (h : lo ≤ hi) (w : World) :
    Calls Tryz.prog 55 #[.int .i64 n, .int .i64 lo, .int .i64 hi] w fun e w' => e = .returned (.int .i64 (nearI n lo hi)) ∧ w = w' := by
  rcases (show hi < n ∧ lo < hi ∨ hi < n ∧ lo = hi ∨ n ≤ hi ∧ lo < n ∨ n ≤ hi ∧ n = lo ∨ n ≤ hi ∧ n < lo by omega) with ⟨c, d⟩ | ⟨c, d⟩ | ⟨c, d⟩ | ⟨c, d⟩ | ⟨c, d⟩
  · have d2 : ¬ hi < lo := by omega
    rw [show nearI n lo hi = hi by unfold nearI; rw [if_neg (by omega), if_pos c]]
    go_enter Tryz.func55, Tryz.ntmps55
    go_wp2_with fail
    go_ret
    exact ⟨by first | rfl | (simp; done) | (simp; omega), rfl⟩
  · subst d
    rw [show nearI n lo lo = lo by unfold nearI; rw [if_neg (by omega), if_pos c]]
    go_enter Tryz.func55, Tryz.ntmps55
    go_wp2_with fail
    go_ret
    exact ⟨by first | rfl | (simp; done) | (simp; omega), rfl⟩
  · have c2 : ¬ hi < n := by omega
    have d2 : ¬ n < lo := by omega
    rw [show nearI n lo hi = n by unfold nearI; rw [if_neg d2, if_neg c2]]
    go_enter Tryz.func55, Tryz.ntmps55
    go_wp2_with fail
    go_ret
    exact ⟨by first | rfl | (simp; done) | (simp; omega), rfl⟩
  · subst d
    have c2 : ¬ hi < n := by omega
    rw [show nearI n n hi = n by unfold nearI; rw [if_neg (by omega), if_neg c2]]
    go_enter Tryz.func55, Tryz.ntmps55
    go_wp2_with fail
    go_ret
    exact ⟨by first | rfl | (simp; done) | (simp; omega), rfl⟩
  · have c2 : ¬ hi < n := by omega
    have d2 : ¬ lo < n := by omega
    rw [show nearI n lo hi = lo by unfold nearI; rw [if_pos d]]
    go_enter Tryz.func55, Tryz.ntmps55
    go_wp2_with fail
    go_ret
    exact ⟨by first | rfl | (simp; done) | (simp; omega), rfl⟩

def leasts : List Int := [1, 1, 1, 0, 0, 0, 0]

def mosts : List Int := [6, 4, 4, 100000, 1000000, 100000, 1000000]

structure LimIs (w : World) : Prop where
  lo : Lib.TabIs Tryz.prog w "loop.example/g00127/impl.leastNumbers" .i64 leasts
  hi : Lib.TabIs Tryz.prog w "loop.example/g00127/impl.mostNumbers" .i64 mosts

theorem LimIs.on {w w' : World} (h : LimIs w) (hb : Below w.heap.size w w') : LimIs w' := ⟨tab_below h.lo hb, tab_below h.hi hb⟩

theorem LimIs.lc {w : World} (h : LimIs w) (i : Nat) (hi : i < 7) : w.cell? ⟨0, i, none⟩ = some (.int .i64 (leasts.getD i 0)) := Lib.TabIs.cell (g := 0) h.lo (by kernel_rfl) i (by simpa [leasts] using hi)

theorem LimIs.mc {w : World} (h : LimIs w) (i : Nat) (hi : i < 7) : w.cell? ⟨1, i, none⟩ = some (.int .i64 (mosts.getD i 0)) := Lib.TabIs.cell (g := 1) h.hi (by kernel_rfl) i (by simpa [mosts] using hi)

theorem lims_of_laid {row : List (String × DataW Unit)} {w : World} (e1 : row.filter (fun x => x.1 == "loop.example/g00127/impl.leastNumbers") = [("loop.example/g00127/impl.leastNumbers", Lib.tabData .i64 leasts)]) (e2 : row.filter (fun x => x.1 == "loop.example/g00127/impl.mostNumbers") = [("loop.example/g00127/impl.mostNumbers", Lib.tabData .i64 mosts)]) (h : laidMetH Tryz.prog row w) : LimIs w := by
  have h1 := laidMetH.filter (fun x => x.1 == "loop.example/g00127/impl.leastNumbers") h
  rw [e1, MakeChecks.laidMetH_plain _ _ _ (by kernel_rfl)] at h1
  have h2 := laidMetH.filter (fun x => x.1 == "loop.example/g00127/impl.mostNumbers") h
  rw [e2, MakeChecks.laidMetH_plain _ _ _ (by kernel_rfl)] at h2
  exact ⟨Lib.tabIs_of_head (rest := []) (g := 0) (by kernel_rfl) (t := 58) (by kernel_rfl) Tryz.underlying58 Tryz.underlying3 (by kernel_rfl) (by kernel_rfl) h1,
    Lib.tabIs_of_head (rest := []) (g := 1) (by kernel_rfl) (t := 58) (by kernel_rfl) Tryz.underlying58 Tryz.underlying3 (by kernel_rfl) (by kernel_rfl) h2⟩

def XS (h : Nat) (cs : Array Value) (T : TypeId) (w : World) : Prop := w.heap[h]? = some (.cells cs T (0, 0))

theorem XS.new (w : World) (cs : Array Value) (T : TypeId) : XS w.heap.size cs T (w.alloc (.cells cs T)) := heap_alloc_new _ _

theorem XS.lt {h : Nat} {cs : Array Value} {T : TypeId} {w : World} (k : XS h cs T w) : h < w.heap.size := blk_lt k

theorem XS.on {h : Nat} {cs : Array Value} {T : TypeId} {w w' : World} (k : XS h cs T w) (hb : Below w.heap.size w w') : XS h cs T w' := (hb.block h k.lt).trans k

theorem XS.alloc {h : Nat} {cs : Array Value} {T : TypeId} {w : World} (k : XS h cs T w) (o : Obj) : XS h cs T (w.alloc o) := k.on ((Below.refl _ _).alloc (Nat.le_refl _) _)

theorem XS.drew {h : Nat} {cs : Array Value} {T : TypeId} {w : World} (k : XS h cs T w) : XS h cs T w.drew := k.on (Below.refl _ _).drew

theorem XS.cell {h : Nat} {cs : Array Value} {T : TypeId} {w : World} (k : XS h cs T w) (j : Nat) {u : Value} (hu : cs[j]? = some u) : w.cell? ⟨h, j, none⟩ = some u := blk_cell k j hu

theorem XS.free {h : Nat} {cs : Array Value} {T : TypeId} {w : World} (k : XS h cs T w) (j : Nat) : w.frozen? ⟨h, j, none⟩ = false := blk_free k j

theorem XS.kept {h : Nat} {cs : Array Value} {T : TypeId} {w w' : World} {row : Option Nat} (k : XS h cs T w) (hg : w.grownBy w' row) (hne : row ≠ some h) : XS h cs T w' := (hg.block h k.lt (fun e => hne e.symm)).trans k

theorem XS.low {h B : Nat} {cs : Array Value} {T : TypeId} {w w' : World} (k : XS h cs T w) (hb : Below B w w') (hlt : h < B) : XS h cs T w' := (hb.block h hlt).trans k

theorem XS.set {h : Nat} {cs : Array Value} {T : TypeId} {w : World} (k : XS h cs T w) (j : Nat) (v : Value) : XS h (cs.setIfInBounds j v) T (w.setCell ⟨h, j, none⟩ v) := blk_set v k

end Go.Proofs.YtmllcomppjkhhaaGreatDoor
