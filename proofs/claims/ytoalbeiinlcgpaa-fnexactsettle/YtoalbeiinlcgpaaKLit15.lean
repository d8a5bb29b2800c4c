/-
  Walks and mathematics of Lit15.
-/
import Derived.Test.YtoalbeiinlcgpaaKBase
import Derived.Test.YtoalbeiinlcgpaaKIntsMark
import Derived.Test.YtoalbeiinlcgpaaKPlain1
import Derived.Deep.RegionWith
import Derived.Deep.RegionHeld3
import Derived.Deep.QuietTactic
import Derived.BigQuiet
import Derived.WalkSmall
import Derived.Lib.Strings
import Derived.Lib.SmallJoins
import Derived.Test.YtoalbeiinlcgpaaKBox
import Derived.Test.YtoalbeiinlcgpaaKFlat
import Derived.Lib.LaidTab
import Derived.Lib.AppendIntMem
import Derived.LaidSub
import Derived.Stop.Joined
import Derived.LaidMore
import Derived.Laws.Small
namespace Go.Proofs.Ytoalbeiinlcgpaa.P11
end Go.Proofs.Ytoalbeiinlcgpaa.P11
namespace Go.Proofs.Ytoalbeiinlcgpaa.P18
end Go.Proofs.Ytoalbeiinlcgpaa.P18
namespace Go.Proofs.Ytoalbeiinlcgpaa.P3
end Go.Proofs.Ytoalbeiinlcgpaa.P3
namespace Go.Proofs.Ytoalbeiinlcgpaa
open Go.RowKit P1 P3 P9 P11 P12 P18 K
set_option linter.unusedVariables false
set_option linter.unusedSimpArgs false

set_option maxHeartbeats 1000000 in
theorem szIntS_any (oa : Option Addr) (n cap : Nat) (hn : n ≤ maxLen) (left : Int) (h0 : 0 ≤ left) (h1 : left ≤ 1048576) (w : World) :
    Calls Try.prog 20 #[.slice oa n cap, .int .i64 left] w fun e w' => e = .returned (.int .i64 (if left - n < 0 then -1 else left - n)) ∧ w = w' := by
  unfold maxLen at hn
  by_cases c : left - n < 0
  · rw [if_pos c]
    go_enter Try.func20, Try.ntmps20
    go_wp2_with fail
    go_ret
    exact ⟨rfl, rfl⟩
  · rw [if_neg c]
    go_enter Try.func20, Try.ntmps20
    go_wp2_with fail
    go_ret
    exact ⟨rfl, rfl⟩

set_option maxHeartbeats 1000000 in
theorem markIntS_e (v : Value) (n base k : Nat) (hn : n ≤ 1048576) (hk : k ≤ 1000000000) (w : World) (xs : List Value) (hown : w.ownsRow base 3 1 v n xs) :
    Calls Try.prog 15 #[v, .int .i64 (k : Int)] w fun e w' => e = .returned (.int .i64 ((k + n : Nat) : Int)) ∧ w'.ownsRow base 3 1 v n ((marksI k n).map icell) ∧ w.grownBy w' v.ownBlock := by
  rcases hown.2 with ⟨rfl, rfl⟩ | ⟨g, cap, cur, rfl, hg⟩
  · have HO := hide (World.ownsRow_nil w base 3 1)
    go_enter Try.func15, Try.ntmps15
    go_wp2_with fail
    go_loopw [1, 5] (fun x i wr => x = .int .i64 (k : Int) ∧ i = .int .i64 0 ∧ w = wr) (fun _ i _ => 0)
    case atStart => exact ⟨rfl, rfl, rfl⟩
    case round =>
      obtain ⟨rfl, rfl, rfl⟩ := hrel
      go_wp2_with fail
      go_ret
      exact ⟨by go_num, by simpa [marksI] using HO.out, World.grownBy.refl _ _⟩
  · exact markIntS_own g n cap base k hn hk w xs hown

def XS (h : Nat) (cs : Array Value) (T : TypeId) (w : World) : Prop := w.heap[h]? = some (.cells cs T (0, 0))

theorem XS.new (w : World) (cs : Array Value) (T : TypeId) : XS w.heap.size cs T (w.alloc (.cells cs T)) := heap_alloc_new _ _

theorem XS.lt {h : Nat} {cs : Array Value} {T : TypeId} {w : World} (k : XS h cs T w) : h < w.heap.size := blk_lt k

theorem XS.on {h : Nat} {cs : Array Value} {T : TypeId} {w w' : World} (k : XS h cs T w) (hb : Below w.heap.size w w') : XS h cs T w' := (hb.block h k.lt).trans k

theorem XS.alloc {h : Nat} {cs : Array Value} {T : TypeId} {w : World} (k : XS h cs T w) (o : Obj) : XS h cs T (w.alloc o) := k.on ((Below.refl _ _).alloc (Nat.le_refl _) _)

theorem XS.drew {h : Nat} {cs : Array Value} {T : TypeId} {w : World} (k : XS h cs T w) : XS h cs T w.drew := k.on (Below.refl _ _).drew

theorem XS.cell {h : Nat} {cs : Array Value} {T : TypeId} {w : World} (k : XS h cs T w) (j : Nat) {u : Value} (hu : cs[j]? = some u) : w.cell? ⟨h, j, none⟩ = some u := blk_cell k j hu

theorem XS.free {h : Nat} {cs : Array Value} {T : TypeId} {w : World} (k : XS h cs T w) (j : Nat) : w.frozen? ⟨h, j, none⟩ = false := blk_free k j

theorem XS.kept {h : Nat} {cs : Array Value} {T : TypeId} {w w' : World} {row : Option Nat} (k : XS h cs T w) (hg : w.grownBy w' row) (hne : row ≠ some h) : XS h cs T w' := (hg.block h k.lt (fun e => hne e.symm)).trans k

theorem XS.low {h B : Nat} {cs : Array Value} {T : TypeId} {w w' : World} (k : XS h cs T w) (hb : Below B w w') (hlt : h < B) : XS h cs T w' := (hb.block h hlt).trans k

theorem XS.set {h : Nat} {cs : Array Value} {T : TypeId} {w : World} (k : XS h cs T w) (j : Nat) (v : Value) : XS h (cs.setIfInBounds j v) T (w.setCell ⟨h, j, none⟩ v) := blk_set v k

end Go.Proofs.Ytoalbeiinlcgpaa
