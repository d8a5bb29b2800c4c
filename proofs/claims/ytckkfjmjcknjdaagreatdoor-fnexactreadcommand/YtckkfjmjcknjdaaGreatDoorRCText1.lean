/-
  Walks and mathematics of Text1, Text2.
-/
import Derived.Test.YtckkfjmjcknjdaaGreatDoorRCWalk9b
import Derived.Test.YtckkfjmjcknjdaaGreatDoorRCWalk9g
import Derived.Test.YtckkfjmjcknjdaaGreatDoorRCWalk1e
import Derived.Test.YtckkfjmjcknjdaaGreatDoorRCIntsMark
import Derived.Deep.RegionHeld3
import Derived.Deep.DrawnRows
import Derived.Test.YtckkfjmjcknjdaaGreatDoorRCComm1
import Derived.Lib.AppendStr
import Derived.BigRegion
import Derived.Test.YtckkfjmjcknjdaaGreatDoorRCComm6
namespace Go.Proofs.YtckkfjmjcknjdaaGreatDoor.P3
end Go.Proofs.YtckkfjmjcknjdaaGreatDoor.P3
namespace Go.Proofs.YtckkfjmjcknjdaaGreatDoor
open Go.RowKit P1 P3 P9 P11 P12 P18 K
set_option linter.unusedVariables false
set_option linter.unusedSimpArgs false

theorem own_apart {w : World} {B : Nat} {e : TypeId} {k : Nat} {v : Value} {n : Nat} {xs : List Value} (h : w.ownsRow B e k v n xs) {g : Nat} {cs : Array Value} {e' : TypeId} {fz : Nat × Nat} (hb : w.heap[g]? = some (.cells cs e' fz)) (hne : e' ≠ e) : v.ownBlock ≠ some g := by
  intro hg
  rcases h.2 with ⟨rfl, _⟩ | ⟨g', cap, cur, rfl, _, hg', _⟩
  · cases hg
  · simp only [Value.ownBlock, Option.some.injEq] at hg
    subst hg
    rw [hg'] at hb
    cases hb
    exact hne rfl

def XS (h : Nat) (cs : Array Value) (T : TypeId) (w : World) : Prop := w.heap[h]? = some (.cells cs T (0, 0))

theorem XS.new (w : World) (cs : Array Value) (T : TypeId) : XS w.heap.size cs T (w.alloc (.cells cs T)) := heap_alloc_new _ _

theorem XS.lt {h : Nat} {cs : Array Value} {T : TypeId} {w : World} (k : XS h cs T w) : h < w.heap.size := blk_lt k

theorem XS.on {h : Nat} {cs : Array Value} {T : TypeId} {w w' : World} (k : XS h cs T w) (hb : Below w.heap.size w w') : XS h cs T w' := (hb.block h k.lt).trans k

theorem XS.alloc {h : Nat} {cs : Array Value} {T : TypeId} {w : World} (k : XS h cs T w) (o : Obj) : XS h cs T (w.alloc o) := k.on ((Below.refl _ _).alloc (Nat.le_refl _) _)

theorem XS.drew {h : Nat} {cs : Array Value} {T : TypeId} {w : World} (k : XS h cs T w) : XS h cs T w.drew := k.on (Below.refl _ _).drew

theorem XS.cell {h : Nat} {cs : Array Value} {T : TypeId} {w : World} (k : XS h cs T w) (j : Nat) {u : Value} (hu : cs[j]? = some u) : w.cell? ⟨h, j, none⟩ = some u := blk_cell k j hu

end Go.Proofs.YtckkfjmjcknjdaaGreatDoor

namespace Go.Proofs.YtckkfjmjcknjdaaGreatDoor
open Go.RowKit P1 P3 P9 P11 P12 P18 K
set_option linter.unusedVariables false
set_option linter.unusedSimpArgs false

theorem evB_small {e : EvV} (h : EvIn e) : (evB e).length ≤ 1000 := by
  have hv : ∀ z : Int, (varZ z).length ≤ 10 := varZ_len
  have h1 := hv e.id
  have h2 := evBody_len h
  have h3 := varB_length e.prev.length
  have h4 := vars_len e.prev
  have h5 := hv e.depth
  have h6 := h.prevs
  unfold evB
  simp only [List.length_append]
  omega

theorem xs_cells {h : Nat} {c0 c1 c2 c3 c4 c5 c6 c7 c8 c9 c10 c11 c12 c13 : Value} {T : TypeId} {w : World} (k : XS h #[c0, c1, c2, c3, c4, c5, c6, c7, c8, c9, c10, c11, c12, c13] T w) :
    w.cell? ⟨h, 0, none⟩ = some c0 ∧ w.cell? ⟨h, 1, none⟩ = some c1 ∧ w.cell? ⟨h, 2, none⟩ = some c2 ∧ w.cell? ⟨h, 3, none⟩ = some c3 ∧ w.cell? ⟨h, 4, none⟩ = some c4 ∧ w.cell? ⟨h, 5, none⟩ = some c5 ∧ w.cell? ⟨h, 6, none⟩ = some c6 ∧ w.cell? ⟨h, 7, none⟩ = some c7 ∧ w.cell? ⟨h, 8, none⟩ = some c8 ∧ w.cell? ⟨h, 9, none⟩ = some c9 ∧ w.cell? ⟨h, 10, none⟩ = some c10 ∧ w.cell? ⟨h, 11, none⟩ = some c11 ∧ w.cell? ⟨h, 12, none⟩ = some c12 ∧ w.cell? ⟨h, 13, none⟩ = some c13 :=
  ⟨k.cell 0 rfl, k.cell 1 rfl, k.cell 2 rfl, k.cell 3 rfl, k.cell 4 rfl, k.cell 5 rfl, k.cell 6 rfl, k.cell 7 rfl, k.cell 8 rfl, k.cell 9 rfl, k.cell 10 rfl, k.cell 11 rfl, k.cell 12 rfl, k.cell 13 rfl⟩

end Go.Proofs.YtckkfjmjcknjdaaGreatDoor
