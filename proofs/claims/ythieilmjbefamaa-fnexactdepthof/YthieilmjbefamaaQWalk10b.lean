/-
  Walks and mathematics of Walk10b.
-/
import Derived.Test.YthieilmjbefamaaQWalk10a
import Derived.Test.YthieilmjbefamaaQPlain2
import Derived.Test.YthieilmjbefamaaQWalk5a
namespace Go.Proofs.Ythieilmjbefamaa.P11
end Go.Proofs.Ythieilmjbefamaa.P11
namespace Go.Proofs.Ythieilmjbefamaa.P9
end Go.Proofs.Ythieilmjbefamaa.P9
namespace Go.Proofs.Ythieilmjbefamaa
open Go.RowKit P1 P5 P9 P11 P12 P14 K
set_option linter.unusedVariables false
set_option linter.unusedSimpArgs false

theorem ItemsAt.drew {w w' : World} {oa : Option Addr} {n cap : Nat} {s : List (Int × Int)} (h : ItemsAt w oa n cap s) (hd : Drew w w') : ItemsAt w' oa n cap s := h.below hd.below

def FW (wr : World) (x : Int × Int) (w' : World) : Prop := Below (wr.heap.size + 1) (wr.alloc (.cells #[.int .i64 x.1, .int .i64 x.2] 84)) w'

theorem FW.c0 {wr w' : World} {x : Int × Int} (h : FW wr x w') : w'.cell? ⟨wr.heap.size, 0, none⟩ = some (.int .i64 x.1) := (h.cell (by simp)).trans (by simp)
theorem FW.c1 {wr w' : World} {x : Int × Int} (h : FW wr x w') : w'.cell? ⟨wr.heap.size, 1, none⟩ = some (.int .i64 x.2) := (h.cell (by simp)).trans (by simp)
theorem FW.old {wr w' : World} {x : Int × Int} (h : FW wr x w') {p : Addr} {u : Value} (hp : wr.cell? p = some u) : w'.cell? p = some u :=
  (Below.cell h (p := p) (by have := cell_lt hp; omega)).trans ((((Below.refl wr.heap.size wr).alloc (Nat.le_refl _) _).cell (cell_lt hp)).trans hp)
theorem FW.below {B : Nat} {w wr w' : World} {x : Int × Int} (h : FW wr x w') (hb : Below B w wr) (hB : B ≤ wr.heap.size) : Below B w w' := (hb.alloc hB _).trans (Below.mono h (by omega))
theorem FW.on {wr w' w'' : World} {x : Int × Int} (h : FW wr x w') (hb : Below w'.heap.size w' w'') : FW wr x w'' :=
  Below.trans h (hb.mono (by have := Below.size h; simp at this; omega))

end Go.Proofs.Ythieilmjbefamaa
