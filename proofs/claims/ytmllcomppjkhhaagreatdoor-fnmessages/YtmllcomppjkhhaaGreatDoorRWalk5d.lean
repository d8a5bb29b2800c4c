/-
  Walks and mathematics of Walk5d.
-/
import Derived.Test.YtmllcomppjkhhaaGreatDoorRWalk5b
import Derived.Test.YtmllcomppjkhhaaGreatDoorRWalkClone
namespace Go.Proofs.YtmllcomppjkhhaaGreatDoor
open Go.RowKit P1 P9 K
set_option linter.unusedVariables false
set_option linter.unusedSimpArgs false

def ContAt (w : World) (k : Int) (s : ByteArray) (v : Value) : Prop :=
  (k = 1 ∧ s = ⟨#[]⟩ ∧ v = .iface 137 (.agg #[])) ∨
  (k = 2 ∧ confOk (confZ (bl s)) = true ∧ ∃ g cap, v = .iface 138 (.slice (some ⟨g, 0, none⟩) s.size cap) ∧ IntsAt w (some ⟨g, 0, none⟩) s.size cap (confZ (bl s))) ∨
  (k = 3 ∧ s.size ≤ 120 ∧ v = .iface 139 (.string s))

theorem ContAt.below {w w' : World} {k : Int} {s : ByteArray} {v : Value} (h : ContAt w k s v) (hb : Below w.heap.size w w') : ContAt w' k s v := by
  rcases h with h | ⟨h1, h2, g, cap, h3, h4⟩ | h
  · exact Or.inl h
  · exact Or.inr (Or.inl ⟨h1, h2, g, cap, h3, h4.below hb⟩)
  · exact Or.inr (Or.inr h)

theorem ta11 (w : World) (v : Value) : (Instr.typeAssert (.iface 137 v) 115 137 true).run Tryz.prog w = .ok (.tuple #[v, .bool true]) w := by kernel_rfl

theorem ta21 (w : World) (v : Value) : (Instr.typeAssert (.iface 138 v) 115 137 true).run Tryz.prog w = .ok (.tuple #[.agg #[], .bool false]) w := by kernel_rfl

theorem ta22 (w : World) (v : Value) : (Instr.typeAssert (.iface 138 v) 115 138 true).run Tryz.prog w = .ok (.tuple #[v, .bool true]) w := by kernel_rfl

theorem ta31 (w : World) (v : Value) : (Instr.typeAssert (.iface 139 v) 115 137 true).run Tryz.prog w = .ok (.tuple #[.agg #[], .bool false]) w := by kernel_rfl

theorem ta32 (w : World) (v : Value) : (Instr.typeAssert (.iface 139 v) 115 138 true).run Tryz.prog w = .ok (.tuple #[.slice none 0 0, .bool false]) w := by kernel_rfl

theorem ta33 (w : World) (v : Value) : (Instr.typeAssert (.iface 139 v) 115 139 true).run Tryz.prog w = .ok (.tuple #[v, .bool true]) w := by kernel_rfl

theorem kindOf_any (k : Int) (s : ByteArray) (v : Value) (w : World) (hc : ContAt w k s v) :
    Calls Tryz.prog 87 #[v] w fun e w' => e = .returned (.int .u8 k) ∧ w = w' := by
  rcases hc with ⟨rfl, -, rfl⟩ | ⟨rfl, -, g, cap, rfl, -⟩ | ⟨rfl, -, rfl⟩
  · have h1 := fun w => ta11 w (.agg #[])
    go_enter Tryz.func87, Tryz.ntmps87
    go_wp2
    go_ret
    exact ⟨rfl, rfl⟩
  · have h1 := fun w => ta21 w (.slice (some ⟨g, 0, none⟩) s.size cap)
    have h2 := fun w => ta22 w (.slice (some ⟨g, 0, none⟩) s.size cap)
    go_enter Tryz.func87, Tryz.ntmps87
    go_wp2
    go_ret
    exact ⟨rfl, rfl⟩
  · have h1 := fun w => ta31 w (.string s)
    have h2 := fun w => ta32 w (.string s)
    have h3 := fun w => ta33 w (.string s)
    go_enter Tryz.func87, Tryz.ntmps87
    go_wp2
    go_ret
    exact ⟨rfl, rfl⟩

theorem noData_any (w : World) :
    Calls Tryz.prog 157 #[.agg #[]] w fun e w' => e = .returned (.string ⟨#[]⟩) ∧ Below w.heap.size w w' := by
  go_enter Tryz.func157, Tryz.ntmps157
  go_wp2
  go_ret
  exact ⟨rfl, (Below.refl _ _).alloc (Nat.le_refl _) _⟩

theorem commandData_any (s : ByteArray) (hs : s.size ≤ 1048576) (w : World) :
    Calls Tryz.prog 160 #[.string s] w fun e w' => e = .returned (.string s) ∧ Below w.heap.size w w' := by
  have hs' : s.size ≤ 281474976710656 := by omega
  go_enter Tryz.func160, Tryz.ntmps160
  go_wp2_with (go_at_call 90; refine (stringsClone_any _ hs' _).mono ?_; rintro e w1 ⟨rfl, hb1⟩)
  go_ret
  exact ⟨rfl, hb1⟩

theorem confData_any (oa : Option Addr) (n cap : Nat) (zs : List Int) (w : World) (hat : IntsAt w oa n cap zs) (hok : confOk zs = true) :
    Calls Tryz.prog 158 #[.slice oa n cap] w fun e w' => e = .returned (.string ⟨(confB zs).toArray⟩) ∧ Below w.heap.size w w' := by
  have HAT := hide hat
  have HOK := hide hok
  clear hat hok
  go_enter Tryz.func158, Tryz.ntmps158
  go_wp2_with (go_at_call 159; refine (implConfText_any oa n cap zs _ HAT.out).mono ?_; rw [ctVal_yes HOK.out]; rintro e w1 ⟨rfl, hb1⟩)
  go_ret
  exact ⟨rfl, hb1⟩

end Go.Proofs.YtmllcomppjkhhaaGreatDoor
