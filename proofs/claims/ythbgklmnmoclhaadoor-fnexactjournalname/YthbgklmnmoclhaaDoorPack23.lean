/-
  strings.Clone, out of the shelf's contract of what it calls.
  Walks of chapter 5: what an entry says: contentOf, kindOf, data.
-/
import Derived.Test.YthbgklmnmoclhaaDoorBase
import Derived.Test.YthbgklmnmoclhaaDoorShelf
import Derived.Test.YthbgklmnmoclhaaDoorWalk5b
namespace Go.Proofs.YthbgklmnmoclhaaDoor
open Go.RowKit P1 K

theorem stringsClone_any (s : ByteArray) (hs : s.size ≤ 281474976710656) (w : World) :
    Calls Tryd.prog 97 #[.string s] w fun e w' => e = .returned (.string s) ∧ Below w.heap.size w w' := by
  go_enter Tryd.func97, Tryd.ntmps97
  go_wp2_with (go_at_call 112; refine (Tryd.stringslite_Clone s _ hs).mono ?_; rintro e w1 ⟨rfl, hb1⟩)
  go_ret
  exact ⟨rfl, hb1⟩

end Go.Proofs.YthbgklmnmoclhaaDoor

namespace Go.Proofs.YthbgklmnmoclhaaDoor
open Go.RowKit P1 P9 K
set_option linter.unusedVariables false
set_option linter.unusedSimpArgs false

/-- What an entry of a kind says, as a value of the interface. -/
def ContAt (w : World) (k : Int) (s : ByteArray) (v : Value) : Prop :=
  (k = 1 ∧ s = ⟨#[]⟩ ∧ v = .iface 145 (.agg #[])) ∨
  (k = 2 ∧ confOk (confZ (bl s)) = true ∧ ∃ g cap, v = .iface 146 (.slice (some ⟨g, 0, none⟩) s.size cap) ∧ IntsAt w (some ⟨g, 0, none⟩) s.size cap (confZ (bl s))) ∨
  (k = 3 ∧ s.size ≤ 120 ∧ v = .iface 147 (.string s))

theorem ContAt.below {w w' : World} {k : Int} {s : ByteArray} {v : Value} (h : ContAt w k s v) (hb : Below w.heap.size w w') : ContAt w' k s v := by
  rcases h with h | ⟨h1, h2, g, cap, h3, h4⟩ | h
  · exact Or.inl h
  · exact Or.inr (Or.inl ⟨h1, h2, g, cap, h3, h4.below hb⟩)
  · exact Or.inr (Or.inr h)


theorem ta11 (w : World) (v : Value) : (Instr.typeAssert (.iface 145 v) 116 145 true).run Tryd.prog w = .ok (.tuple #[v, .bool true]) w := by kernel_rfl
theorem ta21 (w : World) (v : Value) : (Instr.typeAssert (.iface 146 v) 116 145 true).run Tryd.prog w = .ok (.tuple #[.agg #[], .bool false]) w := by kernel_rfl
theorem ta22 (w : World) (v : Value) : (Instr.typeAssert (.iface 146 v) 116 146 true).run Tryd.prog w = .ok (.tuple #[v, .bool true]) w := by kernel_rfl
theorem ta31 (w : World) (v : Value) : (Instr.typeAssert (.iface 147 v) 116 145 true).run Tryd.prog w = .ok (.tuple #[.agg #[], .bool false]) w := by kernel_rfl
theorem ta32 (w : World) (v : Value) : (Instr.typeAssert (.iface 147 v) 116 146 true).run Tryd.prog w = .ok (.tuple #[.slice none 0 0, .bool false]) w := by kernel_rfl
theorem ta33 (w : World) (v : Value) : (Instr.typeAssert (.iface 147 v) 116 147 true).run Tryd.prog w = .ok (.tuple #[v, .bool true]) w := by kernel_rfl

theorem kindOf_any (k : Int) (s : ByteArray) (v : Value) (w : World) (hc : ContAt w k s v) :
    Calls Tryd.prog 78 #[v] w fun e w' => e = .returned (.int .u8 k) ∧ w = w' := by
  rcases hc with ⟨rfl, -, rfl⟩ | ⟨rfl, -, g, cap, rfl, -⟩ | ⟨rfl, -, rfl⟩
  · have h1 := fun w => ta11 w (.agg #[])
    go_enter Tryd.func78, Tryd.ntmps78
    go_wp2
    go_ret
    exact ⟨rfl, rfl⟩
  · have h1 := fun w => ta21 w (.slice (some ⟨g, 0, none⟩) s.size cap)
    have h2 := fun w => ta22 w (.slice (some ⟨g, 0, none⟩) s.size cap)
    go_enter Tryd.func78, Tryd.ntmps78
    go_wp2
    go_ret
    exact ⟨rfl, rfl⟩
  · have h1 := fun w => ta31 w (.string s)
    have h2 := fun w => ta32 w (.string s)
    have h3 := fun w => ta33 w (.string s)
    go_enter Tryd.func78, Tryd.ntmps78
    go_wp2
    go_ret
    exact ⟨rfl, rfl⟩

theorem noData_any (w : World) :
    Calls Tryd.prog 143 #[.agg #[]] w fun e w' => e = .returned (.string ⟨#[]⟩) ∧ Below w.heap.size w w' := by
  go_enter Tryd.func143, Tryd.ntmps143
  go_wp2
  go_ret
  exact ⟨rfl, (Below.refl _ _).alloc (Nat.le_refl _) _⟩

theorem commandData_any (s : ByteArray) (hs : s.size ≤ 1048576) (w : World) :
    Calls Tryd.prog 146 #[.string s] w fun e w' => e = .returned (.string s) ∧ Below w.heap.size w w' := by
  have hs' : s.size ≤ 281474976710656 := by omega
  go_enter Tryd.func146, Tryd.ntmps146
  go_wp2_with (go_at_call 97; refine (stringsClone_any _ hs' _).mono ?_; rintro e w1 ⟨rfl, hb1⟩)
  go_ret
  exact ⟨rfl, hb1⟩

theorem confData_any (oa : Option Addr) (n cap : Nat) (zs : List Int) (w : World) (hat : IntsAt w oa n cap zs) (hok : confOk zs = true) :
    Calls Tryd.prog 144 #[.slice oa n cap] w fun e w' => e = .returned (.string ⟨(confB zs).toArray⟩) ∧ Below w.heap.size w w' := by
  have HAT := hide hat
  have HOK := hide hok
  clear hat hok
  go_enter Tryd.func144, Tryd.ntmps144
  go_wp2_with (go_at_call 145; refine (implConfText_any oa n cap zs _ HAT.out).mono ?_; rw [ctVal_yes HOK.out]; rintro e w1 ⟨rfl, hb1⟩)
  go_ret
  exact ⟨rfl, hb1⟩

end Go.Proofs.YthbgklmnmoclhaaDoor
