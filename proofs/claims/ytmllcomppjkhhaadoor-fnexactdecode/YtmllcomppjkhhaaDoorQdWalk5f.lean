/-
  Walks and mathematics of Walk5f.
-/
import Derived.Test.YtmllcomppjkhhaaDoorQdWalk5e
import Derived.Deep.RegionHeld3
import Derived.Deep.RegionLaw
import Derived.Deep.DrawnRows
namespace Go.Proofs.YtmllcomppjkhhaaDoor
open Go.RowKit P1 P9 K
attribute [local go_sem ↓] Go.wp_at_zero Go.wp_at_succ
set_option linter.unusedVariables false
set_option linter.unusedSimpArgs false

def etVal (i : Int) (e : EntV) : Value :=
  if (e.ok && indexOk i) = true then .tuple #[.string ⟨(entryB i.toNat e.term.toNat e.kind.toNat (bl e.data)).toArray⟩, .bool true] else .tuple #[.string ⟨#[]⟩, .bool false]

theorem etVal_no {i : Int} {e : EntV} (h : (e.ok && indexOk i) = false) : etVal i e = .tuple #[.string ⟨#[]⟩, .bool false] := by simp [etVal, h]

theorem etVal_yes {i : Int} {e : EntV} (h : (e.ok && indexOk i) = true) : etVal i e = .tuple #[.string ⟨(entryB i.toNat e.term.toNat e.kind.toNat (bl e.data)).toArray⟩, .bool true] := by simp [etVal, h]

theorem cat_facts (P : Program) (I T : Nat) (kb : UInt8) (s : ByteArray) (hs : s.size ≤ 1048576) : ∃ A1 A2 A3 A4 : ByteArray,
    (∀ wx, (Op.stringOp .add (⟨#[69]⟩ : ByteArray) ⟨(varB I).toArray⟩).run P wx = .ok (.string A1) wx) ∧ (∀ wx, (Op.stringOp .add A1 ⟨(varB T).toArray⟩).run P wx = .ok (.string A2) wx) ∧
    (∀ wx, (Op.stringOp .add A2 ⟨#[kb]⟩).run P wx = .ok (.string A3) wx) ∧ (∀ wx, (Op.stringOp .add A3 s).run P wx = .ok (.string A4) wx) ∧
    A4 = ⟨(69 :: (varB I ++ (varB T ++ (kb :: bl s)))).toArray⟩ := by
  have hl1 : (⟨(varB I).toArray⟩ : ByteArray).size ≤ 10 := varB_length I
  have hl2 : (⟨(varB T).toArray⟩ : ByteArray).size ≤ 10 := varB_length T
  have h0 : (⟨#[69]⟩ : ByteArray).size = 1 := rfl
  have h3 : (⟨#[kb]⟩ : ByteArray).size = 1 := rfl
  refine ⟨_, _, _, _, fun wx => run_string_add_sum _ _ _ (by omega), fun wx => run_string_add_sum _ _ _ (by rw [ByteArray.size_append]; omega), fun wx => run_string_add_sum _ _ _ (by rw [ByteArray.size_append, ByteArray.size_append]; omega), fun wx => run_string_add_sum _ _ _ (by rw [ByteArray.size_append, ByteArray.size_append, ByteArray.size_append]; omega), ?_⟩
  apply ByteArray.ext
  simp [bl]

theorem m_no (wx : World) : (method 249 119 (.agg #[]) "loop.example/g00127/impl.data").run Tryd.prog wx = .ok (110, .agg #[]) wx := by kernel_rfl

theorem m_conf (g n cap : Nat) (wx : World) : (method 249 120 (.slice (some ⟨g, 0, none⟩) n cap) "loop.example/g00127/impl.data").run Tryd.prog wx = .ok (111, .slice (some ⟨g, 0, none⟩) n cap) wx := by kernel_rfl

theorem m_command (s : ByteArray) (wx : World) : (method 249 121 (.string s) "loop.example/g00127/impl.data").run Tryd.prog wx = .ok (113, .string s) wx := by kernel_rfl

theorem conv_one (wx : World) (g : Nat) (b : UInt8) (hg : wx.cell? ⟨g, 0, none⟩ = some (.int .u8 (b.toNat : Int))) :
    (convert 59 9 (.slice (some ⟨g, 0, none⟩) 1 1)).run Tryd.prog wx = .ok (.string ⟨#[b]⟩) wx := by
  refine run_convert_bytes_back wx 59 9 5 ⟨g, 0, none⟩ 1 [b] Tryd.underlying59 Tryd.underlying5 Tryd.underlying9 ?_
  intro j hj
  simp at hj
  subst hj
  simpa [Addr.add] using hg

theorem confData_bl (g cap : Nat) (s : ByteArray) (w : World) (hat : IntsAt w (some ⟨g, 0, none⟩) s.size cap (confZ (bl s))) (hok : confOk (confZ (bl s)) = true) :
    Calls Tryd.prog 111 #[.slice (some ⟨g, 0, none⟩) s.size cap] w fun e w' => e = .returned (.string s) ∧ Below w.heap.size w w' := by
  have := confData_any (some ⟨g, 0, none⟩) s.size cap (confZ (bl s)) w hat hok
  rw [confB_confZ] at this
  exact this

end Go.Proofs.YtmllcomppjkhhaaDoor
