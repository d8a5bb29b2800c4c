/-
  Walks of chapter 3: DiskOk, of the specification and of the program.
-/
import Derived.Test.YtckkfjmjcknjdaaGreatDoorWalk3a
import Derived.Deep.RegionHeld3
import Derived.Deep.QuietTactic
import Derived.BigQuiet
import Derived.Laws.Cover1
import Derived.Sort.Walk0
namespace Go.Proofs.YtckkfjmjcknjdaaGreatDoor
open Go.RowKit P5 K
set_option linter.unusedVariables false
set_option linter.unusedSimpArgs false

theorem l01In_any (x a b : Int) (w : World) :
    Calls Tryz.prog 18 #[.int .i64 x, .int .i64 a, .int .i64 b] w fun e w' => e = .returned (.bool (decide (a ≤ x) && decide (x ≤ b))) ∧ w' = w := by
  by_cases h0 : a ≤ x
  · by_cases h1 : x ≤ b
    · go_enter Tryz.func18, Tryz.ntmps18
      go_wp2
      go_ret
      exact ⟨by simp [h0, h1, Act.eval], rfl⟩
    · go_enter Tryz.func18, Tryz.ntmps18
      go_wp2
      go_ret
      exact ⟨by simp [h0, h1, Act.eval], rfl⟩
  · have h2 : x < a := by omega
    go_enter Tryz.func18, Tryz.ntmps18
    go_wp2
    go_ret
    exact ⟨by simp; omega, rfl⟩

theorem nameOk_int (s : List UInt8) : (decide ((1 : Int) ≤ (s.length : Int)) && decide ((s.length : Int) ≤ 8)) = nameOk s := by
  unfold nameOk
  rw [Bool.eq_iff_iff]
  simp
  omega

theorem okFrom_cons (p : Option (List UInt8)) (f : FileV) (r : List FileV) : okFrom p (f :: r) = (fileOk f && (match p with | none => true | some x => ltB x f.name) && okFrom (some f.name) r) := by cases p <;> rfl

/-- The name before place j. -/
def prevAt (fs : List FileV) (j : Nat) : Option (List UInt8) := if j = 0 then none else (fs[j - 1]?).map (·.name)

theorem drop_at {fs : List FileV} {j : Nat} {f : FileV} (hf : fs[j]? = some f) : fs.drop j = f :: fs.drop (j + 1) := by
  have hj : j < fs.length := (List.getElem?_eq_some_iff.1 hf).1
  rw [List.drop_eq_getElem_cons hj]
  congr 1
  exact (List.getElem?_eq_some_iff.1 hf).2

theorem prevAt_next {fs : List FileV} {j : Nat} {f : FileV} (hf : fs[j]? = some f) : prevAt fs (j + 1) = some f.name := by simp [prevAt, hf]

theorem less_eq (x y : List UInt8) : Op.bytesLess (⟨x.toArray⟩ : ByteArray).toList (⟨y.toArray⟩ : ByteArray).toList = ltB x y := by
  rw [bytesLess_eq, Lib.toList_data, Lib.toList_data]
  rfl


end Go.Proofs.YtckkfjmjcknjdaaGreatDoor
