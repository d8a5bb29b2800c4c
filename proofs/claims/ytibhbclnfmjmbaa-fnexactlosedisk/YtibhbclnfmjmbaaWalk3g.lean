/-
  Walks of chapter 3: AllKept, of the specification and of the program.
-/
import Derived.Test.YtibhbclnfmjmbaaWalk3c
namespace Go.Proofs.Ytibhbclnfmjmbaa
open Go.RowKit P5 K
set_option linter.unusedVariables false
set_option linter.unusedSimpArgs false

def keptF (f : FileV) : Bool := f.kept == (f.text.length : Int)
def allKept (fs : List FileV) : Bool := diskOk fs && fs.all keptF

theorem okFrom_mem : ∀ (fs : List FileV) (p : Option (List UInt8)), okFrom p fs = true → ∀ f ∈ fs, fileOk f = true
  | g :: r, p, h, f, hf => by
    rw [okFrom_cons] at h
    simp only [Bool.and_eq_true] at h
    rcases List.mem_cons.1 hf with rfl | hf
    · exact h.1.1
    · exact okFrom_mem r _ h.2 f hf
theorem diskOk_mem {fs : List FileV} (h : diskOk fs = true) : ∀ f ∈ fs, fileOk f = true := by
  unfold diskOk at h
  simp only [Bool.and_eq_true] at h
  exact okFrom_mem fs none h.2

theorem fileAllKept_any (f : FileV) (ht : f.text.length ≤ 9223372036854775807) (w : World) :
    Calls Try.prog 65 #[fval f] w fun e w' => e = .returned (.bool (keptF f)) ∧ Below w.heap.size w w' := by
  obtain ⟨nm, tx, kp⟩ := f
  simp only [fval, keptF] at *
  have hb := (Below.refl w.heap.size w).alloc (Nat.le_refl _) (.cells #[.string ⟨nm.toArray⟩, .string ⟨tx.toArray⟩, .int .i64 kp] 64)
  have HB := hide hb
  clear hb
  go_enter Try.func65, Try.ntmps65
  go_wp2_with fail
  go_ret
  exact ⟨rfl, HB.out⟩

theorem drop_all {fs : List FileV} {j : Nat} {f : FileV} (hf : fs[j]? = some f) (p : FileV → Bool) : (fs.drop j).all p = (p f && (fs.drop (j + 1)).all p) := by
  rw [drop_at hf, List.all_cons]

end Go.Proofs.Ytibhbclnfmjmbaa
