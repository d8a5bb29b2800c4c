/-
  Walks of chapter 3: AllKept, of the specification and of the program.
-/
import Derived.Test.YtgimbffogmhbgaaWalk3c
namespace Go.Proofs.Ytgimbffogmhbgaa
open Go.RowKit P5 K
set_option linter.unusedVariables false
set_option linter.unusedSimpArgs false

def keptF (f : FileV) : Bool := f.kept == (f.text.length : Int)
def allKept (fs : List FileV) : Bool := diskOk fs && fs.all keptF

theorem okFrom_mem : ∀ (fs : List FileV) (p : Option (List UInt8)), okFrom p fs = true → ∀ f ∈ fs, fileOk f = true
  | g :: r, p, h, f, hf => by
    rw [okFrom_cons] at h
    simp only [Bool.and_eq_true] at h
    rcases List.mem_cons.1 hf with rfl | hf
    · exact h.1.1
    · exact okFrom_mem r _ h.2 f hf
theorem diskOk_mem {fs : List FileV} (h : diskOk fs = true) : ∀ f ∈ fs, fileOk f = true := by
  unfold diskOk at h
  simp only [Bool.and_eq_true] at h
  exact okFrom_mem fs none h.2

theorem fileAllKept_any (f : FileV) (ht : f.text.length ≤ 9223372036854775807) (w : World) :
    Calls Try.prog 37 #[fval f] w fun e w' => e = .returned (.bool (keptF f)) ∧ Below w.heap.size w w' := by
  obtain ⟨nm, tx, kp⟩ := f
  simp only [fval, keptF] at *
  have hb := (Below.refl w.heap.size w).alloc (Nat.le_refl _) (.cells #[.string ⟨nm.toArray⟩, .string ⟨tx.toArray⟩, .int .i64 kp] 37)
  have HB := hide hb
  clear hb
  go_enter Try.func37, Try.ntmps37
  go_wp2_with fail
  go_ret
  exact ⟨rfl, HB.out⟩

theorem drop_all {fs : List FileV} {j : Nat} {f : FileV} (hf : fs[j]? = some f) (p : FileV → Bool) : (fs.drop j).all p = (p f && (fs.drop (j + 1)).all p) := by
  rw [drop_at hf, List.all_cons]

set_option maxHeartbeats 1000000 in
theorem implAllKept_any (oa : Option Addr) (n cap : Nat) (fs : List FileV) (w : World) (hat : FilesAt w oa n cap fs) (hw : ∀ f ∈ fs, Fine f) :
    Calls Try.prog 16 #[.agg #[.slice oa n cap]] w fun e w' => e = .returned (.bool (allKept fs)) ∧ Below w.heap.size w w' := by
  have hb0 := (Below.refl w.heap.size w).alloc (Nat.le_refl _) (.cells #[.slice oa n cap] 29)
  have hn := hat.len
  have hc := hat.room
  have hm := hat.most
  unfold maxLen at hm
  have HN := hide hn
  have HAT := hide hat
  have HB0 := hide hb0
  have HW := hide hw
  clear hn hat hb0 hw
  go_enter Try.func16, Try.ntmps16
  go_wp2_with fail
  go_loopw [8] (fun i wr => ∃ (j : Nat), i = .int .i64 (j : Int) ∧ j ≤ n ∧ (fs.drop j).all keptF = fs.all keptF ∧ wr.cell? ⟨w.heap.size, 0, none⟩ = some (.slice oa n cap) ∧ Below w.heap.size w wr ∧ w.heap.size < wr.heap.size) (fun i _ => n - (intOf i).toNat)
  case atStart => exact ⟨0, rfl, Nat.zero_le _, rfl, by simp, HB0.out, by simp⟩
  case round =>
    obtain ⟨j, rfl, hj, hrest, hcd, hbel, hsz⟩ := hrel
    by_cases hlt : j < n
    · have j0 : (j : Int) < (n : Int) := by omega
      obtain ⟨f, b, q, hf, hidx, hb, c0, c1', c2⟩ := (HAT.out.below hbel).get Try.underlying27 infoIF j hlt
      have hwf := HW.out f (List.mem_of_getElem? hf)
      have hwt : f.text.length ≤ 9223372036854775807 := by have := hwf.2.1; omega
      rw [drop_all hf] at hrest
      have HR := hide hrest
      clear hrest hf
      cases hk : keptF f with
      | false =>
        have HR2 := hide (show allKept fs = false by unfold allKept; rw [← HR.out, hk]; simp)
        have HK := hide hk
        clear hk
        go_wp2_with (go_at_call 37; refine (fileAllKept_any f hwt _).mono ?_; rw [HK.out]; rintro e w2 ⟨rfl, hb2⟩)
        go_ret
        exact ⟨by rw [HR2.out]; rfl, (hbel.alloc (by omega) _).trans (hb2.mono (by simp; omega))⟩
      | true =>
        have HR2 := hide (show (fs.drop (j + 1)).all keptF = fs.all keptF by rw [← HR.out, hk, Bool.true_and])
        have HK := hide hk
        clear hk
        go_wp2_with (go_at_call 37; refine (fileAllKept_any f hwt _).mono ?_; rw [HK.out]; rintro e w2 ⟨rfl, hb2⟩)
        have hb3 := (hbel.alloc (by omega) _).trans (hb2.mono (by simp; omega))
        have hc3 := (hb2.cell (p := ⟨w.heap.size, 0, none⟩) (by simp; omega)).trans ((((Below.refl wr.heap.size wr).alloc (Nat.le_refl _) _).cell (p := ⟨w.heap.size, 0, none⟩) hsz).trans hcd)
        have hs3 : w.heap.size < w2.heap.size := by have := hb2.size; simp at this; omega
        go_roundw
        case rel => exact ⟨j + 1, by go_num, by omega, HR2.out, hc3, hb3, hs3⟩
        case measure => simp [intOf]; omega
    · have hjn : j = n := by omega
      have HR := hide (show allKept fs = diskOk fs by
        unfold allKept
        rw [← hrest, hjn, ← HN.out, List.drop_length]
        simp)
      clear hrest
      go_wp2_with (go_at_call 17; refine (implDiskOk_any oa n cap fs _ (HAT.out.below hbel) HW.out).mono ?_; rintro e w2 ⟨rfl, hb2⟩)
      go_ret
      exact ⟨by rw [HR.out]; rfl, hbel.trans (hb2.mono (by omega))⟩

end Go.Proofs.Ytgimbffogmhbgaa
