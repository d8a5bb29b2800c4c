/-
  Walks of chapter 3: AllKept, of the specification and of the program.
  Walks of chapter 3: the acts on the table of the program.
-/
import Derived.Test.YtdcdlfkbdeogeaaWalk3c
import Derived.Test.YtdcdlfkbdeogeaaTable
namespace Go.Proofs.Ytdcdlfkbdeogeaa
open Go.RowKit P5 K
set_option linter.unusedVariables false
set_option linter.unusedSimpArgs false

def keptF (f : FileV) : Bool := f.kept == (f.text.length : Int)
def allKept (fs : List FileV) : Bool := diskOk fs && fs.all keptF

theorem okFrom_mem : ∀ (fs : List FileV) (p : Option (List UInt8)), okFrom p fs = true → ∀ f ∈ fs, fileOk f = true
  | g :: r, p, h, f, hf => by
    rw [okFrom_cons] at h
    simp only [Bool.and_eq_true] at h
    rcases List.mem_cons.1 hf with rfl | hf
    · exact h.1.1
    · exact okFrom_mem r _ h.2 f hf
theorem diskOk_mem {fs : List FileV} (h : diskOk fs = true) : ∀ f ∈ fs, fileOk f = true := by
  unfold diskOk at h
  simp only [Bool.and_eq_true] at h
  exact okFrom_mem fs none h.2

theorem fileAllKept_any (f : FileV) (ht : f.text.length ≤ 9223372036854775807) (w : World) :
    Calls Try.prog 54 #[fval f] w fun e w' => e = .returned (.bool (keptF f)) ∧ Below w.heap.size w w' := by
  obtain ⟨nm, tx, kp⟩ := f
  simp only [fval, keptF] at *
  have hb := (Below.refl w.heap.size w).alloc (Nat.le_refl _) (.cells #[.string ⟨nm.toArray⟩, .string ⟨tx.toArray⟩, .int .i64 kp] 49)
  have HB := hide hb
  clear hb
  go_enter Try.func54, Try.ntmps54
  go_wp2_with fail
  go_ret
  exact ⟨rfl, HB.out⟩

theorem drop_all {fs : List FileV} {j : Nat} {f : FileV} (hf : fs[j]? = some f) (p : FileV → Bool) : (fs.drop j).all p = (p f && (fs.drop (j + 1)).all p) := by
  rw [drop_at hf, List.all_cons]

end Go.Proofs.Ytdcdlfkbdeogeaa

namespace Go.Proofs.Ytdcdlfkbdeogeaa
open Go.RowKit P5 K
set_option linter.unusedVariables false
set_option linter.unusedSimpArgs false

/-- What an act leaves: the table holds r, or what it held. -/
def DoRes (w : World) (H b : Nat) (fs : List FileV) (r : Option (List FileV)) (e : Ending) (w' : World) : Prop :=
  e = .returned (.bool r.isSome) ∧ TabOk w' H b (r.getD fs) ∧ Below H w w'

theorem DoRes.no {w w' : World} {H b : Nat} {fs : List FileV} {r : Option (List FileV)} (h : r = none) (ht : TabOk w' H b fs) (hb : Below H w w') : DoRes w H b fs r (.returned (.bool false)) w' := by
  subst h; exact ⟨rfl, ht, hb⟩
theorem DoRes.yes {w w' : World} {H b : Nat} {fs gs : List FileV} {r : Option (List FileV)} (h : r = some gs) (ht : TabOk w' H b gs) (hb : Below H w w') : DoRes w H b fs r (.returned (.bool true)) w' := by
  subst h; exact ⟨rfl, ht, hb⟩

def addR (fs : List FileV) (nm tx : List UInt8) : Option (List FileV) :=
  match fileAt fs nm with
  | some f => if f.text.length + tx.length ≤ 20000 then some (put fs (addTo f tx)) else none
  | none => if nameOk nm = true ∧ fs.length ≠ 30 ∧ tx.length ≤ 20000 then some (put fs ⟨nm, tx, 0⟩) else none
def keepR (fs : List FileV) (nm : List UInt8) : Option (List FileV) := match fileAt fs nm with | some f => some (put fs (keepAll f)) | none => none
def moveR (fs : List FileV) (nm to : List UInt8) : Option (List FileV) :=
  match fileAt fs nm with
  | some f => if f.kept = (f.text.length : Int) ∧ to ≠ nm ∧ nameOk to = true then some (put (without fs nm) (named f to)) else none
  | none => none
def dropR (fs : List FileV) (nm : List UInt8) : Option (List FileV) := match fileAt fs nm with | some _ => some (without fs nm) | none => none

set_option maxHeartbeats 1000000 in
theorem tabKeep_any (fs : List FileV) (hok : diskOk fs = true) (nm : List UInt8) (hs : nm.length ≤ 1048576) (w : World) (H b : Nat) (hH : H ≤ w.heap.size) (hT : TabOk w H b fs) :
    Calls Try.prog 40 #[.map (some b), .string ⟨nm.toArray⟩] w fun e w' => DoRes w H b fs (keepR fs nm) e w' := by
  obtain ⟨D, p, hT⟩ := hT
  obtain ⟨o1, o2, o3⟩ := (diskOk_iff fs).1 hok
  cases hf : fileAt fs nm with
  | none =>
    have R := hide (show keepR fs nm = none by unfold keepR; rw [hf])
    have hlk := hT.lookNo (by omega) hf
    have HTT := hide hT
    clear hf hT
    go_enter Try.func40, Try.ntmps40
    go_wp2_with fail
    go_ret
    exact DoRes.no R.out ⟨D, p, HTT.out⟩ (Below.refl _ _)
  | some f =>
    have R := hide (show keepR fs nm = some (put fs (keepAll f)) by unfold keepR; rw [hf])
    obtain ⟨hm, hn⟩ := fileAt_some hf
    have hfo := (fileOk_iff f).1 (o2 f hm)
    have hlk := hT.lookYes (by omega) hf
    obtain ⟨k1, k2, k3, k4⟩ := hT.yes nm f hf
    have c0 := k4.c0
    have c1 := k4.c1
    have c2 := k4.c2
    have z2 := k4.fz 2
    have hl := hfo.2.1
    have HTT := hide hT
    have HF := hide hf
    have HN := hide hn
    clear hf hT hn k1 k2 k4 hfo
    obtain ⟨q, hq⟩ : ∃ q, p nm = q := ⟨_, rfl⟩
    have HQ := hide hq
    rw [hq] at hlk c0 c1 c2 z2 k3
    clear hq
    go_enter Try.func40, Try.ntmps40
    go_wp2_with fail
    go_ret
    refine DoRes.yes R.out ?_ ((Below.refl H w).setCell k3 _)
    have h2 := HTT.out.write HF.out 2 (.int .i64 (f.text.length : Int)) (g := keepAll f) rfl
    rw [HQ.out] at h2
    refine tabOk_put (f := keepAll f) o3 (m' := fs.length) (D := D) (p := p) ?_ ?_
    · show Tab _ H b (upd (fileAt fs) f.name _) _ _ _
      rw [HN.out]; exact h2
    · show _ = if (fileAt fs f.name).isSome then _ else _
      rw [HN.out, HF.out]; rfl

end Go.Proofs.Ytdcdlfkbdeogeaa
