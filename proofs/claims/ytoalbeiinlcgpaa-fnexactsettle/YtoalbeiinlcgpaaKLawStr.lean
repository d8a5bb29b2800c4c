/-
  Walks and mathematics of LawStr.
-/
import Derived.Test.YtoalbeiinlcgpaaKBase
import Derived.Test.YtoalbeiinlcgpaaKPlain1
import Derived.WalkSmall
import Derived.Deep.RegionHeld3
import Derived.Deep.QuietTactic
import Derived.BigQuiet
namespace Go.Proofs.Ytoalbeiinlcgpaa
open Go.RowKit P1 K
set_option linter.unusedVariables false

def markB (k : Nat) : List UInt8 := 109 :: Lib.decDigits k

set_option maxHeartbeats 1000000 in
theorem markText_any (k : Nat) (h1 : k ≤ 1000000000) (w : World) :
    Calls Try.prog 80 #[.int .i64 (k : Int)] w fun e w' => e = .returned (.string ⟨(markB k).toArray⟩) ∧ Below w.heap.size w w' := by
  by_cases h0 : k = 0
  · subst h0
    go_enter Try.func80, Try.ntmps80
    go_wp2_with fail
    go_ret
    exact ⟨by unfold markB; rw [dec_small 0 (by decide)]; rfl, Below.refl _ _⟩
  · have g1 : ¬ ((k : Int) ≤ 0) := by omega
    have hlen := hide (dec_length k (by omega))
    have K0 := hide h0
    clear h0
    go_enter Try.func80, Try.ntmps80
    go_wp2_with fail
    go_loopw [0, 3] (fun x s wr => ∃ (m : Nat) (t : List UInt8), x = .int .i64 (m : Int) ∧ s = .string ⟨t.toArray⟩ ∧ m ≤ 1000000000 ∧ DecRel k m t ∧ Below w.heap.size w wr) (fun x _ _ => (intOf x).toNat)
    case atStart => exact ⟨k, [], rfl, rfl, h1, DecRel.start k K0.out, Below.refl _ _⟩
    case round =>
      obtain ⟨m, t, rfl, rfl, hm, hd, hbel⟩ := hrel
      have hsz := hbel.size
      have hl : t.length ≤ 20 := Nat.le_trans hd.length hlen.out
      by_cases h : m = 0
      · have q : ¬ ((0 : Int) < (m : Int)) := by omega
        have e := hide (hd.1 h)
        clear hd h
        go_wp2_with fail
        go_ret
        exact ⟨by unfold markB; rw [e.out]; exact congrArg (fun x => Ending.returned (Value.string x)) (cat_one 109 t), hbel⟩
      · have q : ((0 : Int) < (m : Int)) := by omega
        have R := hd.step h
        have HS := hide (show (m / 10 : Nat) < m by omega)
        clear hd h
        have ef : ((figB (m % 10)).toNat : Int) = 48 + (m : Int) % 10 := by rw [figB_lo _ (by omega)]; omega
        have hconv := fun wx => run_string_one (P := Try.prog) wx (src := 112) (dst := 9) Try.underlying112 Try.underlying5 Try.underlying9 (figB (m % 10))
        rw [ef] at hconv
        clear ef
        go_wp2_with fail
        go_roundw
        case rel => exact ⟨m / 10, figB (m % 10) :: t, by go_num, congrArg Value.string (cat_one _ _), by omega, R, hbel.alloc hsz _⟩
        case measure => have := HS.out; simp only [intOf]; omega

end Go.Proofs.Ytoalbeiinlcgpaa
