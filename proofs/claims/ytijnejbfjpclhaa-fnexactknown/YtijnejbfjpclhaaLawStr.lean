/-
  The laws' own helpers over slices of texts: markText, markStringS, heldStringS, eqStringS.
-/
import Derived.Test.YtijnejbfjpclhaaBase
import Derived.Test.YtijnejbfjpclhaaPlain2
import Derived.WalkSmall
import Derived.Deep.RegionHeld3
import Derived.Deep.QuietTactic
import Derived.BigQuiet
namespace Go.Proofs.Ytijnejbfjpclhaa
open Go.RowKit P1 K
set_option linter.unusedVariables false

theorem infoStr : (Try.prog.info? 9).map (fun i => (i.zero, i.size, i.bytes)) = some (some (.string ⟨#[]⟩), 1, 16) := by kernel_rfl

/-- Texts as cells. -/
def strs (xs : List (List UInt8)) : List Value := xs.map (fun l => Value.string ⟨l.toArray⟩)
theorem strs_length (xs : List (List UInt8)) : (strs xs).length = xs.length := by simp [strs]
theorem strs_append (xs ys : List (List UInt8)) : strs (xs ++ ys) = strs xs ++ strs ys := by simp [strs]

def markB (k : Nat) : List UInt8 := 109 :: Lib.decDigits k
def marks (k n : Nat) : List (List UInt8) := (List.range n).map (fun i => markB (k + i))
theorem marks_length (k n : Nat) : (marks k n).length = n := by simp [marks]
theorem marks_at (k n i : Nat) (h : i < n) : (marks k n)[i]? = some (markB (k + i)) := by simp [marks, h]

set_option maxHeartbeats 1000000 in
theorem markText_any (k : Nat) (h1 : k ≤ 1000000000) (w : World) :
    Calls Try.prog 43 #[.int .i64 (k : Int)] w fun e w' => e = .returned (.string ⟨(markB k).toArray⟩) ∧ Below w.heap.size w w' := by
  by_cases h0 : k = 0
  · subst h0
    go_enter Try.func43, Try.ntmps43
    go_wp2_with fail
    go_ret
    exact ⟨by unfold markB; rw [dec_small 0 (by decide)]; rfl, Below.refl _ _⟩
  · have g1 : ¬ ((k : Int) ≤ 0) := by omega
    have hlen := hide (dec_length k (by omega))
    have K0 := hide h0
    clear h0
    go_enter Try.func43, Try.ntmps43
    go_wp2_with fail
    go_loopw [0, 3] (fun x s wr => ∃ (m : Nat) (t : List UInt8), x = .int .i64 (m : Int) ∧ s = .string ⟨t.toArray⟩ ∧ m ≤ 1000000000 ∧ DecRel k m t ∧ Below w.heap.size w wr) (fun x _ _ => (intOf x).toNat)
    case atStart => exact ⟨k, [], rfl, rfl, h1, DecRel.start k K0.out, Below.refl _ _⟩
    case round =>
      obtain ⟨m, t, rfl, rfl, hm, hd, hbel⟩ := hrel
      have hsz := hbel.size
      have hl : t.length ≤ 20 := Nat.le_trans hd.length hlen.out
      by_cases h : m = 0
      · have q : ¬ ((0 : Int) < (m : Int)) := by omega
        have e := hide (hd.1 h)
        clear hd h
        go_wp2_with fail
        go_ret
        exact ⟨by unfold markB; rw [e.out]; exact congrArg (fun x => Ending.returned (Value.string x)) (cat_one 109 t), hbel⟩
      · have q : ((0 : Int) < (m : Int)) := by omega
        have R := hd.step h
        have HS := hide (show (m / 10 : Nat) < m by omega)
        clear hd h
        have ef : ((figB (m % 10)).toNat : Int) = 48 + (m : Int) % 10 := by rw [figB_lo _ (by omega)]; omega
        have hconv := fun wx => run_string_one (P := Try.prog) wx (src := 75) (dst := 9) Try.underlying75 Try.underlying5 Try.underlying9 (figB (m % 10))
        rw [ef] at hconv
        clear ef
        go_wp2_with fail
        go_roundw
        case rel => exact ⟨m / 10, figB (m % 10) :: t, by go_num, congrArg Value.string (cat_one _ _), by omega, R, hbel.alloc hsz _⟩
        case measure => have := HS.out; simp only [intOf]; omega

theorem marks_step (k j n : Nat) (xs : List (List UInt8)) (hl : xs.length = n) (hj : j < n) : (strs (marks k j ++ xs.drop j)).set j (.string ⟨(markB (k + j)).toArray⟩) = strs (marks k (j + 1) ++ xs.drop (j + 1)) := by
  have e1 : xs.drop j = xs[j] :: xs.drop (j + 1) := List.drop_eq_getElem_cons (by omega)
  have e2 : marks k (j + 1) = marks k j ++ [markB (k + j)] := by simp [marks, List.range_succ]
  rw [e1, e2, strs_append, strs_append, strs_append, List.set_append_right _ _ (by rw [strs_length, marks_length]; exact Nat.le_refl _), strs_length, marks_length]
  simp only [strs, List.map_cons, List.map_nil, Nat.sub_self, List.set_cons_zero, List.append_assoc, List.cons_append, List.nil_append]

theorem own_str {w : World} {base g n cap : Nat} {zs : List (List UInt8)} (h : w.ownsRow base 9 1 (.slice (some ⟨g, 0, none⟩) n cap) n (strs zs)) (j : Nat) (hj : j < n) :
    ∃ l, zs[j]? = some l ∧ w.cell? ⟨g, j, none⟩ = some (.string ⟨l.toArray⟩) := by
  have hl : zs.length = n := by have := h.1; rw [strs_length] at this; omega
  refine ⟨zs[j]'(by omega), List.getElem?_eq_getElem (by omega), ?_⟩
  rw [h.cellAt j (by omega)]
  simp [strs, show j < zs.length by omega]

end Go.Proofs.Ytijnejbfjpclhaa
