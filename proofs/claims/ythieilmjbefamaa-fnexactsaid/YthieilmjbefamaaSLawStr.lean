/-
  Walks and mathematics of LawStr.
-/
import Derived.Test.YthieilmjbefamaaRows
import Derived.Test.YthieilmjbefamaaSPlain1
import Derived.Test.YthieilmjbefamaaSKit
import Derived.Test.YthieilmjbefamaaSPlain2
import Derived.WalkSmall
import Derived.Deep.RegionHeld3
import Derived.Deep.QuietTactic
import Derived.BigQuiet
namespace Go.Proofs.Ythieilmjbefamaa
open Go.RowKit P1 K
set_option linter.unusedVariables false

theorem infoStr : (Try.prog.info? 9).map (fun i => (i.zero, i.size, i.bytes)) = some (some (.string ⟨#[]⟩), 1, 16) := by kernel_rfl

def strs (xs : List (List UInt8)) : List Value := xs.map (fun l => Value.string ⟨l.toArray⟩)
theorem strs_length (xs : List (List UInt8)) : (strs xs).length = xs.length := by simp [strs]
theorem strs_append (xs ys : List (List UInt8)) : strs (xs ++ ys) = strs xs ++ strs ys := by simp [strs]

def markB (k : Nat) : List UInt8 := 109 :: Lib.decDigits k
def marks (k n : Nat) : List (List UInt8) := (List.range n).map (fun i => markB (k + i))
theorem marks_length (k n : Nat) : (marks k n).length = n := by simp [marks]
theorem marks_at (k n i : Nat) (h : i < n) : (marks k n)[i]? = some (markB (k + i)) := by simp [marks, h]

set_option maxHeartbeats 1000000 in
theorem markText_any (k : Nat) (h1 : k ≤ 1000000000) (w : World) :
    Calls Try.prog 35 #[.int .i64 (k : Int)] w fun e w' => e = .returned (.string ⟨(markB k).toArray⟩) ∧ Below w.heap.size w w' := by
  by_cases h0 : k = 0
  · subst h0
    go_enter Try.func35, Try.ntmps35
    go_wp2_with fail
    go_ret
    exact ⟨by unfold markB; rw [dec_small 0 (by decide)]; rfl, Below.refl _ _⟩
  · have g1 : ¬ ((k : Int) ≤ 0) := by omega
    have hlen := hide (dec_length k (by omega))
    have K0 := hide h0
    clear h0
    go_enter Try.func35, Try.ntmps35
    go_wp2_with fail
    go_loopw [0, 3] (fun x s wr => ∃ (m : Nat) (t : List UInt8), x = .int .i64 (m : Int) ∧ s = .string ⟨t.toArray⟩ ∧ m ≤ 1000000000 ∧ DecRel k m t ∧ Below w.heap.size w wr) (fun x _ _ => (intOf x).toNat)
    case atStart => exact ⟨k, [], rfl, rfl, h1, DecRel.start k K0.out, Below.refl _ _⟩
    case round =>
      obtain ⟨m, t, rfl, rfl, hm, hd, hbel⟩ := hrel
      have hsz := hbel.size
      have hl : t.length ≤ 20 := Nat.le_trans hd.length hlen.out
      by_cases h : m = 0
      · have q : ¬ ((0 : Int) < (m : Int)) := by omega
        have e := hide (hd.1 h)
        clear hd h
        go_wp2_with fail
        go_ret
        exact ⟨by unfold markB; rw [e.out]; exact congrArg (fun x => Ending.returned (Value.string x)) (cat_one 109 t), hbel⟩
      · have q : ((0 : Int) < (m : Int)) := by omega
        have R := hd.step h
        have HS := hide (show (m / 10 : Nat) < m by omega)
        clear hd h
        have ef : ((figB (m % 10)).toNat : Int) = 48 + (m : Int) % 10 := by rw [figB_lo _ (by omega)]; omega
        have hconv := fun wx => run_string_one (P := Try.prog) wx (src := 82) (dst := 9) Try.underlying82 Try.underlying5 Try.underlying9 (figB (m % 10))
        rw [ef] at hconv
        clear ef
        go_wp2_with fail
        go_roundw
        case rel => exact ⟨m / 10, figB (m % 10) :: t, by go_num, congrArg Value.string (cat_one _ _), by omega, R, hbel.alloc hsz _⟩
        case measure => have := HS.out; simp only [intOf]; omega

theorem marks_step (k j n : Nat) (xs : List (List UInt8)) (hl : xs.length = n) (hj : j < n) : (strs (marks k j ++ xs.drop j)).set j (.string ⟨(markB (k + j)).toArray⟩) = strs (marks k (j + 1) ++ xs.drop (j + 1)) := by
  have e1 : xs.drop j = xs[j] :: xs.drop (j + 1) := List.drop_eq_getElem_cons (by omega)
  have e2 : marks k (j + 1) = marks k j ++ [markB (k + j)] := by simp [marks, List.range_succ]
  rw [e1, e2, strs_append, strs_append, strs_append, List.set_append_right _ _ (by rw [strs_length, marks_length]; exact Nat.le_refl _), strs_length, marks_length]
  simp only [strs, List.map_cons, List.map_nil, Nat.sub_self, List.set_cons_zero, List.append_assoc, List.cons_append, List.nil_append]

theorem own_str {w : World} {base g n cap : Nat} {zs : List (List UInt8)} (h : w.ownsRow base 9 1 (.slice (some ⟨g, 0, none⟩) n cap) n (strs zs)) (j : Nat) (hj : j < n) :
    ∃ l, zs[j]? = some l ∧ w.cell? ⟨g, j, none⟩ = some (.string ⟨l.toArray⟩) := by
  have hl : zs.length = n := by have := h.1; rw [strs_length] at this; omega
  refine ⟨zs[j]'(by omega), List.getElem?_eq_getElem (by omega), ?_⟩
  rw [h.cellAt j (by omega)]
  simp [strs, show j < zs.length by omega]

set_option maxHeartbeats 1000000 in
theorem markStringS_any (g n cap base k : Nat) (xs : List (List UInt8)) (hl : xs.length = n) (hn : n ≤ 2000000) (hk : k ≤ 1000000) (w : World) (hown : w.ownsRow base 9 1 (.slice (some ⟨g, 0, none⟩) n cap) n (strs xs)) :
    Calls Try.prog 16 #[.slice (some ⟨g, 0, none⟩) n cap, .int .i64 (k : Int)] w fun e w' => e = .returned (.int .i64 ((k + n : Nat) : Int)) ∧
      w'.ownsRow base 9 1 (.slice (some ⟨g, 0, none⟩) n cap) n (strs (marks k n)) ∧ w.grownBy w' (some g) := by
  have HL := hide hl
  clear hl
  go_enter Try.func16, Try.ntmps16
  go_wp2_with fail
  go_loopw [1, 5] (fun x i wr => ∃ j : Nat, i = .int .i64 (j : Int) ∧ x = .int .i64 ((k + j : Nat) : Int) ∧ j ≤ n ∧ wr.ownsRow base 9 1 (.slice (some ⟨g, 0, none⟩) n cap) n (strs (marks k j ++ xs.drop j)) ∧ w.grownBy wr (some g)) (fun _ i _ => n - (intOf i).toNat)
  case atStart => exact ⟨0, rfl, rfl, Nat.zero_le _, by simpa [marks] using hown, World.grownBy.refl _ _⟩
  case round =>
    obtain ⟨j, rfl, rfl, hj, hownr, hgr⟩ := hrel
    clear hown
    by_cases hlt : j < n
    · have j0 : (j : Int) < (n : Int) := by omega
      go_wp2_with (go_at_call 35; refine (markText_any (k + j) (by omega) _).mono ?_; rintro e w1 ⟨rfl, hb1⟩; have ho1 := own_below hownr hb1; have hfz := ho1.frozenAt j; obtain ⟨l0, _, hce⟩ := own_str ho1 j hlt)
      have hst := ho1.stored j (.string ⟨(markB (k + j)).toArray⟩)
      rw [marks_step k j n xs HL.out hlt] at hst
      have hg2 := grown_trans (grown_trans hgr (grown_below hb1)) hst.2
      go_roundw
      case rel => exact ⟨j + 1, by go_num, by go_num, by omega, hst.1, hg2⟩
      case measure => simp [intOf]; omega
    · have ej : j = n := by omega
      subst ej
      have e : strs (marks k j ++ xs.drop j) = strs (marks k j) := by rw [List.drop_of_length_le (by rw [HL.out]; exact Nat.le_refl _), List.append_nil]
      rw [e] at hownr
      clear e
      go_wp2_with fail
      go_ret
      exact ⟨by go_num, hownr, hgr⟩

set_option maxHeartbeats 1000000 in
theorem heldStringS_any (g n cap base k : Nat) (hn : n ≤ 2000000) (hk : k ≤ 1000000) (w : World) (hown : w.ownsRow base 9 1 (.slice (some ⟨g, 0, none⟩) n cap) n (strs (marks k n))) :
    Calls Try.prog 17 #[.slice (some ⟨g, 0, none⟩) n cap, .int .i64 (k : Int)] w fun e w' => e = .returned (.int .i64 ((k + n : Nat) : Int)) ∧ Below w.heap.size w w' := by
  go_enter Try.func17, Try.ntmps17
  go_wp2_with fail
  go_loopw [1, 5] (fun x i wr => ∃ j : Nat, i = .int .i64 (j : Int) ∧ x = .int .i64 ((k + j : Nat) : Int) ∧ j ≤ n ∧ Below w.heap.size w wr) (fun _ i _ => n - (intOf i).toNat)
  case atStart => exact ⟨0, rfl, rfl, Nat.zero_le _, Below.refl _ _⟩
  case round =>
    obtain ⟨j, rfl, rfl, hj, hbel⟩ := hrel
    have hownr := own_below hown hbel
    clear hown
    by_cases hlt : j < n
    · have j0 : (j : Int) < (n : Int) := by omega
      have j1 : (0 : Int) ≤ (j : Int) := by omega
      obtain ⟨l0, hl0, hce⟩ := own_str hownr j hlt
      rw [marks_at k n j hlt] at hl0
      cases hl0
      have hgl : g < wr.heap.size := (hownr.lt g rfl).2
      have hsz := hbel.size
      go_wp2_with fail
      go_region_held3 (fun w' => w'.cell? ⟨g, j, none⟩ = some (.string ⟨(markB (k + j)).toArray⟩)) (first | go_keep | (rw [hb1.cell (by simpa using hgl)]; assumption))
        (first | (go_at_call 35; refine (markText_any (k + j) (by omega) _).mono ?_; rintro e w1 ⟨rfl, hb1⟩))
      have hb2 : Below w.heap.size w w1 := hbel.drew.trans (hb1.mono (by simpa using hsz))
      clear hb1 hbel
      go_wp2_with fail
      go_roundw
      case rel => exact ⟨j + 1, by go_num, by go_num, by omega, hb2⟩
      case measure => simp [intOf]; omega
    · have ej : j = n := by omega
      subst ej
      go_wp2_with fail
      go_ret
      exact ⟨by go_num, hbel⟩

set_option maxHeartbeats 1000000 in
theorem eqStringS_same (g n cap base g' cap' base' : Nat) (xs : List (List UInt8)) (hn : n ≤ 2000000) (w : World) (hown : w.ownsRow base 9 1 (.slice (some ⟨g, 0, none⟩) n cap) n (strs xs))
    (hown' : w.ownsRow base' 9 1 (.slice (some ⟨g', 0, none⟩) n cap') n (strs xs)) :
    Calls Try.prog 14 #[.slice (some ⟨g, 0, none⟩) n cap, .slice (some ⟨g', 0, none⟩) n cap'] w fun e w' => e = .returned (.bool true) ∧ Below w.heap.size w w' := by
  go_enter Try.func14, Try.ntmps14
  go_wp2_with fail
  go_loopw [5] (fun i wr => ∃ (j q : Nat), i = .int .i64 (j : Int) ∧ j ≤ n ∧ wr = w.drewN q) (fun i _ => n - (intOf i).toNat)
  case atStart => exact ⟨0, 0, rfl, Nat.zero_le _, rfl⟩
  case round =>
    obtain ⟨j, q, rfl, hj, rfl⟩ := hrel
    by_cases hlt : j < n
    · have j0 : (j : Int) < (n : Int) := by omega
      have j1 : (0 : Int) ≤ (j : Int) := by omega
      obtain ⟨l0, hl0, hce⟩ := own_str hown j hlt
      obtain ⟨l1, hl1, hce'⟩ := own_str hown' j hlt
      rw [hl0] at hl1
      cases hl1
      clear hown hown'
      go_wp2_with fail
      go_quiet (fail)
      go_wp2_with fail
      go_roundw
      case rel => exact ⟨j + 1, q + nq, by go_num, by omega, by simp⟩
      case measure => simp [intOf]; omega
    · go_wp2_with fail
      go_ret
      exact ⟨rfl, below_drewN (Below.refl _ _) _⟩

end Go.Proofs.Ythieilmjbefamaa
