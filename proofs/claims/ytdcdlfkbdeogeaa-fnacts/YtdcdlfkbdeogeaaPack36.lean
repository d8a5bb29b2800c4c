/-
  The laws' own helpers over slices of texts: markText, markStringS, heldStringS, eqStringS.
  The laws' own small functions over acts: sizes, copies, comparison, marks.
  Walks of chapter 3: the laws' copies of files and disks, and their comparison.
  The laws' own small functions over slices of acts: sizes, copies.
-/
import Derived.Test.YtdcdlfkbdeogeaaPack1
import Derived.Test.YtdcdlfkbdeogeaaPack25
import Derived.WalkSmall
import Derived.Deep.RegionHeld3
import Derived.Deep.QuietTactic
import Derived.BigQuiet
import Derived.Test.YtdcdlfkbdeogeaaActs
import Derived.Test.YtdcdlfkbdeogeaaFlat2
import Derived.Test.YtdcdlfkbdeogeaaPack8
namespace Go.Proofs.Ytdcdlfkbdeogeaa
open Go.RowKit P1 K
set_option linter.unusedVariables false

theorem infoStr : (Try.prog.info? 9).map (fun i => (i.zero, i.size, i.bytes)) = some (some (.string ⟨#[]⟩), 1, 16) := by kernel_rfl

/-- Texts as cells. -/
def strs (xs : List (List UInt8)) : List Value := xs.map (fun l => Value.string ⟨l.toArray⟩)
theorem strs_length (xs : List (List UInt8)) : (strs xs).length = xs.length := by simp [strs]
theorem strs_append (xs ys : List (List UInt8)) : strs (xs ++ ys) = strs xs ++ strs ys := by simp [strs]

def markB (k : Nat) : List UInt8 := 109 :: Lib.decDigits k
def marks (k n : Nat) : List (List UInt8) := (List.range n).map (fun i => markB (k + i))
theorem marks_length (k n : Nat) : (marks k n).length = n := by simp [marks]
theorem marks_at (k n i : Nat) (h : i < n) : (marks k n)[i]? = some (markB (k + i)) := by simp [marks, h]

theorem marks_step (k j n : Nat) (xs : List (List UInt8)) (hl : xs.length = n) (hj : j < n) : (strs (marks k j ++ xs.drop j)).set j (.string ⟨(markB (k + j)).toArray⟩) = strs (marks k (j + 1) ++ xs.drop (j + 1)) := by
  have e1 : xs.drop j = xs[j] :: xs.drop (j + 1) := List.drop_eq_getElem_cons (by omega)
  have e2 : marks k (j + 1) = marks k j ++ [markB (k + j)] := by simp [marks, List.range_succ]
  rw [e1, e2, strs_append, strs_append, strs_append, List.set_append_right _ _ (by rw [strs_length, marks_length]; exact Nat.le_refl _), strs_length, marks_length]
  simp only [strs, List.map_cons, List.map_nil, Nat.sub_self, List.set_cons_zero, List.append_assoc, List.cons_append, List.nil_append]

theorem own_str {w : World} {base g n cap : Nat} {zs : List (List UInt8)} (h : w.ownsRow base 9 1 (.slice (some ⟨g, 0, none⟩) n cap) n (strs zs)) (j : Nat) (hj : j < n) :
    ∃ l, zs[j]? = some l ∧ w.cell? ⟨g, j, none⟩ = some (.string ⟨l.toArray⟩) := by
  have hl : zs.length = n := by have := h.1; rw [strs_length] at this; omega
  refine ⟨zs[j]'(by omega), List.getElem?_eq_getElem (by omega), ?_⟩
  rw [h.cellAt j (by omega)]
  simp [strs, show j < zs.length by omega]

end Go.Proofs.Ytdcdlfkbdeogeaa

namespace Go.Proofs.Ytdcdlfkbdeogeaa
open Go.RowKit P5 K
set_option linter.unusedVariables false
set_option linter.unusedSimpArgs false

def szA (a : ActV) (left : Int) : Int :=
  if left - a.name.length < 0 then -1 else if left - a.name.length - a.text.length < 0 then -1 else if left - a.name.length - a.text.length - a.to.length < 0 then -1 else left - a.name.length - a.text.length - a.to.length

theorem szA_pos {a : ActV} {left : Int} (h : 0 ≤ szA a left) : szA a left = left - a.name.length - a.text.length - a.to.length := by
  unfold szA at h ⊢
  split
  · rename_i c; rw [if_pos c] at h; omega
  · rename_i c
    rw [if_neg c] at h
    split
    · rename_i c2; rw [if_pos c2] at h; omega
    · rename_i c2
      rw [if_neg c2] at h
      split
      · rename_i c3; rw [if_pos c3] at h; omega
      · rfl

theorem szA_le (a : ActV) (left : Int) (h : 0 ≤ left) : szA a left ≤ left := by
  unfold szA
  split
  · omega
  · split
    · omega
    · split <;> omega

theorem szA_fine {a : ActV} {left : Int} (h : 0 ≤ szA a left) (hl : left ≤ 1048576) (hw : ActWide a) : ActFine a := by
  have := szA_pos h
  exact ⟨by omega, by omega, by omega, hw.2.2.2⟩

end Go.Proofs.Ytdcdlfkbdeogeaa

namespace Go.Proofs.Ytdcdlfkbdeogeaa
open Go.RowKit P5 K
set_option linter.unusedVariables false
set_option linter.unusedSimpArgs false

end Go.Proofs.Ytdcdlfkbdeogeaa

namespace Go.Proofs.Ytdcdlfkbdeogeaa
open Go.RowKit P5 K
set_option linter.unusedVariables false
set_option linter.unusedSimpArgs false

theorem infoIA : (Try.prog.info? 37).map (·.size) = some 4 := by kernel_rfl

theorem infoIAz : (Try.prog.info? 37).map (fun i => (i.zero, i.size, i.bytes)) = some (some (.agg #[.int .i64 0, .string ⟨#[]⟩, .string ⟨#[]⟩, .string ⟨#[]⟩]), 4, 56) := by kernel_rfl

def szAsGo : List ActV → Int → Int
  | [], left => left
  | f :: r, left => if szA f left < 0 then -1 else szAsGo r (szA f left)
def szAs (fs : List ActV) (left : Int) : Int := if left - fs.length < 0 then -1 else szAsGo fs (left - fs.length)
theorem szAsGo_cons (f : ActV) (r : List ActV) (left : Int) : szAsGo (f :: r) left = if szA f left < 0 then -1 else szAsGo r (szA f left) := rfl

theorem szAsGo_fine : ∀ (fs : List ActV) (left : Int), left ≤ 1048576 → 0 ≤ left → 0 ≤ szAsGo fs left → (∀ f ∈ fs, ActWide f) → ∀ f ∈ fs, ActFine f
  | [], left, _, _, _, _, f, hf => by simp at hf
  | a :: r, left, h1, h0, h, hw, f, hf => by
    rw [szAsGo_cons] at h
    by_cases c : szA a left < 0
    · rw [if_pos c] at h; omega
    · rw [if_neg c] at h
      have hl := szA_le a left h0
      rcases List.mem_cons.1 hf with rfl | hf
      · exact szA_fine (by omega) h1 (hw _ (by simp))
      · exact szAsGo_fine r _ (by omega) (by omega) h (fun g hg => hw g (by simp [hg])) f hf

theorem szAs_fine {fs : List ActV} {left : Int} (h1 : left ≤ 1048576) (h0 : 0 ≤ left) (h : 0 ≤ szAs fs left) (hw : ∀ f ∈ fs, ActWide f) : fs.length ≤ 1048576 ∧ ∀ f ∈ fs, ActFine f := by
  unfold szAs at h
  by_cases c : left - fs.length < 0
  · rw [if_pos c] at h; omega
  · rw [if_neg c] at h
    exact ⟨by omega, szAsGo_fine fs _ (by omega) (by omega) h hw⟩

/-- The first j acts lie in the row. -/
def Filled4 (fs : List ActV) (j : Nat) (xs : List Value) : Prop := ∀ (i : Nat) f, i < j → fs[i]? = some f → ∀ (c : Nat) u, (acells f)[c]? = some u → xs[i * 4 + c]? = some u

theorem filled4_zero (fs : List ActV) (xs : List Value) : Filled4 fs 0 xs := fun i f h => absurd h (Nat.not_lt_zero _)

def set4 (xs : List Value) (j : Nat) (f : ActV) : List Value := (((xs.set (j * 4) (.int .i64 f.kind)).set (j * 4 + 1) (.string ⟨f.name.toArray⟩)).set (j * 4 + 2) (.string ⟨f.text.toArray⟩)).set (j * 4 + 3) (.string ⟨f.to.toArray⟩)

theorem filled4_step {fs : List ActV} {j : Nat} {xs : List Value} (h : Filled4 fs j xs) {f : ActV} (hf : fs[j]? = some f) (hl : j * 4 + 4 ≤ xs.length) : Filled4 fs (j + 1) (set4 xs j f) := by
  intro i g hi hg c u hu
  have hc : c < 4 := by
    have := (List.getElem?_eq_some_iff.1 hu).1
    simpa [acells] using this
  by_cases e : i = j
  · subst e
    rw [hf] at hg
    cases hg
    unfold set4
    match c, hc with
    | 0, _ =>
      simp only [acells, List.getElem?_cons_zero] at hu
      cases hu
      rw [List.getElem?_set_ne (by omega), List.getElem?_set_ne (by omega), List.getElem?_set_ne (by omega), Nat.add_zero, List.getElem?_set_self (by omega)]
    | 1, _ =>
      simp only [acells, List.getElem?_cons_succ, List.getElem?_cons_zero] at hu
      cases hu
      rw [List.getElem?_set_ne (by omega), List.getElem?_set_ne (by omega), List.getElem?_set_self (by simp; omega)]
    | 2, _ =>
      simp only [acells, List.getElem?_cons_succ, List.getElem?_cons_zero] at hu
      cases hu
      rw [List.getElem?_set_ne (by omega), List.getElem?_set_self (by simp; omega)]
    | 3, _ =>
      simp only [acells, List.getElem?_cons_succ, List.getElem?_cons_zero] at hu
      cases hu
      rw [List.getElem?_set_self (by simp; omega)]
  · unfold set4
    rw [List.getElem?_set_ne (by omega), List.getElem?_set_ne (by omega), List.getElem?_set_ne (by omega), List.getElem?_set_ne (by omega)]
    exact h i g (by omega) hg c u hu

theorem filled4_end {fs : List ActV} {n : Nat} {xs : List Value} (h : Filled4 fs n xs) (hn : fs.length = n) (hl : xs.length = n * 4) : xs = fs.flatMap acells := by
  apply List.ext_getElem?
  intro k
  by_cases hk : k < n * 4
  · have h1 : k / 4 < fs.length := by omega
    have e1 : k = k / 4 * 4 + k % 4 := by omega
    obtain ⟨f, hf⟩ : ∃ f, fs[k / 4]? = some f := ⟨_, List.getElem?_eq_getElem h1⟩
    have hfe : fs[k / 4] = f := (List.getElem?_eq_some_iff.1 hf).2
    obtain ⟨u, hu⟩ : ∃ u, (acells f)[k % 4]? = some u := ⟨_, List.getElem?_eq_getElem (by rw [acells_length]; omega)⟩
    have h2 := h (k / 4) f (by omega) hf (k % 4) u hu
    rw [← e1] at h2
    have h3 := flat_get acells 4 acells_length fs (k / 4) (k % 4) h1 (by omega)
    rw [← e1, hfe] at h3
    rw [h2, h3, hu]
  · rw [List.getElem?_eq_none (by omega), List.getElem?_eq_none (by rw [flat_length acells 4 acells_length]; omega)]

theorem own_four {w : World} {base : Nat} {e : TypeId} {g n cap : Nat} {xs : List Value} (h : w.ownsRow base e 4 (.slice (some ⟨g, 0, none⟩) n cap) n xs) (j : Nat) (hj : j < n * 4) : ∃ u, w.cell? ⟨g, j, none⟩ = some u :=
  ⟨_, by rw [h.cellAt j hj, List.getElem?_eq_getElem (by rw [h.1]; exact hj)]⟩

theorem own_set4 {w : World} {base : Nat} {e : TypeId} {g n cap : Nat} {xs : List Value} (h : w.ownsRow base e 4 (.slice (some ⟨g, 0, none⟩) n cap) n xs) (j : Nat) (f : ActV) :
    ((((w.setCell ⟨g, j * 4, none⟩ (.int .i64 f.kind)).setCell ⟨g, j * 4 + 1, none⟩ (.string ⟨f.name.toArray⟩)).setCell ⟨g, j * 4 + 2, none⟩ (.string ⟨f.text.toArray⟩)).setCell ⟨g, j * 4 + 3, none⟩ (.string ⟨f.to.toArray⟩)).ownsRow base e 4 (.slice (some ⟨g, 0, none⟩) n cap) n (set4 xs j f) ∧
      w.grownBy ((((w.setCell ⟨g, j * 4, none⟩ (.int .i64 f.kind)).setCell ⟨g, j * 4 + 1, none⟩ (.string ⟨f.name.toArray⟩)).setCell ⟨g, j * 4 + 2, none⟩ (.string ⟨f.text.toArray⟩)).setCell ⟨g, j * 4 + 3, none⟩ (.string ⟨f.to.toArray⟩)) (some g) := by
  have s0 := h.stored (j * 4) (.int .i64 f.kind)
  have s1 := s0.1.stored (j * 4 + 1) (.string ⟨f.name.toArray⟩)
  have s2 := s1.1.stored (j * 4 + 2) (.string ⟨f.text.toArray⟩)
  have s3 := s2.1.stored (j * 4 + 3) (.string ⟨f.to.toArray⟩)
  exact ⟨s3.1, grown_trans (grown_trans (grown_trans s0.2 s1.2) s2.2) s3.2⟩

end Go.Proofs.Ytdcdlfkbdeogeaa
