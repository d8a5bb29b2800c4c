/-
  Slices of entries: read, sized, copied, compared, marked by the laws.
  Logs: sized, copied, compared, marked by the laws.
-/
import Derived.Test.YtdollofmjpgppaaOpenEntry
import Derived.Test.YtdollofmjpgppaaRowK
import Derived.Test.YtdollofmjpgppaaPack16
namespace Go.Proofs.Ytdollofmjpgppaa
open Go.RowKit P1 P9 K
set_option linter.unusedVariables false
set_option linter.unusedSimpArgs false

theorem infoIE : (Try.prog.info? 28).map (·.size) = some 3 := by kernel_rfl

theorem infoIEz : (Try.prog.info? 28).map (fun i => (i.zero, i.size, i.bytes)) = some (some (.agg #[.int .i64 0, .int .i64 0, .string ⟨#[]⟩]), 3, 32) := by kernel_rfl

theorem ecells_length (e : EntV) : (ecells e).length = 3 := rfl
theorem ecells_one (e : EntV) : ∀ u ∈ ecells e, u.oneCell' = true := by
  intro u hu
  simp only [ecells, List.mem_cons, List.not_mem_nil, or_false] at hu
  rcases hu with rfl | rfl | rfl <;> rfl

/-- A slice of entries that reads as es. -/
abbrev EntsAt (w : World) (oa : Option Addr) (n cap : Nat) (es : List EntV) : Prop := RowsAt 3 ecells w oa n cap es

theorem RowsAt.get3 {w : World} {oa : Option Addr} {n cap : Nat} {es : List EntV} (h : EntsAt w oa n cap es) {P : Program} {t e : TypeId} (ht : P.underlying t = some (.slice e)) (hi : (P.info? e).map (·.size) = some 3) (i : Nat) (hin : i < n) :
    ∃ f b q, es[i]? = some f ∧ (∀ wx, (Instr.indexAt t (.slice oa n cap) (.int .i64 (i : Int))).run P wx = .ok (.pointer (some ⟨b, q, none⟩)) wx) ∧ b < w.heap.size ∧
      w.cell? ⟨b, q, none⟩ = some (.int .i64 f.term) ∧ w.cell? ⟨b, q + 1, none⟩ = some (.int .i64 f.kind) ∧ w.cell? ⟨b, q + 2, none⟩ = some (.string f.data) := by
  obtain ⟨f, b, q, hf, hx, hb, hc⟩ := h.get ht hi ecells_length (by omega) i hin
  exact ⟨f, b, q, hf, hx, hb, hc 0 _ rfl, hc 1 _ rfl, hc 2 _ rfl⟩

/-- A part of such a slice. -/
theorem RowsAt.part {w : World} {b o n cap : Nat} {es : List EntV} (h : EntsAt w (some ⟨b, o, none⟩) n cap es) (i j c : Nat) (hij : i ≤ j) (hj : j ≤ n) (hc : j - i ≤ c) (hm : c ≤ maxLen) : EntsAt w (some ⟨b, o + i * 3, none⟩) (j - i) c ((es.take j).drop i) := by
  refine ⟨by rw [List.length_drop, List.length_take, h.len]; omega, hc, hm, fun k f hf => ?_⟩
  rw [List.getElem?_drop] at hf
  have hk : i + k < j := by have := (List.getElem?_eq_some_iff.1 hf).1; rw [List.length_take] at this; omega
  rw [List.getElem?_take_of_lt hk] at hf
  obtain ⟨b', o', he, hcell⟩ := h.at_ (i + k) f hf
  cases he
  refine ⟨b, o + i * 3, rfl, fun m u hu => ?_⟩
  have := hcell m u hu
  rw [← this]
  congr 2
  rw [Nat.add_mul]
  omega

/-- What is left of a bound behind entries. -/
def szEsGo : List EntV → Int → Int
  | [], left => left
  | f :: r, left => if szE f left < 0 then -1 else szEsGo r (szE f left)
def szEs (es : List EntV) (left : Int) : Int := if left - es.length < 0 then -1 else szEsGo es (left - es.length)
theorem szEsGo_cons (f : EntV) (r : List EntV) (left : Int) : szEsGo (f :: r) left = if szE f left < 0 then -1 else szEsGo r (szE f left) := rfl

theorem szE_le (e : EntV) (left : Int) (h : 0 ≤ left) : szE e left ≤ left := by
  unfold szE
  split <;> omega

theorem szE_fine {e : EntV} {left : Int} (h : 0 ≤ szE e left) (hl : left ≤ 1048576) : e.data.size ≤ 1048576 := by
  unfold szE at h
  split at h <;> omega

theorem szEsGo_fine : ∀ (es : List EntV) (left : Int), left ≤ 1048576 → 0 ≤ left → 0 ≤ szEsGo es left → szEsGo es left ≤ left ∧ ∀ f ∈ es, f.data.size ≤ 1048576
  | [], left, _, _, h => ⟨Int.le_refl _, fun f hf => by simp at hf⟩
  | a :: r, left, h1, h0, h => by
    rw [szEsGo_cons] at h ⊢
    by_cases c : szE a left < 0
    · rw [if_pos c] at h; omega
    · rw [if_neg c] at h ⊢
      have hl := szE_le a left h0
      have ih := szEsGo_fine r (szE a left) (by omega) (by omega) h
      refine ⟨by omega, fun f hf => ?_⟩
      rcases List.mem_cons.1 hf with rfl | hf
      · exact szE_fine (by omega) h1
      · exact ih.2 f hf

theorem szEs_fine {es : List EntV} {left : Int} (h1 : left ≤ 1048576) (h0 : 0 ≤ left) (h : 0 ≤ szEs es left) : szEs es left ≤ left ∧ es.length ≤ 1048576 ∧ ∀ f ∈ es, f.data.size ≤ 1048576 := by
  unfold szEs at h ⊢
  by_cases c : left - es.length < 0
  · rw [if_pos c] at h; omega
  · rw [if_neg c] at h ⊢
    have := szEsGo_fine es _ (by omega) (by omega) h
    exact ⟨by omega, by omega, this.2⟩

theorem szEs_ge {es : List EntV} {left : Int} (h : ¬ szEs es left < 0) : 0 ≤ szEs es left := by omega

/-- One entry stored into a row that the call owns. -/
theorem own_setE {w : World} {base : Nat} {e : TypeId} {g n cap : Nat} {ys : List EntV} (h : w.ownsRow base e 3 (.slice (some ⟨g, 0, none⟩) n cap) n (ys.flatMap ecells)) (j : Nat) (hj : j < ys.length) (f : EntV) :
    (((w.setCell ⟨g, j * 3, none⟩ (.int .i64 f.term)).setCell ⟨g, j * 3 + 1, none⟩ (.int .i64 f.kind)).setCell ⟨g, j * 3 + 2, none⟩ (.string f.data)).ownsRow base e 3 (.slice (some ⟨g, 0, none⟩) n cap) n ((ys.set j f).flatMap ecells) ∧
      w.grownBy (((w.setCell ⟨g, j * 3, none⟩ (.int .i64 f.term)).setCell ⟨g, j * 3 + 1, none⟩ (.int .i64 f.kind)).setCell ⟨g, j * 3 + 2, none⟩ (.string f.data)) (some g) := by
  have h2 := own_setCells (ecells f) w (j * 3) (ys.flatMap ecells) h
  rw [setAll_flat ecells_length ys j f hj] at h2
  exact h2

theorem own_lenE {w : World} {base : Nat} {e : TypeId} {v : Value} {n : Nat} {ys : List EntV} (h : w.ownsRow base e 3 v n (ys.flatMap ecells)) : ys.length = n := by
  have := h.1
  rw [flat_length ecells 3 ecells_length] at this
  omega

def markE (k i : Nat) : EntV := ⟨((k + 3 * i : Nat) : Int), ((k + 3 * i + 1 : Nat) : Int), ⟨(markB (k + 3 * i + 2)).toArray⟩⟩
def marksE (k n : Nat) : List EntV := (List.range n).map (markE k)
theorem marksE_length (k n : Nat) : (marksE k n).length = n := by simp [marksE]
theorem marksE_at (k n i : Nat) (h : i < n) : (marksE k n)[i]? = some (markE k i) := by simp [marksE, h]

end Go.Proofs.Ytdollofmjpgppaa

namespace Go.Proofs.Ytdollofmjpgppaa
open Go.RowKit P1 P9 K
set_option linter.unusedVariables false
set_option linter.unusedSimpArgs false

/-- A log as a value. -/
abbrev lval (s u : Int) (v : Value) : Value := .agg #[.int .i64 s, .int .i64 u, v]

/-- What is made of a log's copy: the row is the call's own. -/
def ToLog (w : World) (s u : Int) (n : Nat) (es : List EntV) (e : Ending) (w' : World) : Prop :=
  ∃ g, e = .returned (lval s u (.slice (some ⟨g, 0, none⟩) n n)) ∧ w'.ownsRow w.heap.size 28 3 (.slice (some ⟨g, 0, none⟩) n n) n (es.flatMap ecells) ∧ Below w.heap.size w w'

theorem own_oneCell {w : World} {base : Nat} {e : TypeId} {size : Nat} {v : Value} {n : Nat} {xs : List Value} (h : w.ownsRow base e size v n xs) : v.oneCell' = true := by
  rcases h.2 with ⟨rfl, rfl⟩ | ⟨g, cap, cur, rfl, _⟩ <;> simp [Value.oneCell']

end Go.Proofs.Ytdollofmjpgppaa
