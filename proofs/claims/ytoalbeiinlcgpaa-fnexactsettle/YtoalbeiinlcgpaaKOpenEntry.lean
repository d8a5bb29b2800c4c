/-
  Walks and mathematics of OpenEntry.
-/
import Derived.Test.YtoalbeiinlcgpaaKWalk5e
import Derived.WideShapes
import Derived.Deep.Slices
import Derived.ChangeSame
namespace Go.Proofs.Ytoalbeiinlcgpaa
open Go.RowKit Go.Deep Go.ChangeShapes Go.WideShapes P1 P9 K
set_option linter.unusedVariables false
set_option linter.unusedSimpArgs false

def ecells (e : EntV) : List Value := [.int .i64 e.term, .int .i64 e.kind, .string e.data]

def EntWide (e : EntV) : Prop := e.data.size ≤ maxLen ∧ (Lit.int .i64 e.term).wf = true ∧ (Lit.int .i64 e.kind).wf = true

section
variable {H : Type} {enc : TypeId × Value → H} {P : Program} {w : World} {base : Nat} {spare : Nat → Bool} {held : Bool}

theorem entry_of_trod {e tS tI : TypeId} {f0 f1 f2 : Field} {fuel : Nat} {cs : List Value} {x : DataW H × List MemPlace} (he : P.underlying e = some (.struct #[f0, f1, f2]))
    (hS : P.underlying tS = some .string) (hI : P.underlying tI = some (.int .i64)) (t0 : f0.type = tI) (t1 : f1.type = tI) (t2 : f2.type = tS) (o0 : f0.offset = 0) (o1 : f1.offset = 1) (o2 : f2.offset = 2)
    (ce : P.cellsOf e = 3) (cS : P.cellsOf tS = 1) (cI : P.cellsOf tI = 1) (h : DataW.trod enc P w base spare held fuel e cs = some x) :
    ∃ f : EntV, cs = ecells f ∧ EntWide f := by
  obtain ⟨xs, n, _, _, hlen, hxl, hf⟩ := DataW.trod_struct he h
  rw [ce] at hlen
  match xs, hxl, cs, hlen with
  | [y0, y1, y2], _, [v0, v1, v2], _ =>
    have g0 := hf 0 f0 rfl
    have g1 := hf 1 f1 rfl
    have g2 := hf 2 f2 rfl
    simp [o0, o1, o2, t0, t1, t2, cS, cI] at g0 g1 g2
    obtain ⟨k0, e0, _, m0⟩ := DataW.trod_int hI g0
    obtain ⟨k1, e1, _, m1⟩ := DataW.trod_int hI g1
    obtain ⟨s2, e2, _, m2⟩ := DataW.trod_string hS g2
    cases e0; cases e1; cases e2
    exact ⟨⟨k0, k1, s2⟩, rfl, m2, m0, m1⟩
end

def szE (e : EntV) (left : Int) : Int := if left - e.data.size < 0 then -1 else left - e.data.size

theorem szEntry_any (e : EntV) (left : Int) (h0 : 0 ≤ left) (h1 : left ≤ 1048576) (hd : e.data.size ≤ maxLen) (w : World) :
    Calls Try.prog 72 #[eval e, .int .i64 left] w fun r w' => r = .returned (.int .i64 (szE e left)) ∧ Below w.heap.size w w' := by
  obtain ⟨t, k, s⟩ := e
  simp only [eval, szE] at *
  unfold maxLen at hd
  have HB0 := hide ((Below.refl w.heap.size w).alloc (Nat.le_refl _) (.cells #[.int .i64 t, .int .i64 k, .string s] 93))
  by_cases c : left - s.size < 0
  · rw [if_pos c]
    go_enter Try.func72, Try.ntmps72
    go_wp2_with fail
    go_ret
    exact ⟨rfl, HB0.out⟩
  · rw [if_neg c]
    go_enter Try.func72, Try.ntmps72
    go_wp2_with fail
    go_ret
    exact ⟨rfl, HB0.out⟩

set_option maxHeartbeats 1000000 in
theorem toEntry_any (e : EntV) (w : World) :
    Calls Try.prog 73 #[eval e] w fun r w' => r = .returned (eval e) ∧ Below w.heap.size w w' := by
  obtain ⟨t, k, s⟩ := e
  simp only [eval]
  have HB0 := hide ((Below.refl w.heap.size w).alloc (Nat.le_refl _) (.cells #[.int .i64 t, .int .i64 k, .string s] 93))
  go_enter Try.func73, Try.ntmps73
  go_wp2_with fail
  refine bodyPost_ret (v := .agg #[.int .i64 t, .int .i64 k, .string s]) (by simp [results, Try.results73, go_sem]) rfl ⟨rfl, ?_⟩
  exact ((HB0.out.alloc (by simp) _).alloc (by simp; omega) _)

set_option maxHeartbeats 1000000 in
theorem eqEntry_any (e : EntV) (w : World) :
    Calls Try.prog 78 #[eval e, eval e] w fun r w' => r = .returned (.bool true) ∧ Below w.heap.size w w' := by
  obtain ⟨t, k, s⟩ := e
  simp only [eval]
  go_enter Try.func78, Try.ntmps78
  go_wp2_with fail
  all_goals first | go_quiet (fail) | skip
  go_wp2_with fail
  go_ret
  exact ⟨rfl, ((Below.refl _ _).alloc (Nat.le_refl _) _).alloc (by simp) _⟩

end Go.Proofs.Ytoalbeiinlcgpaa
