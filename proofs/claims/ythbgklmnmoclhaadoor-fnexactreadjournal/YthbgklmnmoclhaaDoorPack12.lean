/-
  Walks of chapter 5: contentOf, EntryOk of the program and of the specification.
  An entry that came in as an argument: two numbers and a text; its copy, its size.
-/
import Derived.Test.YthbgklmnmoclhaaDoorPack11
import Derived.Lib.Strings
import Derived.WideShapes
import Derived.Deep.Slices
import Derived.ChangeSame
namespace Go.Proofs.YthbgklmnmoclhaaDoor
open Go.RowKit P1 P9 K
set_option linter.unusedVariables false
set_option linter.unusedSimpArgs false

/-- An entry. -/
structure EntV where
  term : Int
  kind : Int
  data : ByteArray

def eval (e : EntV) : Value := .agg #[.int .i64 e.term, .int .i64 e.kind, .string e.data]
def EntV.ok (e : EntV) : Bool := entryOk e.term e.kind (bl e.data)

/-- The results of contentOf. -/
def CoPost (w : World) (k : Int) (s : ByteArray) (c : Bool) (e : Ending) (w' : World) : Prop :=
  ∃ v, e = .returned (.tuple #[v, .bool c]) ∧ (c = true → ContAt w' k s v) ∧ Below w.heap.size w w'

theorem bl_nil {s : ByteArray} : (bl s).length = 0 ↔ s = ⟨#[]⟩ := by
  constructor
  · intro h
    apply ByteArray.ext
    have := List.eq_nil_of_length_eq_zero h
    simpa using this
  · rintro rfl; rfl

theorem isEmpty_no {s : ByteArray} (h : ¬ s = ⟨#[]⟩) : s.toList.isEmpty = false := by
  cases hl : s.toList.isEmpty with
  | false => rfl
  | true =>
    exfalso
    apply h
    apply bl_nil.1
    rw [Lib.toList_data s] at hl
    exact List.length_eq_zero_iff.2 (List.isEmpty_iff.1 hl)

theorem contentOf_any (k : Int) (s : ByteArray) (hs : s.size ≤ 1048576) (w : World) :
    Calls Tryd.prog 77 #[.int .i64 k, .string s] w fun e w' => CoPost w k s (contOk k (bl s)) e w' := by
  obtain ⟨c, hc⟩ : ∃ c, contOk k (bl s) = c := ⟨_, rfl⟩
  rw [hc]
  have HC := hide hc
  clear hc
  by_cases k1 : k = 1
  · subst k1
    have hcv : c = decide (s = ⟨#[]⟩) := by
      rw [← HC.out]
      simp only [contOk, if_pos, ← bl_nil]
    by_cases h0 : s = ⟨#[]⟩
    · subst h0
      obtain rfl : c = true := by rw [hcv]; simp
      clear hcv
      go_enter Tryd.func77, Tryd.ntmps77
      go_wp2_with fail
      refine bodyPost_ret (v := .tuple #[.iface 145 (.agg #[]), .bool true]) (by simp [results, Tryd.results77, go_sem]) rfl ?_
      exact ⟨_, rfl, fun _ => Or.inl ⟨rfl, rfl, rfl⟩, Below.refl _ _⟩
    · obtain rfl : c = false := by rw [hcv]; simp [h0]
      have h1 : s.toList.isEmpty = false := isEmpty_no h0
      clear hcv
      go_enter Tryd.func77, Tryd.ntmps77
      go_wp2_with fail
      refine bodyPost_ret (v := .tuple #[.iface 145 (.agg #[]), .bool false]) (by simp [results, Tryd.results77, go_sem]) rfl ?_
      exact ⟨_, rfl, (fun h => by cases h), Below.refl _ _⟩
  · have g1 : (k == 1) = false := by simpa using k1
    by_cases k2 : k = 2
    · subst k2
      have hcv : confOk (confZ (bl s)) = c := by rw [← HC.out]; simp [contOk]
      have HCV := hide hcv
      have hlen : c = true → (bl s).length = s.size := fun _ => bl_length s
      clear hcv
      go_enter Tryd.func77, Tryd.ntmps77
      go_wp2_with fail
      refine (implReadConf_any s hs _).mono ?_
      rintro e w1 ⟨g, cap, rfl, ho, hb⟩
      cases c with
      | false =>
        rw [rdConf_no HCV.out]
        clear ho
        go_wp2_with fail
        refine bodyPost_ret (v := .tuple #[.iface 146 (.slice (some ⟨g, 0, none⟩) 0 cap), .bool false]) (by simp [results, Tryd.results77, go_sem]) rfl ?_
        exact ⟨_, rfl, (fun h => by cases h), hb⟩
      | true =>
        rw [rdConf_yes HCV.out] at ho ⊢
        obtain ⟨_, _, he, hat⟩ := intsAt_of_own ho (confZ_wf _)
        cases he
        have HAT := hide hat
        clear ho hat
        go_wp2_with fail
        refine bodyPost_ret (v := .tuple #[.iface 146 (.slice (some ⟨g, 0, none⟩) (confZ (bl s)).length cap), .bool true]) (by simp [results, Tryd.results77, go_sem]) rfl ?_
        refine ⟨_, rfl, fun _ => Or.inr (Or.inl ⟨rfl, HCV.out, g, cap, ?_, ?_⟩), hb⟩
        · simp [confZ_length]
        · have := HAT.out
          simpa [confZ_length] using this
    · have g2 : (k == 2) = false := by simpa using k2
      by_cases k3 : k = 3
      · subst k3
        have hcv : c = decide (s.size ≤ 120) := by
          rw [← HC.out]
          simp [contOk]
        by_cases h0 : s.size ≤ 120
        · obtain rfl : c = true := by rw [hcv]; simpa using h0
          have h1 : (s.size : Int) ≤ 120 := by omega
          clear hcv
          go_enter Tryd.func77, Tryd.ntmps77
          go_wp2_with fail
          refine bodyPost_ret (v := .tuple #[.iface 147 (.string s), .bool true]) (by simp [results, Tryd.results77, go_sem]) rfl ?_
          exact ⟨_, rfl, fun _ => Or.inr (Or.inr ⟨rfl, h0, rfl⟩), Below.refl _ _⟩
        · obtain rfl : c = false := by rw [hcv]; simpa using h0
          have h1 : decide ((s.size : Int) ≤ 120) = false := by simp; omega
          clear hcv
          go_enter Tryd.func77, Tryd.ntmps77
          go_wp2_with fail
          refine bodyPost_ret (v := .tuple #[.iface 147 (.string s), .bool false]) (by simp [results, Tryd.results77, go_sem]) rfl ?_
          exact ⟨_, rfl, (fun h => by cases h), Below.refl _ _⟩
      · have g3 : (k == 3) = false := by simpa using k3
        obtain rfl : c = false := by rw [← HC.out]; simp [contOk, k1, k2, k3]
        go_enter Tryd.func77, Tryd.ntmps77
        go_wp2_with fail
        refine bodyPost_ret (v := .tuple #[.iface 145 (.agg #[]), .bool false]) (by simp [results, Tryd.results77, go_sem]) rfl ?_
        exact ⟨_, rfl, (fun h => by cases h), Below.refl _ _⟩

set_option maxHeartbeats 1000000 in
theorem implEntryOk_any (e : EntV) (hs : e.data.size ≤ 1048576) (w : World) :
    Calls Tryd.prog 72 #[eval e] w fun r w' => r = .returned (.bool e.ok) ∧ Below w.heap.size w w' := by
  obtain ⟨t, k, s⟩ := e
  simp only [eval, EntV.ok, entryOk] at *
  have HB0 := hide ((Below.refl w.heap.size w).alloc (Nat.le_refl _) (.cells #[.int .i64 t, .int .i64 k, .string s] 77))
  obtain ⟨c, hc⟩ : ∃ c, contOk k (bl s) = c := ⟨_, rfl⟩
  rw [hc]
  have HC := hide hc
  clear hc
  go_enter Tryd.func72, Tryd.ntmps72
  go_wp2_with fail
  refine (contentOf_any k s hs _).mono ?_
  rw [HC.out]
  rintro r w1 ⟨v, rfl, -, hb1⟩
  have c0 : w1.cell? ⟨w.heap.size, 0, none⟩ = some (.int .i64 t) := (hb1.cell (by simp)).trans (by simp)
  have HB1 := hide (HB0.out.trans (hb1.mono (by simp)))
  clear hb1
  cases c with
  | false =>
    go_wp2_with fail
    go_ret
    exact ⟨rfl, HB1.out⟩
  | true =>
    go_wp2_with fail
    refine (within_any _ _ _ _).mono ?_
    rintro r w2 ⟨rfl, rfl⟩
    go_wp2_with fail
    go_ret
    exact ⟨by rw [Bool.true_and]; rfl, HB1.out⟩

set_option maxHeartbeats 1000000 in
theorem specEntryOk_any (e : EntV) (hs : e.data.size ≤ 1048576) (w : World) :
    Calls Tryd.prog 59 #[eval e] w fun r w' => r = .returned (.bool e.ok) ∧ Below w.heap.size w w' := by
  obtain ⟨t, k, s⟩ := e
  simp only [eval, EntV.ok, entryOk] at *
  have HB0 := hide ((Below.refl w.heap.size w).alloc (Nat.le_refl _) (.cells #[.int .i64 t, .int .i64 k, .string s] 77))
  obtain ⟨c, hc⟩ : ∃ c, contOk k (bl s) = c := ⟨_, rfl⟩
  rw [hc]
  have HC := hide hc
  clear hc
  by_cases ht : 0 ≤ t ∧ t ≤ 100000
  · have hT : termOk t = true := by simp [termOk, ht]
    obtain ⟨ht0, ht1⟩ := ht
    rw [hT, Bool.and_true]
    clear hT
    by_cases k1 : k = 1
    · subst k1
      have hcv : c = decide (s = ⟨#[]⟩) := by
        rw [← HC.out]
        simp only [contOk, if_pos, ← bl_nil]
      by_cases h0 : s = ⟨#[]⟩
      · subst h0
        obtain rfl : c = true := by rw [hcv]; simp
        clear hcv
        go_enter Tryd.func59, Tryd.ntmps59
        go_wp2_with (go_at_call 17; refine (l01In_yes _ _ _ ht0 ht1 _).mono ?_; rintro e w' ⟨rfl, rfl⟩)
        go_ret
        exact ⟨rfl, HB0.out⟩
      · obtain rfl : c = false := by rw [hcv]; simp [h0]
        have h1 : s.toList.isEmpty = false := isEmpty_no h0
        clear hcv
        go_enter Tryd.func59, Tryd.ntmps59
        go_wp2_with (go_at_call 17; refine (l01In_yes _ _ _ ht0 ht1 _).mono ?_; rintro e w' ⟨rfl, rfl⟩)
        go_ret
        exact ⟨rfl, HB0.out⟩
    · have g1 : (k == 1) = false := by simpa using k1
      by_cases k2 : k = 2
      · subst k2
        have hcv : confOk (confZ (bl s)) = c := by rw [← HC.out]; simp [contOk]
        have HCV := hide (show (rdConf (bl s)).2 = c by unfold rdConf; rw [hcv]; cases c <;> rfl)
        clear hcv
        go_enter Tryd.func59, Tryd.ntmps59
        go_wp2_with (go_at_call 17; refine (l01In_yes _ _ _ ht0 ht1 _).mono ?_; rintro e w' ⟨rfl, rfl⟩)
        refine (specReadConf_any s hs _).mono ?_
        unfold RcPost
        rw [HCV.out]
        rintro e w1 ⟨g, cap, rfl, ho, hb⟩
        clear ho
        go_wp2_with fail
        go_ret
        exact ⟨rfl, HB0.out.trans (hb.mono (by simp))⟩
      · have g2 : (k == 2) = false := by simpa using k2
        by_cases k3 : k = 3
        · subst k3
          have hcv : c = decide (s.size ≤ 120) := by
            rw [← HC.out]
            simp [contOk]
          by_cases h0 : s.size ≤ 120
          · obtain rfl : c = true := by rw [hcv]; simpa using h0
            have h1 : (s.size : Int) ≤ 120 := by omega
            clear hcv
            go_enter Tryd.func59, Tryd.ntmps59
            go_wp2_with (go_at_call 17; refine (l01In_yes _ _ _ ht0 ht1 _).mono ?_; rintro e w' ⟨rfl, rfl⟩)
            go_ret
            exact ⟨rfl, HB0.out⟩
          · obtain rfl : c = false := by rw [hcv]; simpa using h0
            have h1 : decide ((s.size : Int) ≤ 120) = false := by simp; omega
            clear hcv
            go_enter Tryd.func59, Tryd.ntmps59
            go_wp2_with (go_at_call 17; refine (l01In_yes _ _ _ ht0 ht1 _).mono ?_; rintro e w' ⟨rfl, rfl⟩)
            go_ret
            exact ⟨rfl, HB0.out⟩
        · have g3 : (k == 3) = false := by simpa using k3
          obtain rfl : c = false := by rw [← HC.out]; simp [contOk, k1, k2, k3]
          go_enter Tryd.func59, Tryd.ntmps59
          go_wp2_with (go_at_call 17; refine (l01In_yes _ _ _ ht0 ht1 _).mono ?_; rintro e w' ⟨rfl, rfl⟩)
          go_ret
          exact ⟨rfl, HB0.out⟩
  · have hT : termOk t = false := by simp [termOk]; omega
    rw [hT, Bool.and_false]
    go_enter Tryd.func59, Tryd.ntmps59
    go_wp2_with (go_at_call 17; refine (l01In_no _ _ _ (by omega) _).mono ?_; rintro e w' ⟨rfl, rfl⟩)
    go_ret
    exact ⟨rfl, HB0.out⟩

end Go.Proofs.YthbgklmnmoclhaaDoor

namespace Go.Proofs.YthbgklmnmoclhaaDoor
open Go.RowKit Go.Deep Go.ChangeShapes Go.WideShapes P1 P9 K
set_option linter.unusedVariables false
set_option linter.unusedSimpArgs false

def ecells (e : EntV) : List Value := [.int .i64 e.term, .int .i64 e.kind, .string e.data]
def EntWide (e : EntV) : Prop := e.data.size ≤ maxLen ∧ (Lit.int .i64 e.term).wf = true ∧ (Lit.int .i64 e.kind).wf = true

section
variable {H : Type} {enc : TypeId × Value → H} {P : Program} {w : World} {base : Nat} {spare : Nat → Bool} {held : Bool}

/-- One struct of two numbers and a text. -/
theorem entry_of_trod {e tS tI : TypeId} {f0 f1 f2 : Field} {fuel : Nat} {cs : List Value} {x : DataW H × List MemPlace} (he : P.underlying e = some (.struct #[f0, f1, f2]))
    (hS : P.underlying tS = some .string) (hI : P.underlying tI = some (.int .i64)) (t0 : f0.type = tI) (t1 : f1.type = tI) (t2 : f2.type = tS) (o0 : f0.offset = 0) (o1 : f1.offset = 1) (o2 : f2.offset = 2)
    (ce : P.cellsOf e = 3) (cS : P.cellsOf tS = 1) (cI : P.cellsOf tI = 1) (h : DataW.trod enc P w base spare held fuel e cs = some x) :
    ∃ f : EntV, cs = ecells f ∧ EntWide f := by
  obtain ⟨xs, n, _, _, hlen, hxl, hf⟩ := DataW.trod_struct he h
  rw [ce] at hlen
  match xs, hxl, cs, hlen with
  | [y0, y1, y2], _, [v0, v1, v2], _ =>
    have g0 := hf 0 f0 rfl
    have g1 := hf 1 f1 rfl
    have g2 := hf 2 f2 rfl
    simp [o0, o1, o2, t0, t1, t2, cS, cI] at g0 g1 g2
    obtain ⟨k0, e0, _, m0⟩ := DataW.trod_int hI g0
    obtain ⟨k1, e1, _, m1⟩ := DataW.trod_int hI g1
    obtain ⟨s2, e2, _, m2⟩ := DataW.trod_string hS g2
    cases e0; cases e1; cases e2
    exact ⟨⟨k0, k1, s2⟩, rfl, m2, m0, m1⟩
end

set_option maxRecDepth 100000 in
theorem entry_in {H : Type} {enc : TypeId × Value → H} {W : World} {r : Reach} {b0 : Nat} {v : Value} {d : DataW H} {p : List MemPlace} (hv : Value.okWide Tryd.prog W r b0 106 v) (h : DataW.Trod enc Tryd.prog W 0 (fun _ => true) true 106 v d p) :
    ∃ a : EntV, v = eval a ∧ EntWide a := by
  obtain ⟨cs, rfl, hsz⟩ := okWide_struct Tryd.underlying106 hv
  obtain ⟨fuel, hf⟩ := h
  obtain ⟨f, h1, h2⟩ := entry_of_trod (tS := 9) (tI := 3) Tryd.underlying106 Tryd.underlying9 Tryd.underlying3 rfl rfl rfl rfl rfl rfl (by kernel_rfl) (by kernel_rfl) (by kernel_rfl) hf
  refine ⟨f, ?_, h2⟩
  unfold eval
  simp only [Value.cells] at h1
  congr 1
  have : cs = cs.toList.toArray := by simp
  rw [this, h1]
  rfl

/-- What is left of a bound behind an entry. -/
def szE (e : EntV) (left : Int) : Int := if left - e.data.size < 0 then -1 else left - e.data.size

theorem szEntry_any (e : EntV) (left : Int) (h0 : 0 ≤ left) (h1 : left ≤ 1048576) (hd : e.data.size ≤ maxLen) (w : World) :
    Calls Tryd.prog 69 #[eval e, .int .i64 left] w fun r w' => r = .returned (.int .i64 (szE e left)) ∧ Below w.heap.size w w' := by
  obtain ⟨t, k, s⟩ := e
  simp only [eval, szE] at *
  unfold maxLen at hd
  have HB0 := hide ((Below.refl w.heap.size w).alloc (Nat.le_refl _) (.cells #[.int .i64 t, .int .i64 k, .string s] 106))
  by_cases c : left - s.size < 0
  · rw [if_pos c]
    go_enter Tryd.func69, Tryd.ntmps69
    go_wp2_with fail
    go_ret
    exact ⟨rfl, HB0.out⟩
  · rw [if_neg c]
    go_enter Tryd.func69, Tryd.ntmps69
    go_wp2_with fail
    go_ret
    exact ⟨rfl, HB0.out⟩

set_option maxHeartbeats 1000000 in
theorem toEntry_any (e : EntV) (w : World) :
    Calls Tryd.prog 71 #[eval e] w fun r w' => r = .returned (eval e) ∧ Below w.heap.size w w' := by
  obtain ⟨t, k, s⟩ := e
  simp only [eval]
  have HB0 := hide ((Below.refl w.heap.size w).alloc (Nat.le_refl _) (.cells #[.int .i64 t, .int .i64 k, .string s] 106))
  go_enter Tryd.func71, Tryd.ntmps71
  go_wp2_with fail
  refine bodyPost_ret (v := .agg #[.int .i64 t, .int .i64 k, .string s]) (by simp [results, Tryd.results71, go_sem]) rfl ⟨rfl, ?_⟩
  exact ((HB0.out.alloc (by simp) _).alloc (by simp; omega) _)

set_option maxHeartbeats 1000000 in
theorem eqEntry_any (e : EntV) (w : World) :
    Calls Tryd.prog 79 #[eval e, eval e] w fun r w' => r = .returned (.bool true) ∧ Below w.heap.size w w' := by
  obtain ⟨t, k, s⟩ := e
  simp only [eval]
  go_enter Tryd.func79, Tryd.ntmps79
  go_wp2_with fail
  all_goals first | go_quiet (fail) | skip
  go_wp2_with fail
  go_ret
  exact ⟨rfl, ((Below.refl _ _).alloc (Nat.le_refl _) _).alloc (by simp) _⟩

end Go.Proofs.YthbgklmnmoclhaaDoor
