/-
  Walks of chapter 3: FileAt, of the specification and of the program.
-/
import Derived.Test.YtgimbffogmhbgaaWalk3b
import Derived.Test.YtgimbffogmhbgaaShelf
namespace Go.Proofs.Ytgimbffogmhbgaa
open Go.RowKit P5 K
set_option linter.unusedVariables false
set_option linter.unusedSimpArgs false

theorem stringsClone3_any (s : ByteArray) (hs : s.size ≤ 281474976710656) (w : World) :
    Calls Try.prog 48 #[.string s] w fun e w' => e = .returned (.string s) ∧ Below w.heap.size w w' := by
  go_enter Try.func48, Try.ntmps48
  go_wp2_with (go_at_call 71; refine (Try.stringslite_Clone s _ hs).mono ?_; rintro e w1 ⟨rfl, hb1⟩)
  go_ret
  exact ⟨rfl, hb1⟩

/-- The place of the file of a name. -/
def atFrom (nm : List UInt8) : List FileV → Nat → Int
  | [], _ => -1
  | f :: r, k => if f.name == nm then (k : Int) else atFrom nm r (k + 1)

theorem atFrom_cons (nm : List UInt8) (f : FileV) (r : List FileV) (k : Nat) : atFrom nm (f :: r) k = if f.name == nm then (k : Int) else atFrom nm r (k + 1) := rfl

theorem atFrom_spec (nm : List UInt8) : ∀ (fs : List FileV) (k : Nat), (atFrom nm fs k = -1 ∧ fileAt fs nm = none) ∨ ∃ i f, atFrom nm fs k = ((k + i : Nat) : Int) ∧ fs[i]? = some f ∧ fileAt fs nm = some f ∧ f.name = nm
  | [], k => Or.inl ⟨rfl, rfl⟩
  | f :: r, k => by
    rw [atFrom_cons]
    unfold fileAt
    rw [List.find?_cons]
    by_cases h : f.name = nm
    · right
      exact ⟨0, f, by simp [h], rfl, by simp [h], h⟩
    · have h1 : (f.name == nm) = false := by simpa using h
      rw [h1]
      rcases atFrom_spec nm r (k + 1) with ⟨e1, e2⟩ | ⟨i, g, e1, e2, e3, e4⟩
      · exact Or.inl ⟨by simpa using e1, e2⟩
      · refine Or.inr ⟨i + 1, g, ?_, by simpa using e2, e3, e4⟩
        simp only [Bool.false_eq_true, if_false]
        rw [e1]
        omega

set_option maxHeartbeats 1000000 in
theorem l03At_any (oa : Option Addr) (n cap : Nat) (fs : List FileV) (nm : List UInt8) (w : World) (hat : FilesAt w oa n cap fs) :
    Calls Try.prog 69 #[.agg #[.slice oa n cap], .string ⟨nm.toArray⟩] w fun e w' => e = .returned (.int .i64 (atFrom nm fs 0)) ∧ Below w.heap.size w w' := by
  have hb0 := (Below.refl w.heap.size w).alloc (Nat.le_refl _) (.cells #[.slice oa n cap] 29)
  have hn := hat.len
  have hc := hat.room
  have hm := hat.most
  unfold maxLen at hm
  have HN := hide hn
  have HAT := hide hat
  have HB0 := hide hb0
  clear hn hat hb0
  go_enter Try.func69, Try.ntmps69
  go_wp2_with fail
  go_loopw [5] (fun i wr => ∃ (j : Nat), i = .int .i64 (j : Int) ∧ j ≤ n ∧ atFrom nm (fs.drop j) j = atFrom nm fs 0 ∧ wr = w.alloc (.cells #[.slice oa n cap] 29)) (fun i _ => n - (intOf i).toNat)
  case atStart => exact ⟨0, rfl, Nat.zero_le _, rfl, rfl⟩
  case round =>
    obtain ⟨j, rfl, hj, hrest, rfl⟩ := hrel
    by_cases hlt : j < n
    · have j0 : (j : Int) < (n : Int) := by omega
      obtain ⟨f, b, q, hf, hidx, hb, c0, c1', c2⟩ := (HAT.out).get Try.underlying27 infoIF j hlt
      rw [drop_at hf, atFrom_cons] at hrest
      have HR := hide hrest
      clear hrest hf
      cases hd : (f.name == nm) with
      | true =>
        have HR2 := hide (show (j : Int) = atFrom nm fs 0 by rw [← HR.out, hd]; rfl)
        go_wp2_with fail
        go_ret
        exact ⟨by rw [← HR2.out]; rfl, HB0.out⟩
      | false =>
        have HR2 := hide (show atFrom nm (fs.drop (j + 1)) (j + 1) = atFrom nm fs 0 by rw [← HR.out, hd]; rfl)
        go_wp2_with fail
        go_roundw
        case rel => exact ⟨j + 1, by go_num, by omega, HR2.out, trivial⟩
        case measure => simp [intOf]; omega
    · have hjn : j = n := by omega
      have HR := hide hrest
      go_wp2_with fail
      go_ret
      refine ⟨?_, HB0.out⟩
      rw [← HR.out, hjn, ← HN.out, List.drop_length]
      rfl

def textAt (fs : List FileV) (nm : List UInt8) : List UInt8 := ((fileAt fs nm).map (·.text)).getD []
def hasAt (fs : List FileV) (nm : List UInt8) : Bool := (fileAt fs nm).isSome

set_option maxHeartbeats 1000000 in
theorem implFileAt_any (oa : Option Addr) (n cap : Nat) (fs : List FileV) (nm : List UInt8) (w : World) (hat : FilesAt w oa n cap fs) (hw : ∀ f ∈ fs, Fine f) :
    Calls Try.prog 23 #[.agg #[.slice oa n cap], .string ⟨nm.toArray⟩] w fun e w' => e = .returned (.tuple #[.string ⟨(textAt fs nm).toArray⟩, .bool (hasAt fs nm)]) ∧ Below w.heap.size w w' := by
  have hb0 := (Below.refl w.heap.size w).alloc (Nat.le_refl _) (.cells #[.slice oa n cap] 29)
  have hn := hat.len
  have hc := hat.room
  have hm := hat.most
  unfold maxLen at hm
  have HN := hide hn
  have HAT := hide hat
  have HB0 := hide hb0
  have HW := hide hw
  clear hn hat hb0 hw
  go_enter Try.func23, Try.ntmps23
  go_wp2_with fail
  go_loopw [11] (fun i wr => ∃ (j : Nat), i = .int .i64 (j : Int) ∧ j ≤ n ∧ fileAt (fs.drop j) nm = fileAt fs nm ∧ Below w.heap.size w wr ∧ w.heap.size < wr.heap.size) (fun i _ => n - (intOf i).toNat)
  case atStart => exact ⟨0, rfl, Nat.zero_le _, rfl, HB0.out, by simp⟩
  case round =>
    obtain ⟨j, rfl, hj, hrest, hbel, hsz⟩ := hrel
    by_cases hlt : j < n
    · have j0 : (j : Int) < (n : Int) := by omega
      obtain ⟨f, b, q, hf, hidx, hb, c0, c1', c2⟩ := (HAT.out.below hbel).get Try.underlying27 infoIF j hlt
      have hwf := HW.out f (List.mem_of_getElem? hf)
      have hwt : (⟨f.text.toArray⟩ : ByteArray).size ≤ 281474976710656 := by
        have := hwf.2.1
        have h3 : (⟨f.text.toArray⟩ : ByteArray).size = f.text.length := by simp [ByteArray.size]
        omega
      rw [drop_at hf] at hrest
      have HR := hide hrest
      clear hrest hf
      cases hd : (f.name == nm) with
      | true =>
        have HT := hide (show textAt fs nm = f.text ∧ hasAt fs nm = true by
          have h1 := HR.out
          unfold fileAt at h1
          rw [List.find?_cons, hd] at h1
          simp [textAt, hasAt, fileAt, ← h1])
        go_wp2_with (go_at_call 48; refine (stringsClone3_any _ hwt _).mono ?_; rintro e w2 ⟨rfl, hb2⟩)
        go_ret2
        exact ⟨by rw [HT.out.1, HT.out.2]; rfl, (hbel.alloc (by omega) _).trans (hb2.mono (by simp; omega))⟩
      | false =>
        have HR2 := hide (show fileAt (fs.drop (j + 1)) nm = fileAt fs nm by
          have h1 := HR.out
          unfold fileAt at h1
          rw [List.find?_cons, hd] at h1
          exact h1)
        go_wp2_with fail
        go_roundw
        case rel => exact ⟨j + 1, by go_num, by omega, HR2.out, hbel.alloc (by omega) _, by simp; omega⟩
        case measure => simp [intOf]; omega
    · have hjn : j = n := by omega
      have HT := hide (show textAt fs nm = [] ∧ hasAt fs nm = false by
        have h1 := hrest
        rw [hjn, ← HN.out, List.drop_length] at h1
        have h2 : fileAt fs nm = none := by rw [← h1]; rfl
        simp [textAt, hasAt, h2])
      clear hrest
      go_wp2_with fail
      go_ret2
      exact ⟨by rw [HT.out.1, HT.out.2]; rfl, hbel⟩

end Go.Proofs.Ytgimbffogmhbgaa
