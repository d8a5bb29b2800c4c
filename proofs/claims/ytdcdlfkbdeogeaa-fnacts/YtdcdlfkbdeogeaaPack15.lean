/-
  Walks of chapter 3: FileAt, of the specification and of the program.
  Walks of chapter 3: copies of files.
-/
import Derived.Test.YtdcdlfkbdeogeaaPack8
import Derived.Test.YtdcdlfkbdeogeaaShelf
import Derived.Test.YtdcdlfkbdeogeaaFlat2
import Derived.Deep.RegionHeld3
namespace Go.Proofs.Ytdcdlfkbdeogeaa
open Go.RowKit P5 K
set_option linter.unusedVariables false
set_option linter.unusedSimpArgs false

theorem stringsClone3_any (s : ByteArray) (hs : s.size ≤ 281474976710656) (w : World) :
    Calls Try.prog 24 #[.string s] w fun e w' => e = .returned (.string s) ∧ Below w.heap.size w w' := by
  go_enter Try.func24, Try.ntmps24
  go_wp2_with (go_at_call 49; refine (Try.stringslite_Clone s _ hs).mono ?_; rintro e w1 ⟨rfl, hb1⟩)
  go_ret
  exact ⟨rfl, hb1⟩

/-- The place of the file of a name. -/
def atFrom (nm : List UInt8) : List FileV → Nat → Int
  | [], _ => -1
  | f :: r, k => if f.name == nm then (k : Int) else atFrom nm r (k + 1)

theorem atFrom_cons (nm : List UInt8) (f : FileV) (r : List FileV) (k : Nat) : atFrom nm (f :: r) k = if f.name == nm then (k : Int) else atFrom nm r (k + 1) := rfl

theorem atFrom_spec (nm : List UInt8) : ∀ (fs : List FileV) (k : Nat), (atFrom nm fs k = -1 ∧ fileAt fs nm = none) ∨ ∃ i f, atFrom nm fs k = ((k + i : Nat) : Int) ∧ fs[i]? = some f ∧ fileAt fs nm = some f ∧ f.name = nm
  | [], k => Or.inl ⟨rfl, rfl⟩
  | f :: r, k => by
    rw [atFrom_cons]
    unfold fileAt
    rw [List.find?_cons]
    by_cases h : f.name = nm
    · right
      exact ⟨0, f, by simp [h], rfl, by simp [h], h⟩
    · have h1 : (f.name == nm) = false := by simpa using h
      rw [h1]
      rcases atFrom_spec nm r (k + 1) with ⟨e1, e2⟩ | ⟨i, g, e1, e2, e3, e4⟩
      · exact Or.inl ⟨by simpa using e1, e2⟩
      · refine Or.inr ⟨i + 1, g, ?_, by simpa using e2, e3, e4⟩
        simp only [Bool.false_eq_true, if_false]
        rw [e1]
        omega

set_option maxHeartbeats 1000000 in
theorem l03At_any (oa : Option Addr) (n cap : Nat) (fs : List FileV) (nm : List UInt8) (w : World) (hat : FilesAt w oa n cap fs) :
    Calls Try.prog 47 #[.agg #[.slice oa n cap], .string ⟨nm.toArray⟩] w fun e w' => e = .returned (.int .i64 (atFrom nm fs 0)) ∧ Below w.heap.size w w' := by
  have hb0 := (Below.refl w.heap.size w).alloc (Nat.le_refl _) (.cells #[.slice oa n cap] 26)
  have hn := hat.len
  have hc := hat.room
  have hm := hat.most
  unfold maxLen at hm
  have HN := hide hn
  have HAT := hide hat
  have HB0 := hide hb0
  clear hn hat hb0
  go_enter Try.func47, Try.ntmps47
  go_wp2_with fail
  go_loopw [5] (fun i wr => ∃ (j : Nat), i = .int .i64 (j : Int) ∧ j ≤ n ∧ atFrom nm (fs.drop j) j = atFrom nm fs 0 ∧ wr = w.alloc (.cells #[.slice oa n cap] 26)) (fun i _ => n - (intOf i).toNat)
  case atStart => exact ⟨0, rfl, Nat.zero_le _, rfl, rfl⟩
  case round =>
    obtain ⟨j, rfl, hj, hrest, rfl⟩ := hrel
    by_cases hlt : j < n
    · have j0 : (j : Int) < (n : Int) := by omega
      obtain ⟨f, b, q, hf, hidx, hb, c0, c1', c2⟩ := (HAT.out).get Try.underlying24 infoIF j hlt
      rw [drop_at hf, atFrom_cons] at hrest
      have HR := hide hrest
      clear hrest hf
      cases hd : (f.name == nm) with
      | true =>
        have HR2 := hide (show (j : Int) = atFrom nm fs 0 by rw [← HR.out, hd]; rfl)
        go_wp2_with fail
        go_ret
        exact ⟨by rw [← HR2.out]; rfl, HB0.out⟩
      | false =>
        have HR2 := hide (show atFrom nm (fs.drop (j + 1)) (j + 1) = atFrom nm fs 0 by rw [← HR.out, hd]; rfl)
        go_wp2_with fail
        go_roundw
        case rel => exact ⟨j + 1, by go_num, by omega, HR2.out, trivial⟩
        case measure => simp [intOf]; omega
    · have hjn : j = n := by omega
      have HR := hide hrest
      go_wp2_with fail
      go_ret
      refine ⟨?_, HB0.out⟩
      rw [← HR.out, hjn, ← HN.out, List.drop_length]
      rfl

def textAt (fs : List FileV) (nm : List UInt8) : List UInt8 := ((fileAt fs nm).map (·.text)).getD []
def hasAt (fs : List FileV) (nm : List UInt8) : Bool := (fileAt fs nm).isSome

set_option maxHeartbeats 1000000 in
theorem implFileAt_any (oa : Option Addr) (n cap : Nat) (fs : List FileV) (nm : List UInt8) (w : World) (hat : FilesAt w oa n cap fs) (hw : ∀ f ∈ fs, Fine f) :
    Calls Try.prog 10 #[.agg #[.slice oa n cap], .string ⟨nm.toArray⟩] w fun e w' => e = .returned (.tuple #[.string ⟨(textAt fs nm).toArray⟩, .bool (hasAt fs nm)]) ∧ Below w.heap.size w w' := by
  have hb0 := (Below.refl w.heap.size w).alloc (Nat.le_refl _) (.cells #[.slice oa n cap] 26)
  have hn := hat.len
  have hc := hat.room
  have hm := hat.most
  unfold maxLen at hm
  have HN := hide hn
  have HAT := hide hat
  have HB0 := hide hb0
  have HW := hide hw
  clear hn hat hb0 hw
  go_enter Try.func10, Try.ntmps10
  go_wp2_with fail
  go_loopw [11] (fun i wr => ∃ (j : Nat), i = .int .i64 (j : Int) ∧ j ≤ n ∧ fileAt (fs.drop j) nm = fileAt fs nm ∧ Below w.heap.size w wr ∧ w.heap.size < wr.heap.size) (fun i _ => n - (intOf i).toNat)
  case atStart => exact ⟨0, rfl, Nat.zero_le _, rfl, HB0.out, by simp⟩
  case round =>
    obtain ⟨j, rfl, hj, hrest, hbel, hsz⟩ := hrel
    by_cases hlt : j < n
    · have j0 : (j : Int) < (n : Int) := by omega
      obtain ⟨f, b, q, hf, hidx, hb, c0, c1', c2⟩ := (HAT.out.below hbel).get Try.underlying24 infoIF j hlt
      have hwf := HW.out f (List.mem_of_getElem? hf)
      have hwt : (⟨f.text.toArray⟩ : ByteArray).size ≤ 281474976710656 := by
        have := hwf.2.1
        have h3 : (⟨f.text.toArray⟩ : ByteArray).size = f.text.length := by simp [ByteArray.size]
        omega
      rw [drop_at hf] at hrest
      have HR := hide hrest
      clear hrest hf
      cases hd : (f.name == nm) with
      | true =>
        have HT := hide (show textAt fs nm = f.text ∧ hasAt fs nm = true by
          have h1 := HR.out
          unfold fileAt at h1
          rw [List.find?_cons, hd] at h1
          simp [textAt, hasAt, fileAt, ← h1])
        go_wp2_with (go_at_call 24; refine (stringsClone3_any _ hwt _).mono ?_; rintro e w2 ⟨rfl, hb2⟩)
        go_ret2
        exact ⟨by rw [HT.out.1, HT.out.2]; rfl, (hbel.alloc (by omega) _).trans (hb2.mono (by simp; omega))⟩
      | false =>
        have HR2 := hide (show fileAt (fs.drop (j + 1)) nm = fileAt fs nm by
          have h1 := HR.out
          unfold fileAt at h1
          rw [List.find?_cons, hd] at h1
          exact h1)
        go_wp2_with fail
        go_roundw
        case rel => exact ⟨j + 1, by go_num, by omega, HR2.out, hbel.alloc (by omega) _, by simp; omega⟩
        case measure => simp [intOf]; omega
    · have hjn : j = n := by omega
      have HT := hide (show textAt fs nm = [] ∧ hasAt fs nm = false by
        have h1 := hrest
        rw [hjn, ← HN.out, List.drop_length] at h1
        have h2 : fileAt fs nm = none := by rw [← h1]; rfl
        simp [textAt, hasAt, h2])
      clear hrest
      go_wp2_with fail
      go_ret2
      exact ⟨by rw [HT.out.1, HT.out.2]; rfl, hbel⟩

end Go.Proofs.Ytdcdlfkbdeogeaa

namespace Go.Proofs.Ytdcdlfkbdeogeaa
open Go.RowKit P5 K
set_option linter.unusedVariables false
set_option linter.unusedSimpArgs false

/-- What a cell holds. -/
def cellOr (w : World) (p : Addr) : Value := (w.cell? p).getD undef

/-- Everything below B stands as in W; the variable of k cells at block b may be written. -/
def Held (B : Nat) (W : World) (b k : Nat) (w' : World) : Prop := Below B W w' ∧ B ≤ w'.heap.size ∧ w'.there b 0 k

theorem Held.drew {B : Nat} {W : World} {b k : Nat} {w' : World} (h : Held B W b k w') : Held B W b k w'.drew := ⟨h.1.drew, h.2.1, h.2.2⟩

theorem there_below {w w' : World} {b k : Nat} (h : w.there b 0 k) (hk : 0 < k) (hb : Below w.heap.size w w') : w'.there b 0 k := fun j hj => by
  obtain ⟨h1, h2⟩ := h j hj
  obtain ⟨u, hu⟩ := Option.isSome_iff_exists.1 h1
  have hlt := cell_lt hu
  exact ⟨by rw [hb.cell hlt, hu]; rfl, by rw [hb.frozen hlt]; exact h2⟩

theorem Held.below {B : Nat} {W : World} {b k : Nat} {w' w'' : World} (h : Held B W b k w') (hk : 0 < k) (hb : Below w'.heap.size w' w'') : Held B W b k w'' :=
  ⟨h.1.trans (hb.mono h.2.1), Nat.le_trans h.2.1 hb.size, there_below h.2.2 hk hb⟩

theorem Held.cell {B : Nat} {W : World} {b k : Nat} {w' : World} (h : Held B W b k w') {p : Addr} (hp : p.block < B) {u : Value} (hu : W.cell? p = some u) : w'.cell? p = some u := (h.1.cell hp).trans hu

theorem Held.room {B : Nat} {W : World} {b k : Nat} {w' : World} (h : Held B W b k w') {j : Nat} (hj : j < k) : w'.cell? ⟨b, j, none⟩ = some (cellOr w' ⟨b, j, none⟩) := by
  have := (h.2.2 j hj).1
  rw [Nat.zero_add] at this
  obtain ⟨u, hu⟩ := Option.isSome_iff_exists.1 this
  rw [cellOr, hu]
  rfl

theorem Held.free {B : Nat} {W : World} {b k : Nat} {w' : World} (h : Held B W b k w') {j : Nat} (hj : j < k) : w'.frozen? ⟨b, j, none⟩ = false := by
  have := (h.2.2 j hj).2
  rwa [Nat.zero_add] at this

theorem Held.set {B : Nat} {W : World} {b k : Nat} {w' : World} (h : Held B W b k w') {p : Addr} (hp : B ≤ p.block) (hs : p.spot = none) (u : Value) : Held B W b k (w'.setCell p u) := by
  obtain ⟨pb, po, ps⟩ := p
  simp only at hs
  subst hs
  exact ⟨h.1.setCell hp u, Nat.le_trans h.2.1 ((Below.refl 0 w').setCell (Nat.zero_le _) u).size, World.there_setCells h.2.2 pb po [u]⟩

set_option maxHeartbeats 1000000 in
theorem copied_any (f : FileV) (hn : f.name.length ≤ 20000000) (ht : f.text.length ≤ 20000000) (w : World) :
    Calls Try.prog 19 #[fval f] w fun e w' => e = .returned (fval f) ∧ Below w.heap.size w w' := by
  obtain ⟨nm, tx, kp⟩ := f
  simp only [fval] at *
  have hb := ((Below.refl w.heap.size w).alloc (Nat.le_refl _) (.cells #[.string ⟨nm.toArray⟩, .string ⟨tx.toArray⟩, .int .i64 kp] 49)).alloc (by simp) (.cells #[.string ⟨#[]⟩, .string ⟨#[]⟩, .int .i64 0] 49)
  obtain ⟨W, hW⟩ : ∃ W, W = ((w.alloc (.cells #[.string ⟨nm.toArray⟩, .string ⟨tx.toArray⟩, .int .i64 kp] 49)).alloc (.cells #[.string ⟨#[]⟩, .string ⟨#[]⟩, .int .i64 0] 49)) := ⟨_, rfl⟩
  have hH : Held (w.heap.size + 1) W (w.heap.size + 1) 3 W.drew := by
    subst hW
    refine ⟨(Below.refl _ _).drew, by simp, fun j hj => ?_⟩
    match j, hj with
    | 0, _ => simp
    | 1, _ => simp
    | 2, _ => simp
  have k0 : ∀ w', Held (w.heap.size + 1) W (w.heap.size + 1) 3 w' → w'.cell? ⟨w.heap.size, 0, none⟩ = some (.string ⟨nm.toArray⟩) := fun w' h => h.cell (by simp) (by subst hW; simp)
  have k1 : ∀ w', Held (w.heap.size + 1) W (w.heap.size + 1) 3 w' → w'.cell? ⟨w.heap.size, 1, none⟩ = some (.string ⟨tx.toArray⟩) := fun w' h => h.cell (by simp) (by subst hW; simp)
  have k2 : ∀ w', Held (w.heap.size + 1) W (w.heap.size + 1) 3 w' → w'.cell? ⟨w.heap.size, 2, none⟩ = some (.int .i64 kp) := fun w' h => h.cell (by simp) (by subst hW; simp)
  have r0 : ∀ w', Held (w.heap.size + 1) W (w.heap.size + 1) 3 w' → w'.cell? ⟨w.heap.size + 1, 0, none⟩ = some (cellOr w' ⟨w.heap.size + 1, 0, none⟩) := fun w' h => h.room (by omega)
  have r1 : ∀ w', Held (w.heap.size + 1) W (w.heap.size + 1) 3 w' → w'.cell? ⟨w.heap.size + 1, 1, none⟩ = some (cellOr w' ⟨w.heap.size + 1, 1, none⟩) := fun w' h => h.room (by omega)
  have r2 : ∀ w', Held (w.heap.size + 1) W (w.heap.size + 1) 3 w' → w'.cell? ⟨w.heap.size + 1, 2, none⟩ = some (cellOr w' ⟨w.heap.size + 1, 2, none⟩) := fun w' h => h.room (by omega)
  have q0 : ∀ w', Held (w.heap.size + 1) W (w.heap.size + 1) 3 w' → w'.frozen? ⟨w.heap.size + 1, 0, none⟩ = false := fun w' h => h.free (by omega)
  have q1 : ∀ w', Held (w.heap.size + 1) W (w.heap.size + 1) 3 w' → w'.frozen? ⟨w.heap.size + 1, 1, none⟩ = false := fun w' h => h.free (by omega)
  have q2 : ∀ w', Held (w.heap.size + 1) W (w.heap.size + 1) 3 w' → w'.frozen? ⟨w.heap.size + 1, 2, none⟩ = false := fun w' h => h.free (by omega)
  have HB := hide hb
  have HW := hide hW
  have hn' : (⟨nm.toArray⟩ : ByteArray).size ≤ 281474976710656 := by
    have h3 : (⟨nm.toArray⟩ : ByteArray).size = nm.length := by simp [ByteArray.size]
    omega
  have ht' : (⟨tx.toArray⟩ : ByteArray).size ≤ 281474976710656 := by
    have h3 : (⟨tx.toArray⟩ : ByteArray).size = tx.length := by simp [ByteArray.size]
    omega
  clear hb hW
  go_enter Try.func19, Try.ntmps19
  go_wp2_with fail
  rw [← HW.out]
  go_region_held3 (fun w' => Held (w.heap.size + 1) W (w.heap.size + 1) 3 w') (first | exact hH | (exact Held.below ‹_› (by omega) hb2) | exact ((Held.set ‹_› (by simp) rfl _).set (by simp) rfl _).set (by simp) rfl _)
    (first
      | (go_at_call 24; refine (stringsClone3_any _ (by first | exact hn' | exact ht') _).mono ?_; rintro e w2 ⟨rfl, hb2⟩))
  have h2 : Held (w.heap.size + 1) W (w.heap.size + 1) 3 w2 := by
    refine Held.below ?_ (by omega) hb2
    exact hH.below (by omega) (by assumption)
  have z0 := r0 w2 h2
  have z1 := r1 w2 h2
  have z2 := r2 w2 h2
  have hfin : Below w.heap.size w w2 := by
    have h3 := h2.1.mono (Nat.le_succ _)
    rw [HW.out] at h3
    exact HB.out.trans h3
  clear k0 k1 k2 r0 r1 r2 q0 q1 q2 hH
  go_wp2_with fail
  refine bodyPost_ret (v := fval ⟨nm, tx, kp⟩) (by simp [results, Try.results19, go_sem, fval, z0, z1, z2]) rfl ⟨rfl, ?_⟩
  exact ((hfin.setCell (by simp) _).setCell (by simp) _).setCell (by simp) _

end Go.Proofs.Ytdcdlfkbdeogeaa
