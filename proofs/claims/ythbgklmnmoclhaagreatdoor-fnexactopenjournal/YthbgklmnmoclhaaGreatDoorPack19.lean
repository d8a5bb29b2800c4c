/-
  Walks of chapter 3: FileAt, of the specification and of the program.
  Walks of chapter 1: ReadVar, of the specification and of the program.
  Walks of chapter 1: ReadVar of the specification.
-/
import Derived.Test.YthbgklmnmoclhaaGreatDoorPack18
import Derived.Test.YthbgklmnmoclhaaGreatDoorShelf
import Derived.Test.YthbgklmnmoclhaaGreatDoorPack2
import Derived.Deep.RegionWith
import Derived.Deep.RegionHeld3
import Derived.Deep.QuietTactic
import Derived.BigQuiet
import Derived.WalkSmall
import Derived.Lib.Strings
namespace Go.Proofs.YthbgklmnmoclhaaGreatDoor
open Go.RowKit P5 K
set_option linter.unusedVariables false
set_option linter.unusedSimpArgs false

theorem stringsClone3_any (s : ByteArray) (hs : s.size ≤ 281474976710656) (w : World) :
    Calls Tryz.prog 74 #[.string s] w fun e w' => e = .returned (.string s) ∧ Below w.heap.size w w' := by
  go_enter Tryz.func74, Tryz.ntmps74
  go_wp2_with (go_at_call 93; refine (Tryz.stringslite_Clone s _ hs).mono ?_; rintro e w1 ⟨rfl, hb1⟩)
  go_ret
  exact ⟨rfl, hb1⟩

/-- The place of the file of a name. -/
def atFrom (nm : List UInt8) : List FileV → Nat → Int
  | [], _ => -1
  | f :: r, k => if f.name == nm then (k : Int) else atFrom nm r (k + 1)

theorem atFrom_cons (nm : List UInt8) (f : FileV) (r : List FileV) (k : Nat) : atFrom nm (f :: r) k = if f.name == nm then (k : Int) else atFrom nm r (k + 1) := rfl

theorem atFrom_spec (nm : List UInt8) : ∀ (fs : List FileV) (k : Nat), (atFrom nm fs k = -1 ∧ fileAt fs nm = none) ∨ ∃ i f, atFrom nm fs k = ((k + i : Nat) : Int) ∧ fs[i]? = some f ∧ fileAt fs nm = some f ∧ f.name = nm
  | [], k => Or.inl ⟨rfl, rfl⟩
  | f :: r, k => by
    rw [atFrom_cons]
    unfold fileAt
    rw [List.find?_cons]
    by_cases h : f.name = nm
    · right
      exact ⟨0, f, by simp [h], rfl, by simp [h], h⟩
    · have h1 : (f.name == nm) = false := by simpa using h
      rw [h1]
      rcases atFrom_spec nm r (k + 1) with ⟨e1, e2⟩ | ⟨i, g, e1, e2, e3, e4⟩
      · exact Or.inl ⟨by simpa using e1, e2⟩
      · refine Or.inr ⟨i + 1, g, ?_, by simpa using e2, e3, e4⟩
        simp only [Bool.false_eq_true, if_false]
        rw [e1]
        omega

set_option maxHeartbeats 1000000 in
theorem l03At_any (oa : Option Addr) (n cap : Nat) (fs : List FileV) (nm : List UInt8) (w : World) (hat : FilesAt w oa n cap fs) :
    Calls Tryz.prog 22 #[.agg #[.slice oa n cap], .string ⟨nm.toArray⟩] w fun e w' => e = .returned (.int .i64 (atFrom nm fs 0)) ∧ Below w.heap.size w w' := by
  have hb0 := (Below.refl w.heap.size w).alloc (Nat.le_refl _) (.cells #[.slice oa n cap] 36)
  have hn := hat.len
  have hc := hat.room
  have hm := hat.most
  unfold maxLen at hm
  have HN := hide hn
  have HAT := hide hat
  have HB0 := hide hb0
  clear hn hat hb0
  go_enter Tryz.func22, Tryz.ntmps22
  go_wp2_with fail
  go_loopw [5] (fun i wr => ∃ (j : Nat), i = .int .i64 (j : Int) ∧ j ≤ n ∧ atFrom nm (fs.drop j) j = atFrom nm fs 0 ∧ wr = w.alloc (.cells #[.slice oa n cap] 36)) (fun i _ => n - (intOf i).toNat)
  case atStart => exact ⟨0, rfl, Nat.zero_le _, rfl, rfl⟩
  case round =>
    obtain ⟨j, rfl, hj, hrest, rfl⟩ := hrel
    by_cases hlt : j < n
    · have j0 : (j : Int) < (n : Int) := by omega
      obtain ⟨f, b, q, hf, hidx, hb, c0, c1', c2⟩ := (HAT.out).get Tryz.underlying34 infoIF j hlt
      rw [drop_at hf, atFrom_cons] at hrest
      have HR := hide hrest
      clear hrest hf
      cases hd : (f.name == nm) with
      | true =>
        have HR2 := hide (show (j : Int) = atFrom nm fs 0 by rw [← HR.out, hd]; rfl)
        go_wp2_with fail
        go_ret
        exact ⟨by rw [← HR2.out]; rfl, HB0.out⟩
      | false =>
        have HR2 := hide (show atFrom nm (fs.drop (j + 1)) (j + 1) = atFrom nm fs 0 by rw [← HR.out, hd]; rfl)
        go_wp2_with fail
        go_roundw
        case rel => exact ⟨j + 1, by go_num, by omega, HR2.out, trivial⟩
        case measure => simp [intOf]; omega
    · have hjn : j = n := by omega
      have HR := hide hrest
      go_wp2_with fail
      go_ret
      refine ⟨?_, HB0.out⟩
      rw [← HR.out, hjn, ← HN.out, List.drop_length]
      rfl

def textAt (fs : List FileV) (nm : List UInt8) : List UInt8 := ((fileAt fs nm).map (·.text)).getD []
def hasAt (fs : List FileV) (nm : List UInt8) : Bool := (fileAt fs nm).isSome

set_option maxHeartbeats 1000000 in
theorem specFileAt_any (oa : Option Addr) (n cap : Nat) (fs : List FileV) (nm : List UInt8) (w : World) (hat : FilesAt w oa n cap fs) :
    Calls Tryz.prog 19 #[.agg #[.slice oa n cap], .string ⟨nm.toArray⟩] w fun e w' => e = .returned (.tuple #[.string ⟨(textAt fs nm).toArray⟩, .bool (hasAt fs nm)]) ∧ Below w.heap.size w w' := by
  have hb0 := (Below.refl w.heap.size w).alloc (Nat.le_refl _) (.cells #[.slice oa n cap] 36)
  have HAT := hide (hat.below hb0)
  have HB0 := hide hb0
  have hn := hat.len
  clear hat hb0
  rcases atFrom_spec nm fs 0 with ⟨e1, e2⟩ | ⟨i, f, e1, e2, e3, e4⟩
  · have HT := hide (show textAt fs nm = [] ∧ hasAt fs nm = false by simp [textAt, hasAt, e2])
    have E1 := hide e1
    clear e1 e2 hn
    go_enter Tryz.func19, Tryz.ntmps19
    go_wp2_with (go_at_call 22; refine (l03At_any oa n cap fs nm _ HAT.out).mono ?_; rw [E1.out]; rintro e w2 ⟨rfl, hb2⟩)
    go_ret2
    exact ⟨by rw [HT.out.1, HT.out.2]; rfl, HB0.out.trans (hb2.mono (by simp))⟩
  · have HT := hide (show textAt fs nm = f.text ∧ hasAt fs nm = true by simp [textAt, hasAt, e3])
    have hin : i < n := by rw [← hn]; exact (List.getElem?_eq_some_iff.1 e2).1
    rw [Nat.zero_add] at e1
    have E1 := hide e1
    have E2 := hide e2
    have i0 : ¬ (i : Int) < 0 := by omega
    clear e1 e2 e3 hn e4
    go_enter Tryz.func19, Tryz.ntmps19
    go_wp2_with fail
    refine (l03At_any oa n cap fs nm _ HAT.out).mono ?_
    rw [E1.out]
    rintro e w2 ⟨rfl, hb2⟩
    have k1 := hb2.cell (p := ⟨w.heap.size, 0, none⟩) (by simp)
    obtain ⟨f', b, q, hf, hidx, hb, c0, c1', c2⟩ := (HAT.out.below hb2).get Tryz.underlying34 infoIF i hin
    rw [E2.out] at hf
    cases hf
    go_wp2_with fail
    go_ret2
    exact ⟨by rw [HT.out.1, HT.out.2]; rfl, HB0.out.trans (hb2.mono (by simp))⟩

set_option maxHeartbeats 1000000 in
theorem implFileAt_any (oa : Option Addr) (n cap : Nat) (fs : List FileV) (nm : List UInt8) (w : World) (hat : FilesAt w oa n cap fs) (hw : ∀ f ∈ fs, Fine f) :
    Calls Tryz.prog 49 #[.agg #[.slice oa n cap], .string ⟨nm.toArray⟩] w fun e w' => e = .returned (.tuple #[.string ⟨(textAt fs nm).toArray⟩, .bool (hasAt fs nm)]) ∧ Below w.heap.size w w' := by
  have hb0 := (Below.refl w.heap.size w).alloc (Nat.le_refl _) (.cells #[.slice oa n cap] 36)
  have hn := hat.len
  have hc := hat.room
  have hm := hat.most
  unfold maxLen at hm
  have HN := hide hn
  have HAT := hide hat
  have HB0 := hide hb0
  have HW := hide hw
  clear hn hat hb0 hw
  go_enter Tryz.func49, Tryz.ntmps49
  go_wp2_with fail
  go_loopw [11] (fun i wr => ∃ (j : Nat), i = .int .i64 (j : Int) ∧ j ≤ n ∧ fileAt (fs.drop j) nm = fileAt fs nm ∧ Below w.heap.size w wr ∧ w.heap.size < wr.heap.size) (fun i _ => n - (intOf i).toNat)
  case atStart => exact ⟨0, rfl, Nat.zero_le _, rfl, HB0.out, by simp⟩
  case round =>
    obtain ⟨j, rfl, hj, hrest, hbel, hsz⟩ := hrel
    by_cases hlt : j < n
    · have j0 : (j : Int) < (n : Int) := by omega
      obtain ⟨f, b, q, hf, hidx, hb, c0, c1', c2⟩ := (HAT.out.below hbel).get Tryz.underlying34 infoIF j hlt
      have hwf := HW.out f (List.mem_of_getElem? hf)
      have hwt : (⟨f.text.toArray⟩ : ByteArray).size ≤ 281474976710656 := by
        have := hwf.2.1
        have h3 : (⟨f.text.toArray⟩ : ByteArray).size = f.text.length := by simp [ByteArray.size]
        omega
      rw [drop_at hf] at hrest
      have HR := hide hrest
      clear hrest hf
      cases hd : (f.name == nm) with
      | true =>
        have HT := hide (show textAt fs nm = f.text ∧ hasAt fs nm = true by
          have h1 := HR.out
          unfold fileAt at h1
          rw [List.find?_cons, hd] at h1
          simp [textAt, hasAt, fileAt, ← h1])
        go_wp2_with (go_at_call 74; refine (stringsClone3_any _ hwt _).mono ?_; rintro e w2 ⟨rfl, hb2⟩)
        go_ret2
        exact ⟨by rw [HT.out.1, HT.out.2]; rfl, (hbel.alloc (by omega) _).trans (hb2.mono (by simp; omega))⟩
      | false =>
        have HR2 := hide (show fileAt (fs.drop (j + 1)) nm = fileAt fs nm by
          have h1 := HR.out
          unfold fileAt at h1
          rw [List.find?_cons, hd] at h1
          exact h1)
        go_wp2_with fail
        go_roundw
        case rel => exact ⟨j + 1, by go_num, by omega, HR2.out, hbel.alloc (by omega) _, by simp; omega⟩
        case measure => simp [intOf]; omega
    · have hjn : j = n := by omega
      have HT := hide (show textAt fs nm = [] ∧ hasAt fs nm = false by
        have h1 := hrest
        rw [hjn, ← HN.out, List.drop_length] at h1
        have h2 : fileAt fs nm = none := by rw [← h1]; rfl
        simp [textAt, hasAt, h2])
      clear hrest
      go_wp2_with fail
      go_ret2
      exact ⟨by rw [HT.out.1, HT.out.2]; rfl, hbel⟩

end Go.Proofs.YthbgklmnmoclhaaGreatDoor

namespace Go.Proofs.YthbgklmnmoclhaaGreatDoor
open Go.RowKit P1 K
set_option linter.unusedVariables false

/-- The results of ReadVar as values. -/
def rvVal (a : Nat) : Option (Nat × Nat) → Value
  | none => .tuple #[.int .i64 0, .int .i64 0, .bool false]
  | some (v, c) => .tuple #[.int .i64 v, .int .i64 (a + c : Nat), .bool true]

/-- What the loops of ReadVar carry. -/
def RdRel (s : ByteArray) (a : Nat) (n sc p : Nat) : Prop :=
  ∃ (f : Nat) (pre : List UInt8), p = a + pre.length ∧ p ≤ s.size ∧ pre.length + f = 5 ∧ n = rawV pre ∧ sc = 128 ^ pre.length ∧ pre = ((bl s).drop a).take pre.length ∧ (∀ c ∈ pre, 128 ≤ c.toNat) ∧
    rdGo f pre ((bl s).drop p) = rdGo 5 [] ((bl s).drop a)

theorem RdRel.bounds {s : ByteArray} {a n sc p : Nat} (h : RdRel s a n sc p) : a ≤ p ∧ p ≤ s.size ∧ p ≤ a + 5 ∧ n < 34359738368 ∧ sc ≤ 34359738368 ∧ (p < a + 5 → sc ≤ 268435456 ∧ n < 268435456) ∧ (p = a + 5 → sc = 34359738368) ∧ 1 ≤ sc ∧ (p = a → n = 0 ∧ sc = 1) := by
  obtain ⟨f, pre, rfl, h1, h2, rfl, rfl, _⟩ := h
  have h3 := rawV_lt pre
  rcases (show pre.length = 0 ∨ pre.length = 1 ∨ pre.length = 2 ∨ pre.length = 3 ∨ pre.length = 4 ∨ pre.length = 5 by omega) with e | e | e | e | e | e <;> (rw [e] at h3 ⊢; refine ⟨by omega, by omega, by omega, by omega, by omega, fun _ => ⟨by omega, by omega⟩, fun _ => by omega, by omega, fun _ => ⟨by omega, by omega⟩⟩)

theorem RdRel.start (s : ByteArray) (a : Nat) (ha : a ≤ s.size) : RdRel s a 0 1 a :=
  ⟨5, [], rfl, ha, rfl, rfl, rfl, by simp, by simp, rfl⟩

theorem RdRel.on {s : ByteArray} {a n sc p : Nat} (h : RdRel s a n sc p) (hp : p < s.size) (h5 : p < a + 5) (hb : 128 ≤ s[p].toNat) : RdRel s a (n + (s[p].toNat - 128) * sc) (sc * 128) (p + 1) := by
  obtain ⟨f, pre, rfl, h1, h2, rfl, rfl, h3, h4, h6⟩ := h
  cases f with
  | zero => omega
  | succ f =>
    refine ⟨f, pre ++ [s[a + pre.length]], by simp; omega, by omega, by simp; omega, by rw [rawV_snoc], by simp [Nat.pow_succ], ?_, ?_, ?_⟩
    · rw [List.length_append, List.length_singleton, List.take_succ_eq_append_getElem (by rw [List.length_drop, bl_length]; omega), ← h3]
      simp
      rfl
    · intro c hc
      rcases List.mem_append.1 hc with hc | hc
      · exact h4 c hc
      · simp at hc; subst hc; exact hb
    · rw [← h6, bl_drop s _ hp, rdGo_on _ _ _ _ (by omega)]

theorem RdRel.yes {s : ByteArray} {a n sc p : Nat} (h : RdRel s a n sc p) (hp : p < s.size) (h5 : p < a + 5) (hb : s[p].toNat < 128) (h0 : p = a ∨ s[p].toNat ≠ 0) (hm : n + s[p].toNat * sc ≤ 1000000000) :
    rdGo 5 [] ((bl s).drop a) = some (n + s[p].toNat * sc, p + 1 - a) ∧ varB (n + s[p].toNat * sc) = ((bl s).drop a).take (p + 1 - a) := by
  obtain ⟨f, pre, rfl, h1, h2, rfl, rfl, h3, h4, h6⟩ := h
  have hne : pre = [] ∨ s[a + pre.length].toNat ≠ 0 := by
    rcases h0 with h0 | h0
    · left; exact List.eq_nil_of_length_eq_zero (by omega)
    · right; exact h0
  have e1 : a + pre.length + 1 - a = pre.length + 1 := by omega
  cases f with
  | zero => omega
  | succ f =>
    constructor
    · rw [← h6, bl_drop s _ hp, rdGo_yes _ _ _ _ hb hne hm, e1]
    · unfold varB
      rw [varF_raw pre _ hb h4 hne 9 (by omega), e1, List.take_succ_eq_append_getElem (by rw [List.length_drop, bl_length]; omega), ← h3]
      simp
      rfl

theorem RdRel.long {s : ByteArray} {a n sc p : Nat} (h : RdRel s a n sc p) (hp : p < s.size) (h5 : p < a + 5) (hb : s[p].toNat = 0) (h0 : a < p) :
    rdGo 5 [] ((bl s).drop a) = none ∧ varB (n + s[p].toNat * sc) ≠ ((bl s).drop a).take (p + 1 - a) := by
  obtain ⟨f, pre, rfl, h1, h2, rfl, rfl, h3, h4, h6⟩ := h
  have hne : pre ≠ [] := by intro h; subst h; simp at h0
  have e1 : a + pre.length + 1 - a = pre.length + 1 := by omega
  cases f with
  | zero => omega
  | succ f =>
    constructor
    · rw [← h6, bl_drop s _ hp, rdGo_long _ _ _ _ hb hne]
    · rw [e1, List.take_succ_eq_append_getElem (by rw [List.length_drop, bl_length]; omega), ← h3]
      have := varB_longer pre s[a + pre.length] hb hne
      simp only [List.getElem_drop]
      exact this

theorem RdRel.great {s : ByteArray} {a n sc p : Nat} (h : RdRel s a n sc p) (hp : p < s.size) (h5 : p < a + 5) (hb : s[p].toNat < 128) (hm : 1000000000 < n + s[p].toNat * sc) :
    rdGo 5 [] ((bl s).drop a) = none := by
  obtain ⟨f, pre, rfl, h1, h2, rfl, rfl, h3, h4, h6⟩ := h
  cases f with
  | zero => omega
  | succ f => rw [← h6, bl_drop s _ hp, rdGo_great _ _ _ _ hb hm]

theorem RdRel.out {s : ByteArray} {a n sc p : Nat} (h : RdRel s a n sc p) (hp : s.size ≤ p ∨ a + 5 ≤ p) : rdGo 5 [] ((bl s).drop a) = none := by
  obtain ⟨f, pre, rfl, h1, h2, rfl, rfl, h3, h4, h6⟩ := h
  rcases hp with hp | hp
  · rw [← h6, List.drop_eq_nil_of_le (by rw [bl_length]; exact hp), rdGo_nil]
  · obtain rfl : f = 0 := by omega
    rw [← h6]; rfl

theorem ret_rv_no {a : Nat} {r : Option (Nat × Nat)} (h : r = none) : Ending.returned (.tuple #[.int .i64 0, .int .i64 0, .bool false]) = .returned (rvVal a r) := by rw [h]; rfl

theorem ret_rv_yes {a v c : Nat} {r : Option (Nat × Nat)} {x y : Int} (h : r = some (v, c)) (hx : x = (v : Int)) (hy : y = ((a + c : Nat) : Int)) :
    Ending.returned (.tuple #[.int .i64 x, .int .i64 y, .bool true]) = .returned (rvVal a r) := by rw [h, hx, hy]; rfl

end Go.Proofs.YthbgklmnmoclhaaGreatDoor

namespace Go.Proofs.YthbgklmnmoclhaaGreatDoor
open Go.RowKit P1 K
set_option linter.unusedVariables false

theorem l01Var_int (x : Int) (h0 : 0 ≤ x) (h1 : x ≤ 1000000000) (w : World) :
    Calls Tryz.prog 63 #[.int .i64 x] w fun e w' => e = .returned (.string ⟨(varB x.toNat).toArray⟩) ∧ Below w.heap.size w w' := by
  obtain ⟨n, rfl⟩ := Int.eq_ofNat_of_zero_le h0
  exact l01Var_any n (by omega) w

set_option maxHeartbeats 1000000 in
theorem specReadVar_any (s : ByteArray) (hs : s.size ≤ 1048576) (a : Nat) (ha : a ≤ s.size) (w : World) :
    Calls Tryz.prog 60 #[.string s, .int .i64 a] w fun e w' => e = .returned (rvVal a (rdGo 5 [] ((bl s).drop a))) ∧ Below w.heap.size w w' := by
  go_enter Tryz.func60, Tryz.ntmps60
  go_wp2_with (go_at_call 37; refine (l01In_yes _ _ _ (by omega) (by omega) _).mono ?_; rintro e w' ⟨rfl, rfl⟩)
  go_loopw [7, 8, 9] (fun x y z wr => ∃ n sc p : Nat, x = .int .i64 n ∧ y = .int .i64 sc ∧ z = .int .i64 p ∧ RdRel s a n sc p ∧ w = wr) (fun _ _ z _ => s.size - (intOf z).toNat)
  case atStart => exact ⟨0, 1, a, rfl, rfl, rfl, RdRel.start s a ha, rfl⟩
  case round =>
    obtain ⟨n, sc, p, rfl, rfl, rfl, hr, rfl⟩ := hrel
    have hb := hr.bounds
    obtain ⟨b1, b2, b3, b4, b5, b6, b7, b8, b12⟩ := hb
    clear b12
    by_cases hp : p < s.size
    · by_cases h5 : p < a + 5
      · have b9 := b6 h5
        obtain ⟨b10, b11⟩ := b9
        clear b6 b7
        have hlt := s[p].toNat_lt
        have h5' : (p : Int) < (a : Int) + 5 := by omega
        by_cases hbig : 128 ≤ s[p].toNat
        · have R := hr.on hp h5 hbig
          have hpr : (0 : Int) ≤ ((s[p].toNat : Int) - 128) * (sc : Int) ∧ ((s[p].toNat : Int) - 128) * (sc : Int) ≤ 34091302912 := by
            constructor
            · exact Int.mul_nonneg (by omega) (by omega)
            · have := Int.mul_le_mul (show ((s[p].toNat : Int) - 128) ≤ 127 by omega) (show (sc : Int) ≤ 268435456 by omega) (by omega) (by omega)
              omega
          obtain ⟨hpr1, hpr2⟩ := hpr
          have hmod : (s[p].toNat : Int) % 128 = (s[p].toNat : Int) - 128 := by omega
          have hg : ¬ ((s[p].toNat : Int) < 128) := by omega
          have hcast : Hid (((s[p].toNat - 128 : Nat) : Int) = (s[p].toNat : Int) - 128) := by unfold Hid; omega
          go_wp2_with fail
          go_roundw
          case rel => exact ⟨_, _, p + 1, congrArg (Value.int .i64) (by rw [Int.natCast_add, Int.natCast_mul, hcast.out]), by go_num, by go_num, R, trivial⟩
          case measure => simp [intOf]; omega
        · have hb' : s[p].toNat < 128 := by omega
          clear hbig
          have hpr : (0 : Int) ≤ (s[p].toNat : Int) * (sc : Int) ∧ (s[p].toNat : Int) * (sc : Int) ≤ 34091302912 := by
            constructor
            · exact Int.mul_nonneg (by omega) (by omega)
            · have := Int.mul_le_mul (show (s[p].toNat : Int) ≤ 127 by omega) (show (sc : Int) ≤ 268435456 by omega) (by omega) (by omega)
              omega
          obtain ⟨hpr1, hpr2⟩ := hpr
          have hmod : (s[p].toNat : Int) % 128 = (s[p].toNat : Int) := by omega
          have hg : ((s[p].toNat : Int) < 128) := by omega
          have e : Hid (((n + s[p].toNat * sc : Nat) : Int) = (n : Int) + (s[p].toNat : Int) * (sc : Int)) := by unfold Hid; rw [Int.natCast_add, Int.natCast_mul]
          by_cases hmx : n + s[p].toNat * sc ≤ 1000000000
          · have hmx' : (n : Int) + (s[p].toNat : Int) * (sc : Int) ≤ 1000000000 := by have := e.out; omega
            have hmx2 : 0 ≤ (n : Int) + (s[p].toNat : Int) * (sc : Int) := by omega
            have ev : Hid ((((n : Int) + (s[p].toNat : Int) * (sc : Int))).toNat = n + s[p].toNat * sc) := by have := e.out; unfold Hid; omega
            have hwr : IntKind.i64.wrap ((p : Int) + 1) = (p : Int) + 1 := IntWalk.i64_in _ ⟨by omega, by omega⟩
            have hsl : ∀ wx, (Instr.slice 9 (.string s) (some (.int .i64 (a : Int))) (some (.int .i64 ((p : Int) + 1))) none).run Tryz.prog wx = .ok (.string (s.extract a (p + 1))) wx :=
              fun wx => run_slice_string (P := Tryz.prog) (w := wx) 9 s .i64 .i64 (a : Int) ((p : Int) + 1) Tryz.underlying9 (by omega) (by omega) (by omega)
            have hd : decide ((1000000000 : Int) < (n : Int) + (s[p].toNat : Int) * (sc : Int)) = false := by simp; omega
            by_cases hor : p = a ∨ s[p].toNat ≠ 0
            · have R := hr.yes hp h5 hb' hor hmx
              have hq : (varB ((n : Int) + (s[p].toNat : Int) * (sc : Int)).toNat == (s.extract a (p + 1)).toList) = true := by
                rw [ev.out, R.2, Lib.extract_toList]; simp
              have R1 := hide R.1
              clear R hor hmx
              go_wp2_with fail
              go_region_held3 (fun _ => True) (trivial) (first | (go_at_call 63; refine (l01Var_int _ hmx2 hmx' _).mono ?_; rintro e1 w1 ⟨rfl, hb1⟩))
              have hb2 : Below w.heap.size w w1 := ((Below.refl _ w).drew).trans hb1
              clear hb1
              go_wp2_with fail
              go_ret3
              exact ⟨ret_rv_yes R1.out (by rw [Int.natCast_add, Int.natCast_mul]) (by omega), hb2⟩
            · have R := hr.long hp h5 (by omega) (by omega)
              have hq : (varB ((n : Int) + (s[p].toNat : Int) * (sc : Int)).toNat == (s.extract a (p + 1)).toList) = false := by
                rw [ev.out, Lib.extract_toList]; simpa using R.2
              have R1 := hide R.1
              clear R hor hmx
              go_wp2_with fail
              go_region_held3 (fun _ => True) (trivial) (first | (go_at_call 63; refine (l01Var_int _ hmx2 hmx' _).mono ?_; rintro e1 w1 ⟨rfl, hb1⟩))
              have hb2 : Below w.heap.size w w1 := ((Below.refl _ w).drew).trans hb1
              clear hb1
              go_wp2_with fail
              go_ret3
              exact ⟨ret_rv_no R1.out, hb2⟩
          · have R := hide (hr.great hp h5 hb' (by omega))
            have hmx' : (1000000000 : Int) < (n : Int) + (s[p].toNat : Int) * (sc : Int) := by have := e.out; omega
            clear hmx
            have hd : decide ((1000000000 : Int) < (n : Int) + (s[p].toNat : Int) * (sc : Int)) = true := by simp; omega
            go_wp2_with fail
            go_quiet (fail)
            go_wp2
            go_ret3
            exact ⟨ret_rv_no R.out, below_drewN (Below.refl _ _) _⟩
      · have R := hide (hr.out (Or.inr (by omega)))
        have h5' : ¬ ((p : Int) < (a : Int) + 5) := by omega
        clear b6 b7 hr
        go_wp2_with fail
        go_ret3
        exact ⟨ret_rv_no R.out, Below.refl _ _⟩
    · have R := hide (hr.out (Or.inl (by omega)))
      clear b6 b7 hr
      go_wp2_with fail
      go_ret3
      exact ⟨ret_rv_no R.out, Below.refl _ _⟩

theorem specReadVar_off (s : ByteArray) (hs : s.size ≤ 1048576) (a : Int) (ha : a < 0 ∨ (s.size : Int) < a) (w : World) :
    Calls Tryz.prog 60 #[.string s, .int .i64 a] w fun e w' => e = .returned (.tuple #[.int .i64 0, .int .i64 0, .bool false]) ∧ w = w' := by
  go_enter Tryz.func60, Tryz.ntmps60
  go_wp2_with (go_at_call 37; refine (l01In_no _ _ _ (by omega) _).mono ?_; rintro e w' ⟨rfl, rfl⟩)
  go_ret3
  exact ⟨rfl, rfl⟩

end Go.Proofs.YthbgklmnmoclhaaGreatDoor
