/-
  Walks of chapter 3: DiskOk, of the specification and of the program.
-/
import Derived.Test.YtpenpbopehbncaaDoorWalk3a
import Derived.Deep.RegionHeld3
import Derived.Deep.QuietTactic
import Derived.BigQuiet
import Derived.Laws.Cover1
import Derived.Sort.Walk0
namespace Go.Proofs.YtpenpbopehbncaaDoor
open Go.RowKit P5 K
set_option linter.unusedVariables false
set_option linter.unusedSimpArgs false

theorem l01In_any (x a b : Int) (w : World) :
    Calls Tryd.prog 33 #[.int .i64 x, .int .i64 a, .int .i64 b] w fun e w' => e = .returned (.bool (decide (a ≤ x) && decide (x ≤ b))) ∧ w' = w := by
  by_cases h0 : a ≤ x
  · by_cases h1 : x ≤ b
    · go_enter Tryd.func33, Tryd.ntmps33
      go_wp2
      go_ret
      exact ⟨by simp [h0, h1, Act.eval], rfl⟩
    · go_enter Tryd.func33, Tryd.ntmps33
      go_wp2
      go_ret
      exact ⟨by simp [h0, h1, Act.eval], rfl⟩
  · have h2 : x < a := by omega
    go_enter Tryd.func33, Tryd.ntmps33
    go_wp2
    go_ret
    exact ⟨by simp; omega, rfl⟩

theorem nameOk_int (s : List UInt8) : (decide ((1 : Int) ≤ (s.length : Int)) && decide ((s.length : Int) ≤ 8)) = nameOk s := by
  unfold nameOk
  rw [Bool.eq_iff_iff]
  simp
  omega

theorem l03Name_any (s : List UInt8) (hs : s.length ≤ 9223372036854775807) (w : World) :
    Calls Tryd.prog 83 #[.string ⟨s.toArray⟩] w fun e w' => e = .returned (.bool (nameOk s)) ∧ w' = w := by
  go_enter Tryd.func83, Tryd.ntmps83
  go_wp2_with (go_at_call 33; refine (l01In_any _ _ _ _).mono ?_; rintro e w' ⟨rfl, rfl⟩)
  go_ret
  exact ⟨by rw [← nameOk_int]; rfl, rfl⟩

theorem implNameOk_any (s : List UInt8) (hs : s.length ≤ 9223372036854775807) (w : World) :
    Calls Tryd.prog 102 #[.string ⟨s.toArray⟩] w fun e w' => e = .returned (.bool (nameOk s)) ∧ w' = w := by
  by_cases h0 : 1 ≤ s.length
  · have g0 : (1 : Int) ≤ (s.length : Int) := by omega
    go_enter Tryd.func102, Tryd.ntmps102
    go_wp2
    go_ret
    exact ⟨by simp [nameOk, Act.eval, h0]; omega, rfl⟩
  · have g0 : ¬ (1 : Int) ≤ (s.length : Int) := by omega
    go_enter Tryd.func102, Tryd.ntmps102
    go_wp2
    go_ret
    exact ⟨by simp [nameOk, Act.eval, h0], rfl⟩

/-- A file of the program: is it right? -/
theorem right_any (f : FileV) (hn : f.name.length ≤ 9223372036854775807) (ht : f.text.length ≤ 9223372036854775807) (w : World) :
    Calls Tryd.prog 86 #[fval f] w fun e w' => e = .returned (.bool (fileOk f)) ∧ Below w.heap.size w w' := by
  obtain ⟨nm, tx, kp⟩ := f
  simp only [fval] at *
  have hb := (Below.refl w.heap.size w).alloc (Nat.le_refl _) (.cells #[.string ⟨nm.toArray⟩, .string ⟨tx.toArray⟩, .int .i64 kp] 89)
  have HB := hide hb
  clear hb
  unfold fileOk
  simp only []
  cases hnm : nameOk nm with
  | false =>
    have HN := hide hnm
    clear hnm
    go_enter Tryd.func86, Tryd.ntmps86
    go_wp2_with (go_at_call 102; refine (implNameOk_any _ hn _).mono ?_; rw [HN.out]; rintro e w' ⟨rfl, rfl⟩)
    go_ret
    exact ⟨rfl, HB.out⟩
  | true =>
    have HN := hide hnm
    clear hnm
    by_cases h1 : tx.length ≤ 20000
    · have g1 : (tx.length : Int) ≤ 20000 := by omega
      by_cases h2 : 0 ≤ kp
      · by_cases h3 : kp ≤ (tx.length : Int)
        · go_enter Tryd.func86, Tryd.ntmps86
          go_wp2_with (go_at_call 102; refine (implNameOk_any _ hn _).mono ?_; rw [HN.out]; rintro e w' ⟨rfl, rfl⟩)
          go_ret
          exact ⟨by simp [h1, h2, h3], HB.out⟩
        · go_enter Tryd.func86, Tryd.ntmps86
          go_wp2_with (go_at_call 102; refine (implNameOk_any _ hn _).mono ?_; rw [HN.out]; rintro e w' ⟨rfl, rfl⟩)
          go_ret
          exact ⟨by simp [h1, h2, h3], HB.out⟩
      · go_enter Tryd.func86, Tryd.ntmps86
        go_wp2_with (go_at_call 102; refine (implNameOk_any _ hn _).mono ?_; rw [HN.out]; rintro e w' ⟨rfl, rfl⟩)
        go_ret
        exact ⟨by simp [h1]; omega, HB.out⟩
    · have g1 : ¬ (tx.length : Int) ≤ 20000 := by omega
      go_enter Tryd.func86, Tryd.ntmps86
      go_wp2_with (go_at_call 102; refine (implNameOk_any _ hn _).mono ?_; rw [HN.out]; rintro e w' ⟨rfl, rfl⟩)
      go_ret
      exact ⟨by simp [h1], HB.out⟩

theorem okFrom_cons (p : Option (List UInt8)) (f : FileV) (r : List FileV) : okFrom p (f :: r) = (fileOk f && (match p with | none => true | some x => ltB x f.name) && okFrom (some f.name) r) := by cases p <;> rfl

/-- The name before place j. -/
def prevAt (fs : List FileV) (j : Nat) : Option (List UInt8) := if j = 0 then none else (fs[j - 1]?).map (·.name)

theorem drop_at {fs : List FileV} {j : Nat} {f : FileV} (hf : fs[j]? = some f) : fs.drop j = f :: fs.drop (j + 1) := by
  have hj : j < fs.length := (List.getElem?_eq_some_iff.1 hf).1
  rw [List.drop_eq_getElem_cons hj]
  congr 1
  exact (List.getElem?_eq_some_iff.1 hf).2

theorem prevAt_next {fs : List FileV} {j : Nat} {f : FileV} (hf : fs[j]? = some f) : prevAt fs (j + 1) = some f.name := by simp [prevAt, hf]

theorem less_eq (x y : List UInt8) : Op.bytesLess (⟨x.toArray⟩ : ByteArray).toList (⟨y.toArray⟩ : ByteArray).toList = ltB x y := by
  rw [bytesLess_eq, Lib.toList_data, Lib.toList_data]
  rfl

set_option maxHeartbeats 8000000 in
theorem specDiskOk_any (oa : Option Addr) (n cap : Nat) (fs : List FileV) (w : World) (hat : FilesAt w oa n cap fs) (hw : ∀ f ∈ fs, Fine f) :
    Calls Tryd.prog 57 #[.agg #[.slice oa n cap]] w fun e w' => e = .returned (.bool (diskOk fs)) ∧ Below w.heap.size w w' := by
  have hb0 := (Below.refl w.heap.size w).alloc (Nat.le_refl _) (.cells #[.slice oa n cap] 47)
  have hn := hat.len
  have hc := hat.room
  have hm := hat.most
  unfold maxLen at hm
  unfold diskOk
  rw [hn]
  by_cases c1 : n ≤ 30
  · have g1 : ¬ (30 : Int) < (n : Int) := by omega
    rw [decide_eq_true c1, Bool.true_and]
    have HN := hide hn
    have HAT := hide hat
    have HW := hide hw
    have HB0 := hide hb0
    clear hn hat hw hb0
    go_enter Tryd.func57, Tryd.ntmps57
    go_wp2_with fail
    go_loopw [3] (fun i wr => ∃ (j : Nat), i = .int .i64 (j : Int) ∧ j ≤ n ∧ okFrom (prevAt fs j) (fs.drop j) = okFrom none fs ∧ wr.cell? ⟨w.heap.size, 0, none⟩ = some (.slice oa n cap) ∧ Below w.heap.size w wr ∧ w.heap.size < wr.heap.size) (fun i _ => n - (intOf i).toNat)
    case atStart => exact ⟨0, rfl, Nat.zero_le _, rfl, by simp, HB0.out, by simp⟩
    case round =>
      obtain ⟨j, rfl, hj, hrest, hcd, hbel, hsz⟩ := hrel
      by_cases hlt : j < n
      · have j0 : (j : Int) < (n : Int) := by omega
        obtain ⟨f, b, q, hf, hidx, hb, c0, c1', c2⟩ := (HAT.out.below hbel).get Tryd.underlying45 infoIF j hlt
        have hwf := HW.out f (List.mem_of_getElem? hf)
        have hwn : f.name.length ≤ 9223372036854775807 := by have := hwf.1; omega
        have hwt : f.text.length ≤ 9223372036854775807 := by have := hwf.2.1; omega
        rw [drop_at hf, okFrom_cons] at hrest
        have HR := hide hrest
        have HF := hide hf
        clear hrest hf
        cases hnm : nameOk f.name with
        | false =>
          have HNO := hide (show false = okFrom none fs by rw [← HR.out]; simp [fileOk, hnm])
          go_wp2_with fail
          go_quiet (first
            | (go_at_call 83; exact Calls.quiet_of_same (l03Name_any _ hwn _))
            | (go_at_call 33; exact Calls.quiet_of_same (l01In_any _ _ _ _)))
          go_wp2_with fail
          go_ret
          exact ⟨by rw [← HNO.out]; rfl, below_drewN (hbel.alloc (by omega) _) _⟩
        | true =>
          by_cases ht : f.text.length ≤ 20000
          · have gt : decide ((20000 : Int) < (f.text.length : Int)) = false := by simp; omega
            by_cases hk : 0 ≤ f.kept ∧ f.kept ≤ (f.text.length : Int)
            · have gk0 := hk.1
              have gk1 := hk.2
              have HFO := hide (show fileOk f = true by simp [fileOk, hnm, ht, gk0, gk1])
              by_cases hj0 : j = 0
              · have gj : decide (0 < j) = false := by simp [hj0]
                have HYES := hide (show okFrom (prevAt fs (j + 1)) (fs.drop (j + 1)) = okFrom none fs by rw [← HR.out, HFO.out, prevAt_next HF.out]; simp [prevAt, hj0])
                have HJ0 := hide hj0
                clear hj0
                go_wp2_with fail
                go_quiet (first
                  | (go_at_call 83; exact Calls.quiet_of_same (l03Name_any _ hwn _))
                  | (go_at_call 33; exact Calls.quiet_of_same (l01In_any _ _ _ _)))
                go_wp2_with fail
                go_roundw
                case rel => exact ⟨j + 1, by go_num, by omega, HYES.out, ((below_drewN ((Below.refl wr.heap.size wr).alloc (Nat.le_refl _) _) _).cell (p := ⟨w.heap.size, 0, none⟩) hsz).trans hcd, below_drewN (hbel.alloc (by omega) _) _, by simp; omega⟩
                case measure => simp [intOf]; omega
              · have gj : decide (0 < j) = true := by simp; omega
                obtain ⟨p, b', q', hp, hidx', hb', c0', c1'', c2'⟩ := (HAT.out.below hbel).get Tryd.underlying45 infoIF (j - 1) (by omega)
                have hjc : ((j - 1 : Nat) : Int) = (j : Int) - 1 := by omega
                rw [hjc] at hidx'
                have hpv : prevAt fs j = some p.name := by simp [prevAt, hj0, hp]
                have hwr : IntKind.i64.wrap ((j : Int) - 1) = (j : Int) - 1 := by rw [IntKind.wrap_i64]; omega
                have HPV := hide hpv
                clear hpv hp hjc
                cases hlb : ltB p.name f.name with
                | false =>
                  have HNO := hide (show false = okFrom none fs by rw [← HR.out, HPV.out]; simp [hlb])
                  have HL : Op.bytesLess p.name f.name = false := by rw [bytesLess_eq]; exact hlb
                  go_wp2_with fail
                  go_quiet (first
                    | (go_at_call 83; exact Calls.quiet_of_same (l03Name_any _ hwn _))
                    | (go_at_call 33; exact Calls.quiet_of_same (l01In_any _ _ _ _)))
                  go_wp2_with fail
                  go_ret
                  exact ⟨by rw [← HNO.out]; rfl, below_drewN (hbel.alloc (by omega) _) _⟩
                | true =>
                  have HYES := hide (show okFrom (prevAt fs (j + 1)) (fs.drop (j + 1)) = okFrom none fs by rw [← HR.out, HPV.out, HFO.out, prevAt_next HF.out]; simp [hlb])
                  have HL : Op.bytesLess p.name f.name = true := by rw [bytesLess_eq]; exact hlb
                  go_wp2_with fail
                  go_quiet (first
                    | (go_at_call 83; exact Calls.quiet_of_same (l03Name_any _ hwn _))
                    | (go_at_call 33; exact Calls.quiet_of_same (l01In_any _ _ _ _)))
                  go_wp2_with fail
                  go_roundw
                  case rel => exact ⟨j + 1, by go_num, by omega, HYES.out, ((below_drewN ((Below.refl wr.heap.size wr).alloc (Nat.le_refl _) _) _).cell (p := ⟨w.heap.size, 0, none⟩) hsz).trans hcd, below_drewN (hbel.alloc (by omega) _) _, by simp; omega⟩
                  case measure => simp [intOf]; omega
            · have HNO := hide (show false = okFrom none fs by rw [← HR.out]; simp [fileOk, hnm, ht]; omega)
              have gk : (decide (0 ≤ f.kept) && decide (f.kept ≤ (f.text.length : Int))) = false := by simp; omega
              go_wp2_with fail
              go_quiet (first
                | (go_at_call 83; exact Calls.quiet_of_same (l03Name_any _ hwn _))
                | (go_at_call 33; exact Calls.quiet_of_same (l01In_any _ _ _ _)))
              go_wp2_with fail
              go_ret
              exact ⟨by rw [← HNO.out]; rfl, below_drewN (hbel.alloc (by omega) _) _⟩
          · have gt : decide ((20000 : Int) < (f.text.length : Int)) = true := by simp; omega
            have HNO := hide (show false = okFrom none fs by rw [← HR.out]; simp [fileOk, hnm, ht])
            go_wp2_with fail
            go_quiet (first
              | (go_at_call 83; exact Calls.quiet_of_same (l03Name_any _ hwn _))
              | (go_at_call 33; exact Calls.quiet_of_same (l01In_any _ _ _ _)))
            go_wp2_with fail
            go_ret
            exact ⟨by rw [← HNO.out]; rfl, below_drewN (hbel.alloc (by omega) _) _⟩
      · have hjn : j = n := by omega
        have HR := hide hrest
        go_wp2_with fail
        go_ret
        refine ⟨?_, hbel⟩
        rw [← HR.out, hjn, ← HN.out, List.drop_length]
        cases prevAt fs fs.length <;> rfl
  · have g1 : (30 : Int) < (n : Int) := by omega
    rw [decide_eq_false c1, Bool.false_and]
    have HB0 := hide hb0
    clear hb0 hn hat hw
    go_enter Tryd.func57, Tryd.ntmps57
    go_wp2_with fail
    go_ret
    exact ⟨rfl, HB0.out⟩


end Go.Proofs.YtpenpbopehbncaaDoor
