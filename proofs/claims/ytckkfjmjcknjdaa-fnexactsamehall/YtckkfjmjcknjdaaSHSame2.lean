/-
  Walks and mathematics of Same2.
-/
import Derived.Test.YtckkfjmjcknjdaaSHHallA3
import Derived.Laws.StructEq
import Derived.Deep.QuietTactic
import Derived.BigQuiet
namespace Go.Proofs.Ytckkfjmjcknjdaa.P1
end Go.Proofs.Ytckkfjmjcknjdaa.P1
namespace Go.Proofs.Ytckkfjmjcknjdaa.P11
end Go.Proofs.Ytckkfjmjcknjdaa.P11
namespace Go.Proofs.Ytckkfjmjcknjdaa.P14
end Go.Proofs.Ytckkfjmjcknjdaa.P14
namespace Go.Proofs.Ytckkfjmjcknjdaa.P3
end Go.Proofs.Ytckkfjmjcknjdaa.P3
namespace Go.Proofs.Ytckkfjmjcknjdaa.P5
end Go.Proofs.Ytckkfjmjcknjdaa.P5
namespace Go.Proofs.Ytckkfjmjcknjdaa
open Go.RowKit P1 P3 P5 P9 P11 P12 P14 K
set_option linter.unusedVariables false
set_option linter.unusedSimpArgs false

noncomputable def eqB {α : Type} (x y : α) : Bool := @decide (x = y) (Classical.propDecidable _)

theorem eqB_yes {α : Type} {x y : α} (h : x = y) : eqB x y = true := @decide_eq_true _ (Classical.propDecidable _) h

theorem eqB_no {α : Type} {x y : α} (h : x ≠ y) : eqB x y = false := @decide_eq_false _ (Classical.propDecidable _) h

theorem eqB_iff {α : Type} {x y : α} : eqB x y = true ↔ x = y := ⟨fun h => @of_decide_eq_true _ (Classical.propDecidable _) h, eqB_yes⟩

theorem take_same14 {α : Type} {s t : List α} {j : Nat} {x : α} (h : s.take j = t.take j) (h1 : s[j]? = some x) (h2 : t[j]? = some x) : s.take (j + 1) = t.take (j + 1) := by
  rw [List.take_add_one, List.take_add_one, h, h1, h2]

theorem underSs : Try.prog.underlying 59 = some (.struct (Try.prog.fieldsOf 59)) := by kernel_rfl

theorem fieldsSs : (Try.prog.fieldsOf 59).toList.map (fun f => (f.name == "_", f.type, f.offset)) = [(false, 3, 0), (false, 3, 1), (false, 9, 2)] := by kernel_rfl

theorem three_of14 {α : Type} : ∀ {l : List α}, l.length = 3 → ∃ a b c, l = [a, b, c]
  | [a, b, c], _ => ⟨a, b, c, rfl⟩
  | [], h => by simp at h
  | [_], h => by simp at h
  | [_, _], h => by simp at h
  | _ :: _ :: _ :: _ :: _, h => by simp at h

theorem two_of14 {α : Type} : ∀ {l : List α}, l.length = 2 → ∃ a b, l = [a, b]
  | [a, b], _ => ⟨a, b, rfl⟩
  | [], h => by simp at h
  | [_], h => by simp at h
  | _ :: _ :: _ :: _, h => by simp at h

theorem neqSes (a b c d : Int) (s t : ByteArray) (w : World) : (binOp .neq 59 (.agg #[.int .i64 a, .int .i64 b, .string s]) (.agg #[.int .i64 c, .int .i64 d, .string t])).run Try.prog w = .ok (.bool (!(a == c && (b == d && s.toList == t.toList)))) w := by
  have hp : Try.prog.stoodInHeld 59 = false := by kernel_rfl
  have hl := fieldsSs
  rw [run_neq_struct, run_equalIn_struct w 9999 _ _ _ underSs hp]
  generalize (Try.prog.fieldsOf 59).toList = fs at hl
  obtain ⟨f, g, h, rfl⟩ := three_of14 (show fs.length = 3 by have := congrArg List.length hl; simpa using this)
  simp only [List.map_cons, List.map_nil, List.cons.injEq, Prod.mk.injEq, and_true, beq_eq_false_iff_ne, ne_eq] at hl
  obtain ⟨⟨h1, h2, h3⟩, ⟨h4, h5, h6⟩, ⟨h7, h8, h9⟩⟩ := hl
  have hI := fun (x y : Int) (w : World) => run_equalIn_int (P := Try.prog) w 9998 3 .i64 .i64 x y Try.underlying3
  have hS := fun (x y : ByteArray) (w : World) => run_equalIn_string (P := Try.prog) (w := w) 9998 9 x y Try.underlying9
  cases hac : (a == c) <;> cases hbd : (b == d) <;> by_cases hst : s.toList = t.toList <;> simp [hst, Op.eqFields, h1, h2, h3, h4, h5, h6, h7, h8, h9, part, hI, hac, hbd, Result.andThen, Try.sizeOf3, Try.sizeOf9, hS]

theorem ses_same (x y : SesV) : (x.term == y.term && (x.kind == y.kind && x.data.toList == y.data.toList)) = eqB x y := by
  rw [Bool.eq_iff_iff, eqB_iff]
  obtain ⟨a, b, s⟩ := x
  obtain ⟨c, d, t⟩ := y
  simp only [Bool.and_eq_true, beq_iff_eq, SesV.mk.injEq]
  rw [Lib.toList_data, Lib.toList_data]
  constructor
  · rintro ⟨h1, h2, h3⟩
    refine ⟨h1, h2, ?_⟩
    apply ByteArray.ext
    exact Array.ext' h3
  · rintro ⟨h1, h2, h3⟩
    exact ⟨h1, h2, by rw [h3]⟩

theorem neqItem14 (a b c d : Int) (w : World) : (binOp .neq 100 (.agg #[.int .i64 a, .int .i64 b]) (.agg #[.int .i64 c, .int .i64 d])).run Try.prog w = .ok (.bool (!(a == c && b == d))) w := by
  have hf : Try.prog.underlying 100 = some (.struct (Try.prog.fieldsOf 100)) := by kernel_rfl
  have hp : Try.prog.stoodInHeld 100 = false := by kernel_rfl
  have hl : (Try.prog.fieldsOf 100).toList.map (fun f => (f.name == "_", f.type, f.offset)) = [(false, 3, 0), (false, 3, 1)] := by kernel_rfl
  rw [run_neq_struct, run_equalIn_struct w 9999 _ _ _ hf hp]
  generalize (Try.prog.fieldsOf 100).toList = fs at hl
  obtain ⟨f, g, rfl⟩ := two_of14 (show fs.length = 2 by have := congrArg List.length hl; simpa using this)
  simp only [List.map_cons, List.map_nil, List.cons.injEq, Prod.mk.injEq, and_true, beq_eq_false_iff_ne, ne_eq] at hl
  obtain ⟨⟨h1, h2, h3⟩, ⟨h4, h5, h6⟩⟩ := hl
  have hI := fun (x y : Int) (w : World) => run_equalIn_int (P := Try.prog) w 9998 3 .i64 .i64 x y Try.underlying3
  cases hac : (a == c) <;> cases hbd : (b == d) <;> simp [Op.eqFields, h1, h2, h3, h4, h5, h6, part, hI, hac, hbd, Result.andThen, Try.sizeOf3]

theorem item_same (x y : Int × Int) : (x.1 == y.1 && x.2 == y.2) = eqB x y := by
  rw [Bool.eq_iff_iff, eqB_iff]
  simp only [Bool.and_eq_true, beq_iff_eq]
  exact ⟨fun h => Prod.ext h.1 h.2, fun h => by rw [h]; exact ⟨rfl, rfl⟩⟩

set_option maxRecDepth 100000 in
set_option maxHeartbeats 4000000 in
theorem equalInts_any (oa : Option Addr) (n cap : Nat) (s : List Int) (ob : Option Addr) (m cb : Nat) (t : List Int) (hn20 : n ≤ 1048576) (w : World) (hs : IntsAt w oa n cap s) (ht : IntsAt w ob m cb t) :
    Calls Try.prog 66 #[.slice oa n cap, .slice ob m cb] w fun e w' => e = .returned (.bool (eqB s t)) ∧ Below w.heap.size w w' := by
  have hsl := hs.len
  have htl := ht.len
  by_cases hnm : n = m
  · subst hnm
    have HS := hide hs
    have HT := hide ht
    have HSL := hide hsl
    have HTL := hide htl
    clear hs ht hsl htl
    go_enter Try.func66, Try.ntmps66
    go_wp2_with fail
    go_loopw [13] (fun x wr => ∃ (j q : Nat), x = .int .i64 (j : Int) ∧ j ≤ n ∧ s.take j = t.take j ∧ wr = w.drewN q) (fun x _ => n - (intOf x).toNat)
    case atStart => exact ⟨0, 0, rfl, Nat.zero_le _, by simp, rfl⟩
    case round =>
      obtain ⟨j, q, rfl, hj, htk, rfl⟩ := hrel
      have HTK := hide htk
      clear htk
      by_cases hlt : j < n
      · have j0 : (j : Int) < (n : Int) := by omega
        obtain ⟨x, bx, qx, hx, hidx, hbx, c0, _⟩ := HS.out.get Try.underlying46 infoI j hlt
        obtain ⟨y, bY, qy, hy, hidy, hby, d0, _⟩ := HT.out.get Try.underlying46 infoI j hlt
        have HX := hide hx
        have HY := hide hy
        clear hx hy
        by_cases e : x = y
        · have HE := hide e
          have q3 : (x != y) = false := by simpa using e
          clear e
          go_wp2_with fail
          go_quiet (fail)
          go_wp2_with fail
          go_roundw
          case rel => exact ⟨j + 1, q + nq, by go_num, by omega, take_same14 HTK.out HX.out (by first | exact HY.out | (rw [HE.out]; exact HY.out)), by simp⟩
          case measure => simp [intOf]; omega
        · have HE := hide e
          have q3 : (x != y) = true := by simpa using e
          clear e
          go_wp2_with fail
          go_quiet (fail)
          go_wp2_with fail
          go_ret
          refine ⟨?_, below_drewN (below_drewN (Below.refl _ _) _) _⟩
          rw [eqB_no (fun h => HE.out (by
            have h1 := HX.out
            rw [h, HY.out] at h1
            exact (Option.some.inj h1).symm))]
          rfl
      · have hst : s = t := by
          have h1 := HTK.out
          rwa [List.take_of_length_le (by rw [HSL.out]; omega), List.take_of_length_le (by rw [HTL.out]; omega)] at h1
        have HST := hide hst
        clear hst
        go_wp2_with fail
        go_ret
        exact ⟨by rw [eqB_yes HST.out]; rfl, below_drewN (Below.refl _ _) _⟩
  · have HNE := hide (show s ≠ t from fun h => hnm (by rw [← hsl, ← htl, h]))
    have h1 := Nat.le_trans ht.room ht.most
    unfold maxLen at h1
    have q2 : ((n : Int) != (m : Int)) = true := by rw [bne_iff_ne]; omega
    clear hs ht hsl htl hnm
    go_enter Try.func66, Try.ntmps66
    go_wp2_with fail
    go_ret
    exact ⟨by rw [eqB_no HNE.out]; rfl, Below.refl _ _⟩

set_option maxRecDepth 100000 in
set_option maxHeartbeats 4000000 in
theorem equalBools_any (oa : Option Addr) (n cap : Nat) (s : List Bool) (ob : Option Addr) (m cb : Nat) (t : List Bool) (hn20 : n ≤ 1048576) (w : World) (hs : BoolsAt w oa n cap s) (ht : BoolsAt w ob m cb t) :
    Calls Try.prog 65 #[.slice oa n cap, .slice ob m cb] w fun e w' => e = .returned (.bool (eqB s t)) ∧ Below w.heap.size w w' := by
  have hsl := hs.len
  have htl := ht.len
  by_cases hnm : n = m
  · subst hnm
    have HS := hide hs
    have HT := hide ht
    have HSL := hide hsl
    have HTL := hide htl
    clear hs ht hsl htl
    go_enter Try.func65, Try.ntmps65
    go_wp2_with fail
    go_loopw [13] (fun x wr => ∃ (j q : Nat), x = .int .i64 (j : Int) ∧ j ≤ n ∧ s.take j = t.take j ∧ wr = w.drewN q) (fun x _ => n - (intOf x).toNat)
    case atStart => exact ⟨0, 0, rfl, Nat.zero_le _, by simp, rfl⟩
    case round =>
      obtain ⟨j, q, rfl, hj, htk, rfl⟩ := hrel
      have HTK := hide htk
      clear htk
      by_cases hlt : j < n
      · have j0 : (j : Int) < (n : Int) := by omega
        obtain ⟨x, bx, qx, hx, hidx, c0⟩ := HS.out.get Try.underlying25 infoB1 j hlt
        obtain ⟨y, bY, qy, hy, hidy, d0⟩ := HT.out.get Try.underlying25 infoB1 j hlt
        have HX := hide hx
        have HY := hide hy
        clear hx hy
        cases x with
        | false =>
          cases y with
          | false =>
            have e : (false : Bool) = false := by decide
            have HE := hide e
            clear e
            go_wp2_with fail
            go_quiet (fail)
            go_wp2_with fail
            go_roundw
            case rel => exact ⟨j + 1, q + nq, by go_num, by omega, take_same14 HTK.out HX.out (by first | exact HY.out | (rw [HE.out]; exact HY.out)), by simp⟩
            case measure => simp [intOf]; omega
          | true =>
            have e : (false : Bool) ≠ true := by decide
            have HE := hide e
            clear e
            go_wp2_with fail
            go_quiet (fail)
            go_wp2_with fail
            go_ret
            refine ⟨?_, below_drewN (below_drewN (Below.refl _ _) _) _⟩
            rw [eqB_no (fun h => HE.out (by
              have h1 := HX.out
              rw [h, HY.out] at h1
              exact (Option.some.inj h1).symm))]
            rfl
        | true =>
          cases y with
          | false =>
            have e : (true : Bool) ≠ false := by decide
            have HE := hide e
            clear e
            go_wp2_with fail
            go_quiet (fail)
            go_wp2_with fail
            go_ret
            refine ⟨?_, below_drewN (below_drewN (Below.refl _ _) _) _⟩
            rw [eqB_no (fun h => HE.out (by
              have h1 := HX.out
              rw [h, HY.out] at h1
              exact (Option.some.inj h1).symm))]
            rfl
          | true =>
            have e : (true : Bool) = true := by decide
            have HE := hide e
            clear e
            go_wp2_with fail
            go_quiet (fail)
            go_wp2_with fail
            go_roundw
            case rel => exact ⟨j + 1, q + nq, by go_num, by omega, take_same14 HTK.out HX.out (by first | exact HY.out | (rw [HE.out]; exact HY.out)), by simp⟩
            case measure => simp [intOf]; omega
      · have hst : s = t := by
          have h1 := HTK.out
          rwa [List.take_of_length_le (by rw [HSL.out]; omega), List.take_of_length_le (by rw [HTL.out]; omega)] at h1
        have HST := hide hst
        clear hst
        go_wp2_with fail
        go_ret
        exact ⟨by rw [eqB_yes HST.out]; rfl, below_drewN (Below.refl _ _) _⟩
  · have HNE := hide (show s ≠ t from fun h => hnm (by rw [← hsl, ← htl, h]))
    have h1 := Nat.le_trans ht.room ht.most
    unfold maxLen at h1
    have q2 : ((n : Int) != (m : Int)) = true := by rw [bne_iff_ne]; omega
    clear hs ht hsl htl hnm
    go_enter Try.func65, Try.ntmps65
    go_wp2_with fail
    go_ret
    exact ⟨by rw [eqB_no HNE.out]; rfl, Below.refl _ _⟩

set_option maxRecDepth 100000 in
set_option maxHeartbeats 4000000 in
theorem equalItems_any14 (oa : Option Addr) (n cap : Nat) (s : List (Int × Int)) (ob : Option Addr) (m cb : Nat) (t : List (Int × Int)) (hn20 : n ≤ 1048576) (w : World) (hs : ItemsAt w oa n cap s) (ht : ItemsAt w ob m cb t) :
    Calls Try.prog 79 #[.slice oa n cap, .slice ob m cb] w fun e w' => e = .returned (.bool (eqB s t)) ∧ Below w.heap.size w w' := by
  have hsl := hs.len
  have htl := ht.len
  by_cases hnm : n = m
  · subst hnm
    have HS := hide hs
    have HT := hide ht
    have HSL := hide hsl
    have HTL := hide htl
    clear hs ht hsl htl
    go_enter Try.func79, Try.ntmps79
    go_wp2_with fail
    go_loopw [13] (fun x wr => ∃ (j q : Nat), x = .int .i64 (j : Int) ∧ j ≤ n ∧ s.take j = t.take j ∧ wr = w.drewN q) (fun x _ => n - (intOf x).toNat)
    case atStart => exact ⟨0, 0, rfl, Nat.zero_le _, by simp, rfl⟩
    case round =>
      obtain ⟨j, q, rfl, hj, htk, rfl⟩ := hrel
      have HTK := hide htk
      clear htk
      by_cases hlt : j < n
      · have j0 : (j : Int) < (n : Int) := by omega
        obtain ⟨x, bx, qx, hx, hidx, hbx, c0, c1⟩ := HS.out.get Try.underlying85 infoII j hlt
        obtain ⟨y, bY, qy, hy, hidy, hby, d0, d1⟩ := HT.out.get Try.underlying85 infoII j hlt
        have hne := fun W => neqItem14 x.1 x.2 y.1 y.2 W
        rw [item_same x y] at hne
        have HX := hide hx
        have HY := hide hy
        clear hx hy
        by_cases e : x = y
        · have HE := hide e
          rw [eqB_yes e] at hne
          clear e
          go_wp2_with fail
          go_quiet (fail)
          go_wp2_with fail
          go_roundw
          case rel => exact ⟨j + 1, q + nq, by go_num, by omega, take_same14 HTK.out HX.out (by first | exact HY.out | (rw [HE.out]; exact HY.out)), by simp⟩
          case measure => simp [intOf]; omega
        · have HE := hide e
          rw [eqB_no e] at hne
          clear e
          go_wp2_with fail
          go_quiet (fail)
          go_wp2_with fail
          go_ret
          refine ⟨?_, below_drewN (below_drewN (Below.refl _ _) _) _⟩
          rw [eqB_no (fun h => HE.out (by
            have h1 := HX.out
            rw [h, HY.out] at h1
            exact (Option.some.inj h1).symm))]
          rfl
      · have hst : s = t := by
          have h1 := HTK.out
          rwa [List.take_of_length_le (by rw [HSL.out]; omega), List.take_of_length_le (by rw [HTL.out]; omega)] at h1
        have HST := hide hst
        clear hst
        go_wp2_with fail
        go_ret
        exact ⟨by rw [eqB_yes HST.out]; rfl, below_drewN (Below.refl _ _) _⟩
  · have HNE := hide (show s ≠ t from fun h => hnm (by rw [← hsl, ← htl, h]))
    have h1 := Nat.le_trans ht.room ht.most
    unfold maxLen at h1
    have q2 : ((n : Int) != (m : Int)) = true := by rw [bne_iff_ne]; omega
    clear hs ht hsl htl hnm
    go_enter Try.func79, Try.ntmps79
    go_wp2_with fail
    go_ret
    exact ⟨by rw [eqB_no HNE.out]; rfl, Below.refl _ _⟩

set_option maxRecDepth 100000 in
set_option maxHeartbeats 4000000 in
theorem equalSess_any (oa : Option Addr) (n cap : Nat) (s : List SesV) (ob : Option Addr) (m cb : Nat) (t : List SesV) (hn20 : n ≤ 1048576) (w : World) (hs : SessAt w oa n cap s) (ht : SessAt w ob m cb t) :
    Calls Try.prog 31 #[.slice oa n cap, .slice ob m cb] w fun e w' => e = .returned (.bool (eqB s t)) ∧ Below w.heap.size w w' := by
  have hsl := hs.len
  have htl := ht.len
  by_cases hnm : n = m
  · subst hnm
    have HS := hide hs
    have HT := hide ht
    have HSL := hide hsl
    have HTL := hide htl
    clear hs ht hsl htl
    go_enter Try.func31, Try.ntmps31
    go_wp2_with fail
    go_loopw [13] (fun x wr => ∃ (j q : Nat), x = .int .i64 (j : Int) ∧ j ≤ n ∧ s.take j = t.take j ∧ wr = w.drewN q) (fun x _ => n - (intOf x).toNat)
    case atStart => exact ⟨0, 0, rfl, Nat.zero_le _, by simp, rfl⟩
    case round =>
      obtain ⟨j, q, rfl, hj, htk, rfl⟩ := hrel
      have HTK := hide htk
      clear htk
      by_cases hlt : j < n
      · have j0 : (j : Int) < (n : Int) := by omega
        obtain ⟨x, bx, qx, hx, hidx, hbx, c0, c1, c2⟩ := HS.out.getS3 Try.underlying22 infoISe j hlt
        obtain ⟨y, bY, qy, hy, hidy, hby, d0, d1, d2⟩ := HT.out.getS3 Try.underlying22 infoISe j hlt
        have hne := fun W => neqSes x.term x.kind y.term y.kind x.data y.data W
        rw [ses_same x y] at hne
        have HX := hide hx
        have HY := hide hy
        clear hx hy
        by_cases e : x = y
        · have HE := hide e
          rw [eqB_yes e] at hne
          clear e
          go_wp2_with fail
          go_quiet (fail)
          go_wp2_with fail
          go_roundw
          case rel => exact ⟨j + 1, q + nq, by go_num, by omega, take_same14 HTK.out HX.out (by first | exact HY.out | (rw [HE.out]; exact HY.out)), by simp⟩
          case measure => simp [intOf]; omega
        · have HE := hide e
          rw [eqB_no e] at hne
          clear e
          go_wp2_with fail
          go_quiet (fail)
          go_wp2_with fail
          go_ret
          refine ⟨?_, below_drewN (below_drewN (Below.refl _ _) _) _⟩
          rw [eqB_no (fun h => HE.out (by
            have h1 := HX.out
            rw [h, HY.out] at h1
            exact (Option.some.inj h1).symm))]
          rfl
      · have hst : s = t := by
          have h1 := HTK.out
          rwa [List.take_of_length_le (by rw [HSL.out]; omega), List.take_of_length_le (by rw [HTL.out]; omega)] at h1
        have HST := hide hst
        clear hst
        go_wp2_with fail
        go_ret
        exact ⟨by rw [eqB_yes HST.out]; rfl, below_drewN (Below.refl _ _) _⟩
  · have HNE := hide (show s ≠ t from fun h => hnm (by rw [← hsl, ← htl, h]))
    have h1 := Nat.le_trans ht.room ht.most
    unfold maxLen at h1
    have q2 : ((n : Int) != (m : Int)) = true := by rw [bne_iff_ne]; omega
    clear hs ht hsl htl hnm
    go_enter Try.func31, Try.ntmps31
    go_wp2_with fail
    go_ret
    exact ⟨by rw [eqB_no HNE.out]; rfl, Below.refl _ _⟩

end Go.Proofs.Ytckkfjmjcknjdaa
