/-
  Walks and mathematics of Msg4.
-/
import Derived.Test.YtmllcomppjkhhaaDoorQdMsg3
import Derived.Test.YtmllcomppjkhhaaDoorQdWalk6a
namespace Go.Proofs.YtmllcomppjkhhaaDoor.P18
end Go.Proofs.YtmllcomppjkhhaaDoor.P18
namespace Go.Proofs.YtmllcomppjkhhaaDoor.P3
end Go.Proofs.YtmllcomppjkhhaaDoor.P3
namespace Go.Proofs.YtmllcomppjkhhaaDoor
open Go.RowKit P1 P3 P9 P11 P12 P18 K
set_option linter.unusedVariables false
set_option linter.unusedSimpArgs false

def ofP (kd : Int) (a b c d : Bool) : Value := if kd = 3 then pv4 a false false false else if kd = 5 then pv4 false b c d else pv4 false false false false

set_option maxHeartbeats 1000000 in
theorem of_any15 (kd : Int) (a b c d : Bool) (w : World) :
    Calls Tryd.prog 27 #[pv4 a b c d, .int .i64 kd] w fun e w' => e = .returned (ofP kd a b c d) ∧ Below w.heap.size w w' := by
  have HB := hide (((Below.refl w.heap.size w).alloc (Nat.le_refl _) (.cells #[.bool a, .bool b, .bool c, .bool d] 53)).alloc (by simp) (.cells #[.bool false, .bool false, .bool false, .bool false] 53))
  unfold ofP
  by_cases k3 : kd = 3
  · subst k3
    rw [if_pos rfl]
    go_enter Tryd.func27, Tryd.ntmps27
    go_wp2_with fail
    refine bodyPost_ret (v := pv4 a false false false) (by simp [results, Tryd.results27, go_sem]) rfl ⟨rfl, ?_⟩
    repeat (refine Below.setCell ?_ (by simp) _)
    first | exact HB.out | exact ((Below.refl w.heap.size w).alloc (Nat.le_refl _) _).alloc (by simp) _
  · rw [if_neg k3]
    have g3 : (kd == 3) = false := by simpa using k3
    by_cases k5 : kd = 5
    · subst k5
      rw [if_pos rfl]
      go_enter Tryd.func27, Tryd.ntmps27
      go_wp2_with fail
      refine bodyPost_ret (v := pv4 false b c d) (by simp [results, Tryd.results27, go_sem]) rfl ⟨rfl, ?_⟩
      repeat (refine Below.setCell ?_ (by simp) _)
      first | exact HB.out | exact ((Below.refl w.heap.size w).alloc (Nat.le_refl _) _).alloc (by simp) _
    · rw [if_neg k5]
      have g5 : (kd == 5) = false := by simpa using k5
      go_enter Tryd.func27, Tryd.ntmps27
      go_wp2_with fail
      refine bodyPost_ret (v := pv4 false false false false) (by simp [results, Tryd.results27, go_sem]) rfl ⟨rfl, ?_⟩
      repeat (refine Below.setCell ?_ (by simp) _)
      first | exact HB.out | exact ((Below.refl w.heap.size w).alloc (Nat.le_refl _) _).alloc (by simp) _

theorem range7 : List.range 7 = [0, 1, 2, 3, 4, 5, 6] := rfl

theorem range4 : List.range 4 = [0, 1, 2, 3] := rfl

theorem nv_neq15 (a0 a1 a2 a3 a4 a5 a6 b0 b1 b2 b3 b4 b5 b6 : Int) (wx : World) : (binOp .neq 50 (nv7 a0 a1 a2 a3 a4 a5 a6) (nv7 b0 b1 b2 b3 b4 b5 b6)).run Tryd.prog wx = .ok (.bool (!(decide (a0 = b0) && (decide (a1 = b1) && (decide (a2 = b2) && (decide (a3 = b3) && (decide (a4 = b4) && (decide (a5 = b5) && decide (a6 = b6))))))))) wx := by
  have hu := Tryd.underlying3
  obtain ⟨i, hi⟩ : ∃ i, Tryd.prog.info? 3 = some i := by
    cases h : Tryd.prog.info? 3 with
    | some i => exact ⟨i, rfl⟩
    | none => have := infoI; rw [h] at this; cases this
  have hc : Tryd.prog.cellsOf 3 = 1 := by kernel_rfl
  rw [run_neq_struct, run_equalIn_array wx 9999 _ _ Tryd.underlying50 hi, hc, range7]
  simp [Op.eqItems, go_sem, hu]
  by_cases c0 : a0 = b0
  · by_cases c1 : a1 = b1
    · by_cases c2 : a2 = b2
      · by_cases c3 : a3 = b3
        · by_cases c4 : a4 = b4
          · by_cases c5 : a5 = b5
            · by_cases c6 : a6 = b6
              · simp [c0, c1, c2, c3, c4, c5, c6]
              · simp [c0, c1, c2, c3, c4, c5, c6]
            · simp [c0, c1, c2, c3, c4, c5]
          · simp [c0, c1, c2, c3, c4]
        · simp [c0, c1, c2, c3]
      · simp [c0, c1, c2]
    · simp [c0, c1]
  · simp [c0]

theorem nv_lim15 (kd fr to tm ix lt cm : Int) (ok la : Bool) (es : List EntV) (zs : List Int) (da : List UInt8) (wx : World) : (binOp .neq 50 (nv7 kd fr to tm ix lt cm) (lim7 kd fr to tm ix lt cm)).run Tryd.prog wx = .ok (.bool (!hdM (⟨kd, fr, to, tm, ix, lt, cm, ok, es, zs, da, la⟩ : MsgV))) wx := by
  unfold lim7
  rw [nv_neq15, nearI_eq (by decide), nearI_eq (by decide), nearI_eq (by decide), nearI_eq (by decide), nearI_eq (by decide), nearI_eq (by decide), nearI_eq (by decide)]
  rfl

theorem nv_guard15 (a b c d e f g : Int) (x y : Operand) (wx : World) : (eqGuard .neq 50 x y (nv7 a b c d e f g) (lim7 a b c d e f g)).run Tryd.prog wx = .ok () wx :=
  run_eqGuard_agg wx .neq _ x y _ _ (by kernel_rfl)

theorem pv_neq15 (a0 a1 a2 a3 b0 b1 b2 b3 : Bool) (wx : World) : (binOp .neq 53 (pv4 a0 a1 a2 a3) (pv4 b0 b1 b2 b3)).run Tryd.prog wx = .ok (.bool (!((a0 == b0) && ((a1 == b1) && ((a2 == b2) && (a3 == b3)))))) wx := by
  have hu := Tryd.underlying4
  obtain ⟨i, hi⟩ : ∃ i, Tryd.prog.info? 4 = some i := by
    cases h : Tryd.prog.info? 4 with
    | some i => exact ⟨i, rfl⟩
    | none => have : (Tryd.prog.info? 4).isSome = true := by kernel_rfl
              rw [h] at this; cases this
  have hc : Tryd.prog.cellsOf 4 = 1 := by kernel_rfl
  rw [run_neq_struct, run_equalIn_array wx 9999 _ _ Tryd.underlying53 hi, hc, range4]
  simp [Op.eqItems, go_sem, hu]
  by_cases c0 : a0 = b0
  · by_cases c1 : a1 = b1
    · by_cases c2 : a2 = b2
      · by_cases c3 : a3 = b3
        · simp [c0, c1, c2, c3]
        · simp [c0, c1, c2, c3]
      · simp [c0, c1, c2]
    · simp [c0, c1]
  · simp [c0]

theorem pv_parts15 (kd fr to tm ix lt cm : Int) (ok la : Bool) (es : List EntV) (zs : List Int) (da : List UInt8) (wx : World) : (binOp .neq 53 (pv4 (!decide (es.length = 0)) (!decide (zs.length = 0)) (!decide (da.length = 0)) la) (ofP kd (!decide (es.length = 0)) (!decide (zs.length = 0)) (!decide (da.length = 0)) la)).run Tryd.prog wx = .ok (.bool (!partsM (⟨kd, fr, to, tm, ix, lt, cm, ok, es, zs, da, la⟩ : MsgV))) wx := by
  unfold ofP partsM
  simp only
  by_cases k3 : kd = 3
  · rw [if_pos k3, if_pos k3, pv_neq15]
    cases decide (es.length = 0) <;> cases decide (zs.length = 0) <;> cases decide (da.length = 0) <;> cases la <;> rfl
  · rw [if_neg k3, if_neg k3]
    by_cases k5 : kd = 5
    · rw [if_pos k5, if_pos k5, pv_neq15]
      cases decide (es.length = 0) <;> cases decide (zs.length = 0) <;> cases decide (da.length = 0) <;> cases la <;> rfl
    · rw [if_neg k5, if_neg k5, pv_neq15]
      cases decide (es.length = 0) <;> cases decide (zs.length = 0) <;> cases decide (da.length = 0) <;> cases la <;> rfl

theorem pv_guard15 (kd : Int) (a b c d : Bool) (x y : Operand) (wx : World) : (eqGuard .neq 53 x y (pv4 a b c d) (ofP kd a b c d)).run Tryd.prog wx = .ok () wx := by
  unfold ofP
  split
  · exact run_eqGuard_agg wx .neq _ x y _ _ (by kernel_rfl)
  · split <;> exact run_eqGuard_agg wx .neq _ x y _ _ (by kernel_rfl)

set_option maxHeartbeats 2000000 in
theorem confOk_any15 (kd fr to tm ix lt cm : Int) (ok : Bool) (oa : Option Addr) (n cl : Nat) (ob : Option Addr) (m cp : Nat) (da : List UInt8) (la : Bool) (es : List EntV) (zs : List Int) (w : World) (hbt : IntsAt w ob m cp zs) :
    Calls Tryd.prog 29 #[(mgval kd fr to tm ix lt cm ok (.slice oa n cl) (.slice ob m cp) da la)] w fun e w' => e = .returned (.bool (confM (⟨kd, fr, to, tm, ix, lt, cm, ok, es, zs, da, la⟩ : MsgV))) ∧ Below w.heap.size w w' := by
  have hb0 := (Below.refl w.heap.size w).alloc (Nat.le_refl _) (.cells #[.int .i64 kd, .int .i64 fr, .int .i64 to, .int .i64 tm, .int .i64 ix, .int .i64 lt, .int .i64 cm, .bool ok, .slice oa n cl, .slice ob m cp, .string ⟨da.toArray⟩, .bool la] 30)
  have HC := hide (implConfOk_any ob m cp zs _ (hbt.below hb0))
  have HB0 := hide hb0
  clear hb0 hbt
  unfold confM
  simp only
  by_cases k5 : kd = 5
  · subst k5
    rw [if_pos rfl]
    generalize confOk zs = b at HC ⊢
    go_enter Tryd.func29, Tryd.ntmps29
    go_wp2_with (go_at_call 56; refine HC.out.mono ?_; rintro e w1 ⟨rfl, rfl⟩)
    go_ret
    exact ⟨by cases b <;> rfl, HB0.out⟩
  · rw [if_neg k5]
    have g5 : (kd == 5) = false := by simpa using k5
    go_enter Tryd.func29, Tryd.ntmps29
    go_wp2_with fail
    go_ret
    exact ⟨by first | rfl | simp, HB0.out⟩

set_option maxHeartbeats 4000000 in
theorem entriesOk_any15 (kd fr to tm ix lt cm : Int) (ok : Bool) (oa : Option Addr) (n cl : Nat) (ob : Option Addr) (m cp : Nat) (da : List UInt8) (la : Bool) (es : List EntV) (w : World) (hat : EntsAt w oa n cl es) (hw : ∀ f ∈ es, f.data.size ≤ 1048576) :
    Calls Tryd.prog 28 #[(mgval kd fr to tm ix lt cm ok (.slice oa n cl) (.slice ob m cp) da la)] w fun e w' => e = .returned (.bool (decide (es.length ≤ 4) && upM tm lt es)) ∧ Below w.heap.size w w' := by
  have hb0 := (Below.refl w.heap.size w).alloc (Nat.le_refl _) (.cells #[.int .i64 kd, .int .i64 fr, .int .i64 to, .int .i64 tm, .int .i64 ix, .int .i64 lt, .int .i64 cm, .bool ok, .slice oa n cl, .slice ob m cp, .string ⟨da.toArray⟩, .bool la] 30)
  have HX0 := hide (XS.new w #[.int .i64 kd, .int .i64 fr, .int .i64 to, .int .i64 tm, .int .i64 ix, .int .i64 lt, .int .i64 cm, .bool ok, .slice oa n cl, .slice ob m cp, .string ⟨da.toArray⟩, .bool la] 30)
  have HAT := hide hat
  have HW := hide hw
  have HB0 := hide hb0
  have hn := hat.len
  have hmx := Nat.le_trans hat.room hat.most
  unfold maxLen at hmx
  clear hat hw hb0
  rw [hn]
  have HN := hide hn
  clear hn
  by_cases c3 : n ≤ 4
  · rw [decide_eq_true c3, Bool.true_and]
    go_enter Tryd.func28, Tryd.ntmps28
    go_wp2_with fail
    go_loopw [15, 3] (fun i l wr => ∃ (j : Nat) (t : Int), i = .int .i64 (j : Int) ∧ l = .int .i64 t ∧ j ≤ n ∧ upM tm t (es.drop j) = upM tm lt es ∧ XS w.heap.size #[.int .i64 kd, .int .i64 fr, .int .i64 to, .int .i64 tm, .int .i64 ix, .int .i64 lt, .int .i64 cm, .bool ok, .slice oa n cl, .slice ob m cp, .string ⟨da.toArray⟩, .bool la] 30 wr ∧ Below w.heap.size w wr) (fun i _ _ => n - (intOf i).toNat)
    case atStart => exact ⟨0, lt, rfl, rfl, Nat.zero_le _, by simp, HX0.out, HB0.out⟩
    case round =>
      obtain ⟨j, t, rfl, rfl, hj, hup, hx, hbel⟩ := hrel
      by_cases hlt : j < n
      · have j0 : (j : Int) < (n : Int) := by omega
        obtain ⟨f, b, q, hf, hidx, hb, d0, d1, d2⟩ := (HAT.out.below hbel).get3 Tryd.underlying28 infoIE j hlt
        have hEO := hide (implEntryOk_any f (HW.out f (List.mem_of_getElem? hf)))
        unfold eval at hEO
        rw [drop_at6 hf, upM_cons] at hup
        have hbA := hbel.alloc hbel.size (.cells #[.int .i64 f.term, .int .i64 f.kind, .string f.data] 45)
        have HBA := hide hbA
        have HXA := hide (hx.alloc (.cells #[.int .i64 f.term, .int .i64 f.kind, .string f.data] 45))
        have hsz := hbel.size
        clear hf hbel hbA hx
        cases hok : f.ok with
        | false =>
          rw [hok, Bool.false_and] at hup
          have HU := hide hup
          have HK := hide hok
          clear hup hok
          go_wp2_with (go_at_call 54; refine (hEO.out _).mono ?_; rw [HK.out]; rintro e w2 ⟨rfl, hb2⟩)
          go_ret
          exact ⟨by rw [← HU.out]; rfl, HBA.out.trans (hb2.mono (by simp; omega))⟩
        | true =>
          rw [hok, Bool.true_and] at hup
          have HK := hide hok
          clear hok
          by_cases ct : t ≤ f.term ∧ f.term ≤ tm
          · rw [inR_iff.2 ct, Bool.true_and] at hup
            have HU := hide hup
            clear hup
            go_wp2_with (first
              | (go_at_call 54; refine (hEO.out _).mono ?_; rw [HK.out]; rintro e w2 ⟨rfl, hb2⟩; have y0 : w2.cell? ⟨wr.heap.size, 0, none⟩ = some (.int .i64 f.term) := (hb2.cell (by simp)).trans (by simp); obtain ⟨k0, k1, k2, k3, k4, k5, k6, k7, k8, k9, k10, k11⟩ := xs12 (HXA.out.on hb2); have HB2 := hide hb2; clear hb2)
              | (go_at_call 55; refine (within_yes _ _ _ ct.1 ct.2 _).mono ?_; rintro e w3 ⟨rfl, rfl⟩))
            go_roundw
            case rel => exact ⟨j + 1, f.term, by go_num, rfl, by omega, HU.out, HXA.out.on HB2.out, HBA.out.trans (HB2.out.mono (by simp; omega))⟩
            case measure => simp [intOf]; omega
          · have hno : inR f.term t tm = false := by
              cases h : inR f.term t tm with
              | false => rfl
              | true => exact absurd (inR_iff.1 h) ct
            rw [hno, Bool.false_and] at hup
            have HU := hide hup
            clear hup
            go_wp2_with (first
              | (go_at_call 54; refine (hEO.out _).mono ?_; rw [HK.out]; rintro e w2 ⟨rfl, hb2⟩; have y0 : w2.cell? ⟨wr.heap.size, 0, none⟩ = some (.int .i64 f.term) := (hb2.cell (by simp)).trans (by simp); obtain ⟨k0, k1, k2, k3, k4, k5, k6, k7, k8, k9, k10, k11⟩ := xs12 (HXA.out.on hb2); have HB2 := hide hb2; clear hb2)
              | (go_at_call 55; refine (within_no _ _ _ (by omega) _).mono ?_; rintro e w3 ⟨rfl, rfl⟩))
            go_ret
            exact ⟨by rw [← HU.out]; rfl, HBA.out.trans (HB2.out.mono (by simp; omega))⟩
      · have hjn : j = n := by omega
        have HU := hide (show upM tm lt es = true by
          rw [← hup, hjn, ← HN.out, List.drop_length]
          rfl)
        clear hup
        go_wp2_with fail
        go_ret
        exact ⟨by rw [HU.out]; rfl, hbel⟩
  · rw [decide_eq_false c3, Bool.false_and]
    have g3 : ((n : Int) > 4) := by omega
    go_enter Tryd.func28, Tryd.ntmps28
    go_wp2_with fail
    go_ret
    exact ⟨rfl, HB0.out⟩

end Go.Proofs.YtmllcomppjkhhaaDoor
