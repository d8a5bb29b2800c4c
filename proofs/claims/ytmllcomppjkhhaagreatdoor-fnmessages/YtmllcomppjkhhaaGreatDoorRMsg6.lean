/-
  Walks and mathematics of Msg6.
-/
import Derived.Test.YtmllcomppjkhhaaGreatDoorRMsgA
import Derived.Test.YtmllcomppjkhhaaGreatDoorRMsg1
import Derived.Test.YtmllcomppjkhhaaGreatDoorRLog1
import Derived.BigRegion
namespace Go.Proofs.YtmllcomppjkhhaaGreatDoor.P18
end Go.Proofs.YtmllcomppjkhhaaGreatDoor.P18
namespace Go.Proofs.YtmllcomppjkhhaaGreatDoor.P3
end Go.Proofs.YtmllcomppjkhhaaGreatDoor.P3
namespace Go.Proofs.YtmllcomppjkhhaaGreatDoor
open Go.RowKit P1 P3 P9 P11 P12 P18 K
set_option linter.unusedVariables false
set_option linter.unusedSimpArgs false

theorem inw_more15s {w2 : World} (m : InW (fun w' => Below w2.heap.size w2 w')) {w3 : World} (h : Below m.w.heap.size m.w w3) : Below w2.heap.size w2 w3 := m.h.trans (h.mono m.h.size)

theorem below_from15s {w w2 : World} (hb : Below w.heap.size w w2) (m : InW (fun w' => Below w2.heap.size w2 w')) : Below w.heap.size w m.w := hb.trans (m.h.mono hb.size)

theorem in15 (x a b : Int) {r : Bool} (h : inR x a b = r) (w : World) :
    Calls Tryz.prog 19 #[.int .i64 x, .int .i64 a, .int .i64 b] w fun e w' => e = .returned (.bool r) ∧ w = w' := by
  rw [← h]
  exact (l01In5_any x a b w).mono fun e w' ⟨h1, h2⟩ => ⟨h1, h2.symm⟩

set_option maxRecDepth 100000 in
set_option maxHeartbeats 16000000 in
theorem specMessageOk_any (kd fr to tm ix lt cm : Int) (ok : Bool) (oa : Option Addr) (n cl : Nat) (ob : Option Addr) (m cp : Nat) (da : List UInt8) (la : Bool) (es : List EntV) (zs : List Int) (hd : da.length ≤ 1048576) (w : World) (hat : EntsAt w oa n cl es) (hbt : IntsAt w ob m cp zs) (hw : ∀ f ∈ es, f.data.size ≤ 1048576) (hn20 : n ≤ 1048576) (hm20 : m ≤ 1048576) :
    Calls Tryz.prog 8 #[(mgval kd fr to tm ix lt cm ok (.slice oa n cl) (.slice ob m cp) da la)] w fun e w' => e = .returned (.bool (msgOk (⟨kd, fr, to, tm, ix, lt, cm, ok, es, zs, da, la⟩ : MsgV))) ∧ Below w.heap.size w w' := by
  rw [← msgOk2_eq]
  have hn := hat.len
  have hm := hbt.len
  have hb0 := (Below.refl w.heap.size w).alloc (Nat.le_refl _) (.cells #[.int .i64 kd, .int .i64 fr, .int .i64 to, .int .i64 tm, .int .i64 ix, .int .i64 lt, .int .i64 cm, .bool ok, .slice oa n cl, .slice ob m cp, .string ⟨da.toArray⟩, .bool la] 27)
  have HX0 := hide (XS.new w #[.int .i64 kd, .int .i64 fr, .int .i64 to, .int .i64 tm, .int .i64 ix, .int .i64 lt, .int .i64 cm, .bool ok, .slice oa n cl, .slice ob m cp, .string ⟨da.toArray⟩, .bool la] 27)
  have HB0 := hide hb0
  have HAT := hide hat
  have HBT := hide hbt
  have HW := hide hw
  have HCO := hide (fun w hbt => specConfOk_any ob m cp zs w hbt)
  clear hb0 hat hbt hw
  unfold msgOk2 restM
  simp only
  rw [hn, hm]
  have HN := hide hn
  have HM := hide hm
  clear hn hm
  obtain ⟨r0, hr0⟩ : ∃ r, inR kd 1 6 = r := ⟨_, rfl⟩
  obtain ⟨r1, hr1⟩ : ∃ r, inR fr 1 4 = r := ⟨_, rfl⟩
  obtain ⟨r2, hr2⟩ : ∃ r, inR to 1 4 = r := ⟨_, rfl⟩
  obtain ⟨r3, hr3⟩ : ∃ r, inR tm 0 100000 = r := ⟨_, rfl⟩
  obtain ⟨r4, hr4⟩ : ∃ r, inR lt 0 100000 = r := ⟨_, rfl⟩
  obtain ⟨r5, hr5⟩ : ∃ r, inR ix 0 1000000 = r := ⟨_, rfl⟩
  obtain ⟨r6, hr6⟩ : ∃ r, inR cm 0 1000000 = r := ⟨_, rfl⟩
  rw [hr0, hr1, hr2, hr3, hr4, hr5, hr6]
  have HI0 := hide (in15 kd 1 6 hr0)
  have HI1 := hide (in15 fr 1 4 hr1)
  have HI2 := hide (in15 to 1 4 hr2)
  have HI3 := hide (in15 tm 0 100000 hr3)
  have HI4 := hide (in15 lt 0 100000 hr4)
  have HI5 := hide (in15 ix 0 1000000 hr5)
  have HI6 := hide (in15 cm 0 1000000 hr6)
  clear hr0 hr1 hr2 hr3 hr4 hr5 hr6
  obtain ⟨eb, heb⟩ : ∃ b, upM tm lt es = b := ⟨_, rfl⟩
  rw [heb]
  have HEB := hide heb
  clear heb
  have g4 : ((n : Int) > 4) ↔ ¬ n ≤ 4 := by omega
  have g0 : ((n : Int) > 0) ↔ ¬ n = 0 := by omega
  have gm : ((m : Int) == 0) = decide (m = 0) := by by_cases c : m = 0 <;> simp [c]
  have gd : ((⟨da.toArray⟩ : ByteArray).toList == (⟨#[]⟩ : ByteArray).toList) = decide (da.length = 0) := by
    rw [Lib.toList_data, Lib.toList_data]
    cases da <;> simp
  go_enter Tryz.func8, Tryz.ntmps8
  go_upto_region 1 with fail
  generalize w.alloc (.cells #[.int .i64 kd, .int .i64 fr, .int .i64 to, .int .i64 tm, .int .i64 ix, .int .i64 lt, .int .i64 cm, .bool ok, .slice oa n cl, .slice ob m cp, .string ⟨da.toArray⟩, .bool la] 27) = x0 at HX0 HB0 ⊢
  obtain ⟨k0, k1, k2, k3, k4, k5, k6, k7, k8, k9, k10, k11⟩ := xs12 HX0.out
  cases r0 with
  | false =>
    go_wp2_with (first
      | (go_at_call 19; (with_reducible refine (HI0.out _).mono ?_); rintro e v0 ⟨rfl, rfl⟩)
      | (go_at_call 19; (with_reducible refine (HI1.out _).mono ?_); rintro e v1 ⟨rfl, rfl⟩)
      | (go_at_call 19; (with_reducible refine (HI2.out _).mono ?_); rintro e v2 ⟨rfl, rfl⟩)
      | (go_at_call 19; (with_reducible refine (HI3.out _).mono ?_); rintro e v3 ⟨rfl, rfl⟩)
      | (go_at_call 19; (with_reducible refine (HI4.out _).mono ?_); rintro e v4 ⟨rfl, rfl⟩)
      | (go_at_call 19; (with_reducible refine (HI5.out _).mono ?_); rintro e v5 ⟨rfl, rfl⟩)
      | (go_at_call 19; (with_reducible refine (HI6.out _).mono ?_); rintro e v6 ⟨rfl, rfl⟩))
    all_goals
      first | (go_ret; exact ⟨by simp, HB0.out⟩) | (refine bodyPost_ret (v := .bool false) (by simp [results, Tryz.results8, go_sem]) rfl ⟨by simp, HB0.out⟩)
  | true =>
    cases r1 with
    | false =>
      go_wp2_with (first
      | (go_at_call 19; (with_reducible refine (HI0.out _).mono ?_); rintro e v0 ⟨rfl, rfl⟩)
      | (go_at_call 19; (with_reducible refine (HI1.out _).mono ?_); rintro e v1 ⟨rfl, rfl⟩)
      | (go_at_call 19; (with_reducible refine (HI2.out _).mono ?_); rintro e v2 ⟨rfl, rfl⟩)
      | (go_at_call 19; (with_reducible refine (HI3.out _).mono ?_); rintro e v3 ⟨rfl, rfl⟩)
      | (go_at_call 19; (with_reducible refine (HI4.out _).mono ?_); rintro e v4 ⟨rfl, rfl⟩)
      | (go_at_call 19; (with_reducible refine (HI5.out _).mono ?_); rintro e v5 ⟨rfl, rfl⟩)
      | (go_at_call 19; (with_reducible refine (HI6.out _).mono ?_); rintro e v6 ⟨rfl, rfl⟩))
      all_goals
        first | (go_ret; exact ⟨by simp, HB0.out⟩) | (refine bodyPost_ret (v := .bool false) (by simp [results, Tryz.results8, go_sem]) rfl ⟨by simp, HB0.out⟩)
    | true =>
      cases r2 with
      | false =>
        go_wp2_with (first
      | (go_at_call 19; (with_reducible refine (HI0.out _).mono ?_); rintro e v0 ⟨rfl, rfl⟩)
      | (go_at_call 19; (with_reducible refine (HI1.out _).mono ?_); rintro e v1 ⟨rfl, rfl⟩)
      | (go_at_call 19; (with_reducible refine (HI2.out _).mono ?_); rintro e v2 ⟨rfl, rfl⟩)
      | (go_at_call 19; (with_reducible refine (HI3.out _).mono ?_); rintro e v3 ⟨rfl, rfl⟩)
      | (go_at_call 19; (with_reducible refine (HI4.out _).mono ?_); rintro e v4 ⟨rfl, rfl⟩)
      | (go_at_call 19; (with_reducible refine (HI5.out _).mono ?_); rintro e v5 ⟨rfl, rfl⟩)
      | (go_at_call 19; (with_reducible refine (HI6.out _).mono ?_); rintro e v6 ⟨rfl, rfl⟩))
        all_goals
          first | (go_ret; exact ⟨by simp, HB0.out⟩) | (refine bodyPost_ret (v := .bool false) (by simp [results, Tryz.results8, go_sem]) rfl ⟨by simp, HB0.out⟩)
      | true =>
        by_cases cf : fr = to
        · subst cf
          go_wp2_with (first
      | (go_at_call 19; (with_reducible refine (HI0.out _).mono ?_); rintro e v0 ⟨rfl, rfl⟩)
      | (go_at_call 19; (with_reducible refine (HI1.out _).mono ?_); rintro e v1 ⟨rfl, rfl⟩)
      | (go_at_call 19; (with_reducible refine (HI2.out _).mono ?_); rintro e v2 ⟨rfl, rfl⟩)
      | (go_at_call 19; (with_reducible refine (HI3.out _).mono ?_); rintro e v3 ⟨rfl, rfl⟩)
      | (go_at_call 19; (with_reducible refine (HI4.out _).mono ?_); rintro e v4 ⟨rfl, rfl⟩)
      | (go_at_call 19; (with_reducible refine (HI5.out _).mono ?_); rintro e v5 ⟨rfl, rfl⟩)
      | (go_at_call 19; (with_reducible refine (HI6.out _).mono ?_); rintro e v6 ⟨rfl, rfl⟩))
          all_goals
            first | (go_ret; exact ⟨by simp, HB0.out⟩) | (refine bodyPost_ret (v := .bool false) (by simp [results, Tryz.results8, go_sem]) rfl ⟨by simp, HB0.out⟩)
        · have gf : (fr == to) = false := by simpa using cf
          go_upto_region 3 with (first
      | (go_at_call 19; (with_reducible refine (HI0.out _).mono ?_); rintro e v0 ⟨rfl, rfl⟩)
      | (go_at_call 19; (with_reducible refine (HI1.out _).mono ?_); rintro e v1 ⟨rfl, rfl⟩)
      | (go_at_call 19; (with_reducible refine (HI2.out _).mono ?_); rintro e v2 ⟨rfl, rfl⟩)
      | (go_at_call 19; (with_reducible refine (HI3.out _).mono ?_); rintro e v3 ⟨rfl, rfl⟩)
      | (go_at_call 19; (with_reducible refine (HI4.out _).mono ?_); rintro e v4 ⟨rfl, rfl⟩)
      | (go_at_call 19; (with_reducible refine (HI5.out _).mono ?_); rintro e v5 ⟨rfl, rfl⟩)
      | (go_at_call 19; (with_reducible refine (HI6.out _).mono ?_); rintro e v6 ⟨rfl, rfl⟩))
          cases r3 with
          | false =>
            go_wp2_with (first
      | (go_at_call 19; (with_reducible refine (HI0.out _).mono ?_); rintro e v0 ⟨rfl, rfl⟩)
      | (go_at_call 19; (with_reducible refine (HI1.out _).mono ?_); rintro e v1 ⟨rfl, rfl⟩)
      | (go_at_call 19; (with_reducible refine (HI2.out _).mono ?_); rintro e v2 ⟨rfl, rfl⟩)
      | (go_at_call 19; (with_reducible refine (HI3.out _).mono ?_); rintro e v3 ⟨rfl, rfl⟩)
      | (go_at_call 19; (with_reducible refine (HI4.out _).mono ?_); rintro e v4 ⟨rfl, rfl⟩)
      | (go_at_call 19; (with_reducible refine (HI5.out _).mono ?_); rintro e v5 ⟨rfl, rfl⟩)
      | (go_at_call 19; (with_reducible refine (HI6.out _).mono ?_); rintro e v6 ⟨rfl, rfl⟩))
            all_goals
              first | (go_ret; exact ⟨by simp, HB0.out⟩) | (refine bodyPost_ret (v := .bool false) (by simp [results, Tryz.results8, go_sem]) rfl ⟨by simp, HB0.out⟩)
          | true =>
            cases r4 with
            | false =>
              go_wp2_with (first
      | (go_at_call 19; (with_reducible refine (HI0.out _).mono ?_); rintro e v0 ⟨rfl, rfl⟩)
      | (go_at_call 19; (with_reducible refine (HI1.out _).mono ?_); rintro e v1 ⟨rfl, rfl⟩)
      | (go_at_call 19; (with_reducible refine (HI2.out _).mono ?_); rintro e v2 ⟨rfl, rfl⟩)
      | (go_at_call 19; (with_reducible refine (HI3.out _).mono ?_); rintro e v3 ⟨rfl, rfl⟩)
      | (go_at_call 19; (with_reducible refine (HI4.out _).mono ?_); rintro e v4 ⟨rfl, rfl⟩)
      | (go_at_call 19; (with_reducible refine (HI5.out _).mono ?_); rintro e v5 ⟨rfl, rfl⟩)
      | (go_at_call 19; (with_reducible refine (HI6.out _).mono ?_); rintro e v6 ⟨rfl, rfl⟩))
              all_goals
                first | (go_ret; exact ⟨by simp, HB0.out⟩) | (refine bodyPost_ret (v := .bool false) (by simp [results, Tryz.results8, go_sem]) rfl ⟨by simp, HB0.out⟩)
            | true =>
              cases r5 with
              | false =>
                go_wp2_with (first
      | (go_at_call 19; (with_reducible refine (HI0.out _).mono ?_); rintro e v0 ⟨rfl, rfl⟩)
      | (go_at_call 19; (with_reducible refine (HI1.out _).mono ?_); rintro e v1 ⟨rfl, rfl⟩)
      | (go_at_call 19; (with_reducible refine (HI2.out _).mono ?_); rintro e v2 ⟨rfl, rfl⟩)
      | (go_at_call 19; (with_reducible refine (HI3.out _).mono ?_); rintro e v3 ⟨rfl, rfl⟩)
      | (go_at_call 19; (with_reducible refine (HI4.out _).mono ?_); rintro e v4 ⟨rfl, rfl⟩)
      | (go_at_call 19; (with_reducible refine (HI5.out _).mono ?_); rintro e v5 ⟨rfl, rfl⟩)
      | (go_at_call 19; (with_reducible refine (HI6.out _).mono ?_); rintro e v6 ⟨rfl, rfl⟩))
                all_goals
                  first | (go_ret; exact ⟨by simp, HB0.out⟩) | (refine bodyPost_ret (v := .bool false) (by simp [results, Tryz.results8, go_sem]) rfl ⟨by simp, HB0.out⟩)
              | true =>
                cases r6 with
                | false =>
                  go_wp2_with (first
      | (go_at_call 19; (with_reducible refine (HI0.out _).mono ?_); rintro e v0 ⟨rfl, rfl⟩)
      | (go_at_call 19; (with_reducible refine (HI1.out _).mono ?_); rintro e v1 ⟨rfl, rfl⟩)
      | (go_at_call 19; (with_reducible refine (HI2.out _).mono ?_); rintro e v2 ⟨rfl, rfl⟩)
      | (go_at_call 19; (with_reducible refine (HI3.out _).mono ?_); rintro e v3 ⟨rfl, rfl⟩)
      | (go_at_call 19; (with_reducible refine (HI4.out _).mono ?_); rintro e v4 ⟨rfl, rfl⟩)
      | (go_at_call 19; (with_reducible refine (HI5.out _).mono ?_); rintro e v5 ⟨rfl, rfl⟩)
      | (go_at_call 19; (with_reducible refine (HI6.out _).mono ?_); rintro e v6 ⟨rfl, rfl⟩))
                  all_goals
                    first | (go_ret; exact ⟨by simp, HB0.out⟩) | (refine bodyPost_ret (v := .bool false) (by simp [results, Tryz.results8, go_sem]) rfl ⟨by simp, HB0.out⟩)
                | true =>
                  go_upto_region 5 with (first
      | (go_at_call 19; (with_reducible refine (HI0.out _).mono ?_); rintro e v0 ⟨rfl, rfl⟩)
      | (go_at_call 19; (with_reducible refine (HI1.out _).mono ?_); rintro e v1 ⟨rfl, rfl⟩)
      | (go_at_call 19; (with_reducible refine (HI2.out _).mono ?_); rintro e v2 ⟨rfl, rfl⟩)
      | (go_at_call 19; (with_reducible refine (HI3.out _).mono ?_); rintro e v3 ⟨rfl, rfl⟩)
      | (go_at_call 19; (with_reducible refine (HI4.out _).mono ?_); rintro e v4 ⟨rfl, rfl⟩)
      | (go_at_call 19; (with_reducible refine (HI5.out _).mono ?_); rintro e v5 ⟨rfl, rfl⟩)
      | (go_at_call 19; (with_reducible refine (HI6.out _).mono ?_); rintro e v6 ⟨rfl, rfl⟩))
                  by_cases c4 : n ≤ 4
                  · by_cases c0 : n = 0 ∨ kd = 3
                    · have hE0 : (decide (n ≤ 4) && (decide (n = 0) || decide (kd = 3))) = true := by rcases c0 with c | c <;> simp [c4, c]
                      have HE0 := hide hE0
                      clear hE0
                      have g40 : ¬ ((n : Int) > 4) := by omega
                      by_cases d0 : n = 0
                      · have g00 : ¬ ((n : Int) > 0) := by omega
                        go_upto_region 9 with fail
                        clear k0 k1 k2 k3 k4 k5 k6 k7 k8 k9 k10 k11
                        go_loopw [4, 3] (fun i l wr => ∃ (j : Nat) (t : Int), i = .int .i64 (j : Int) ∧ l = .int .i64 t ∧ j ≤ n ∧ upM tm t (es.drop j) = eb ∧ XS w.heap.size #[.int .i64 kd, .int .i64 fr, .int .i64 to, .int .i64 tm, .int .i64 ix, .int .i64 lt, .int .i64 cm, .bool ok, .slice oa n cl, .slice ob m cp, .string ⟨da.toArray⟩, .bool la] 27 wr ∧ Below w.heap.size w wr) (fun i _ _ => n - (intOf i).toNat)
                        case atStart => exact ⟨0, lt, rfl, rfl, Nat.zero_le _, by simpa using HEB.out, HX0.out, HB0.out⟩
                        case round =>
                          obtain ⟨j, t, rfl, rfl, hj, hup, hx, hbel⟩ := hrel
                          have HX := hide hx
                          obtain ⟨k0, k1, k2, k3, k4, k5, k6, k7, k8, k9, k10, k11⟩ := xs12 hx
                          by_cases hlt : j < n
                          · exfalso
                            omega
                          · have hjn : j = n := by omega
                            have HU := hide (show eb = true by
                              rw [← hup, hjn, ← HN.out, List.drop_length]
                              rfl)
                            clear hup hx
                            by_cases k5 : kd = 5
                            · subst k5
                              obtain ⟨cb, hcb⟩ : ∃ cb, confOk zs = cb := ⟨_, rfl⟩
                              rw [hcb] at HCO
                              have HCB := hide hcb
                              clear hcb
                              go_wp2_with fail
                              refine (HCO.out _ (HBT.out.below hbel)).mono ?_
                              rintro e w6 ⟨rfl, hdr⟩
                              have hb6 := hbel.trans (hdr.below.mono hbel.size)
                              have HX6 := hide (HX.out.on hdr.below)
                              clear hdr k0 k1 k2 k3 k4 k5 k6 k7 k8 k9 k10 k11
                              obtain ⟨k0, k1, k2, k3, k4, k5, k6, k7, k8, k9, k10, k11⟩ := xs12 HX6.out
                              cases cb with
                              | false =>
                                go_wp2_with fail
                                go_ret
                                refine ⟨?_, hb6⟩
                                simp [cf, c4, d0, HCB.out, HU.out]
                              | true =>
                                go_wp2_with fail
                                go_ret
                                refine ⟨?_, hb6⟩
                                simp [cf, c4, d0, HCB.out, HU.out]
                                try omega
                            · have g5 : (kd == 5) = false := by simpa using k5
                              by_cases cm0 : m = 0
                              · have gm1 : ((m : Int) == 0) = true := by simp [cm0]
                                by_cases cd0 : da.length = 0
                                · have e0 : da = [] := List.eq_nil_of_length_eq_zero cd0
                                  go_wp2_with fail
                                  go_ret
                                  refine ⟨?_, hbel⟩
                                  simp [cf, c4, d0, k5, cm0, cd0, HU.out]
                                · have e0 : ¬ da = [] := fun q => cd0 (by rw [q]; rfl)
                                  go_wp2_with fail
                                  go_ret
                                  refine ⟨?_, hbel⟩
                                  simp [cf, c4, d0, k5, cm0, cd0, HU.out]
                              · have gm1 : ((m : Int) == 0) = false := by simp [cm0]
                                go_wp2_with fail
                                go_ret
                                refine ⟨?_, hbel⟩
                                simp [cf, c4, d0, k5, cm0, HU.out]
                      · have c3 : kd = 3 := by rcases c0 with c | c <;> first | exact absurd c d0 | exact c
                        have g00 : ((n : Int) > 0) := by omega
                        have g3 : (kd == 3) = true := by simpa using c3
                        go_upto_region 9 with fail
                        clear k0 k1 k2 k3 k4 k5 k6 k7 k8 k9 k10 k11
                        go_loopw [4, 3] (fun i l wr => ∃ (j : Nat) (t : Int), i = .int .i64 (j : Int) ∧ l = .int .i64 t ∧ j ≤ n ∧ upM tm t (es.drop j) = eb ∧ XS w.heap.size #[.int .i64 kd, .int .i64 fr, .int .i64 to, .int .i64 tm, .int .i64 ix, .int .i64 lt, .int .i64 cm, .bool ok, .slice oa n cl, .slice ob m cp, .string ⟨da.toArray⟩, .bool la] 27 wr ∧ Below w.heap.size w wr) (fun i _ _ => n - (intOf i).toNat)
                        case atStart => exact ⟨0, lt, rfl, rfl, Nat.zero_le _, by simpa using HEB.out, HX0.out, HB0.out⟩
                        case round =>
                          obtain ⟨j, t, rfl, rfl, hj, hup, hx, hbel⟩ := hrel
                          have HX := hide hx
                          obtain ⟨k0, k1, k2, k3, k4, k5, k6, k7, k8, k9, k10, k11⟩ := xs12 hx
                          by_cases hlt : j < n
                          · have j0 : (j : Int) < (n : Int) := by omega
                            obtain ⟨f, b, q, hf, hidx, hb, d0, d1, d2⟩ := (HAT.out.below hbel).get3 Tryz.underlying24 infoIE j hlt
                            have hEO := hide (specEntryOk_any f (HW.out f (List.mem_of_getElem? hf)))
                            unfold eval at hEO
                            rw [drop_at6 hf, upM_cons] at hup
                            have HBL := hide hbel
                            clear hf hbel hx
                            cases hok : f.ok with
                            | false =>
                              rw [hok, Bool.false_and] at hup
                              have HU := hide hup
                              have HK := hide hok
                              clear hup hok
                              go_upto_region 11 with fail
                              clear k0 k1 k2 k3 k4 k5 k6 k7 k8 k9 k10 k11
                              refine wp_region_in (F := fun w' => Below wr.heap.size wr w') (by kernel_rfl) (by kernel_rfl) (Below.refl _ _).drew ?_
                              have hne : Nonempty (InW (fun w' => Below wr.heap.size wr w')) := ⟨⟨_, Below.refl _ _⟩⟩
                              have k3 := fun m : InW (fun w' => Below wr.heap.size wr w') => (HX.out.on m.h).cell 3 (u := .int .i64 tm) rfl
                              have k8 := fun m : InW (fun w' => Below wr.heap.size wr w') => (HX.out.on m.h).cell 8 (u := .slice oa n cl) rfl
                              have e0 := fun m : InW (fun w' => Below wr.heap.size wr w') => (m.h.cell hb).trans d0
                              have e1 := fun m : InW (fun w' => Below wr.heap.size wr w') => (m.h.cell hb).trans d1
                              have e2 := fun m : InW (fun w' => Below wr.heap.size wr w') => (m.h.cell hb).trans d2
                              repeat (go_big_quiet_step (first
                                | (go_at_call 20; refine (hEO.out _).mono ?_; rw [HK.out]; rintro e w3 ⟨rfl, hb3⟩; exact ⟨rfl, ⟨w3, inw_more15s _ hb3⟩, rfl⟩)))
                              refine wpQuiet_nil ?_
                              intro _ hw'
                              obtain ⟨nq, hw''⟩ := hw'
                              subst hw''
                              have hb4 := below_from15s HBL.out nq
                              have HX4 := hide (HX.out.on nq.h)
                              have y0 := (nq.h.cell hb).trans d0
                              clear hne k3 k8 e0 e1 e2
                              generalize nq.w = w5 at hb4 HX4 y0 ⊢
                              go_wp2_with fail
                              go_ret
                              refine ⟨?_, hb4⟩
                              rw [← HU.out]
                              simp
                            | true =>
                              rw [hok, Bool.true_and] at hup
                              have HK := hide hok
                              clear hok
                              by_cases ct : t ≤ f.term ∧ f.term ≤ tm
                              · rw [inR_iff.2 ct, Bool.true_and] at hup
                                have HU := hide hup
                                obtain ⟨ct1, ct2⟩ := ct
                                have ct3 : ¬ f.term < t := by omega
                                have ct4 : ¬ f.term > tm := by omega
                                clear hup
                                go_upto_region 11 with fail
                                clear k0 k1 k2 k3 k4 k5 k6 k7 k8 k9 k10 k11
                                refine wp_region_in (F := fun w' => Below wr.heap.size wr w') (by kernel_rfl) (by kernel_rfl) (Below.refl _ _).drew ?_
                                have hne : Nonempty (InW (fun w' => Below wr.heap.size wr w')) := ⟨⟨_, Below.refl _ _⟩⟩
                                have k3 := fun m : InW (fun w' => Below wr.heap.size wr w') => (HX.out.on m.h).cell 3 (u := .int .i64 tm) rfl
                                have k8 := fun m : InW (fun w' => Below wr.heap.size wr w') => (HX.out.on m.h).cell 8 (u := .slice oa n cl) rfl
                                have e0 := fun m : InW (fun w' => Below wr.heap.size wr w') => (m.h.cell hb).trans d0
                                have e1 := fun m : InW (fun w' => Below wr.heap.size wr w') => (m.h.cell hb).trans d1
                                have e2 := fun m : InW (fun w' => Below wr.heap.size wr w') => (m.h.cell hb).trans d2
                                repeat (go_big_quiet_step (first
                                  | (go_at_call 20; refine (hEO.out _).mono ?_; rw [HK.out]; rintro e w3 ⟨rfl, hb3⟩; exact ⟨rfl, ⟨w3, inw_more15s _ hb3⟩, rfl⟩)))
                                refine wpQuiet_nil ?_
                                intro _ hw'
                                obtain ⟨nq, hw''⟩ := hw'
                                subst hw''
                                have hb4 := below_from15s HBL.out nq
                                have HX4 := hide (HX.out.on nq.h)
                                have y0 := (nq.h.cell hb).trans d0
                                clear hne k3 k8 e0 e1 e2
                                generalize nq.w = w5 at hb4 HX4 y0 ⊢
                                obtain ⟨k0, k1, k2, k3, k4, k5, k6, k7, k8, k9, k10, k11⟩ := xs12 HX4.out
                                go_wp2_with fail
                                go_roundw
                                case rel => exact ⟨j + 1, f.term, by go_num, rfl, by omega, HU.out, HX4.out, hb4⟩
                                case measure => simp [intOf]; omega
                              · have hno : inR f.term t tm = false := by
                                  cases h : inR f.term t tm with
                                  | false => rfl
                                  | true => exact absurd (inR_iff.1 h) ct
                                rw [hno, Bool.false_and] at hup
                                have HU := hide hup
                                clear hup
                                by_cases ct3 : f.term < t
                                · skip
                                  go_upto_region 11 with fail
                                  clear k0 k1 k2 k3 k4 k5 k6 k7 k8 k9 k10 k11
                                  refine wp_region_in (F := fun w' => Below wr.heap.size wr w') (by kernel_rfl) (by kernel_rfl) (Below.refl _ _).drew ?_
                                  have hne : Nonempty (InW (fun w' => Below wr.heap.size wr w')) := ⟨⟨_, Below.refl _ _⟩⟩
                                  have k3 := fun m : InW (fun w' => Below wr.heap.size wr w') => (HX.out.on m.h).cell 3 (u := .int .i64 tm) rfl
                                  have k8 := fun m : InW (fun w' => Below wr.heap.size wr w') => (HX.out.on m.h).cell 8 (u := .slice oa n cl) rfl
                                  have e0 := fun m : InW (fun w' => Below wr.heap.size wr w') => (m.h.cell hb).trans d0
                                  have e1 := fun m : InW (fun w' => Below wr.heap.size wr w') => (m.h.cell hb).trans d1
                                  have e2 := fun m : InW (fun w' => Below wr.heap.size wr w') => (m.h.cell hb).trans d2
                                  repeat (go_big_quiet_step (first
                                    | (go_at_call 20; refine (hEO.out _).mono ?_; rw [HK.out]; rintro e w3 ⟨rfl, hb3⟩; exact ⟨rfl, ⟨w3, inw_more15s _ hb3⟩, rfl⟩)))
                                  refine wpQuiet_nil ?_
                                  intro _ hw'
                                  obtain ⟨nq, hw''⟩ := hw'
                                  subst hw''
                                  have hb4 := below_from15s HBL.out nq
                                  have HX4 := hide (HX.out.on nq.h)
                                  have y0 := (nq.h.cell hb).trans d0
                                  clear hne k3 k8 e0 e1 e2
                                  generalize nq.w = w5 at hb4 HX4 y0 ⊢
                                  go_wp2_with fail
                                  go_ret
                                  refine ⟨?_, hb4⟩
                                  rw [← HU.out]
                                  simp
                                · have ct4 : f.term > tm := by omega
                                  go_upto_region 11 with fail
                                  clear k0 k1 k2 k3 k4 k5 k6 k7 k8 k9 k10 k11
                                  refine wp_region_in (F := fun w' => Below wr.heap.size wr w') (by kernel_rfl) (by kernel_rfl) (Below.refl _ _).drew ?_
                                  have hne : Nonempty (InW (fun w' => Below wr.heap.size wr w')) := ⟨⟨_, Below.refl _ _⟩⟩
                                  have k3 := fun m : InW (fun w' => Below wr.heap.size wr w') => (HX.out.on m.h).cell 3 (u := .int .i64 tm) rfl
                                  have k8 := fun m : InW (fun w' => Below wr.heap.size wr w') => (HX.out.on m.h).cell 8 (u := .slice oa n cl) rfl
                                  have e0 := fun m : InW (fun w' => Below wr.heap.size wr w') => (m.h.cell hb).trans d0
                                  have e1 := fun m : InW (fun w' => Below wr.heap.size wr w') => (m.h.cell hb).trans d1
                                  have e2 := fun m : InW (fun w' => Below wr.heap.size wr w') => (m.h.cell hb).trans d2
                                  repeat (go_big_quiet_step (first
                                    | (go_at_call 20; refine (hEO.out _).mono ?_; rw [HK.out]; rintro e w3 ⟨rfl, hb3⟩; exact ⟨rfl, ⟨w3, inw_more15s _ hb3⟩, rfl⟩)))
                                  refine wpQuiet_nil ?_
                                  intro _ hw'
                                  obtain ⟨nq, hw''⟩ := hw'
                                  subst hw''
                                  have hb4 := below_from15s HBL.out nq
                                  have HX4 := hide (HX.out.on nq.h)
                                  have y0 := (nq.h.cell hb).trans d0
                                  clear hne k3 k8 e0 e1 e2
                                  generalize nq.w = w5 at hb4 HX4 y0 ⊢
                                  go_wp2_with fail
                                  go_ret
                                  refine ⟨?_, hb4⟩
                                  rw [← HU.out]
                                  simp
                          · have hjn : j = n := by omega
                            have HU := hide (show eb = true by
                              rw [← hup, hjn, ← HN.out, List.drop_length]
                              rfl)
                            clear hup hx
                            · have k5 : ¬ kd = 5 := by omega
                              have g5 : (kd == 5) = false := by simpa using k5
                              by_cases cm0 : m = 0
                              · have gm1 : ((m : Int) == 0) = true := by simp [cm0]
                                by_cases cd0 : da.length = 0
                                · have e0 : da = [] := List.eq_nil_of_length_eq_zero cd0
                                  go_wp2_with fail
                                  go_ret
                                  refine ⟨?_, hbel⟩
                                  simp [cf, c4, c3, k5, cm0, cd0, HU.out]
                                · have e0 : ¬ da = [] := fun q => cd0 (by rw [q]; rfl)
                                  go_wp2_with fail
                                  go_ret
                                  refine ⟨?_, hbel⟩
                                  simp [cf, c4, c3, k5, cm0, cd0, HU.out]
                              · have gm1 : ((m : Int) == 0) = false := by simp [cm0]
                                go_wp2_with fail
                                go_ret
                                refine ⟨?_, hbel⟩
                                simp [cf, c4, c3, k5, cm0, HU.out]
                    · have d0 : ¬ n = 0 := fun c => c0 (Or.inl c)
                      have d3 : ¬ kd = 3 := fun c => c0 (Or.inr c)
                      have g00 : ((n : Int) > 0) := by omega
                      have g40 : ¬ ((n : Int) > 4) := by omega
                      have g3 : (kd == 3) = false := by simpa using d3
                      go_wp2_with (first
      | (go_at_call 19; (with_reducible refine (HI0.out _).mono ?_); rintro e v0 ⟨rfl, rfl⟩)
      | (go_at_call 19; (with_reducible refine (HI1.out _).mono ?_); rintro e v1 ⟨rfl, rfl⟩)
      | (go_at_call 19; (with_reducible refine (HI2.out _).mono ?_); rintro e v2 ⟨rfl, rfl⟩)
      | (go_at_call 19; (with_reducible refine (HI3.out _).mono ?_); rintro e v3 ⟨rfl, rfl⟩)
      | (go_at_call 19; (with_reducible refine (HI4.out _).mono ?_); rintro e v4 ⟨rfl, rfl⟩)
      | (go_at_call 19; (with_reducible refine (HI5.out _).mono ?_); rintro e v5 ⟨rfl, rfl⟩)
      | (go_at_call 19; (with_reducible refine (HI6.out _).mono ?_); rintro e v6 ⟨rfl, rfl⟩))
                      all_goals
                        first | (go_ret; exact ⟨by simp [d0, d3], HB0.out⟩) | (refine bodyPost_ret (v := .bool false) (by simp [results, Tryz.results8, go_sem]) rfl ⟨by simp [d0, d3], HB0.out⟩)
                  · have g40 : ((n : Int) > 4) := by omega
                    go_wp2_with (first
      | (go_at_call 19; (with_reducible refine (HI0.out _).mono ?_); rintro e v0 ⟨rfl, rfl⟩)
      | (go_at_call 19; (with_reducible refine (HI1.out _).mono ?_); rintro e v1 ⟨rfl, rfl⟩)
      | (go_at_call 19; (with_reducible refine (HI2.out _).mono ?_); rintro e v2 ⟨rfl, rfl⟩)
      | (go_at_call 19; (with_reducible refine (HI3.out _).mono ?_); rintro e v3 ⟨rfl, rfl⟩)
      | (go_at_call 19; (with_reducible refine (HI4.out _).mono ?_); rintro e v4 ⟨rfl, rfl⟩)
      | (go_at_call 19; (with_reducible refine (HI5.out _).mono ?_); rintro e v5 ⟨rfl, rfl⟩)
      | (go_at_call 19; (with_reducible refine (HI6.out _).mono ?_); rintro e v6 ⟨rfl, rfl⟩))
                    all_goals
                      first | (go_ret; exact ⟨by simp [c4], HB0.out⟩) | (refine bodyPost_ret (v := .bool false) (by simp [results, Tryz.results8, go_sem]) rfl ⟨by simp [c4], HB0.out⟩)

end Go.Proofs.YtmllcomppjkhhaaGreatDoor
