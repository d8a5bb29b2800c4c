/-
  Walks and mathematics of Same1.
-/
import Derived.Test.YtckkfjmjcknjdaaSHPlain9
import Derived.Test.YtckkfjmjcknjdaaSHEv5
namespace Go.Proofs.Ytckkfjmjcknjdaa.P1
end Go.Proofs.Ytckkfjmjcknjdaa.P1
namespace Go.Proofs.Ytckkfjmjcknjdaa.P11
end Go.Proofs.Ytckkfjmjcknjdaa.P11
namespace Go.Proofs.Ytckkfjmjcknjdaa.P18
end Go.Proofs.Ytckkfjmjcknjdaa.P18
namespace Go.Proofs.Ytckkfjmjcknjdaa.P3
end Go.Proofs.Ytckkfjmjcknjdaa.P3
namespace Go.Proofs.Ytckkfjmjcknjdaa
open Go.RowKit P1 P3 P9 P11 P12 P18 K
set_option linter.unusedVariables false
set_option linter.unusedSimpArgs false

set_option maxHeartbeats 1000000 in
theorem l05SameInts_any (oa : Option Addr) (n cap : Nat) (ob : Option Addr) (m cap' : Nat) (zs ys : List Int) (w : World) (hat : IntsAt w oa n cap zs) (hbt : IntsAt w ob m cap' ys) :
    Calls Try.prog 27 #[.slice oa n cap, .slice ob m cap'] w fun e w' => e = .returned (.bool (decide (zs = ys))) ∧ Below w.heap.size w w' := by
  have hn := hat.len
  have hm := hbt.len
  have hmx := Nat.le_trans hat.room hat.most
  unfold maxLen at hmx
  by_cases c : n = m
  · subst c
    have HAT := hide hat
    have HBT := hide hbt
    have HN := hide hn
    have HM := hide hm
    clear hat hbt hn hm
    go_enter Try.func27, Try.ntmps27
    go_wp2_with fail
    go_loopw [5] (fun i wr => ∃ (j q : Nat), i = .int .i64 (j : Int) ∧ j ≤ n ∧ wr = w.drewN q ∧ (∀ k, k < j → zs[k]? = ys[k]?)) (fun i _ => n - (intOf i).toNat)
    case atStart => exact ⟨0, 0, rfl, Nat.zero_le _, rfl, fun k hk => absurd hk (Nat.not_lt_zero _)⟩
    case round =>
      obtain ⟨j, q, rfl, hj, rfl, hall⟩ := hrel
      have HALL := hide hall
      clear hall
      by_cases hlt : j < n
      · have j0 : (j : Int) < (n : Int) := by omega
        obtain ⟨z, b, p, hz, hidx, hb, c0, hwf⟩ := HAT.out.get Try.underlying46 infoI j hlt
        obtain ⟨z', b', p', hz', hidx', hb', c0', hwf'⟩ := HBT.out.get Try.underlying46 infoI j hlt
        by_cases he : z = z'
        · subst he
          have HZ := hide (hz.trans hz'.symm)
          clear hz hz'
          go_wp2_with fail
          go_quiet (fail)
          go_wp2_with fail
          go_roundw
          case rel =>
            refine ⟨j + 1, q + nq, by go_num, by omega, by simp, fun k hk => ?_⟩
            by_cases e : k = j
            · subst e; exact HZ.out
            · exact HALL.out k (by omega)
          case measure => simp [intOf]; omega
        · have he2 : (z == z') = false := by simpa using he
          have HNE := hide (show decide (zs = ys) = false by
            simp only [decide_eq_false_iff_not]
            intro e
            subst e
            rw [hz] at hz'
            exact he (Option.some.inj hz'))
          clear hz hz'
          go_wp2_with fail
          go_quiet (fail)
          go_wp2_with fail
          go_ret
          exact ⟨by rw [HNE.out]; rfl, below_drewN (below_drewN (Below.refl _ _) _) _⟩
      · have HNE := hide (show decide (zs = ys) = true by
          simp only [decide_eq_true_eq]
          apply List.ext_getElem?
          intro k
          by_cases hk : k < j
          · exact HALL.out k hk
          · rw [List.getElem?_eq_none (by have := HN.out; omega), List.getElem?_eq_none (by have := HM.out; omega)])
        go_wp2_with fail
        go_ret
        exact ⟨by rw [HNE.out]; rfl, below_drewN (Below.refl _ _) _⟩
  · have c2 : ((n : Int) == (m : Int)) = false := by simp; omega
    have hne : decide (zs = ys) = false := by
      simp only [decide_eq_false_iff_not]
      intro e
      subst e
      omega
    rw [hne]
    clear hat hbt
    go_enter Try.func27, Try.ntmps27
    go_wp2_with fail
    go_ret
    exact ⟨rfl, Below.refl _ _⟩

def sameE (e f : EvV) : Bool := decide (e.id = f.id) && (decide (e.kind = f.kind) && (decide (e.sender = f.sender) && (decide (e.user = f.user) && (decide (e.member = f.member) && (decide (e.text = f.text) && (decide (e.depth = f.depth) && (decide (e.levels = f.levels) && decide (e.prev = f.prev))))))))

theorem sameE_iff {e f : EvV} : sameE e f = true ↔ e = f := by
  obtain ⟨a1, a2, a3, a4, a5, a6, a7, a8, a9⟩ := e
  obtain ⟨b1, b2, b3, b4, b5, b6, b7, b8, b9⟩ := f
  simp only [sameE, Bool.and_eq_true, decide_eq_true_eq, EvV.mk.injEq]
  constructor
  · rintro ⟨h1, h2, h3, h4, h5, h6, h7, h8, h9⟩
    exact ⟨h1, h2, h3, h4, h5, h8, h6, h9, h7⟩
  · rintro ⟨h1, h2, h3, h4, h5, h6, h7, h8, h9⟩
    exact ⟨h1, h2, h3, h4, h5, h7, h9, h6, h8⟩

set_option maxHeartbeats 4000000 in
theorem l09Same_any (id kd sn us mb dp : Int) (oa : Option Addr) (n cl : Nat) (tx : List UInt8) (ob : Option Addr) (m cp : Nat) (zl zp : List Int) (id2 kd2 sn2 us2 mb2 dp2 : Int) (oa2 : Option Addr) (n2 cl2 : Nat) (tx2 : List UInt8) (ob2 : Option Addr) (m2 cp2 : Nat) (zl2 zp2 : List Int) (w : World) (h1 : IntsAt w oa n cl zl) (h2 : IntsAt w oa2 n2 cl2 zl2) (h3 : IntsAt w ob m cp zp) (h4 : IntsAt w ob2 m2 cp2 zp2) :
    Calls Try.prog 54 #[evval id kd sn us mb dp (.slice oa n cl) (.slice ob m cp) tx, evval id2 kd2 sn2 us2 mb2 dp2 (.slice oa2 n2 cl2) (.slice ob2 m2 cp2) tx2] w fun e w' => e = .returned (.bool (sameE (⟨id, kd, sn, us, mb, zl, tx, zp, dp⟩ : EvV) (⟨id2, kd2, sn2, us2, mb2, zl2, tx2, zp2, dp2⟩ : EvV))) ∧ Below w.heap.size w w' := by
  have hb0 := ((Below.refl w.heap.size w).alloc (Nat.le_refl _) (.cells #[.int .i64 id, .int .i64 kd, .int .i64 sn, .int .i64 us, .int .i64 mb, .slice oa n cl, .string ⟨tx.toArray⟩, .slice ob m cp, .int .i64 dp] 83)).alloc (by simp) (.cells #[.int .i64 id2, .int .i64 kd2, .int .i64 sn2, .int .i64 us2, .int .i64 mb2, .slice oa2 n2 cl2, .string ⟨tx2.toArray⟩, .slice ob2 m2 cp2, .int .i64 dp2] 83)
  have HL := hide (fun w h1 h2 => l05SameInts_any oa n cl oa2 n2 cl2 zl zl2 w h1 h2)
  have HP := hide (fun w h1 h2 => l05SameInts_any ob m cp ob2 m2 cp2 zp zp2 w h1 h2)
  have HQ := hide ((EB.new w id kd sn us mb dp (.slice oa n cl) (.slice ob m cp) tx).on ((Below.refl _ _).alloc (Nat.le_refl _) (.cells #[.int .i64 id2, .int .i64 kd2, .int .i64 sn2, .int .i64 us2, .int .i64 mb2, .slice oa2 n2 cl2, .string ⟨tx2.toArray⟩, .slice ob2 m2 cp2, .int .i64 dp2] 83)) (by simp))
  have hR := EB.new (w.alloc (.cells #[.int .i64 id, .int .i64 kd, .int .i64 sn, .int .i64 us, .int .i64 mb, .slice oa n cl, .string ⟨tx.toArray⟩, .slice ob m cp, .int .i64 dp] 83)) id2 kd2 sn2 us2 mb2 dp2 (.slice oa2 n2 cl2) (.slice ob2 m2 cp2) tx2
  rw [World.size_alloc] at hR
  have HR := hide hR
  have HB0 := hide hb0
  have HA0 := hide (h1.below hb0)
  have HX0 := hide (h2.below hb0)
  have HC0 := hide (h3.below hb0)
  have HY0 := hide (h4.below hb0)
  clear h1 h2 h3 h4 hb0 hR
  unfold sameE
  simp only
  generalize decide (zl = zl2) = bL at HL ⊢
  generalize decide (zp = zp2) = bP at HP ⊢
  obtain ⟨b0, q0⟩ : ∃ b0, decide (id = id2) = b0 := ⟨_, rfl⟩
  obtain ⟨b1, q1⟩ : ∃ b1, decide (kd = kd2) = b1 := ⟨_, rfl⟩
  obtain ⟨b2, q2⟩ : ∃ b2, decide (sn = sn2) = b2 := ⟨_, rfl⟩
  obtain ⟨b3, q3⟩ : ∃ b3, decide (us = us2) = b3 := ⟨_, rfl⟩
  obtain ⟨b4, q4⟩ : ∃ b4, decide (mb = mb2) = b4 := ⟨_, rfl⟩
  obtain ⟨b5, q5⟩ : ∃ b5, decide (tx = tx2) = b5 := ⟨_, rfl⟩
  obtain ⟨b6, q6⟩ : ∃ b6, decide (dp = dp2) = b6 := ⟨_, rfl⟩
  rw [q0, q1, q2, q3, q4, q5, q6]
  have i0 : (id == id2) = b0 := by rw [← q0, Bool.eq_iff_iff]; simp
  have i1 : (kd == kd2) = b1 := by rw [← q1, Bool.eq_iff_iff]; simp
  have i2 : (sn == sn2) = b2 := by rw [← q2, Bool.eq_iff_iff]; simp
  have i3 : (us == us2) = b3 := by rw [← q3, Bool.eq_iff_iff]; simp
  have i4 : (mb == mb2) = b4 := by rw [← q4, Bool.eq_iff_iff]; simp
  have i5 : (tx == tx2) = b5 := by rw [← q5, Bool.eq_iff_iff]; simp
  have i6 : (dp == dp2) = b6 := by rw [← q6, Bool.eq_iff_iff]; simp
  clear q0 q1 q2 q3 q4 q5 q6
  cases b0 with
  | false =>
    go_enter Try.func54, Try.ntmps54
    go_wp2_with fail
    go_ret
    exact ⟨rfl, HB0.out⟩
  | true =>
    cases b1 with
    | false =>
      go_enter Try.func54, Try.ntmps54
      go_wp2_with fail
      go_ret
      exact ⟨rfl, HB0.out⟩
    | true =>
      cases b2 with
      | false =>
        go_enter Try.func54, Try.ntmps54
        go_wp2_with fail
        go_ret
        exact ⟨rfl, HB0.out⟩
      | true =>
        cases b3 with
        | false =>
          go_enter Try.func54, Try.ntmps54
          go_wp2_with fail
          go_ret
          exact ⟨rfl, HB0.out⟩
        | true =>
          cases b4 with
          | false =>
            go_enter Try.func54, Try.ntmps54
            go_wp2_with fail
            go_ret
            exact ⟨rfl, HB0.out⟩
          | true =>
            cases b5 with
            | false =>
              go_enter Try.func54, Try.ntmps54
              go_wp2_with fail
              go_ret
              exact ⟨rfl, HB0.out⟩
            | true =>
              cases b6 with
              | false =>
                go_enter Try.func54, Try.ntmps54
                go_wp2_with fail
                go_ret
                exact ⟨rfl, HB0.out⟩
              | true =>
                cases bL with
                | false =>
                  go_enter Try.func54, Try.ntmps54
                  go_wp2_with fail
                  refine (HL.out _ HA0.out HX0.out).mono ?_
                  rintro e w1 ⟨rfl, hb1⟩
                  have HB1 := hide (HB0.out.trans (hb1.mono HB0.out.size))
                  have HC1 := hide (HC0.out.below hb1)
                  have HY1 := hide (HY0.out.below hb1)
                  obtain ⟨k0, k1, k2, k3, k4, k5, k6, k7, k8⟩ := (HQ.out.on hb1 HQ.out.lt).ev
                  obtain ⟨l0, l1, l2, l3, l4, l5, l6, l7, l8⟩ := (HR.out.on hb1 HR.out.lt).ev
                  clear hb1
                  go_wp2_with fail
                  go_ret
                  exact ⟨rfl, HB1.out⟩
                | true =>
                  cases bP with
                  | false =>
                    go_enter Try.func54, Try.ntmps54
                    go_wp2_with fail
                    refine (HL.out _ HA0.out HX0.out).mono ?_
                    rintro e w1 ⟨rfl, hb1⟩
                    have HB1 := hide (HB0.out.trans (hb1.mono HB0.out.size))
                    have HC1 := hide (HC0.out.below hb1)
                    have HY1 := hide (HY0.out.below hb1)
                    obtain ⟨k0, k1, k2, k3, k4, k5, k6, k7, k8⟩ := (HQ.out.on hb1 HQ.out.lt).ev
                    obtain ⟨l0, l1, l2, l3, l4, l5, l6, l7, l8⟩ := (HR.out.on hb1 HR.out.lt).ev
                    clear hb1
                    go_wp2_with fail
                    refine (HP.out _ HC1.out HY1.out).mono ?_
                    rintro e w2 ⟨rfl, hb2⟩
                    have HB2 := hide (HB1.out.trans (hb2.mono HB1.out.size))
                    clear hb2
                    go_wp2_with fail
                    go_ret
                    exact ⟨rfl, HB2.out⟩
                  | true =>
                    go_enter Try.func54, Try.ntmps54
                    go_wp2_with fail
                    refine (HL.out _ HA0.out HX0.out).mono ?_
                    rintro e w1 ⟨rfl, hb1⟩
                    have HB1 := hide (HB0.out.trans (hb1.mono HB0.out.size))
                    have HC1 := hide (HC0.out.below hb1)
                    have HY1 := hide (HY0.out.below hb1)
                    obtain ⟨k0, k1, k2, k3, k4, k5, k6, k7, k8⟩ := (HQ.out.on hb1 HQ.out.lt).ev
                    obtain ⟨l0, l1, l2, l3, l4, l5, l6, l7, l8⟩ := (HR.out.on hb1 HR.out.lt).ev
                    clear hb1
                    go_wp2_with fail
                    refine (HP.out _ HC1.out HY1.out).mono ?_
                    rintro e w2 ⟨rfl, hb2⟩
                    have HB2 := hide (HB1.out.trans (hb2.mono HB1.out.size))
                    clear hb2
                    go_wp2_with fail
                    go_ret
                    exact ⟨rfl, HB2.out⟩

end Go.Proofs.Ytckkfjmjcknjdaa
