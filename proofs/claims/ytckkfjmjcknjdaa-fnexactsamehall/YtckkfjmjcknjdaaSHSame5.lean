/-
  Walks and mathematics of Same5.
-/
import Derived.Test.YtckkfjmjcknjdaaSHSame4
namespace Go.Proofs.Ytckkfjmjcknjdaa.P1
end Go.Proofs.Ytckkfjmjcknjdaa.P1
namespace Go.Proofs.Ytckkfjmjcknjdaa.P11
end Go.Proofs.Ytckkfjmjcknjdaa.P11
namespace Go.Proofs.Ytckkfjmjcknjdaa.P14
end Go.Proofs.Ytckkfjmjcknjdaa.P14
namespace Go.Proofs.Ytckkfjmjcknjdaa.P3
end Go.Proofs.Ytckkfjmjcknjdaa.P3
namespace Go.Proofs.Ytckkfjmjcknjdaa.P5
end Go.Proofs.Ytckkfjmjcknjdaa.P5
namespace Go.Proofs.Ytckkfjmjcknjdaa
open Go.RowKit P1 P3 P5 P9 P11 P12 P14 K
set_option linter.unusedVariables false
set_option linter.unusedSimpArgs false

set_option maxRecDepth 100000 in
set_option maxHeartbeats 4000000 in
theorem sameRoom_any (es es2 : List EvV) (ss ss2 : List (List (Int × Int))) (gs gs2 : List Bool) (hf : FineR es ss gs) (oa : Option Addr) (n cap : Nat) (so : Option Addr) (sn sc : Nat) (go : Option Addr) (gn gc : Nat) (ob : Option Addr) (n' cap' : Nat) (sp : Option Addr) (sn' sc' : Nat) (gp : Option Addr) (gn' gc' : Nat) (w : World) (r1 : EvsAt w oa n cap es) (r2 : StsAt w so sn sc ss) (r3 : BoolsAt w go gn gc gs) (s1 : EvsAt w ob n' cap' es2) (s2 : StsAt w sp sn' sc' ss2) (s3 : BoolsAt w gp gn' gc' gs2) :
    Calls Try.prog 32 #[roomv oa n cap so sn sc go gn gc, roomv ob n' cap' sp sn' sc' gp gn' gc'] w fun e w' => e = .returned (.bool (eqB es es2 && (eqB ss ss2 && eqB gs gs2))) ∧ Below w.heap.size w w' := by
  obtain ⟨W0, hW0⟩ : ∃ W0, (w.alloc (.cells #[.slice oa n cap, .slice so sn sc, .slice go gn gc] 27)).alloc (.cells #[.slice ob n' cap', .slice sp sn' sc', .slice gp gn' gc'] 27) = W0 := ⟨_, rfl⟩
  obtain ⟨hA0, hB0, hb0⟩ := two_new w #[.slice oa n cap, .slice so sn sc, .slice go gn gc] #[.slice ob n' cap', .slice sp sn' sc', .slice gp gn' gc'] 27 27
  rw [hW0] at hA0 hB0 hb0
  have hgl : gn ≤ 1048576 := by rw [← r3.len]; exact hf.gl
  have HR := True.intro
  have hlA := blk_lt hA0
  have hlB := blk_lt hB0
  have HE0 := hide (fun W (hb : Below W0.heap.size W0 W) => equalEvents_any oa n cap es ob n' cap' es2 hf.ev W ((r1.below hb0).below hb) ((s1.below hb0).below hb))
  have HE1 := hide (fun W (hb : Below W0.heap.size W0 W) => equalStates_any so sn sc ss sp sn' sc' ss2 hf.sw W ((r2.below hb0).below hb) ((s2.below hb0).below hb))
  have HE2 := hide (fun W (hb : Below W0.heap.size W0 W) => equalBools_any go gn gc gs gp gn' gc' gs2 hgl W ((r3.below hb0).below hb) ((s3.below hb0).below hb))
  have HA0 := hide (show ∀ W, Below W0.heap.size W0 W → W.cell? ⟨w.heap.size, 0, none⟩ = some (.slice oa n cap) from fun W hb => (hb.cell hlA).trans (blk_cell hA0 0 rfl))
  have HC0 := hide (show ∀ W, Below W0.heap.size W0 W → W.cell? ⟨w.heap.size + 1, 0, none⟩ = some (.slice ob n' cap') from fun W hb => (hb.cell hlB).trans (blk_cell hB0 0 rfl))
  have HA1 := hide (show ∀ W, Below W0.heap.size W0 W → W.cell? ⟨w.heap.size, 1, none⟩ = some (.slice so sn sc) from fun W hb => (hb.cell hlA).trans (blk_cell hA0 1 rfl))
  have HC1 := hide (show ∀ W, Below W0.heap.size W0 W → W.cell? ⟨w.heap.size + 1, 1, none⟩ = some (.slice sp sn' sc') from fun W hb => (hb.cell hlB).trans (blk_cell hB0 1 rfl))
  have HA2 := hide (show ∀ W, Below W0.heap.size W0 W → W.cell? ⟨w.heap.size, 2, none⟩ = some (.slice go gn gc) from fun W hb => (hb.cell hlA).trans (blk_cell hA0 2 rfl))
  have HC2 := hide (show ∀ W, Below W0.heap.size W0 W → W.cell? ⟨w.heap.size + 1, 2, none⟩ = some (.slice gp gn' gc') from fun W hb => (hb.cell hlB).trans (blk_cell hB0 2 rfl))
  have HW0 := hide hW0
  have HB0 := hide hb0
  clear hW0 hb0 hA0 hB0 r1 r2 r3 s1 s2 s3 hf hgl HR
  generalize eqB es es2 = q0 at HE0 ⊢
  generalize eqB ss ss2 = q1 at HE1 ⊢
  generalize eqB gs gs2 = q2 at HE2 ⊢
  cases q0 with
  | false =>
    go_enter Try.func32, Try.ntmps32
    go_upto_region 1 with fail
    rw [HW0.out]
    clear HW0
    have s0 := HA0.out W0 (Below.refl _ _); have t0 := HC0.out W0 (Below.refl _ _)
    go_wp2_with (first
      | (go_at_call 61; (with_reducible refine (HE0.out _ (Below.refl _ _)).mono ?_); rintro r w1 ⟨rfl, hb1'⟩; have hb1 : Below W0.heap.size W0 w1 := hb1'))
    go_ret
    exact ⟨rfl, HB0.out.trans (hb1.mono HB0.out.size)⟩
  | true =>
    cases q1 with
    | false =>
      go_enter Try.func32, Try.ntmps32
      go_upto_region 1 with fail
      rw [HW0.out]
      clear HW0
      have s0 := HA0.out W0 (Below.refl _ _); have t0 := HC0.out W0 (Below.refl _ _)
      go_wp2_with (first
        | (go_at_call 61; (with_reducible refine (HE0.out _ (Below.refl _ _)).mono ?_); rintro r w1 ⟨rfl, hb1'⟩; have hb1 : Below W0.heap.size W0 w1 := hb1'; have s1 := HA1.out w1 hb1; have t1 := HC1.out w1 hb1)
        | (go_at_call 63; (with_reducible refine (HE1.out _ hb1).mono ?_); rintro r w2 ⟨rfl, hb2'⟩; have hb2 : Below W0.heap.size W0 w2 := hb1.trans (hb2'.mono hb1.size)))
      go_ret
      exact ⟨rfl, HB0.out.trans (hb2.mono HB0.out.size)⟩
    | true =>
      go_enter Try.func32, Try.ntmps32
      go_upto_region 1 with fail
      rw [HW0.out]
      clear HW0
      have s0 := HA0.out W0 (Below.refl _ _); have t0 := HC0.out W0 (Below.refl _ _)
      go_wp2_with (first
        | (go_at_call 61; (with_reducible refine (HE0.out _ (Below.refl _ _)).mono ?_); rintro r w1 ⟨rfl, hb1'⟩; have hb1 : Below W0.heap.size W0 w1 := hb1'; have s1 := HA1.out w1 hb1; have t1 := HC1.out w1 hb1)
        | (go_at_call 63; (with_reducible refine (HE1.out _ hb1).mono ?_); rintro r w2 ⟨rfl, hb2'⟩; have hb2 : Below W0.heap.size W0 w2 := hb1.trans (hb2'.mono hb1.size); have s2 := HA2.out w2 hb2; have t2 := HC2.out w2 hb2)
        | (go_at_call 65; (with_reducible refine (HE2.out _ hb2).mono ?_); rintro r w3 ⟨rfl, hb3'⟩; have hb3 : Below W0.heap.size W0 w3 := hb2.trans (hb3'.mono hb2.size)))
      go_ret
      exact ⟨rfl, HB0.out.trans (hb3.mono HB0.out.size)⟩

set_option maxRecDepth 100000 in
set_option maxHeartbeats 4000000 in
theorem implSameHall_any (ps ps2 : List SesV) (es es2 : List EvV) (ss ss2 : List (List (Int × Int))) (gs gs2 : List Bool) (os os2 : List OutX) (hf : FineH ps es ss gs os) (pa : Option Addr) (pn pc : Nat) (oa : Option Addr) (n cap : Nat) (so : Option Addr) (sn sc : Nat) (go : Option Addr) (gn gc : Nat) (qa : Option Addr) (qn qc : Nat) (pb : Option Addr) (pn' pd : Nat) (ob : Option Addr) (n' cap' : Nat) (sp : Option Addr) (sn' sc' : Nat) (gp : Option Addr) (gn' gc' : Nat) (qb : Option Addr) (qn' qd : Nat) (w : World) (h : HallAt w pa pn pc oa n cap so sn sc go gn gc qa qn qc ps es ss gs os) (k : HallAt w pb pn' pd ob n' cap' sp sn' sc' gp gn' gc' qb qn' qd ps2 es2 ss2 gs2 os2) :
    Calls Try.prog 13 #[hallv pa pn pc oa n cap so sn sc go gn gc qa qn qc, hallv pb pn' pd ob n' cap' sp sn' sc' gp gn' gc' qb qn' qd] w fun e w' => e = .returned (.bool (eqB ps ps2 && ((eqB es es2 && (eqB ss ss2 && eqB gs gs2)) && eqB os os2))) ∧ Below w.heap.size w w' := by
  obtain ⟨W0, hW0⟩ : ∃ W0, (w.alloc (.cells #[.slice pa pn pc, .slice oa n cap, .slice so sn sc, .slice go gn gc, .slice qa qn qc] 30)).alloc (.cells #[.slice pb pn' pd, .slice ob n' cap', .slice sp sn' sc', .slice gp gn' gc', .slice qb qn' qd] 30) = W0 := ⟨_, rfl⟩
  obtain ⟨hA0, hB0, hb0⟩ := two_new w #[.slice pa pn pc, .slice oa n cap, .slice so sn sc, .slice go gn gc, .slice qa qn qc] #[.slice pb pn' pd, .slice ob n' cap', .slice sp sn' sc', .slice gp gn' gc', .slice qb qn' qd] 30 30
  rw [hW0] at hA0 hB0 hb0
  have hpl : pn ≤ 1048576 := by rw [← h.p.len]; exact hf.pl
  have hlA := blk_lt hA0
  have hlB := blk_lt hB0
  have HE0 := hide (fun W (hb : Below W0.heap.size W0 W) => equalSess_any pa pn pc ps pb pn' pd ps2 hpl W ((h.p.below hb0).below hb) ((k.p.below hb0).below hb))
  have HE1 := hide (fun W (hb : Below W0.heap.size W0 W) => sameRoom_any es es2 ss ss2 gs gs2 hf.r oa n cap so sn sc go gn gc ob n' cap' sp sn' sc' gp gn' gc' W ((h.e.below hb0).below hb) ((h.s.below hb0).below hb) ((h.g.below hb0).below hb) ((k.e.below hb0).below hb) ((k.s.below hb0).below hb) ((k.g.below hb0).below hb))
  have HE2 := hide (fun W (hb : Below W0.heap.size W0 W) => equalOuts_any qa qn qc os qb qn' qd os2 hf.ow W ((h.o.below hb0).below hb) ((k.o.below hb0).below hb))
  have HA0 := hide (show ∀ W, Below W0.heap.size W0 W → W.cell? ⟨w.heap.size, 0, none⟩ = some (.slice pa pn pc) from fun W hb => (hb.cell hlA).trans (blk_cell hA0 0 rfl))
  have HC0 := hide (show ∀ W, Below W0.heap.size W0 W → W.cell? ⟨w.heap.size + 1, 0, none⟩ = some (.slice pb pn' pd) from fun W hb => (hb.cell hlB).trans (blk_cell hB0 0 rfl))
  have HA1 := hide (show ∀ W, Below W0.heap.size W0 W → W.cell? ⟨w.heap.size, 1, none⟩ = some (.slice oa n cap) from fun W hb => (hb.cell hlA).trans (blk_cell hA0 1 rfl))
  have HA2 := hide (show ∀ W, Below W0.heap.size W0 W → W.cell? ⟨w.heap.size, 2, none⟩ = some (.slice so sn sc) from fun W hb => (hb.cell hlA).trans (blk_cell hA0 2 rfl))
  have HA3 := hide (show ∀ W, Below W0.heap.size W0 W → W.cell? ⟨w.heap.size, 3, none⟩ = some (.slice go gn gc) from fun W hb => (hb.cell hlA).trans (blk_cell hA0 3 rfl))
  have HC1 := hide (show ∀ W, Below W0.heap.size W0 W → W.cell? ⟨w.heap.size + 1, 1, none⟩ = some (.slice ob n' cap') from fun W hb => (hb.cell hlB).trans (blk_cell hB0 1 rfl))
  have HC2 := hide (show ∀ W, Below W0.heap.size W0 W → W.cell? ⟨w.heap.size + 1, 2, none⟩ = some (.slice sp sn' sc') from fun W hb => (hb.cell hlB).trans (blk_cell hB0 2 rfl))
  have HC3 := hide (show ∀ W, Below W0.heap.size W0 W → W.cell? ⟨w.heap.size + 1, 3, none⟩ = some (.slice gp gn' gc') from fun W hb => (hb.cell hlB).trans (blk_cell hB0 3 rfl))
  have HA4 := hide (show ∀ W, Below W0.heap.size W0 W → W.cell? ⟨w.heap.size, 4, none⟩ = some (.slice qa qn qc) from fun W hb => (hb.cell hlA).trans (blk_cell hA0 4 rfl))
  have HC4 := hide (show ∀ W, Below W0.heap.size W0 W → W.cell? ⟨w.heap.size + 1, 4, none⟩ = some (.slice qb qn' qd) from fun W hb => (hb.cell hlB).trans (blk_cell hB0 4 rfl))
  have HW0 := hide hW0
  have HB0 := hide hb0
  clear hW0 hb0 hA0 hB0 h k hf hpl
  generalize eqB ps ps2 = q0 at HE0 ⊢
  generalize (eqB es es2 && (eqB ss ss2 && eqB gs gs2)) = q1 at HE1 ⊢
  generalize eqB os os2 = q2 at HE2 ⊢
  cases q0 with
  | false =>
    go_enter Try.func13, Try.ntmps13
    go_upto_region 1 with fail
    rw [HW0.out]
    clear HW0
    have s0 := HA0.out W0 (Below.refl _ _); have t0 := HC0.out W0 (Below.refl _ _)
    go_wp2_with (first
      | (go_at_call 31; (with_reducible refine (HE0.out _ (Below.refl _ _)).mono ?_); rintro r w1 ⟨rfl, hb1'⟩; have hb1 : Below W0.heap.size W0 w1 := hb1'))
    go_ret
    exact ⟨rfl, HB0.out.trans (hb1.mono HB0.out.size)⟩
  | true =>
    cases q1 with
    | false =>
      go_enter Try.func13, Try.ntmps13
      go_upto_region 1 with fail
      rw [HW0.out]
      clear HW0
      have s0 := HA0.out W0 (Below.refl _ _); have t0 := HC0.out W0 (Below.refl _ _)
      go_wp2_with (first
        | (go_at_call 31; (with_reducible refine (HE0.out _ (Below.refl _ _)).mono ?_); rintro r w1 ⟨rfl, hb1'⟩; have hb1 : Below W0.heap.size W0 w1 := hb1'; have s1 := HA1.out w1 hb1; have t1 := HC1.out w1 hb1; have s2 := HA2.out w1 hb1; have t2 := HC2.out w1 hb1; have s3 := HA3.out w1 hb1; have t3 := HC3.out w1 hb1)
        | (go_at_call 32; (with_reducible refine (HE1.out _ hb1).mono ?_); rintro r w2 ⟨rfl, hb2'⟩; have hb2 : Below W0.heap.size W0 w2 := hb1.trans (hb2'.mono hb1.size)))
      go_ret
      exact ⟨rfl, HB0.out.trans (hb2.mono HB0.out.size)⟩
    | true =>
      go_enter Try.func13, Try.ntmps13
      go_upto_region 1 with fail
      rw [HW0.out]
      clear HW0
      have s0 := HA0.out W0 (Below.refl _ _); have t0 := HC0.out W0 (Below.refl _ _)
      go_wp2_with (first
        | (go_at_call 31; (with_reducible refine (HE0.out _ (Below.refl _ _)).mono ?_); rintro r w1 ⟨rfl, hb1'⟩; have hb1 : Below W0.heap.size W0 w1 := hb1'; have s1 := HA1.out w1 hb1; have t1 := HC1.out w1 hb1; have s2 := HA2.out w1 hb1; have t2 := HC2.out w1 hb1; have s3 := HA3.out w1 hb1; have t3 := HC3.out w1 hb1)
        | (go_at_call 32; (with_reducible refine (HE1.out _ hb1).mono ?_); rintro r w2 ⟨rfl, hb2'⟩; have hb2 : Below W0.heap.size W0 w2 := hb1.trans (hb2'.mono hb1.size); have s4 := HA4.out w2 hb2; have t4 := HC4.out w2 hb2)
        | (go_at_call 33; (with_reducible refine (HE2.out _ hb2).mono ?_); rintro r w3 ⟨rfl, hb3'⟩; have hb3 : Below W0.heap.size W0 w3 := hb2.trans (hb3'.mono hb2.size)))
      go_ret
      exact ⟨rfl, HB0.out.trans (hb3.mono HB0.out.size)⟩

end Go.Proofs.Ytckkfjmjcknjdaa
