/-
  Walks and mathematics of Walk9p.
-/
import Derived.Test.YtckkfjmjcknjdaaGreatDoorRCWalk9o
import Derived.Test.YtckkfjmjcknjdaaGreatDoorRCEv2
import Derived.Test.YtckkfjmjcknjdaaGreatDoorRCInts
import Derived.Deep.RegionHeld3
import Derived.Deep.DrawnRows
namespace Go.Proofs.YtckkfjmjcknjdaaGreatDoor.P3
end Go.Proofs.YtckkfjmjcknjdaaGreatDoor.P3
namespace Go.Proofs.YtckkfjmjcknjdaaGreatDoor
open Go.RowKit P1 P3 P9 P11 P12 K
set_option linter.unusedVariables false
set_option linter.unusedSimpArgs false
attribute [local go_sem ↓] Go.wp_at_zero Go.wp_at_succ

structure Grown2 (w w' : World) (g E : Nat) : Prop where
  os : w'.os = w.os
  tape : w'.tape = w.tape
  output : w'.output = w.output
  size : w.heap.size ≤ w'.heap.size
  block : ∀ i, i < w.heap.size → i ≠ g → i ≠ E → w'.heap[i]? = w.heap[i]?

theorem Grown2.refl (w : World) (g E : Nat) : Grown2 w w g E := ⟨rfl, rfl, rfl, Nat.le_refl _, fun _ _ _ _ => rfl⟩

theorem Grown2.by {w w' w'' : World} {g E : Nat} (h : Grown2 w w' g E) (k : w'.grownBy w'' (some g)) : Grown2 w w'' g E :=
  ⟨k.os.trans h.os, k.tape.trans h.tape, k.output.trans h.output, Nat.le_trans h.size k.size, fun i hi h1 h2 => (k.block i (Nat.lt_of_lt_of_le hi h.size) (fun q => h1 (Option.some.inj q))).trans (h.block i hi h1 h2)⟩

theorem Grown2.by2 {w w' w'' : World} {g E : Nat} (h : Grown2 w w' g E) (k : w'.grownBy w'' (some E)) : Grown2 w w'' g E :=
  ⟨k.os.trans h.os, k.tape.trans h.tape, k.output.trans h.output, Nat.le_trans h.size k.size, fun i hi h1 h2 => (k.block i (Nat.lt_of_lt_of_le hi h.size) (fun q => h2 (Option.some.inj q))).trans (h.block i hi h1 h2)⟩

theorem Grown2.low {w w' w'' : World} {g E : Nat} (h : Grown2 w w' g E) (k : Below w.heap.size w' w'') : Grown2 w w'' g E :=
  ⟨k.os.trans h.os, k.tape.trans h.tape, k.output.trans h.output, Nat.le_trans h.size k.size, fun i hi h1 h2 => (k.block i hi).trans (h.block i hi h1 h2)⟩

structure EvB (w W : World) (g E : Nat) (s : ByteArray) (r : Lf) (id kd sn us mb dp : Int) (xl : Value) (tx : List UInt8) (vl : Value) (n : Nat) (zl : List Int) : Prop where
  c : RdL W g s r
  e : EB W E id kd sn us mb dp xl (.slice none 0 0) tx
  gr : Grown2 w W g E
  l : W.ownsRow w.heap.size 3 1 vl n (zl.map icell)
  hg : g < w.heap.size
  hE : E < w.heap.size
  ne : g ≠ E

section
variable {w W W' : World} {g E : Nat} {s : ByteArray} {r r' : Lf} {id kd sn us mb dp : Int} {xl : Value} {tx : List UInt8} {vl : Value} {n : Nat} {zl : List Int}

theorem EvB.step (h : EvB w W g E s r id kd sn us mb dp xl tx vl n zl) (hc : RdL W' g s r') (hg : W.grownBy W' (some g)) : EvB w W' g E s r' id kd sn us mb dp xl tx vl n zl :=
  ⟨hc, h.e.kept hg (fun q => h.ne (Option.some.inj q)), h.gr.by hg, h.l.kept hg (Or.inr (fun q => by have := h.l.lt g q; have := h.hg; omega)), h.hg, h.hE, h.ne⟩

theorem EvB.low {vl' : Value} {n' : Nat} {zl' : List Int} (h : EvB w W g E s r id kd sn us mb dp xl tx vl n zl) (hb : Below w.heap.size W W') (hl : W'.ownsRow w.heap.size 3 1 vl' n' (zl'.map icell)) : EvB w W' g E s r id kd sn us mb dp xl tx vl' n' zl' :=
  ⟨h.c.kept (hb.block g h.hg), h.e.on hb h.hE, h.gr.low hb, hl, h.hg, h.hE, h.ne⟩

theorem EvB.grow (h : EvB w W g E s r id kd sn us mb dp xl tx vl n zl) (o : Obj) : EvB w (W.alloc o) g E s r id kd sn us mb dp xl tx vl n zl :=
  h.low ((Below.refl _ _).alloc h.gr.size o) (h.l.alloc o)

theorem EvB.drew (h : EvB w W g E s r id kd sn us mb dp xl tx vl n zl) : EvB w W.drew g E s r id kd sn us mb dp xl tx vl n zl :=
  h.low (Below.refl _ _).drew (own_below h.l (Below.refl _ _).drew)

theorem EvB.put (h : EvB w W g E s r id kd sn us mb dp xl tx vl n zl) {id' kd' sn' us' mb' dp' : Int} {xl' : Value} {tx' : List UInt8} {k : Nat} {v : Value}
    (he : EB (W.setCell ⟨E, k, none⟩ v) E id' kd' sn' us' mb' dp' xl' (.slice none 0 0) tx') : EvB w (W.setCell ⟨E, k, none⟩ v) g E s r id' kd' sn' us' mb' dp' xl' tx' vl n zl := by
  have hg := blk_grown W E k v
  exact ⟨h.c.kept (hg.block g h.c.lt (fun q => h.ne (Option.some.inj q))), he, h.gr.by2 hg, own_setCell h.l h.hE _, h.hg, h.hE, h.ne⟩
end

theorem row_next {W : World} {base : Nat} {v : Value} {j : Nat} {r6 : Lf} {f : Lf → Nat × Lf} (h : W.ownsRow base 3 1 v (j + 1) ((itL f j r6).1.map icell ++ [.int .i64 (((f (itL f j r6).2).1 : Nat) : Int)])) : W.ownsRow base 3 1 v (j + 1) ((itL f (j + 1) r6).1.map icell) := by
  have e : (itL f (j + 1) r6).1.map icell = (itL f j r6).1.map icell ++ [.int .i64 (((f (itL f j r6).2).1 : Nat) : Int)] := by simp [itL, icell]
  rw [e]
  exact h

def Stops (f : Lf → Nat × Lf) (c : Nat) (st : Lf) (J : Nat) : Prop := J ≤ c ∧ J ≤ 50 ∧ (J = c ∨ J = 50 ∨ (itL f J st).2 = none)

def BdPost (id : Int) (k sn u m nl : Nat) (r6 : Lf) (g E : Nat) (s : ByteArray) (w : World) (e : Ending) (w' : World) : Prop :=
  ∃ J vl, e = .returned (.tuple #[]) ∧ Stops byteL nl r6 J ∧ EvB w w' g E s (shL 1048576 (itL byteL J r6).2).2 id k sn u m 0 vl (shL 1048576 (itL byteL J r6).2).1 vl J (itL byteL J r6).1

set_option maxHeartbeats 8000000 in
theorem l09ReadBody_any (g E : Nat) (s : ByteArray) (hs : s.size ≤ 1048576) (r : Lf) (id : Int) (w : World) (hc : RdL w g s r) (he : EB w E id 0 0 0 0 0 (.slice none 0 0) (.slice none 0 0) []) (hne : g ≠ E) {r2 r3 r4 r5 r6 : Lf} {k sn u m nl : Nat}
    (h2 : byteL r = (k, r2)) (h3 : byteL r2 = (sn, r3)) (h4 : byteL r3 = (u, r4)) (h5 : byteL r4 = (m, r5)) (h6 : numL r5 = (nl, r6)) :
    Calls Tryz.prog 35 #[.pointer (some ⟨g, 0, none⟩), .pointer (some ⟨E, 0, none⟩)] w fun e w' => BdPost id k sn u m nl r6 g E s w e w' := by
  have H0 := hide (show EvB w w g E s r id 0 0 0 0 0 (.slice none 0 0) [] (.slice none 0 0) 0 [] from ⟨hc, he, Grown2.refl _ _ _, World.ownsRow_nil _ _ _ _, hc.lt, he.lt, hne⟩)
  have HV1 := hide (fun w hc => l09One_L g s hs r w hc)
  have HV2 := hide (fun w hc => l09One_L g s hs r2 w hc)
  have HV3 := hide (fun w hc => l09One_L g s hs r3 w hc)
  have HV4 := hide (fun w hc => l09One_L g s hs r4 w hc)
  have HV5 := hide (fun w hc => l05Var_L g s hs r5 w hc)
  rw [h2] at HV1
  rw [h3] at HV2
  rw [h4] at HV3
  rw [h5] at HV4
  rw [h6] at HV5
  simp only at HV1 HV2 HV3 HV4 HV5
  have hnl := numL_le r5
  rw [h6] at hnl
  simp only at hnl
  clear hc he hne h2 h3 h4 h5 h6
  go_enter Tryz.func35, Tryz.ntmps35
  go_wp2_with fail
  refine (HV1.out _ H0.out.c).mono ?_
  rintro e x1 ⟨rfl, hc1, hg1⟩
  have G1 := hide (H0.out.step hc1 hg1)
  have H1 := hide (G1.out.put (G1.out.e.put1 (k : Int)))
  clear hc1 hg1 H0
  obtain ⟨e0, e1, e2, e3, e4, e5, e6, e7, e8⟩ := G1.out.e.ev
  have f1 := G1.out.e.free 1
  go_wp2_with fail
  clear e0 e1 e2 e3 e4 e5 e6 e7 e8 f1 G1
  generalize x1.setCell ⟨E, 1, none⟩ (.int .i64 (k : Int)) = v1 at H1 ⊢
  refine (HV2.out _ H1.out.c).mono ?_
  rintro e x2 ⟨rfl, hc2, hg2⟩
  have G2 := hide (H1.out.step hc2 hg2)
  have H2 := hide (G2.out.put (G2.out.e.put2 (sn : Int)))
  clear hc2 hg2 H1
  obtain ⟨e0, e1, e2, e3, e4, e5, e6, e7, e8⟩ := G2.out.e.ev
  have f2 := G2.out.e.free 2
  go_wp2_with fail
  clear e0 e1 e2 e3 e4 e5 e6 e7 e8 f2 G2
  generalize x2.setCell ⟨E, 2, none⟩ (.int .i64 (sn : Int)) = v2 at H2 ⊢
  refine (HV3.out _ H2.out.c).mono ?_
  rintro e x3 ⟨rfl, hc3, hg3⟩
  have G3 := hide (H2.out.step hc3 hg3)
  have H3 := hide (G3.out.put (G3.out.e.put3 (u : Int)))
  clear hc3 hg3 H2
  obtain ⟨e0, e1, e2, e3, e4, e5, e6, e7, e8⟩ := G3.out.e.ev
  have f3 := G3.out.e.free 3
  go_wp2_with fail
  clear e0 e1 e2 e3 e4 e5 e6 e7 e8 f3 G3
  generalize x3.setCell ⟨E, 3, none⟩ (.int .i64 (u : Int)) = v3 at H3 ⊢
  refine (HV4.out _ H3.out.c).mono ?_
  rintro e x4 ⟨rfl, hc4, hg4⟩
  have G4 := hide (H3.out.step hc4 hg4)
  have H4 := hide (G4.out.put (G4.out.e.put4 (m : Int)))
  clear hc4 hg4 H3
  obtain ⟨e0, e1, e2, e3, e4, e5, e6, e7, e8⟩ := G4.out.e.ev
  have f4 := G4.out.e.free 4
  go_wp2_with fail
  clear e0 e1 e2 e3 e4 e5 e6 e7 e8 f4 G4
  generalize x4.setCell ⟨E, 4, none⟩ (.int .i64 (m : Int)) = v4 at H4 ⊢
  refine (HV5.out _ H4.out.c).mono ?_
  rintro e x5 ⟨rfl, hc5, hg5⟩
  have H5 := hide (H4.out.step hc5 hg5)
  clear hc5 hg5 H4
  go_wp2_with fail
  go_loopw [5] (fun i wr => ∃ (j : Nat) (vl : Value), i = .int .i64 (j : Int) ∧ j ≤ nl ∧ j ≤ 50 ∧ EvB w wr g E s (itL byteL j r6).2 id k sn u m 0 vl [] vl j (itL byteL j r6).1) (fun i _ => nl - (intOf i).toNat)
  case atStart => exact ⟨0, _, rfl, Nat.zero_le _, by omega, H5.out⟩
  case round =>
    obtain ⟨j, vl, rfl, hj, hj50, hq⟩ := hrel
    obtain ⟨oa, cl, hvl⟩ := row_form hq.l
    subst hvl
    have HQ := hide hq
    have cb := hq.c.bad
    clear hq
    by_cases hlt : j < nl
    · have j0 : (j : Int) < (nl : Int) := by omega
      by_cases h50 : j < 50
      · have j5 : (j : Int) < 50 := by omega
        cases hst : (itL byteL j r6).2.isNone with
        | false =>
          rw [hst] at cb
          have HQD := hide HQ.out.drew
          clear hst
          go_wp2_with fail
          clear cb
          refine wp_region_held_drew (S := fun _ => True) (by kernel_rfl) trivial (fun hHeld => ?_)
          refine wpAnyH_take (i := 0) (v := ?_) rfl (by kernel_rfl) (by kernel_rfl) (by kernel_rfl) (fun _ _ _ h => h) (Or.inl ⟨by rfl, ?_⟩) (by assumption) ?_; rotate_left
          · (intro w hSw; (try dsimp only at hSw); go_simp; first | done | with_reducible rfl)
          try simp only [Act.put, List.getElem_toArray, List.getElem_cons_zero, List.getElem_cons_succ, List.setIfInBounds_toArray, List.set_cons_zero, List.set_cons_succ]
          refine wpAnyH_take (i := 1) (v := ?_) rfl (by kernel_rfl) (by kernel_rfl) (by kernel_rfl) (fun _ _ _ h => h) (Or.inl ⟨by rfl, ?_⟩) (by assumption) ?_; rotate_left
          · (intro w hSw; (try dsimp only at hSw); go_simp; first | done | with_reducible rfl)
          try simp only [Act.put, List.getElem_toArray, List.getElem_cons_zero, List.getElem_cons_succ, List.setIfInBounds_toArray, List.set_cons_zero, List.set_cons_succ]
          refine wpAnyH_take (i := 2) (v := ?_) rfl (by kernel_rfl) (by kernel_rfl) (by kernel_rfl) (fun _ _ _ h => h) (Or.inl ⟨by rfl, ?_⟩) (by assumption) ?_; rotate_left
          · (intro w hSw; (try dsimp only at hSw); go_simp; first | done | with_reducible rfl)
          try simp only [Act.put, List.getElem_toArray, List.getElem_cons_zero, List.getElem_cons_succ, List.setIfInBounds_toArray, List.set_cons_zero, List.set_cons_succ]
          refine wpAnyH_take (i := 3) (v := ?_) rfl (by kernel_rfl) (by kernel_rfl) (by kernel_rfl) (fun _ _ _ h => h) (Or.inl ⟨by rfl, ?_⟩) (by assumption) ?_; rotate_left
          · (intro w hSw; (try dsimp only at hSw); go_simp; first | done | with_reducible rfl)
          try simp only [Act.put, List.getElem_toArray, List.getElem_cons_zero, List.getElem_cons_succ, List.setIfInBounds_toArray, List.set_cons_zero, List.set_cons_succ]
          refine wpAnyH_take (i := 5) (v := ?_) rfl (by kernel_rfl) (by kernel_rfl) (by kernel_rfl) (fun _ _ _ h => h) (Or.inl ⟨by rfl, ?_⟩) (by assumption) ?_; rotate_left
          · (intro w hSw; (try dsimp only at hSw); go_simp; first | done | with_reducible rfl)
          try simp only [Act.put, List.getElem_toArray, List.getElem_cons_zero, List.getElem_cons_succ, List.setIfInBounds_toArray, List.set_cons_zero, List.set_cons_succ]
          refine wpAnyH_ready (rs := [4, 6]) (by kernel_rfl) (by simp) ?_
          refine AllReadyH.cons rfl (fun K hK => ?_) ?_
          · have hcd := HQ.out.e.ev.c5
            rw [if_pos (by rfl)]
            go_simp
            refine hK.out _ _ ?_ (fun hHeld => ?_)
            · trivial
            clear hK K
            try simp only [Act.put, List.getElem_toArray, List.getElem_cons_zero, List.getElem_cons_succ, List.setIfInBounds_toArray, List.set_cons_zero, List.set_cons_succ]
            clear hcd
            refine wpAnyH_ready (rs := [6]) (by kernel_rfl) (by simp) ?_
            refine AllReadyH.cons rfl (fun K hK => ?_) ?_
            · rw [if_pos (by rfl)]
              go_simp
              go_at_call 33
              refine (l09One_L g s hs _ _ HQD.out.c).mono ?_
              rintro r w96 ⟨rfl, hc6, hg6⟩
              have HQ6 := hide (HQD.out.step hc6 hg6)
              clear hc6 hg6
              try go_simp
              refine hK.out _ _ ?_ (fun hHeld => ?_)
              · trivial
              clear hK K
              try simp only [Act.put, List.getElem_toArray, List.getElem_cons_zero, List.getElem_cons_succ, List.setIfInBounds_toArray, List.set_cons_zero, List.set_cons_succ]
              refine wpAnyH_ready (rs := [7]) (by kernel_rfl) (by simp) ?_
              refine AllReadyH.cons rfl (fun K hK => ?_) ?_
              · have HQ7 := hide (HQ6.out.grow (.cells #[.int .i64 (((byteL (itL byteL j r6).2).1 : Nat) : Int)] 3))
                rw [if_pos (by rfl)]
                go_simp
                refine hK.out _ _ ?_ (fun hHeld => ?_)
                · trivial
                clear hK K
                try simp only [Act.put, List.getElem_toArray, List.getElem_cons_zero, List.getElem_cons_succ, List.setIfInBounds_toArray, List.set_cons_zero, List.set_cons_succ]
                refine wpAnyH_ready (rs := [8]) (by kernel_rfl) (by simp) ?_
                refine AllReadyH.cons rfl (fun K hK => ?_) ?_
                · refine step_push (by rfl) _ _ 22 (by rfl) Tryz.underlying22 infoIz (by rfl) (by rfl) HQ7.out.l (by rfl) (by rfl) (heap_alloc_new _ _) (by simp [Value.oneCell']) (Below.refl w.heap.size _) HQ7.out.gr.size (by unfold maxLen; omega) (by omega) ?_
                  intro v8 w98 ho8 hb8 hz8
                  obtain ⟨ov8, cv8, hv8⟩ := row_form ho8
                  subst hv8
                  have HQ8 := hide (HQ7.out.low hb8 (row_next ho8))
                  clear ho8 hb8 hz8
                  refine hK.out _ _ ?_ (fun hHeld => ?_)
                  · trivial
                  clear hK K
                  try simp only [Act.put, List.getElem_toArray, List.getElem_cons_zero, List.getElem_cons_succ, List.setIfInBounds_toArray, List.set_cons_zero, List.set_cons_succ]
                  refine wpAnyH_take (i := 9) (v := ?_) rfl (by kernel_rfl) (by kernel_rfl) (by kernel_rfl) (fun _ _ _ h => h) (Or.inl ⟨by rfl, ?_⟩) (by assumption) ?_; rotate_left
                  · (intro w hSw; (try dsimp only at hSw); go_simp; first | done | with_reducible rfl)
                  try simp only [Act.put, List.getElem_toArray, List.getElem_cons_zero, List.getElem_cons_succ, List.setIfInBounds_toArray, List.set_cons_zero, List.set_cons_succ]
                  refine wpAnyH_take (i := 10) (v := ?_) rfl (by kernel_rfl) (by kernel_rfl) (by kernel_rfl) (fun _ _ _ h => h) (Or.inl ⟨by rfl, ?_⟩) (by assumption) ?_; rotate_left
                  · (intro w hSw; (try dsimp only at hSw); go_simp; first | done | with_reducible rfl)
                  try simp only [Act.put, List.getElem_toArray, List.getElem_cons_zero, List.getElem_cons_succ, List.setIfInBounds_toArray, List.set_cons_zero, List.set_cons_succ]
                  refine wpAnyH_ready (rs := [11]) (by kernel_rfl) (by simp) ?_
                  refine AllReadyH.cons rfl (fun K hK => ?_) ?_
                  · have hcd := HQ8.out.e.ev.c5
                    have hfz := HQ8.out.e.free 5
                    rw [if_pos (by rfl)]
                    go_simp
                    refine hK.out _ _ ?_ (fun hHeld => ?_)
                    · trivial
                    clear hK K
                    try simp only [Act.put, List.getElem_toArray, List.getElem_cons_zero, List.getElem_cons_succ, List.setIfInBounds_toArray, List.set_cons_zero, List.set_cons_succ]
                    clear hcd hfz
                    refine wpAnyH_done (by kernel_rfl) ?_ _
                    have HQ11 := hide (HQ8.out.put (HQ8.out.e.put5 (.slice ov8 (j + 1) cv8)))
                    clear HQ8 HQ7 HQ6 HQD HQ
                    go_wp2_with fail
                    go_roundw
                    case rel => exact ⟨j + 1, _, by go_num, by omega, by omega, HQ11.out⟩
                    case measure => simp [intOf]; omega
                  exact AllReadyH.nil
                exact AllReadyH.nil
              exact AllReadyH.nil
            exact AllReadyH.nil
          refine AllReadyH.cons rfl (fun K hK => ?_) ?_
          · rw [if_pos (by rfl)]
            go_simp
            go_at_call 33
            refine (l09One_L g s hs _ _ HQD.out.c).mono ?_
            rintro r w96 ⟨rfl, hc6, hg6⟩
            have HQ6 := hide (HQD.out.step hc6 hg6)
            clear hc6 hg6
            try go_simp
            refine hK.out _ _ ?_ (fun hHeld => ?_)
            · trivial
            clear hK K
            try simp only [Act.put, List.getElem_toArray, List.getElem_cons_zero, List.getElem_cons_succ, List.setIfInBounds_toArray, List.set_cons_zero, List.set_cons_succ]
            refine wpAnyH_ready (rs := [4, 7]) (by kernel_rfl) (by simp) ?_
            refine AllReadyH.cons rfl (fun K hK => ?_) ?_
            · have hcd := HQ6.out.e.ev.c5
              rw [if_pos (by rfl)]
              go_simp
              refine hK.out _ _ ?_ (fun hHeld => ?_)
              · trivial
              clear hK K
              try simp only [Act.put, List.getElem_toArray, List.getElem_cons_zero, List.getElem_cons_succ, List.setIfInBounds_toArray, List.set_cons_zero, List.set_cons_succ]
              clear hcd
              refine wpAnyH_ready (rs := [7]) (by kernel_rfl) (by simp) ?_
              refine AllReadyH.cons rfl (fun K hK => ?_) ?_
              · have HQ7 := hide (HQ6.out.grow (.cells #[.int .i64 (((byteL (itL byteL j r6).2).1 : Nat) : Int)] 3))
                rw [if_pos (by rfl)]
                go_simp
                refine hK.out _ _ ?_ (fun hHeld => ?_)
                · trivial
                clear hK K
                try simp only [Act.put, List.getElem_toArray, List.getElem_cons_zero, List.getElem_cons_succ, List.setIfInBounds_toArray, List.set_cons_zero, List.set_cons_succ]
                refine wpAnyH_ready (rs := [8]) (by kernel_rfl) (by simp) ?_
                refine AllReadyH.cons rfl (fun K hK => ?_) ?_
                · refine step_push (by rfl) _ _ 22 (by rfl) Tryz.underlying22 infoIz (by rfl) (by rfl) HQ7.out.l (by rfl) (by rfl) (heap_alloc_new _ _) (by simp [Value.oneCell']) (Below.refl w.heap.size _) HQ7.out.gr.size (by unfold maxLen; omega) (by omega) ?_
                  intro v8 w98 ho8 hb8 hz8
                  obtain ⟨ov8, cv8, hv8⟩ := row_form ho8
                  subst hv8
                  have HQ8 := hide (HQ7.out.low hb8 (row_next ho8))
                  clear ho8 hb8 hz8
                  refine hK.out _ _ ?_ (fun hHeld => ?_)
                  · trivial
                  clear hK K
                  try simp only [Act.put, List.getElem_toArray, List.getElem_cons_zero, List.getElem_cons_succ, List.setIfInBounds_toArray, List.set_cons_zero, List.set_cons_succ]
                  refine wpAnyH_take (i := 9) (v := ?_) rfl (by kernel_rfl) (by kernel_rfl) (by kernel_rfl) (fun _ _ _ h => h) (Or.inl ⟨by rfl, ?_⟩) (by assumption) ?_; rotate_left
                  · (intro w hSw; (try dsimp only at hSw); go_simp; first | done | with_reducible rfl)
                  try simp only [Act.put, List.getElem_toArray, List.getElem_cons_zero, List.getElem_cons_succ, List.setIfInBounds_toArray, List.set_cons_zero, List.set_cons_succ]
                  refine wpAnyH_take (i := 10) (v := ?_) rfl (by kernel_rfl) (by kernel_rfl) (by kernel_rfl) (fun _ _ _ h => h) (Or.inl ⟨by rfl, ?_⟩) (by assumption) ?_; rotate_left
                  · (intro w hSw; (try dsimp only at hSw); go_simp; first | done | with_reducible rfl)
                  try simp only [Act.put, List.getElem_toArray, List.getElem_cons_zero, List.getElem_cons_succ, List.setIfInBounds_toArray, List.set_cons_zero, List.set_cons_succ]
                  refine wpAnyH_ready (rs := [11]) (by kernel_rfl) (by simp) ?_
                  refine AllReadyH.cons rfl (fun K hK => ?_) ?_
                  · have hcd := HQ8.out.e.ev.c5
                    have hfz := HQ8.out.e.free 5
                    rw [if_pos (by rfl)]
                    go_simp
                    refine hK.out _ _ ?_ (fun hHeld => ?_)
                    · trivial
                    clear hK K
                    try simp only [Act.put, List.getElem_toArray, List.getElem_cons_zero, List.getElem_cons_succ, List.setIfInBounds_toArray, List.set_cons_zero, List.set_cons_succ]
                    clear hcd hfz
                    refine wpAnyH_done (by kernel_rfl) ?_ _
                    have HQ11 := hide (HQ8.out.put (HQ8.out.e.put5 (.slice ov8 (j + 1) cv8)))
                    clear HQ8 HQ7 HQ6 HQD HQ
                    go_wp2_with fail
                    go_roundw
                    case rel => exact ⟨j + 1, _, by go_num, by omega, by omega, HQ11.out⟩
                    case measure => simp [intOf]; omega
                  exact AllReadyH.nil
                exact AllReadyH.nil
              exact AllReadyH.nil
            refine AllReadyH.cons rfl (fun K hK => ?_) ?_
            · have HQ7 := hide (HQ6.out.grow (.cells #[.int .i64 (((byteL (itL byteL j r6).2).1 : Nat) : Int)] 3))
              rw [if_pos (by rfl)]
              go_simp
              refine hK.out _ _ ?_ (fun hHeld => ?_)
              · trivial
              clear hK K
              try simp only [Act.put, List.getElem_toArray, List.getElem_cons_zero, List.getElem_cons_succ, List.setIfInBounds_toArray, List.set_cons_zero, List.set_cons_succ]
              refine wpAnyH_ready (rs := [4]) (by kernel_rfl) (by simp) ?_
              refine AllReadyH.cons rfl (fun K hK => ?_) ?_
              · have hcd := HQ7.out.e.ev.c5
                rw [if_pos (by rfl)]
                go_simp
                refine hK.out _ _ ?_ (fun hHeld => ?_)
                · trivial
                clear hK K
                try simp only [Act.put, List.getElem_toArray, List.getElem_cons_zero, List.getElem_cons_succ, List.setIfInBounds_toArray, List.set_cons_zero, List.set_cons_succ]
                clear hcd
                refine wpAnyH_ready (rs := [8]) (by kernel_rfl) (by simp) ?_
                refine AllReadyH.cons rfl (fun K hK => ?_) ?_
                · refine step_push (by rfl) _ _ 22 (by rfl) Tryz.underlying22 infoIz (by rfl) (by rfl) HQ7.out.l (by rfl) (by rfl) (heap_alloc_new _ _) (by simp [Value.oneCell']) (Below.refl w.heap.size _) HQ7.out.gr.size (by unfold maxLen; omega) (by omega) ?_
                  intro v8 w98 ho8 hb8 hz8
                  obtain ⟨ov8, cv8, hv8⟩ := row_form ho8
                  subst hv8
                  have HQ8 := hide (HQ7.out.low hb8 (row_next ho8))
                  clear ho8 hb8 hz8
                  refine hK.out _ _ ?_ (fun hHeld => ?_)
                  · trivial
                  clear hK K
                  try simp only [Act.put, List.getElem_toArray, List.getElem_cons_zero, List.getElem_cons_succ, List.setIfInBounds_toArray, List.set_cons_zero, List.set_cons_succ]
                  refine wpAnyH_take (i := 9) (v := ?_) rfl (by kernel_rfl) (by kernel_rfl) (by kernel_rfl) (fun _ _ _ h => h) (Or.inl ⟨by rfl, ?_⟩) (by assumption) ?_; rotate_left
                  · (intro w hSw; (try dsimp only at hSw); go_simp; first | done | with_reducible rfl)
                  try simp only [Act.put, List.getElem_toArray, List.getElem_cons_zero, List.getElem_cons_succ, List.setIfInBounds_toArray, List.set_cons_zero, List.set_cons_succ]
                  refine wpAnyH_take (i := 10) (v := ?_) rfl (by kernel_rfl) (by kernel_rfl) (by kernel_rfl) (fun _ _ _ h => h) (Or.inl ⟨by rfl, ?_⟩) (by assumption) ?_; rotate_left
                  · (intro w hSw; (try dsimp only at hSw); go_simp; first | done | with_reducible rfl)
                  try simp only [Act.put, List.getElem_toArray, List.getElem_cons_zero, List.getElem_cons_succ, List.setIfInBounds_toArray, List.set_cons_zero, List.set_cons_succ]
                  refine wpAnyH_ready (rs := [11]) (by kernel_rfl) (by simp) ?_
                  refine AllReadyH.cons rfl (fun K hK => ?_) ?_
                  · have hcd := HQ8.out.e.ev.c5
                    have hfz := HQ8.out.e.free 5
                    rw [if_pos (by rfl)]
                    go_simp
                    refine hK.out _ _ ?_ (fun hHeld => ?_)
                    · trivial
                    clear hK K
                    try simp only [Act.put, List.getElem_toArray, List.getElem_cons_zero, List.getElem_cons_succ, List.setIfInBounds_toArray, List.set_cons_zero, List.set_cons_succ]
                    clear hcd hfz
                    refine wpAnyH_done (by kernel_rfl) ?_ _
                    have HQ11 := hide (HQ8.out.put (HQ8.out.e.put5 (.slice ov8 (j + 1) cv8)))
                    clear HQ8 HQ7 HQ6 HQD HQ
                    go_wp2_with fail
                    go_roundw
                    case rel => exact ⟨j + 1, _, by go_num, by omega, by omega, HQ11.out⟩
                    case measure => simp [intOf]; omega
                  exact AllReadyH.nil
                exact AllReadyH.nil
              exact AllReadyH.nil
            exact AllReadyH.nil
          exact AllReadyH.nil
        | true =>
          rw [hst] at cb
          have hnone : (itL byteL j r6).2 = none := by
            cases hq : (itL byteL j r6).2 with
            | none => rfl
            | some x => rw [hq] at hst; cases hst
          have HSP := hide (show Stops byteL nl r6 j from ⟨hj, hj50, Or.inr (Or.inr hnone)⟩)
          clear hst hnone
          go_wp2_with fail
          clear cb
          refine (l05ReadShort_L g s hs _ _ HQ.out.c).mono ?_
          rintro e x7 ⟨rfl, hc7, hg7⟩
          have G7 := hide (HQ.out.step hc7 hg7)
          have H7 := hide (G7.out.put (G7.out.e.put6 (shL 1048576 (itL byteL j r6).2).1))
          clear hc7 hg7 HQ
          obtain ⟨e0, e1, e2, e3, e4, e5, e6, e7, e8⟩ := G7.out.e.ev
          have f6 := G7.out.e.free 6
          go_wp2_with fail
          refine bodyPost_end (results_none rfl _ _ _) rfl ?_
          exact ⟨j, _, rfl, HSP.out, H7.out⟩
      · have j5 : ¬ (j : Int) < 50 := by omega
        have HSP := hide (show Stops byteL nl r6 j from ⟨hj, hj50, Or.inr (Or.inl (by omega))⟩)
        go_wp2_with fail
        clear cb
        refine (l05ReadShort_L g s hs _ _ HQ.out.c).mono ?_
        rintro e x7 ⟨rfl, hc7, hg7⟩
        have G7 := hide (HQ.out.step hc7 hg7)
        have H7 := hide (G7.out.put (G7.out.e.put6 (shL 1048576 (itL byteL j r6).2).1))
        clear hc7 hg7 HQ
        obtain ⟨e0, e1, e2, e3, e4, e5, e6, e7, e8⟩ := G7.out.e.ev
        have f6 := G7.out.e.free 6
        go_wp2_with fail
        refine bodyPost_end (results_none rfl _ _ _) rfl ?_
        exact ⟨j, _, rfl, HSP.out, H7.out⟩
    · have j0 : ¬ (j : Int) < (nl : Int) := by omega
      have HSP := hide (show Stops byteL nl r6 j from ⟨hj, hj50, Or.inl (by omega)⟩)
      go_wp2_with fail
      clear cb
      refine (l05ReadShort_L g s hs _ _ HQ.out.c).mono ?_
      rintro e x7 ⟨rfl, hc7, hg7⟩
      have G7 := hide (HQ.out.step hc7 hg7)
      have H7 := hide (G7.out.put (G7.out.e.put6 (shL 1048576 (itL byteL j r6).2).1))
      clear hc7 hg7 HQ
      obtain ⟨e0, e1, e2, e3, e4, e5, e6, e7, e8⟩ := G7.out.e.ev
      have f6 := G7.out.e.free 6
      go_wp2_with fail
      refine bodyPost_end (results_none rfl _ _ _) rfl ?_
      exact ⟨j, _, rfl, HSP.out, H7.out⟩

end Go.Proofs.YtckkfjmjcknjdaaGreatDoor
