/-
  Walks and mathematics of Text8.
-/
import Derived.Test.YtckkfjmjcknjdaaGreatDoorRCWalk9p
import Derived.Test.YtckkfjmjcknjdaaGreatDoorRCText5
namespace Go.Proofs.YtckkfjmjcknjdaaGreatDoor.P3
end Go.Proofs.YtckkfjmjcknjdaaGreatDoor.P3
namespace Go.Proofs.YtckkfjmjcknjdaaGreatDoor
open Go.RowKit P1 P3 P9 P11 P12 P18 K
set_option linter.unusedVariables false
set_option linter.unusedSimpArgs false
attribute [local go_sem ↓] Go.wp_at_zero Go.wp_at_succ

def EM (op tk sq : Int) (w : World) (b : Nat) (id kd sn us mb dp : Int) (xl xp : Value) (tx : List UInt8) : Prop :=
  w.heap[b]? = some (.cells #[.int .i64 op, .int .i64 tk, .int .i64 sq, .int .i64 id, .int .i64 kd, .int .i64 sn, .int .i64 us, .int .i64 mb, xl, .string ⟨tx.toArray⟩, xp, .int .i64 dp, .int .i64 0, .int .i64 0] 31 (0, 0))

structure EV3 (w : World) (b : Nat) (id kd sn us mb dp : Int) (xl xp : Value) (tx : List UInt8) : Prop where
  c0 : w.cell? ⟨b, 3, none⟩ = some (.int .i64 id)
  c1 : w.cell? ⟨b, 4, none⟩ = some (.int .i64 kd)
  c2 : w.cell? ⟨b, 5, none⟩ = some (.int .i64 sn)
  c3 : w.cell? ⟨b, 6, none⟩ = some (.int .i64 us)
  c4 : w.cell? ⟨b, 7, none⟩ = some (.int .i64 mb)
  c5 : w.cell? ⟨b, 8, none⟩ = some xl
  c6 : w.cell? ⟨b, 9, none⟩ = some (.string ⟨tx.toArray⟩)
  c7 : w.cell? ⟨b, 10, none⟩ = some xp
  c8 : w.cell? ⟨b, 11, none⟩ = some (.int .i64 dp)
section
variable {op tk sq : Int} {w w' : World} {b : Nat} {id kd sn us mb dp : Int} {xl xp : Value} {tx : List UInt8}

theorem EM.lt (h : EM op tk sq w b id kd sn us mb dp xl xp tx) : b < w.heap.size := blk_lt h

theorem EM.on {B : Nat} (h : EM op tk sq w b id kd sn us mb dp xl xp tx) (hb : Below B w w') (hlt : b < B) : EM op tk sq w' b id kd sn us mb dp xl xp tx := (hb.block b hlt).trans h

theorem EM.kept {row : Option Nat} (h : EM op tk sq w b id kd sn us mb dp xl xp tx) (hg : w.grownBy w' row) (hne : row ≠ some b) : EM op tk sq w' b id kd sn us mb dp xl xp tx := (hg.block b h.lt (fun e => hne e.symm)).trans h

theorem EM.ev (h : EM op tk sq w b id kd sn us mb dp xl xp tx) : EV3 w b id kd sn us mb dp xl xp tx := ⟨blk_cell h 3 rfl, blk_cell h 4 rfl, blk_cell h 5 rfl, blk_cell h 6 rfl, blk_cell h 7 rfl, blk_cell h 8 rfl, blk_cell h 9 rfl, blk_cell h 10 rfl, blk_cell h 11 rfl⟩

theorem EM.free (h : EM op tk sq w b id kd sn us mb dp xl xp tx) (j : Nat) : w.frozen? ⟨b, j, none⟩ = false := blk_free h j

theorem EM.put1 (h : EM op tk sq w b id kd sn us mb dp xl xp tx) (v : Int) : EM op tk sq (w.setCell ⟨b, 4, none⟩ (.int .i64 v)) b id v sn us mb dp xl xp tx := cset4 h

theorem EM.put2 (h : EM op tk sq w b id kd sn us mb dp xl xp tx) (v : Int) : EM op tk sq (w.setCell ⟨b, 5, none⟩ (.int .i64 v)) b id kd v us mb dp xl xp tx := cset5 h

theorem EM.put3 (h : EM op tk sq w b id kd sn us mb dp xl xp tx) (v : Int) : EM op tk sq (w.setCell ⟨b, 6, none⟩ (.int .i64 v)) b id kd sn v mb dp xl xp tx := cset6 h

theorem EM.put4 (h : EM op tk sq w b id kd sn us mb dp xl xp tx) (v : Int) : EM op tk sq (w.setCell ⟨b, 7, none⟩ (.int .i64 v)) b id kd sn us v dp xl xp tx := cset7 h

theorem EM.put5 (h : EM op tk sq w b id kd sn us mb dp xl xp tx) (v : Value) : EM op tk sq (w.setCell ⟨b, 8, none⟩ v) b id kd sn us mb dp v xp tx := cset8 h

theorem EM.put6 (h : EM op tk sq w b id kd sn us mb dp xl xp tx) (v : List UInt8) : EM op tk sq (w.setCell ⟨b, 9, none⟩ (.string ⟨v.toArray⟩)) b id kd sn us mb dp xl xp v := cset9 h
end

structure EvC (op tk sq : Int) (w W : World) (g E : Nat) (s : ByteArray) (r : Lf) (id kd sn us mb dp : Int) (xl : Value) (tx : List UInt8) (vl : Value) (n : Nat) (zl : List Int) : Prop where
  c : RdL W g s r
  e : EM op tk sq W E id kd sn us mb dp xl (.slice none 0 0) tx
  gr : Grown2 w W g E
  l : W.ownsRow w.heap.size 3 1 vl n (zl.map icell)
  hg : g < w.heap.size
  hE : E < w.heap.size
  ne : g ≠ E

section
variable {op tk sq : Int} {w W W' : World} {g E : Nat} {s : ByteArray} {r r' : Lf} {id kd sn us mb dp : Int} {xl : Value} {tx : List UInt8} {vl : Value} {n : Nat} {zl : List Int}

theorem EvC.step (h : EvC op tk sq w W g E s r id kd sn us mb dp xl tx vl n zl) (hc : RdL W' g s r') (hg : W.grownBy W' (some g)) : EvC op tk sq w W' g E s r' id kd sn us mb dp xl tx vl n zl :=
  ⟨hc, h.e.kept hg (fun q => h.ne (Option.some.inj q)), h.gr.by hg, h.l.kept hg (Or.inr (fun q => by have := h.l.lt g q; have := h.hg; omega)), h.hg, h.hE, h.ne⟩

theorem EvC.low {vl' : Value} {n' : Nat} {zl' : List Int} (h : EvC op tk sq w W g E s r id kd sn us mb dp xl tx vl n zl) (hb : Below w.heap.size W W') (hl : W'.ownsRow w.heap.size 3 1 vl' n' (zl'.map icell)) : EvC op tk sq w W' g E s r id kd sn us mb dp xl tx vl' n' zl' :=
  ⟨h.c.kept (hb.block g h.hg), h.e.on hb h.hE, h.gr.low hb, hl, h.hg, h.hE, h.ne⟩

theorem EvC.grow (h : EvC op tk sq w W g E s r id kd sn us mb dp xl tx vl n zl) (o : Obj) : EvC op tk sq w (W.alloc o) g E s r id kd sn us mb dp xl tx vl n zl :=
  h.low ((Below.refl _ _).alloc h.gr.size o) (h.l.alloc o)

theorem EvC.drew (h : EvC op tk sq w W g E s r id kd sn us mb dp xl tx vl n zl) : EvC op tk sq w W.drew g E s r id kd sn us mb dp xl tx vl n zl :=
  h.low (Below.refl _ _).drew (own_below h.l (Below.refl _ _).drew)

theorem EvC.put (h : EvC op tk sq w W g E s r id kd sn us mb dp xl tx vl n zl) {id' kd' sn' us' mb' dp' : Int} {xl' : Value} {tx' : List UInt8} {k : Nat} {v : Value}
    (he : EM op tk sq (W.setCell ⟨E, k, none⟩ v) E id' kd' sn' us' mb' dp' xl' (.slice none 0 0) tx') : EvC op tk sq w (W.setCell ⟨E, k, none⟩ v) g E s r id' kd' sn' us' mb' dp' xl' tx' vl n zl := by
  have hg := blk_grown W E k v
  exact ⟨h.c.kept (hg.block g h.c.lt (fun q => h.ne (Option.some.inj q))), he, h.gr.by2 hg, own_setCell h.l h.hE _, h.hg, h.hE, h.ne⟩
end

def BdPostC (op tk sq : Int) (id : Int) (k sn u m nl : Nat) (r6 : Lf) (g E : Nat) (s : ByteArray) (w : World) (e : Ending) (w' : World) : Prop :=
  ∃ J vl, e = .returned (.tuple #[]) ∧ Stops byteL nl r6 J ∧ EvC op tk sq w w' g E s (shL 1048576 (itL byteL J r6).2).2 id k sn u m 0 vl (shL 1048576 (itL byteL J r6).2).1 vl J (itL byteL J r6).1

set_option maxHeartbeats 8000000 in
theorem l09ReadBodyC_any (op tk sq : Int) (g E : Nat) (s : ByteArray) (hs : s.size ≤ 1048576) (r : Lf) (id : Int) (w : World) (hc : RdL w g s r) (he : EM op tk sq w E id 0 0 0 0 0 (.slice none 0 0) (.slice none 0 0) []) (hne : g ≠ E) {r2 r3 r4 r5 r6 : Lf} {k sn u m nl : Nat}
    (h2 : byteL r = (k, r2)) (h3 : byteL r2 = (sn, r3)) (h4 : byteL r3 = (u, r4)) (h5 : byteL r4 = (m, r5)) (h6 : numL r5 = (nl, r6)) :
    Calls Tryz.prog 35 #[.pointer (some ⟨g, 0, none⟩), .pointer (some ⟨E, 3, none⟩)] w fun e w' => BdPostC op tk sq id k sn u m nl r6 g E s w e w' := by
  have H0 := hide (show EvC op tk sq w w g E s r id 0 0 0 0 0 (.slice none 0 0) [] (.slice none 0 0) 0 [] from ⟨hc, he, Grown2.refl _ _ _, World.ownsRow_nil _ _ _ _, hc.lt, he.lt, hne⟩)
  have HV1 := hide (fun w hc => l09One_L g s hs r w hc)
  have HV2 := hide (fun w hc => l09One_L g s hs r2 w hc)
  have HV3 := hide (fun w hc => l09One_L g s hs r3 w hc)
  have HV4 := hide (fun w hc => l09One_L g s hs r4 w hc)
  have HV5 := hide (fun w hc => l05Var_L g s hs r5 w hc)
  rw [h2] at HV1
  rw [h3] at HV2
  rw [h4] at HV3
  rw [h5] at HV4
  rw [h6] at HV5
  simp only at HV1 HV2 HV3 HV4 HV5
  have hnl := numL_le r5
  rw [h6] at hnl
  simp only at hnl
  clear hc he hne h2 h3 h4 h5 h6
  go_enter Tryz.func35, Tryz.ntmps35
  go_wp2_with fail
  refine (HV1.out _ H0.out.c).mono ?_
  rintro e x1 ⟨rfl, hc1, hg1⟩
  have G1 := hide (H0.out.step hc1 hg1)
  have H1 := hide (G1.out.put (G1.out.e.put1 (k : Int)))
  clear hc1 hg1 H0
  obtain ⟨e0, e1, e2, e3, e4, e5, e6, e7, e8⟩ := G1.out.e.ev
  have f1 := G1.out.e.free 4
  go_wp2_with fail
  clear e0 e1 e2 e3 e4 e5 e6 e7 e8 f1 G1
  generalize x1.setCell ⟨E, 4, none⟩ (.int .i64 (k : Int)) = v1 at H1 ⊢
  refine (HV2.out _ H1.out.c).mono ?_
  rintro e x2 ⟨rfl, hc2, hg2⟩
  have G2 := hide (H1.out.step hc2 hg2)
  have H2 := hide (G2.out.put (G2.out.e.put2 (sn : Int)))
  clear hc2 hg2 H1
  obtain ⟨e0, e1, e2, e3, e4, e5, e6, e7, e8⟩ := G2.out.e.ev
  have f2 := G2.out.e.free 5
  go_wp2_with fail
  clear e0 e1 e2 e3 e4 e5 e6 e7 e8 f2 G2
  generalize x2.setCell ⟨E, 5, none⟩ (.int .i64 (sn : Int)) = v2 at H2 ⊢
  refine (HV3.out _ H2.out.c).mono ?_
  rintro e x3 ⟨rfl, hc3, hg3⟩
  have G3 := hide (H2.out.step hc3 hg3)
  have H3 := hide (G3.out.put (G3.out.e.put3 (u : Int)))
  clear hc3 hg3 H2
  obtain ⟨e0, e1, e2, e3, e4, e5, e6, e7, e8⟩ := G3.out.e.ev
  have f3 := G3.out.e.free 6
  go_wp2_with fail
  clear e0 e1 e2 e3 e4 e5 e6 e7 e8 f3 G3
  generalize x3.setCell ⟨E, 6, none⟩ (.int .i64 (u : Int)) = v3 at H3 ⊢
  refine (HV4.out _ H3.out.c).mono ?_
  rintro e x4 ⟨rfl, hc4, hg4⟩
  have G4 := hide (H3.out.step hc4 hg4)
  have H4 := hide (G4.out.put (G4.out.e.put4 (m : Int)))
  clear hc4 hg4 H3
  obtain ⟨e0, e1, e2, e3, e4, e5, e6, e7, e8⟩ := G4.out.e.ev
  have f4 := G4.out.e.free 7
  go_wp2_with fail
  clear e0 e1 e2 e3 e4 e5 e6 e7 e8 f4 G4
  generalize x4.setCell ⟨E, 7, none⟩ (.int .i64 (m : Int)) = v4 at H4 ⊢
  refine (HV5.out _ H4.out.c).mono ?_
  rintro e x5 ⟨rfl, hc5, hg5⟩
  have H5 := hide (H4.out.step hc5 hg5)
  clear hc5 hg5 H4
  go_wp2_with fail
  go_loopw [5] (fun i wr => ∃ (j : Nat) (vl : Value), i = .int .i64 (j : Int) ∧ j ≤ nl ∧ j ≤ 50 ∧ EvC op tk sq w wr g E s (itL byteL j r6).2 id k sn u m 0 vl [] vl j (itL byteL j r6).1) (fun i _ => nl - (intOf i).toNat)
  case atStart => exact ⟨0, _, rfl, Nat.zero_le _, by omega, H5.out⟩
  case round =>
    obtain ⟨j, vl, rfl, hj, hj50, hq⟩ := hrel
    obtain ⟨oa, cl, hvl⟩ := row_form hq.l
    subst hvl
    have HQ := hide hq
    have cb := hq.c.bad
    clear hq
    by_cases hlt : j < nl
    · have j0 : (j : Int) < (nl : Int) := by omega
      by_cases h50 : j < 50
      · have j5 : (j : Int) < 50 := by omega
        cases hst : (itL byteL j r6).2.isNone with
        | false =>
          rw [hst] at cb
          have HQD := hide HQ.out.drew
          clear hst
          go_wp2_with fail
          clear cb
          refine wp_region_held_drew (S := fun _ => True) (by kernel_rfl) trivial (fun hHeld => ?_)
          refine wpAnyH_take (i := 0) (v := ?_) rfl (by kernel_rfl) (by kernel_rfl) (by kernel_rfl) (fun _ _ _ h => h) (Or.inl ⟨by rfl, ?_⟩) (by assumption) ?_; rotate_left
          · (intro w hSw; (try dsimp only at hSw); go_simp; first | done | with_reducible rfl)
          try simp only [Act.put, List.getElem_toArray, List.getElem_cons_zero, List.getElem_cons_succ, List.setIfInBounds_toArray, List.set_cons_zero, List.set_cons_succ]
          refine wpAnyH_take (i := 1) (v := ?_) rfl (by kernel_rfl) (by kernel_rfl) (by kernel_rfl) (fun _ _ _ h => h) (Or.inl ⟨by rfl, ?_⟩) (by assumption) ?_; rotate_left
          · (intro w hSw; (try dsimp only at hSw); go_simp; first | done | with_reducible rfl)
          try simp only [Act.put, List.getElem_toArray, List.getElem_cons_zero, List.getElem_cons_succ, List.setIfInBounds_toArray, List.set_cons_zero, List.set_cons_succ]
          refine wpAnyH_take (i := 2) (v := ?_) rfl (by kernel_rfl) (by kernel_rfl) (by kernel_rfl) (fun _ _ _ h => h) (Or.inl ⟨by rfl, ?_⟩) (by assumption) ?_; rotate_left
          · (intro w hSw; (try dsimp only at hSw); go_simp; first | done | with_reducible rfl)
          try simp only [Act.put, List.getElem_toArray, List.getElem_cons_zero, List.getElem_cons_succ, List.setIfInBounds_toArray, List.set_cons_zero, List.set_cons_succ]
          refine wpAnyH_take (i := 3) (v := ?_) rfl (by kernel_rfl) (by kernel_rfl) (by kernel_rfl) (fun _ _ _ h => h) (Or.inl ⟨by rfl, ?_⟩) (by assumption) ?_; rotate_left
          · (intro w hSw; (try dsimp only at hSw); go_simp; first | done | with_reducible rfl)
          try simp only [Act.put, List.getElem_toArray, List.getElem_cons_zero, List.getElem_cons_succ, List.setIfInBounds_toArray, List.set_cons_zero, List.set_cons_succ]
          refine wpAnyH_take (i := 5) (v := ?_) rfl (by kernel_rfl) (by kernel_rfl) (by kernel_rfl) (fun _ _ _ h => h) (Or.inl ⟨by rfl, ?_⟩) (by assumption) ?_; rotate_left
          · (intro w hSw; (try dsimp only at hSw); go_simp; first | done | with_reducible rfl)
          try simp only [Act.put, List.getElem_toArray, List.getElem_cons_zero, List.getElem_cons_succ, List.setIfInBounds_toArray, List.set_cons_zero, List.set_cons_succ]
          refine wpAnyH_ready (rs := [4, 6]) (by kernel_rfl) (by simp) ?_
          refine AllReadyH.cons rfl (fun K hK => ?_) ?_
          · have hcd := HQ.out.e.ev.c5
            rw [if_pos (by rfl)]
            go_simp
            refine hK.out _ _ ?_ (fun hHeld => ?_)
            · trivial
            clear hK K
            try simp only [Act.put, List.getElem_toArray, List.getElem_cons_zero, List.getElem_cons_succ, List.setIfInBounds_toArray, List.set_cons_zero, List.set_cons_succ]
            clear hcd
            refine wpAnyH_ready (rs := [6]) (by kernel_rfl) (by simp) ?_
            refine AllReadyH.cons rfl (fun K hK => ?_) ?_
            · rw [if_pos (by rfl)]
              go_simp
              go_at_call 33
              refine (l09One_L g s hs _ _ HQD.out.c).mono ?_
              rintro r w96 ⟨rfl, hc6, hg6⟩
              have HQ6 := hide (HQD.out.step hc6 hg6)
              clear hc6 hg6
              try go_simp
              refine hK.out _ _ ?_ (fun hHeld => ?_)
              · trivial
              clear hK K
              try simp only [Act.put, List.getElem_toArray, List.getElem_cons_zero, List.getElem_cons_succ, List.setIfInBounds_toArray, List.set_cons_zero, List.set_cons_succ]
              refine wpAnyH_ready (rs := [7]) (by kernel_rfl) (by simp) ?_
              refine AllReadyH.cons rfl (fun K hK => ?_) ?_
              · have HQ7 := hide (HQ6.out.grow (.cells #[.int .i64 (((byteL (itL byteL j r6).2).1 : Nat) : Int)] 3))
                rw [if_pos (by rfl)]
                go_simp
                refine hK.out _ _ ?_ (fun hHeld => ?_)
                · trivial
                clear hK K
                try simp only [Act.put, List.getElem_toArray, List.getElem_cons_zero, List.getElem_cons_succ, List.setIfInBounds_toArray, List.set_cons_zero, List.set_cons_succ]
                refine wpAnyH_ready (rs := [8]) (by kernel_rfl) (by simp) ?_
                refine AllReadyH.cons rfl (fun K hK => ?_) ?_
                · refine step_push (by rfl) _ _ 22 (by rfl) Tryz.underlying22 infoIz (by rfl) (by rfl) HQ7.out.l (by rfl) (by rfl) (heap_alloc_new _ _) (by simp [Value.oneCell']) (Below.refl w.heap.size _) HQ7.out.gr.size (by unfold maxLen; omega) (by omega) ?_
                  intro v8 w98 ho8 hb8 hz8
                  obtain ⟨ov8, cv8, hv8⟩ := row_form ho8
                  subst hv8
                  have HQ8 := hide (HQ7.out.low hb8 (row_next ho8))
                  clear ho8 hb8 hz8
                  refine hK.out _ _ ?_ (fun hHeld => ?_)
                  · trivial
                  clear hK K
                  try simp only [Act.put, List.getElem_toArray, List.getElem_cons_zero, List.getElem_cons_succ, List.setIfInBounds_toArray, List.set_cons_zero, List.set_cons_succ]
                  refine wpAnyH_take (i := 9) (v := ?_) rfl (by kernel_rfl) (by kernel_rfl) (by kernel_rfl) (fun _ _ _ h => h) (Or.inl ⟨by rfl, ?_⟩) (by assumption) ?_; rotate_left
                  · (intro w hSw; (try dsimp only at hSw); go_simp; first | done | with_reducible rfl)
                  try simp only [Act.put, List.getElem_toArray, List.getElem_cons_zero, List.getElem_cons_succ, List.setIfInBounds_toArray, List.set_cons_zero, List.set_cons_succ]
                  refine wpAnyH_take (i := 10) (v := ?_) rfl (by kernel_rfl) (by kernel_rfl) (by kernel_rfl) (fun _ _ _ h => h) (Or.inl ⟨by rfl, ?_⟩) (by assumption) ?_; rotate_left
                  · (intro w hSw; (try dsimp only at hSw); go_simp; first | done | with_reducible rfl)
                  try simp only [Act.put, List.getElem_toArray, List.getElem_cons_zero, List.getElem_cons_succ, List.setIfInBounds_toArray, List.set_cons_zero, List.set_cons_succ]
                  refine wpAnyH_ready (rs := [11]) (by kernel_rfl) (by simp) ?_
                  refine AllReadyH.cons rfl (fun K hK => ?_) ?_
                  · have hcd := HQ8.out.e.ev.c5
                    have hfz := HQ8.out.e.free 8
                    rw [if_pos (by rfl)]
                    go_simp
                    refine hK.out _ _ ?_ (fun hHeld => ?_)
                    · trivial
                    clear hK K
                    try simp only [Act.put, List.getElem_toArray, List.getElem_cons_zero, List.getElem_cons_succ, List.setIfInBounds_toArray, List.set_cons_zero, List.set_cons_succ]
                    clear hcd hfz
                    refine wpAnyH_done (by kernel_rfl) ?_ _
                    have HQ11 := hide (HQ8.out.put (HQ8.out.e.put5 (.slice ov8 (j + 1) cv8)))
                    clear HQ8 HQ7 HQ6 HQD HQ
                    go_wp2_with fail
                    go_roundw
                    case rel => exact ⟨j + 1, _, by go_num, by omega, by omega, HQ11.out⟩
                    case measure => simp [intOf]; omega
                  exact AllReadyH.nil
                exact AllReadyH.nil
              exact AllReadyH.nil
            exact AllReadyH.nil
          refine AllReadyH.cons rfl (fun K hK => ?_) ?_
          · rw [if_pos (by rfl)]
            go_simp
            go_at_call 33
            refine (l09One_L g s hs _ _ HQD.out.c).mono ?_
            rintro r w96 ⟨rfl, hc6, hg6⟩
            have HQ6 := hide (HQD.out.step hc6 hg6)
            clear hc6 hg6
            try go_simp
            refine hK.out _ _ ?_ (fun hHeld => ?_)
            · trivial
            clear hK K
            try simp only [Act.put, List.getElem_toArray, List.getElem_cons_zero, List.getElem_cons_succ, List.setIfInBounds_toArray, List.set_cons_zero, List.set_cons_succ]
            refine wpAnyH_ready (rs := [4, 7]) (by kernel_rfl) (by simp) ?_
            refine AllReadyH.cons rfl (fun K hK => ?_) ?_
            · have hcd := HQ6.out.e.ev.c5
              rw [if_pos (by rfl)]
              go_simp
              refine hK.out _ _ ?_ (fun hHeld => ?_)
              · trivial
              clear hK K
              try simp only [Act.put, List.getElem_toArray, List.getElem_cons_zero, List.getElem_cons_succ, List.setIfInBounds_toArray, List.set_cons_zero, List.set_cons_succ]
              clear hcd
              refine wpAnyH_ready (rs := [7]) (by kernel_rfl) (by simp) ?_
              refine AllReadyH.cons rfl (fun K hK => ?_) ?_
              · have HQ7 := hide (HQ6.out.grow (.cells #[.int .i64 (((byteL (itL byteL j r6).2).1 : Nat) : Int)] 3))
                rw [if_pos (by rfl)]
                go_simp
                refine hK.out _ _ ?_ (fun hHeld => ?_)
                · trivial
                clear hK K
                try simp only [Act.put, List.getElem_toArray, List.getElem_cons_zero, List.getElem_cons_succ, List.setIfInBounds_toArray, List.set_cons_zero, List.set_cons_succ]
                refine wpAnyH_ready (rs := [8]) (by kernel_rfl) (by simp) ?_
                refine AllReadyH.cons rfl (fun K hK => ?_) ?_
                · refine step_push (by rfl) _ _ 22 (by rfl) Tryz.underlying22 infoIz (by rfl) (by rfl) HQ7.out.l (by rfl) (by rfl) (heap_alloc_new _ _) (by simp [Value.oneCell']) (Below.refl w.heap.size _) HQ7.out.gr.size (by unfold maxLen; omega) (by omega) ?_
                  intro v8 w98 ho8 hb8 hz8
                  obtain ⟨ov8, cv8, hv8⟩ := row_form ho8
                  subst hv8
                  have HQ8 := hide (HQ7.out.low hb8 (row_next ho8))
                  clear ho8 hb8 hz8
                  refine hK.out _ _ ?_ (fun hHeld => ?_)
                  · trivial
                  clear hK K
                  try simp only [Act.put, List.getElem_toArray, List.getElem_cons_zero, List.getElem_cons_succ, List.setIfInBounds_toArray, List.set_cons_zero, List.set_cons_succ]
                  refine wpAnyH_take (i := 9) (v := ?_) rfl (by kernel_rfl) (by kernel_rfl) (by kernel_rfl) (fun _ _ _ h => h) (Or.inl ⟨by rfl, ?_⟩) (by assumption) ?_; rotate_left
                  · (intro w hSw; (try dsimp only at hSw); go_simp; first | done | with_reducible rfl)
                  try simp only [Act.put, List.getElem_toArray, List.getElem_cons_zero, List.getElem_cons_succ, List.setIfInBounds_toArray, List.set_cons_zero, List.set_cons_succ]
                  refine wpAnyH_take (i := 10) (v := ?_) rfl (by kernel_rfl) (by kernel_rfl) (by kernel_rfl) (fun _ _ _ h => h) (Or.inl ⟨by rfl, ?_⟩) (by assumption) ?_; rotate_left
                  · (intro w hSw; (try dsimp only at hSw); go_simp; first | done | with_reducible rfl)
                  try simp only [Act.put, List.getElem_toArray, List.getElem_cons_zero, List.getElem_cons_succ, List.setIfInBounds_toArray, List.set_cons_zero, List.set_cons_succ]
                  refine wpAnyH_ready (rs := [11]) (by kernel_rfl) (by simp) ?_
                  refine AllReadyH.cons rfl (fun K hK => ?_) ?_
                  · have hcd := HQ8.out.e.ev.c5
                    have hfz := HQ8.out.e.free 8
                    rw [if_pos (by rfl)]
                    go_simp
                    refine hK.out _ _ ?_ (fun hHeld => ?_)
                    · trivial
                    clear hK K
                    try simp only [Act.put, List.getElem_toArray, List.getElem_cons_zero, List.getElem_cons_succ, List.setIfInBounds_toArray, List.set_cons_zero, List.set_cons_succ]
                    clear hcd hfz
                    refine wpAnyH_done (by kernel_rfl) ?_ _
                    have HQ11 := hide (HQ8.out.put (HQ8.out.e.put5 (.slice ov8 (j + 1) cv8)))
                    clear HQ8 HQ7 HQ6 HQD HQ
                    go_wp2_with fail
                    go_roundw
                    case rel => exact ⟨j + 1, _, by go_num, by omega, by omega, HQ11.out⟩
                    case measure => simp [intOf]; omega
                  exact AllReadyH.nil
                exact AllReadyH.nil
              exact AllReadyH.nil
            refine AllReadyH.cons rfl (fun K hK => ?_) ?_
            · have HQ7 := hide (HQ6.out.grow (.cells #[.int .i64 (((byteL (itL byteL j r6).2).1 : Nat) : Int)] 3))
              rw [if_pos (by rfl)]
              go_simp
              refine hK.out _ _ ?_ (fun hHeld => ?_)
              · trivial
              clear hK K
              try simp only [Act.put, List.getElem_toArray, List.getElem_cons_zero, List.getElem_cons_succ, List.setIfInBounds_toArray, List.set_cons_zero, List.set_cons_succ]
              refine wpAnyH_ready (rs := [4]) (by kernel_rfl) (by simp) ?_
              refine AllReadyH.cons rfl (fun K hK => ?_) ?_
              · have hcd := HQ7.out.e.ev.c5
                rw [if_pos (by rfl)]
                go_simp
                refine hK.out _ _ ?_ (fun hHeld => ?_)
                · trivial
                clear hK K
                try simp only [Act.put, List.getElem_toArray, List.getElem_cons_zero, List.getElem_cons_succ, List.setIfInBounds_toArray, List.set_cons_zero, List.set_cons_succ]
                clear hcd
                refine wpAnyH_ready (rs := [8]) (by kernel_rfl) (by simp) ?_
                refine AllReadyH.cons rfl (fun K hK => ?_) ?_
                · refine step_push (by rfl) _ _ 22 (by rfl) Tryz.underlying22 infoIz (by rfl) (by rfl) HQ7.out.l (by rfl) (by rfl) (heap_alloc_new _ _) (by simp [Value.oneCell']) (Below.refl w.heap.size _) HQ7.out.gr.size (by unfold maxLen; omega) (by omega) ?_
                  intro v8 w98 ho8 hb8 hz8
                  obtain ⟨ov8, cv8, hv8⟩ := row_form ho8
                  subst hv8
                  have HQ8 := hide (HQ7.out.low hb8 (row_next ho8))
                  clear ho8 hb8 hz8
                  refine hK.out _ _ ?_ (fun hHeld => ?_)
                  · trivial
                  clear hK K
                  try simp only [Act.put, List.getElem_toArray, List.getElem_cons_zero, List.getElem_cons_succ, List.setIfInBounds_toArray, List.set_cons_zero, List.set_cons_succ]
                  refine wpAnyH_take (i := 9) (v := ?_) rfl (by kernel_rfl) (by kernel_rfl) (by kernel_rfl) (fun _ _ _ h => h) (Or.inl ⟨by rfl, ?_⟩) (by assumption) ?_; rotate_left
                  · (intro w hSw; (try dsimp only at hSw); go_simp; first | done | with_reducible rfl)
                  try simp only [Act.put, List.getElem_toArray, List.getElem_cons_zero, List.getElem_cons_succ, List.setIfInBounds_toArray, List.set_cons_zero, List.set_cons_succ]
                  refine wpAnyH_take (i := 10) (v := ?_) rfl (by kernel_rfl) (by kernel_rfl) (by kernel_rfl) (fun _ _ _ h => h) (Or.inl ⟨by rfl, ?_⟩) (by assumption) ?_; rotate_left
                  · (intro w hSw; (try dsimp only at hSw); go_simp; first | done | with_reducible rfl)
                  try simp only [Act.put, List.getElem_toArray, List.getElem_cons_zero, List.getElem_cons_succ, List.setIfInBounds_toArray, List.set_cons_zero, List.set_cons_succ]
                  refine wpAnyH_ready (rs := [11]) (by kernel_rfl) (by simp) ?_
                  refine AllReadyH.cons rfl (fun K hK => ?_) ?_
                  · have hcd := HQ8.out.e.ev.c5
                    have hfz := HQ8.out.e.free 8
                    rw [if_pos (by rfl)]
                    go_simp
                    refine hK.out _ _ ?_ (fun hHeld => ?_)
                    · trivial
                    clear hK K
                    try simp only [Act.put, List.getElem_toArray, List.getElem_cons_zero, List.getElem_cons_succ, List.setIfInBounds_toArray, List.set_cons_zero, List.set_cons_succ]
                    clear hcd hfz
                    refine wpAnyH_done (by kernel_rfl) ?_ _
                    have HQ11 := hide (HQ8.out.put (HQ8.out.e.put5 (.slice ov8 (j + 1) cv8)))
                    clear HQ8 HQ7 HQ6 HQD HQ
                    go_wp2_with fail
                    go_roundw
                    case rel => exact ⟨j + 1, _, by go_num, by omega, by omega, HQ11.out⟩
                    case measure => simp [intOf]; omega
                  exact AllReadyH.nil
                exact AllReadyH.nil
              exact AllReadyH.nil
            exact AllReadyH.nil
          exact AllReadyH.nil
        | true =>
          rw [hst] at cb
          have hnone : (itL byteL j r6).2 = none := by
            cases hq : (itL byteL j r6).2 with
            | none => rfl
            | some x => rw [hq] at hst; cases hst
          have HSP := hide (show Stops byteL nl r6 j from ⟨hj, hj50, Or.inr (Or.inr hnone)⟩)
          clear hst hnone
          go_wp2_with fail
          clear cb
          refine (l05ReadShort_L g s hs _ _ HQ.out.c).mono ?_
          rintro e x7 ⟨rfl, hc7, hg7⟩
          have G7 := hide (HQ.out.step hc7 hg7)
          have H7 := hide (G7.out.put (G7.out.e.put6 (shL 1048576 (itL byteL j r6).2).1))
          clear hc7 hg7 HQ
          obtain ⟨e0, e1, e2, e3, e4, e5, e6, e7, e8⟩ := G7.out.e.ev
          have f6 := G7.out.e.free 9
          go_wp2_with fail
          refine bodyPost_end (results_none rfl _ _ _) rfl ?_
          exact ⟨j, _, rfl, HSP.out, H7.out⟩
      · have j5 : ¬ (j : Int) < 50 := by omega
        have HSP := hide (show Stops byteL nl r6 j from ⟨hj, hj50, Or.inr (Or.inl (by omega))⟩)
        go_wp2_with fail
        clear cb
        refine (l05ReadShort_L g s hs _ _ HQ.out.c).mono ?_
        rintro e x7 ⟨rfl, hc7, hg7⟩
        have G7 := hide (HQ.out.step hc7 hg7)
        have H7 := hide (G7.out.put (G7.out.e.put6 (shL 1048576 (itL byteL j r6).2).1))
        clear hc7 hg7 HQ
        obtain ⟨e0, e1, e2, e3, e4, e5, e6, e7, e8⟩ := G7.out.e.ev
        have f6 := G7.out.e.free 9
        go_wp2_with fail
        refine bodyPost_end (results_none rfl _ _ _) rfl ?_
        exact ⟨j, _, rfl, HSP.out, H7.out⟩
    · have j0 : ¬ (j : Int) < (nl : Int) := by omega
      have HSP := hide (show Stops byteL nl r6 j from ⟨hj, hj50, Or.inl (by omega)⟩)
      go_wp2_with fail
      clear cb
      refine (l05ReadShort_L g s hs _ _ HQ.out.c).mono ?_
      rintro e x7 ⟨rfl, hc7, hg7⟩
      have G7 := hide (HQ.out.step hc7 hg7)
      have H7 := hide (G7.out.put (G7.out.e.put6 (shL 1048576 (itL byteL j r6).2).1))
      clear hc7 hg7 HQ
      obtain ⟨e0, e1, e2, e3, e4, e5, e6, e7, e8⟩ := G7.out.e.ev
      have f6 := G7.out.e.free 9
      go_wp2_with fail
      refine bodyPost_end (results_none rfl _ _ _) rfl ?_
      exact ⟨j, _, rfl, HSP.out, H7.out⟩

end Go.Proofs.YtckkfjmjcknjdaaGreatDoor
