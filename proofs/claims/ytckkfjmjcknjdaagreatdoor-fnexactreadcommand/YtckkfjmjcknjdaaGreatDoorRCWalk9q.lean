/-
  Walks and mathematics of Walk9q.
-/
import Derived.Test.YtckkfjmjcknjdaaGreatDoorRCWalk9p
import Derived.Test.YtckkfjmjcknjdaaGreatDoorRCWalk9g
import Derived.Test.YtckkfjmjcknjdaaGreatDoorRCWalk9n
namespace Go.Proofs.YtckkfjmjcknjdaaGreatDoor.P3
end Go.Proofs.YtckkfjmjcknjdaaGreatDoor.P3
namespace Go.Proofs.YtckkfjmjcknjdaaGreatDoor
open Go.RowKit P1 P3 P9 P11 P12 K
set_option linter.unusedVariables false
set_option linter.unusedSimpArgs false
attribute [local go_sem ↓] Go.wp_at_zero Go.wp_at_succ

structure EvP (w W : World) (g E : Nat) (s : ByteArray) (r : Lf) (id kd sn us mb dp : Int) (xl xp : Value) (tx : List UInt8) (vp : Value) (m : Nat) (zp : List Int) : Prop where
  c : RdL W g s r
  e : EB W E id kd sn us mb dp xl xp tx
  gr : Grown2 w W g E
  p : W.ownsRow w.heap.size 3 1 vp m (zp.map icell)
  hg : g < w.heap.size
  hE : E < w.heap.size
  ne : g ≠ E

section
variable {w W W' : World} {g E : Nat} {s : ByteArray} {r r' : Lf} {id kd sn us mb dp : Int} {xl xp : Value} {tx : List UInt8} {vp : Value} {m : Nat} {zp : List Int}

theorem EvP.step (h : EvP w W g E s r id kd sn us mb dp xl xp tx vp m zp) (hc : RdL W' g s r') (hg : W.grownBy W' (some g)) : EvP w W' g E s r' id kd sn us mb dp xl xp tx vp m zp :=
  ⟨hc, h.e.kept hg (fun q => h.ne (Option.some.inj q)), h.gr.by hg, h.p.kept hg (Or.inr (fun q => by have := h.p.lt g q; have := h.hg; omega)), h.hg, h.hE, h.ne⟩

theorem EvP.low {vp' : Value} {m' : Nat} {zp' : List Int} (h : EvP w W g E s r id kd sn us mb dp xl xp tx vp m zp) (hb : Below w.heap.size W W') (hl : W'.ownsRow w.heap.size 3 1 vp' m' (zp'.map icell)) : EvP w W' g E s r id kd sn us mb dp xl xp tx vp' m' zp' :=
  ⟨h.c.kept (hb.block g h.hg), h.e.on hb h.hE, h.gr.low hb, hl, h.hg, h.hE, h.ne⟩

theorem EvP.grow (h : EvP w W g E s r id kd sn us mb dp xl xp tx vp m zp) (o : Obj) : EvP w (W.alloc o) g E s r id kd sn us mb dp xl xp tx vp m zp :=
  h.low ((Below.refl _ _).alloc h.gr.size o) (h.p.alloc o)

theorem EvP.on (h : EvP w W g E s r id kd sn us mb dp xl xp tx vp m zp) (hb : Below W.heap.size W W') : EvP w W' g E s r id kd sn us mb dp xl xp tx vp m zp :=
  h.low (hb.mono h.gr.size) (own_below h.p hb)

theorem EvP.drew (h : EvP w W g E s r id kd sn us mb dp xl xp tx vp m zp) : EvP w W.drew g E s r id kd sn us mb dp xl xp tx vp m zp := h.on (Below.refl _ _).drew

theorem EvP.put (h : EvP w W g E s r id kd sn us mb dp xl xp tx vp m zp) {id' kd' sn' us' mb' dp' : Int} {xl' xp' : Value} {tx' : List UInt8} {k : Nat} {v : Value}
    (he : EB (W.setCell ⟨E, k, none⟩ v) E id' kd' sn' us' mb' dp' xl' xp' tx') : EvP w (W.setCell ⟨E, k, none⟩ v) g E s r id' kd' sn' us' mb' dp' xl' xp' tx' vp m zp := by
  have hg := blk_grown W E k v
  exact ⟨h.c.kept (hg.block g h.c.lt (fun q => h.ne (Option.some.inj q))), he, h.gr.by2 hg, own_setCell h.p h.hE _, h.hg, h.hE, h.ne⟩
end

theorem own_grown2 {w w' : World} {g E base : Nat} {e : TypeId} {size : Nat} {v : Value} {n : Nat} {xs : List Value} (h : w.ownsRow base e size v n xs) (hg : Grown2 w w' g E) (h1 : g < base) (h2 : E < base) : w'.ownsRow base e size v n xs := by
  obtain ⟨k1, k2⟩ := h
  refine ⟨k1, ?_⟩
  rcases k2 with k2 | ⟨b, cap, cur, hv, hb, hh, r⟩
  · exact Or.inl k2
  · exact Or.inr ⟨b, cap, cur, hv, hb, by rw [hg.block b (blk_lt hh) (by omega) (by omega)]; exact hh, r⟩

theorem spec_read {l : List UInt8} {r1 r2 r3 r4 r5 r6 r7 r8 r9 r10 r11 : Lf} {i k sn u m nl np d J K : Nat} {zl zp : List Int} {tx : List UInt8}
    (h1 : numL (some l) = (i, r1)) (h2 : byteL r1 = (k, r2)) (h3 : byteL r2 = (sn, r3)) (h4 : byteL r3 = (u, r4)) (h5 : byteL r4 = (m, r5)) (h6 : numL r5 = (nl, r6)) (hJ : Stops byteL nl r6 J) (h7 : itL byteL J r6 = (zl, r7)) (h8 : shL 1048576 r7 = (tx, r8)) (h9 : numL r8 = (np, r9)) (hK : Stops numL np r9 K) (h10 : itL numL K r9 = (zp, r10)) (h11 : numL r10 = (d, r11))
    (hno : ¬ (r11 ≠ none ∧ evText ⟨i, k, sn, u, m, zl, tx, zp, d⟩ = some l)) : rdEvent l = none := by
  cases hr : rdEvent l with
  | none => rfl
  | some e =>
    exfalso
    have ht := rdEvent_iff.1 hr
    have ht0 := ht
    unfold evText at ht
    split at ht
    · rename_i hok
      have hl := Option.some.inj ht
      have hin := evOk_in hok
      have hL : nl = e.levels.length → (∀ j, j ≤ nl → (itL byteL j r6).2 ≠ none) → itL byteL nl r6 = (zl, r7) := by
        intro hn hall
        have hmany := hin.many
        have hJn : J = nl := by
          rcases hJ.2.2 with j3 | j3 | j3
          · exact j3
          · have := hJ.1; omega
          · exact absurd j3 (hall J hJ.1)
        rw [← hJn]
        exact h7
      have hP : np = e.prev.length → (∀ j, j ≤ np → (itL numL j r9).2 ≠ none) → itL numL np r9 = (zp, r10) := by
        intro hn hall
        have hmany := hin.prevs
        have hKn : K = np := by
          rcases hK.2.2 with j3 | j3 | j3
          · exact j3
          · have := hK.1; omega
          · exact absurd j3 (hall K hK.1)
        rw [← hKn]
        exact h10
      obtain ⟨he, hr11⟩ := text_read hin hl.symm (J := 0) (K := 0) (by omega : 24 ≤ 1048576) (by omega) h1 h2 h3 h4 h5 h6 hL h8 h9 hP h11
      refine hno ⟨by rw [hr11]; simp, ?_⟩
      rw [← he]
      exact ht0
    · cases ht

set_option maxHeartbeats 8000000 in
theorem specReadEvent_any (s : ByteArray) (hs : s.size ≤ 1048576) (w : World) :
    Calls Tryz.prog 36 #[.string s] w fun e w' => RePost (reR (bl s)) w e w' := by
  obtain ⟨i, r1, h1⟩ : ∃ i r1, numL (some (bl s)) = (i, r1) := ⟨_, _, rfl⟩
  obtain ⟨k, r2, h2⟩ : ∃ i q, byteL r1 = (i, q) := ⟨_, _, rfl⟩
  obtain ⟨sn, r3, h3⟩ : ∃ i q, byteL r2 = (i, q) := ⟨_, _, rfl⟩
  obtain ⟨u, r4, h4⟩ : ∃ i q, byteL r3 = (i, q) := ⟨_, _, rfl⟩
  obtain ⟨mb, r5, h5⟩ : ∃ i q, byteL r4 = (i, q) := ⟨_, _, rfl⟩
  obtain ⟨nl, r6, h6⟩ : ∃ i q, numL r5 = (i, q) := ⟨_, _, rfl⟩
  have HBD := hide (fun g E w hc he hne => l09ReadBody_any g E s hs r1 (i : Int) w hc he hne h2 h3 h4 h5 h6)
  have HV1 := hide (fun g w hc => l05Var_L g s hs (some (bl s)) w hc)
  rw [h1] at HV1
  simp only at HV1
  have HR0 := hide (EB.new w 0 0 0 0 0 0 (.slice none 0 0) (.slice none 0 0) [])
  have hb0 := ((Below.refl w.heap.size w).alloc (Nat.le_refl _) (.cells #[.int .i64 0, .int .i64 0, .int .i64 0, .int .i64 0, .int .i64 0, .slice none 0 0, .string ⟨#[]⟩, .slice none 0 0, .int .i64 0] 29)).alloc (by simp) (.cells #[.string s, .int .i64 0, .bool false] 64)
  have HCU := hide (show RdL ((w.alloc (.cells #[.int .i64 0, .int .i64 0, .int .i64 0, .int .i64 0, .int .i64 0, .slice none 0 0, .string ⟨#[]⟩, .slice none 0 0, .int .i64 0] 29)).alloc (.cells #[.string s, .int .i64 0, .bool false] 64)) (w.heap.size + 1) s (some (bl s)) by
    have q := heap_alloc_new (w.alloc (.cells #[.int .i64 0, .int .i64 0, .int .i64 0, .int .i64 0, .int .i64 0, .slice none 0 0, .string ⟨#[]⟩, .slice none 0 0, .int .i64 0] 29)) (.cells #[.string s, .int .i64 0, .bool false] 64)
    rw [World.size_alloc] at q
    exact ⟨0, false, ⟨Nat.zero_le _, q⟩, rfl⟩)
  have HR1 := hide (HR0.out.on ((Below.refl _ _).alloc (Nat.le_refl _) (.cells #[.string s, .int .i64 0, .bool false] 64)) HR0.out.lt)
  have HB0 := hide hb0
  have HH1 := hide h1
  have HH2 := hide h2
  have HH3 := hide h3
  have HH4 := hide h4
  have HH5 := hide h5
  have HH6 := hide h6
  clear hb0 h1 h2 h3 h4 h5 h6 HR0
  go_enter Tryz.func36, Tryz.ntmps36
  go_wp2_with fail
  have HS0 := hide (show ((w.alloc (.cells #[.int .i64 0, .int .i64 0, .int .i64 0, .int .i64 0, .int .i64 0, .slice none 0 0, .string ⟨#[]⟩, .slice none 0 0, .int .i64 0] 29)).alloc (.cells #[.string s, .int .i64 0, .bool false] 64)).heap.size = w.heap.size + 1 + 1 by simp)
  generalize (w.alloc (.cells #[.int .i64 0, .int .i64 0, .int .i64 0, .int .i64 0, .int .i64 0, .slice none 0 0, .string ⟨#[]⟩, .slice none 0 0, .int .i64 0] 29)).alloc (.cells #[.string s, .int .i64 0, .bool false] 64) = w0 at HCU HR1 HB0 HS0 ⊢
  refine (HV1.out _ _ HCU.out).mono ?_
  rintro e x1 ⟨rfl, hc1, hg1⟩
  have hs0 := HS0.out
  have hs1 := hg1.size
  have HR2 := hide (HR1.out.kept hg1 (fun q => by have := Option.some.inj q; omega))
  have HB1 := hide (HB0.out.grown hg1 HB0.out.size (fun j hj => by cases hj; omega))
  have HC1 := hide hc1
  clear hc1 hg1 HR1 HB0 HCU
  go_wp2_with fail
  have hbA := (Below.refl x1.heap.size x1).alloc (Nat.le_refl _) (.cells #[.int .i64 (i : Int), .int .i64 0, .int .i64 0, .int .i64 0, .int .i64 0, .slice none 0 0, .string ⟨#[]⟩, .slice none 0 0, .int .i64 0] 29)
  have HE1 := hide (EB.new x1 (i : Int) 0 0 0 0 0 (.slice none 0 0) (.slice none 0 0) [])
  have HR3 := hide (HR2.out.on hbA HR2.out.lt)
  have HB2 := hide (HB1.out.trans (hbA.mono HB1.out.size))
  have HC2 := hide (HC1.out.kept (hbA.block _ HC1.out.lt))
  have HS1 := hide (show (x1.alloc (.cells #[.int .i64 (i : Int), .int .i64 0, .int .i64 0, .int .i64 0, .int .i64 0, .slice none 0 0, .string ⟨#[]⟩, .slice none 0 0, .int .i64 0] 29)).heap.size = x1.heap.size + 1 by simp)
  clear hbA HR2 HB1 HC1
  generalize x1.alloc (.cells #[.int .i64 (i : Int), .int .i64 0, .int .i64 0, .int .i64 0, .int .i64 0, .slice none 0 0, .string ⟨#[]⟩, .slice none 0 0, .int .i64 0] 29) = v1 at HE1 HR3 HB2 HC2 HS1 ⊢
  generalize hG : w.heap.size + 1 = G at HC2 hs0 ⊢
  generalize hE : x1.heap.size = E at HE1 HS1 hs1 ⊢
  have hGw : w.heap.size < G := by omega
  have hGE : G < E := by omega
  clear hG hs0 hs1 HS0
  have hv1 := HS1.out
  refine (HBD.out _ _ _ HC2.out HE1.out (by omega)).mono ?_
  rintro e v2 ⟨J, vl, rfl, hJ, hq⟩
  obtain ⟨zl, r7, h7⟩ : ∃ a b, itL byteL J r6 = (a, b) := ⟨_, _, rfl⟩
  obtain ⟨tx, r8, h8⟩ : ∃ a b, shL 1048576 r7 = (a, b) := ⟨_, _, rfl⟩
  obtain ⟨np, r9, h9⟩ : ∃ a b, numL r8 = (a, b) := ⟨_, _, rfl⟩
  have hzl := itL_len byteL J r6
  have hwl := itL_wf byteL (fun st => Nat.le_trans (byteL_le st) (by omega)) J r6
  have htl := shL_len (most := 1048576) (l := []) r7
  have hnp := numL_le r8
  rw [h7] at hq hzl hwl
  simp only at hq hzl hwl
  rw [h8] at hq htl
  rw [h9] at hnp
  simp only at hq htl hnp
  obtain ⟨oa, cl, hvl⟩ := row_form hq.l
  subst hvl
  have HJ := hide hJ
  have H7 := hide h7
  have H8 := hide h8
  have H9 := hide h9
  have HQ0 := hide hq
  have HWL := hide hwl
  have HZL := hide hzl
  have HR4 := hide (show EB v2 w.heap.size 0 0 0 0 0 0 (.slice none 0 0) (.slice none 0 0) [] from (hq.gr.block _ (by omega) (by omega) (by omega)).trans HR3.out)
  have HB3 := hide (show Below w.heap.size w v2 from ⟨hq.gr.os.trans HB2.out.os, hq.gr.tape.trans HB2.out.tape, hq.gr.output.trans HB2.out.output, Nat.le_trans HB2.out.size hq.gr.size, fun j hj => (hq.gr.block j (by have := HB2.out.size; omega) (by omega) (by omega)).trans (HB2.out.block j hj)⟩)
  have hJ50 : J ≤ 50 := hJ.2.1
  clear hq hwl hzl hJ h7 h8 h9 HR3 HB2 HC2 HE1
  go_wp2_with fail
  have HV9 := hide (l05Var_L G s hs r8 v2 HQ0.out.c)
  rw [H9.out] at HV9
  simp only at HV9
  refine HV9.out.mono ?_
  rintro e W0 ⟨rfl, hc9, hg9⟩
  have G9 := hide (HQ0.out.step hc9 hg9)
  have hv2 := G9.out.gr.size
  have HP0 := hide (show EvP W0 W0 G E s r9 (i : Int) (k : Int) (sn : Int) (u : Int) (mb : Int) 0 (.slice oa J cl) (.slice none 0 0) tx (.slice none 0 0) 0 [] from ⟨G9.out.c, G9.out.e, Grown2.refl _ _ _, World.ownsRow_nil _ _ _ _, by omega, by omega, by omega⟩)
  have HL0 := hide G9.out.l
  have HR5 := hide (HR4.out.kept hg9 (fun q => by have := Option.some.inj q; omega))
  have HB4 := hide (HB3.out.grown hg9 HB3.out.size (fun j hj => by cases hj; omega))
  clear hc9 hg9 G9 HQ0 HR4 HB3 HV9
  go_wp2_with fail
  go_loopw [7] (fun i9 wr => ∃ (j : Nat) (vp : Value), i9 = .int .i64 (j : Int) ∧ j ≤ np ∧ j ≤ 50 ∧ EvP W0 wr G E s (itL numL j r9).2 (i : Int) (k : Int) (sn : Int) (u : Int) (mb : Int) 0 (.slice oa J cl) vp tx vp j (itL numL j r9).1) (fun i9 _ => np - (intOf i9).toNat)
  case atStart => exact ⟨0, _, rfl, Nat.zero_le _, by omega, HP0.out⟩
  case round =>
    obtain ⟨j, vp, rfl, hj, hj50, hq⟩ := hrel
    obtain ⟨ob, cp, hvp⟩ := row_form hq.p
    subst hvp
    have HQ := hide hq
    have cb := hq.c.bad
    clear hq
    by_cases hlt : j < np
    · have j0 : (j : Int) < (np : Int) := by omega
      by_cases h50 : j < 50
      · have j5 : (j : Int) < 50 := by omega
        cases hst : (itL numL j r9).2.isNone with
        | false =>
          rw [hst] at cb
          have HQD := hide HQ.out.drew
          clear hst
          go_wp2_with fail
          clear cb
          refine wp_region_held_drew (S := fun _ => True) (by kernel_rfl) trivial (fun hHeld => ?_)
          refine wpAnyH_take (i := 0) (v := ?_) rfl (by kernel_rfl) (by kernel_rfl) (by kernel_rfl) (fun _ _ _ h => h) (Or.inl ⟨by rfl, ?_⟩) (by assumption) ?_; rotate_left
          · (intro w hSw; (try dsimp only at hSw); go_simp; first | done | with_reducible rfl)
          try simp only [Act.put, List.getElem_toArray, List.getElem_cons_zero, List.getElem_cons_succ, List.setIfInBounds_toArray, List.set_cons_zero, List.set_cons_succ]
          refine wpAnyH_take (i := 2) (v := ?_) rfl (by kernel_rfl) (by kernel_rfl) (by kernel_rfl) (fun _ _ _ h => h) (Or.inl ⟨by rfl, ?_⟩) (by assumption) ?_; rotate_left
          · (intro w hSw; (try dsimp only at hSw); go_simp; first | done | with_reducible rfl)
          try simp only [Act.put, List.getElem_toArray, List.getElem_cons_zero, List.getElem_cons_succ, List.setIfInBounds_toArray, List.set_cons_zero, List.set_cons_succ]
          refine wpAnyH_ready (rs := [1, 3]) (by kernel_rfl) (by simp) ?_
          refine AllReadyH.cons rfl (fun K hK => ?_) ?_
          · have hcd := HQ.out.e.ev.c7
            rw [if_pos (by rfl)]
            go_simp
            refine hK.out _ _ ?_ (fun hHeld => ?_)
            · trivial
            clear hK K
            try simp only [Act.put, List.getElem_toArray, List.getElem_cons_zero, List.getElem_cons_succ, List.setIfInBounds_toArray, List.set_cons_zero, List.set_cons_succ]
            clear hcd
            refine wpAnyH_ready (rs := [3]) (by kernel_rfl) (by simp) ?_
            refine AllReadyH.cons rfl (fun K hK => ?_) ?_
            · rw [if_pos (by rfl)]
              go_simp
              go_at_call 34
              refine (l05Var_L G s hs _ _ HQD.out.c).mono ?_
              rintro r w96 ⟨rfl, hc6, hg6⟩
              have HQ6 := hide (HQD.out.step hc6 hg6)
              clear hc6 hg6
              try go_simp
              refine hK.out _ _ ?_ (fun hHeld => ?_)
              · trivial
              clear hK K
              try simp only [Act.put, List.getElem_toArray, List.getElem_cons_zero, List.getElem_cons_succ, List.setIfInBounds_toArray, List.set_cons_zero, List.set_cons_succ]
              refine wpAnyH_ready (rs := [4]) (by kernel_rfl) (by simp) ?_
              refine AllReadyH.cons rfl (fun K hK => ?_) ?_
              · have HQ7 := hide (HQ6.out.grow (.cells #[.int .i64 (((numL (itL numL j r9).2).1 : Nat) : Int)] 3))
                rw [if_pos (by rfl)]
                go_simp
                refine hK.out _ _ ?_ (fun hHeld => ?_)
                · trivial
                clear hK K
                try simp only [Act.put, List.getElem_toArray, List.getElem_cons_zero, List.getElem_cons_succ, List.setIfInBounds_toArray, List.set_cons_zero, List.set_cons_succ]
                refine wpAnyH_ready (rs := [5]) (by kernel_rfl) (by simp) ?_
                refine AllReadyH.cons rfl (fun K hK => ?_) ?_
                · refine step_push (by rfl) _ _ 22 (by rfl) Tryz.underlying22 infoIz (by rfl) (by rfl) HQ7.out.p (by rfl) (by rfl) (heap_alloc_new _ _) (by simp [Value.oneCell']) (Below.refl W0.heap.size _) HQ7.out.gr.size (by unfold maxLen; omega) (by omega) ?_
                  intro v8 w98 ho8 hb8 hz8
                  obtain ⟨ov8, cv8, hv8⟩ := row_form ho8
                  subst hv8
                  have HQ8 := hide (HQ7.out.low hb8 (row_next ho8))
                  clear ho8 hb8 hz8
                  refine hK.out _ _ ?_ (fun hHeld => ?_)
                  · trivial
                  clear hK K
                  try simp only [Act.put, List.getElem_toArray, List.getElem_cons_zero, List.getElem_cons_succ, List.setIfInBounds_toArray, List.set_cons_zero, List.set_cons_succ]
                  refine wpAnyH_take (i := 6) (v := ?_) rfl (by kernel_rfl) (by kernel_rfl) (by kernel_rfl) (fun _ _ _ h => h) (Or.inl ⟨by rfl, ?_⟩) (by assumption) ?_; rotate_left
                  · (intro w hSw; (try dsimp only at hSw); go_simp; first | done | with_reducible rfl)
                  try simp only [Act.put, List.getElem_toArray, List.getElem_cons_zero, List.getElem_cons_succ, List.setIfInBounds_toArray, List.set_cons_zero, List.set_cons_succ]
                  refine wpAnyH_ready (rs := [7]) (by kernel_rfl) (by simp) ?_
                  refine AllReadyH.cons rfl (fun K hK => ?_) ?_
                  · have hcd := HQ8.out.e.ev.c7
                    have hfz := HQ8.out.e.free 7
                    rw [if_pos (by rfl)]
                    go_simp
                    refine hK.out _ _ ?_ (fun hHeld => ?_)
                    · trivial
                    clear hK K
                    try simp only [Act.put, List.getElem_toArray, List.getElem_cons_zero, List.getElem_cons_succ, List.setIfInBounds_toArray, List.set_cons_zero, List.set_cons_succ]
                    clear hcd hfz
                    refine wpAnyH_done (by kernel_rfl) ?_ _
                    have HQ11 := hide (HQ8.out.put (HQ8.out.e.put7 (.slice ov8 (j + 1) cv8)))
                    clear HQ8 HQ7 HQ6 HQD HQ
                    go_wp2_with fail
                    go_roundw
                    case rel => exact ⟨j + 1, _, by go_num, by omega, by omega, HQ11.out⟩
                    case measure => simp [intOf]; omega
                  exact AllReadyH.nil
                exact AllReadyH.nil
              exact AllReadyH.nil
            exact AllReadyH.nil
          refine AllReadyH.cons rfl (fun K hK => ?_) ?_
          · rw [if_pos (by rfl)]
            go_simp
            go_at_call 34
            refine (l05Var_L G s hs _ _ HQD.out.c).mono ?_
            rintro r w96 ⟨rfl, hc6, hg6⟩
            have HQ6 := hide (HQD.out.step hc6 hg6)
            clear hc6 hg6
            try go_simp
            refine hK.out _ _ ?_ (fun hHeld => ?_)
            · trivial
            clear hK K
            try simp only [Act.put, List.getElem_toArray, List.getElem_cons_zero, List.getElem_cons_succ, List.setIfInBounds_toArray, List.set_cons_zero, List.set_cons_succ]
            refine wpAnyH_ready (rs := [1, 4]) (by kernel_rfl) (by simp) ?_
            refine AllReadyH.cons rfl (fun K hK => ?_) ?_
            · have hcd := HQ6.out.e.ev.c7
              rw [if_pos (by rfl)]
              go_simp
              refine hK.out _ _ ?_ (fun hHeld => ?_)
              · trivial
              clear hK K
              try simp only [Act.put, List.getElem_toArray, List.getElem_cons_zero, List.getElem_cons_succ, List.setIfInBounds_toArray, List.set_cons_zero, List.set_cons_succ]
              clear hcd
              refine wpAnyH_ready (rs := [4]) (by kernel_rfl) (by simp) ?_
              refine AllReadyH.cons rfl (fun K hK => ?_) ?_
              · have HQ7 := hide (HQ6.out.grow (.cells #[.int .i64 (((numL (itL numL j r9).2).1 : Nat) : Int)] 3))
                rw [if_pos (by rfl)]
                go_simp
                refine hK.out _ _ ?_ (fun hHeld => ?_)
                · trivial
                clear hK K
                try simp only [Act.put, List.getElem_toArray, List.getElem_cons_zero, List.getElem_cons_succ, List.setIfInBounds_toArray, List.set_cons_zero, List.set_cons_succ]
                refine wpAnyH_ready (rs := [5]) (by kernel_rfl) (by simp) ?_
                refine AllReadyH.cons rfl (fun K hK => ?_) ?_
                · refine step_push (by rfl) _ _ 22 (by rfl) Tryz.underlying22 infoIz (by rfl) (by rfl) HQ7.out.p (by rfl) (by rfl) (heap_alloc_new _ _) (by simp [Value.oneCell']) (Below.refl W0.heap.size _) HQ7.out.gr.size (by unfold maxLen; omega) (by omega) ?_
                  intro v8 w98 ho8 hb8 hz8
                  obtain ⟨ov8, cv8, hv8⟩ := row_form ho8
                  subst hv8
                  have HQ8 := hide (HQ7.out.low hb8 (row_next ho8))
                  clear ho8 hb8 hz8
                  refine hK.out _ _ ?_ (fun hHeld => ?_)
                  · trivial
                  clear hK K
                  try simp only [Act.put, List.getElem_toArray, List.getElem_cons_zero, List.getElem_cons_succ, List.setIfInBounds_toArray, List.set_cons_zero, List.set_cons_succ]
                  refine wpAnyH_take (i := 6) (v := ?_) rfl (by kernel_rfl) (by kernel_rfl) (by kernel_rfl) (fun _ _ _ h => h) (Or.inl ⟨by rfl, ?_⟩) (by assumption) ?_; rotate_left
                  · (intro w hSw; (try dsimp only at hSw); go_simp; first | done | with_reducible rfl)
                  try simp only [Act.put, List.getElem_toArray, List.getElem_cons_zero, List.getElem_cons_succ, List.setIfInBounds_toArray, List.set_cons_zero, List.set_cons_succ]
                  refine wpAnyH_ready (rs := [7]) (by kernel_rfl) (by simp) ?_
                  refine AllReadyH.cons rfl (fun K hK => ?_) ?_
                  · have hcd := HQ8.out.e.ev.c7
                    have hfz := HQ8.out.e.free 7
                    rw [if_pos (by rfl)]
                    go_simp
                    refine hK.out _ _ ?_ (fun hHeld => ?_)
                    · trivial
                    clear hK K
                    try simp only [Act.put, List.getElem_toArray, List.getElem_cons_zero, List.getElem_cons_succ, List.setIfInBounds_toArray, List.set_cons_zero, List.set_cons_succ]
                    clear hcd hfz
                    refine wpAnyH_done (by kernel_rfl) ?_ _
                    have HQ11 := hide (HQ8.out.put (HQ8.out.e.put7 (.slice ov8 (j + 1) cv8)))
                    clear HQ8 HQ7 HQ6 HQD HQ
                    go_wp2_with fail
                    go_roundw
                    case rel => exact ⟨j + 1, _, by go_num, by omega, by omega, HQ11.out⟩
                    case measure => simp [intOf]; omega
                  exact AllReadyH.nil
                exact AllReadyH.nil
              exact AllReadyH.nil
            refine AllReadyH.cons rfl (fun K hK => ?_) ?_
            · have HQ7 := hide (HQ6.out.grow (.cells #[.int .i64 (((numL (itL numL j r9).2).1 : Nat) : Int)] 3))
              rw [if_pos (by rfl)]
              go_simp
              refine hK.out _ _ ?_ (fun hHeld => ?_)
              · trivial
              clear hK K
              try simp only [Act.put, List.getElem_toArray, List.getElem_cons_zero, List.getElem_cons_succ, List.setIfInBounds_toArray, List.set_cons_zero, List.set_cons_succ]
              refine wpAnyH_ready (rs := [1]) (by kernel_rfl) (by simp) ?_
              refine AllReadyH.cons rfl (fun K hK => ?_) ?_
              · have hcd := HQ7.out.e.ev.c7
                rw [if_pos (by rfl)]
                go_simp
                refine hK.out _ _ ?_ (fun hHeld => ?_)
                · trivial
                clear hK K
                try simp only [Act.put, List.getElem_toArray, List.getElem_cons_zero, List.getElem_cons_succ, List.setIfInBounds_toArray, List.set_cons_zero, List.set_cons_succ]
                clear hcd
                refine wpAnyH_ready (rs := [5]) (by kernel_rfl) (by simp) ?_
                refine AllReadyH.cons rfl (fun K hK => ?_) ?_
                · refine step_push (by rfl) _ _ 22 (by rfl) Tryz.underlying22 infoIz (by rfl) (by rfl) HQ7.out.p (by rfl) (by rfl) (heap_alloc_new _ _) (by simp [Value.oneCell']) (Below.refl W0.heap.size _) HQ7.out.gr.size (by unfold maxLen; omega) (by omega) ?_
                  intro v8 w98 ho8 hb8 hz8
                  obtain ⟨ov8, cv8, hv8⟩ := row_form ho8
                  subst hv8
                  have HQ8 := hide (HQ7.out.low hb8 (row_next ho8))
                  clear ho8 hb8 hz8
                  refine hK.out _ _ ?_ (fun hHeld => ?_)
                  · trivial
                  clear hK K
                  try simp only [Act.put, List.getElem_toArray, List.getElem_cons_zero, List.getElem_cons_succ, List.setIfInBounds_toArray, List.set_cons_zero, List.set_cons_succ]
                  refine wpAnyH_take (i := 6) (v := ?_) rfl (by kernel_rfl) (by kernel_rfl) (by kernel_rfl) (fun _ _ _ h => h) (Or.inl ⟨by rfl, ?_⟩) (by assumption) ?_; rotate_left
                  · (intro w hSw; (try dsimp only at hSw); go_simp; first | done | with_reducible rfl)
                  try simp only [Act.put, List.getElem_toArray, List.getElem_cons_zero, List.getElem_cons_succ, List.setIfInBounds_toArray, List.set_cons_zero, List.set_cons_succ]
                  refine wpAnyH_ready (rs := [7]) (by kernel_rfl) (by simp) ?_
                  refine AllReadyH.cons rfl (fun K hK => ?_) ?_
                  · have hcd := HQ8.out.e.ev.c7
                    have hfz := HQ8.out.e.free 7
                    rw [if_pos (by rfl)]
                    go_simp
                    refine hK.out _ _ ?_ (fun hHeld => ?_)
                    · trivial
                    clear hK K
                    try simp only [Act.put, List.getElem_toArray, List.getElem_cons_zero, List.getElem_cons_succ, List.setIfInBounds_toArray, List.set_cons_zero, List.set_cons_succ]
                    clear hcd hfz
                    refine wpAnyH_done (by kernel_rfl) ?_ _
                    have HQ11 := hide (HQ8.out.put (HQ8.out.e.put7 (.slice ov8 (j + 1) cv8)))
                    clear HQ8 HQ7 HQ6 HQD HQ
                    go_wp2_with fail
                    go_roundw
                    case rel => exact ⟨j + 1, _, by go_num, by omega, by omega, HQ11.out⟩
                    case measure => simp [intOf]; omega
                  exact AllReadyH.nil
                exact AllReadyH.nil
              exact AllReadyH.nil
            exact AllReadyH.nil
          exact AllReadyH.nil
        | true =>
          rw [hst] at cb
          have hnone : (itL numL j r9).2 = none := by
            cases hq : (itL numL j r9).2 with
            | none => rfl
            | some x => rw [hq] at hst; cases hst
          have HSP := hide (show Stops numL np r9 j from ⟨hj, hj50, Or.inr (Or.inr hnone)⟩)
          clear hst hnone
          go_wp2_with fail
          clear cb
          obtain ⟨zp, r10, h10⟩ : ∃ a b, itL numL j r9 = (a, b) := ⟨_, _, rfl⟩
          obtain ⟨d, r11, h11⟩ : ∃ a b, numL r10 = (a, b) := ⟨_, _, rfl⟩
          have hzp := itL_len numL j r9
          have hwp := itL_wf numL numL_le j r9
          rw [h10] at HQ hzp hwp
          simp only at HQ hzp hwp
          have HWP := hide hwp
          have HZP := hide hzp
          have HSR := hide (spec_read HH1.out HH2.out HH3.out HH4.out HH5.out HH6.out HJ.out H7.out H8.out H9.out HSP.out h10 h11)
          have HV11 := hide (l05Var_L G s hs r10 _ HQ.out.c)
          rw [h11] at HV11
          simp only at HV11
          clear hwp hzp h10 h11
          refine HV11.out.mono ?_
          rintro e y1 ⟨rfl, hc11, hg11⟩
          have H11 := hide (HQ.out.step hc11 hg11)
          have H12 := hide (H11.out.put (H11.out.e.put8 (d : Int)))
          have H12E := hide (H11.out.e.put8 (d : Int))
          clear hc11 hg11 HQ HV11
          obtain ⟨e0, e1, e2, e3, e4, e5, e6, e7, e8⟩ := H11.out.e.ev
          have f8 := H11.out.e.free 8
          obtain ⟨t0, t1, t2, t3, t4, t5, t6, t7, t8⟩ := H12E.out.ev
          go_wp2_with fail
          clear e0 e1 e2 e3 e4 e5 e6 e7 e8 f8 t0 t1 t2 t3 t4 t5 t6 t7 t8 H12E H11
          generalize y1.setCell ⟨E, 8, none⟩ (.int .i64 (d : Int)) = y2 at H12 ⊢
          have HL2 := hide (own_grown2 HL0.out H12.out.gr (by omega) (by omega))
          have HR6 := hide (show EB y2 w.heap.size 0 0 0 0 0 0 (.slice none 0 0) (.slice none 0 0) [] from (H12.out.gr.block _ (by omega) (by omega) (by omega)).trans HR5.out)
          have HB5 := hide (show Below w.heap.size w y2 from ⟨H12.out.gr.os.trans HB4.out.os, H12.out.gr.tape.trans HB4.out.tape, H12.out.gr.output.trans HB4.out.output, Nat.le_trans HB4.out.size H12.out.gr.size, fun j hj => (H12.out.gr.block j (by have := HB4.out.size; omega) (by omega) (by omega)).trans (HB4.out.block j hj)⟩)
          obtain ⟨_, _, he, hat⟩ := intsAt_of_own HL2.out HWL.out
          cases he
          obtain ⟨_, _, he, hbt⟩ := intsAt_of_own H12.out.p HWP.out
          cases he
          refine (specEventText_any (i : Int) (k : Int) (sn : Int) (u : Int) (mb : Int) (d : Int) oa J cl tx ob j cp zl zp htl y2 hat hbt).mono ?_
          clear hat hbt
          obtain ⟨st, hst⟩ : ∃ st, evText (⟨i, k, sn, u, mb, zl, tx, zp, d⟩ : EvV) = st := ⟨_, rfl⟩
          rw [hst] at HSR ⊢
          have HST := hide hst
          clear hst
          cases st with
          | none =>
            have HNO := hide (HSR.out (fun q => by cases q.2))
            rw [show etV none = .tuple #[.string ⟨#[]⟩, .bool false] from rfl]
            rintro e y4 ⟨rfl, hb4⟩
            have H13 := hide (H12.out.on hb4)
            have HR7 := hide (HR6.out.on hb4 HR6.out.lt)
            have HB6 := hide (HB5.out.trans (hb4.mono HB5.out.size))
            have cb := H13.out.c.bad
            clear hb4 H12 HR6 HB5
            cases hb11 : r11.isNone with
            | true =>
              rw [hb11] at cb
              have y0 := HR7.out.free 0
              have y1 := HR7.out.free 1
              have y2 := HR7.out.free 2
              have y3 := HR7.out.free 3
              have y4 := HR7.out.free 4
              have y5 := HR7.out.free 5
              have y6 := HR7.out.free 6
              have y7 := HR7.out.free 7
              have y8 := HR7.out.free 8
              obtain ⟨s0, s1, s2, s3, s4, s5, s6, s7, s8⟩ := HR7.out.ev
              go_wp2_with fail
              clear y0 y1 y2 y3 y4 y5 y6 y7 y8 s0 s1 s2 s3 s4 s5 s6 s7 s8
              obtain ⟨w6, hw6, hE6, hg6⟩ := HR7.out.all 0 0 0 0 0 0 (.slice none 0 0) (.slice none 0 0) []
              rw [show ((#[] : Array UInt8)) = ([] : List UInt8).toArray from rfl, hw6]
              obtain ⟨c0, c1, c2, c3, c4, c5, c6, c7, c8⟩ := hE6.ev
              refine bodyPost_ret (v := .tuple #[evval 0 0 0 0 0 0 (.slice none 0 0) (.slice none 0 0) [], .bool false]) (by simp [results, Tryz.results36, go_sem, c0, c1, c2, c3, c4, c5, c6, c7, c8]) rfl ?_
              exact RePost.zero HNO.out (HB6.out.grown hg6 HB6.out.size (fun j hj => by cases hj; exact Nat.le_refl _))
            | false =>
              rw [hb11] at cb
              have y0 := HR7.out.free 0
              have y1 := HR7.out.free 1
              have y2 := HR7.out.free 2
              have y3 := HR7.out.free 3
              have y4 := HR7.out.free 4
              have y5 := HR7.out.free 5
              have y6 := HR7.out.free 6
              have y7 := HR7.out.free 7
              have y8 := HR7.out.free 8
              obtain ⟨s0, s1, s2, s3, s4, s5, s6, s7, s8⟩ := HR7.out.ev
              go_wp2_with fail
              clear y0 y1 y2 y3 y4 y5 y6 y7 y8 s0 s1 s2 s3 s4 s5 s6 s7 s8
              obtain ⟨w6, hw6, hE6, hg6⟩ := HR7.out.all 0 0 0 0 0 0 (.slice none 0 0) (.slice none 0 0) []
              rw [show ((#[] : Array UInt8)) = ([] : List UInt8).toArray from rfl, hw6]
              obtain ⟨c0, c1, c2, c3, c4, c5, c6, c7, c8⟩ := hE6.ev
              refine bodyPost_ret (v := .tuple #[evval 0 0 0 0 0 0 (.slice none 0 0) (.slice none 0 0) [], .bool false]) (by simp [results, Tryz.results36, go_sem, c0, c1, c2, c3, c4, c5, c6, c7, c8]) rfl ?_
              exact RePost.zero HNO.out (HB6.out.grown hg6 HB6.out.size (fun j hj => by cases hj; exact Nat.le_refl _))
          | some T2 =>
            rw [show etV (some T2) = .tuple #[.string ⟨T2.toArray⟩, .bool true] from rfl]
            obtain ⟨Z, hZ⟩ : ∃ Z, (⟨T2.toArray⟩ : ByteArray) = Z := ⟨_, rfl⟩
            rw [hZ]
            have hTZ : (T2 = bl s) ↔ Z = s := by
              rw [← hZ]
              constructor
              · intro h; rw [h]
              · intro h; rw [← h]
            have hZs : (Z.toList == s.toList) = decide (T2 = bl s) := by
              rw [Lib.toList_data, Lib.toList_data]
              by_cases h : T2 = bl s
              · rw [decide_eq_true h, hTZ.1 h]; simp
              · rw [decide_eq_false h, beq_eq_false_iff_ne]
                intro q
                apply h
                rw [← hZ] at q
                exact q
            clear hZ
            rintro e y4 ⟨rfl, hb4⟩
            have H13 := hide (H12.out.on hb4)
            have HR7 := hide (HR6.out.on hb4 HR6.out.lt)
            have HB6 := hide (HB5.out.trans (hb4.mono HB5.out.size))
            have cb := H13.out.c.bad
            clear hb4 HR6 HB5
            cases hb11 : r11.isNone with
            | true =>
              have HNO := hide (HSR.out (fun q => by
                cases hr : r11 with
                | none => exact q.1 hr
                | some x => rw [hr] at hb11; cases hb11))
              rw [hb11] at cb
              clear hTZ hZs H12
              have y0 := HR7.out.free 0
              have y1 := HR7.out.free 1
              have y2 := HR7.out.free 2
              have y3 := HR7.out.free 3
              have y4 := HR7.out.free 4
              have y5 := HR7.out.free 5
              have y6 := HR7.out.free 6
              have y7 := HR7.out.free 7
              have y8 := HR7.out.free 8
              obtain ⟨s0, s1, s2, s3, s4, s5, s6, s7, s8⟩ := HR7.out.ev
              go_wp2_with fail
              clear y0 y1 y2 y3 y4 y5 y6 y7 y8 s0 s1 s2 s3 s4 s5 s6 s7 s8
              obtain ⟨w6, hw6, hE6, hg6⟩ := HR7.out.all 0 0 0 0 0 0 (.slice none 0 0) (.slice none 0 0) []
              rw [show ((#[] : Array UInt8)) = ([] : List UInt8).toArray from rfl, hw6]
              obtain ⟨c0, c1, c2, c3, c4, c5, c6, c7, c8⟩ := hE6.ev
              refine bodyPost_ret (v := .tuple #[evval 0 0 0 0 0 0 (.slice none 0 0) (.slice none 0 0) [], .bool false]) (by simp [results, Tryz.results36, go_sem, c0, c1, c2, c3, c4, c5, c6, c7, c8]) rfl ?_
              exact RePost.zero HNO.out (HB6.out.grown hg6 HB6.out.size (fun j hj => by cases hj; exact Nat.le_refl _))
            | false =>
              rw [hb11] at cb
              by_cases hT2 : T2 = bl s
              · obtain rfl := hTZ.1 hT2
                have HYES := hide (show rdEvent (bl Z) = some ⟨i, k, sn, u, mb, zl, tx, zp, d⟩ from rdEvent_iff.2 (by rw [HST.out, hT2]))
                rw [decide_eq_true hT2] at hZs
                have HL3 := hide (own_grown2 HL0.out H13.out.gr (by omega) (by omega))
                clear hTZ hT2 H12
                obtain ⟨e0, e1, e2, e3, e4, e5, e6, e7, e8⟩ := H13.out.e.ev
                have y0 := HR7.out.free 0
                have y1 := HR7.out.free 1
                have y2 := HR7.out.free 2
                have y3 := HR7.out.free 3
                have y4 := HR7.out.free 4
                have y5 := HR7.out.free 5
                have y6 := HR7.out.free 6
                have y7 := HR7.out.free 7
                have y8 := HR7.out.free 8
                obtain ⟨s0, s1, s2, s3, s4, s5, s6, s7, s8⟩ := HR7.out.ev
                go_wp2_with fail
                clear e0 e1 e2 e3 e4 e5 e6 e7 e8 y0 y1 y2 y3 y4 y5 y6 y7 y8 s0 s1 s2 s3 s4 s5 s6 s7 s8
                obtain ⟨w6, hw6, hE6, hg6⟩ := HR7.out.all (i : Int) (k : Int) (sn : Int) (u : Int) (mb : Int) (d : Int) (.slice oa J cl) (.slice ob j cp) tx
                rw [hw6]
                obtain ⟨c0, c1, c2, c3, c4, c5, c6, c7, c8⟩ := hE6.ev
                refine bodyPost_ret (v := .tuple #[evval (i : Int) (k : Int) (sn : Int) (u : Int) (mb : Int) (d : Int) (.slice oa J cl) (.slice ob j cp) tx, .bool true]) (by simp [results, Tryz.results36, go_sem, c0, c1, c2, c3, c4, c5, c6, c7, c8]) rfl ?_
                refine RePost.found HYES.out ?_ (HB6.out.grown hg6 HB6.out.size (fun j hj => by cases hj; exact Nat.le_refl _))
                have kL := HL3.out.kept hg6 (Or.inr (fun q => by have := HL3.out.lt w.heap.size q; omega))
                have kP := H13.out.p.kept hg6 (Or.inr (fun q => by have := H13.out.p.lt w.heap.size q; omega))
                have kl0 := HL0.out
                simp only
                rw [HZL.out, HZP.out]
                exact ⟨own_base kL (by omega), own_base kP (by omega), fun a ha q => by have := (kl0.lt a ha).2; have := (H13.out.p.lt a q).1; omega⟩
              · have HNO := hide (HSR.out (fun q => hT2 (Option.some.inj q.2)))
                rw [decide_eq_false hT2] at hZs
                clear hTZ hT2 H12
                have y0 := HR7.out.free 0
                have y1 := HR7.out.free 1
                have y2 := HR7.out.free 2
                have y3 := HR7.out.free 3
                have y4 := HR7.out.free 4
                have y5 := HR7.out.free 5
                have y6 := HR7.out.free 6
                have y7 := HR7.out.free 7
                have y8 := HR7.out.free 8
                obtain ⟨s0, s1, s2, s3, s4, s5, s6, s7, s8⟩ := HR7.out.ev
                go_wp2_with fail
                clear y0 y1 y2 y3 y4 y5 y6 y7 y8 s0 s1 s2 s3 s4 s5 s6 s7 s8
                obtain ⟨w6, hw6, hE6, hg6⟩ := HR7.out.all 0 0 0 0 0 0 (.slice none 0 0) (.slice none 0 0) []
                rw [show ((#[] : Array UInt8)) = ([] : List UInt8).toArray from rfl, hw6]
                obtain ⟨c0, c1, c2, c3, c4, c5, c6, c7, c8⟩ := hE6.ev
                refine bodyPost_ret (v := .tuple #[evval 0 0 0 0 0 0 (.slice none 0 0) (.slice none 0 0) [], .bool false]) (by simp [results, Tryz.results36, go_sem, c0, c1, c2, c3, c4, c5, c6, c7, c8]) rfl ?_
                exact RePost.zero HNO.out (HB6.out.grown hg6 HB6.out.size (fun j hj => by cases hj; exact Nat.le_refl _))
      · have j5 : ¬ (j : Int) < 50 := by omega
        have HSP := hide (show Stops numL np r9 j from ⟨hj, hj50, Or.inr (Or.inl (by omega))⟩)
        go_wp2_with fail
        clear cb
        obtain ⟨zp, r10, h10⟩ : ∃ a b, itL numL j r9 = (a, b) := ⟨_, _, rfl⟩
        obtain ⟨d, r11, h11⟩ : ∃ a b, numL r10 = (a, b) := ⟨_, _, rfl⟩
        have hzp := itL_len numL j r9
        have hwp := itL_wf numL numL_le j r9
        rw [h10] at HQ hzp hwp
        simp only at HQ hzp hwp
        have HWP := hide hwp
        have HZP := hide hzp
        have HSR := hide (spec_read HH1.out HH2.out HH3.out HH4.out HH5.out HH6.out HJ.out H7.out H8.out H9.out HSP.out h10 h11)
        have HV11 := hide (l05Var_L G s hs r10 _ HQ.out.c)
        rw [h11] at HV11
        simp only at HV11
        clear hwp hzp h10 h11
        refine HV11.out.mono ?_
        rintro e y1 ⟨rfl, hc11, hg11⟩
        have H11 := hide (HQ.out.step hc11 hg11)
        have H12 := hide (H11.out.put (H11.out.e.put8 (d : Int)))
        have H12E := hide (H11.out.e.put8 (d : Int))
        clear hc11 hg11 HQ HV11
        obtain ⟨e0, e1, e2, e3, e4, e5, e6, e7, e8⟩ := H11.out.e.ev
        have f8 := H11.out.e.free 8
        obtain ⟨t0, t1, t2, t3, t4, t5, t6, t7, t8⟩ := H12E.out.ev
        go_wp2_with fail
        clear e0 e1 e2 e3 e4 e5 e6 e7 e8 f8 t0 t1 t2 t3 t4 t5 t6 t7 t8 H12E H11
        generalize y1.setCell ⟨E, 8, none⟩ (.int .i64 (d : Int)) = y2 at H12 ⊢
        have HL2 := hide (own_grown2 HL0.out H12.out.gr (by omega) (by omega))
        have HR6 := hide (show EB y2 w.heap.size 0 0 0 0 0 0 (.slice none 0 0) (.slice none 0 0) [] from (H12.out.gr.block _ (by omega) (by omega) (by omega)).trans HR5.out)
        have HB5 := hide (show Below w.heap.size w y2 from ⟨H12.out.gr.os.trans HB4.out.os, H12.out.gr.tape.trans HB4.out.tape, H12.out.gr.output.trans HB4.out.output, Nat.le_trans HB4.out.size H12.out.gr.size, fun j hj => (H12.out.gr.block j (by have := HB4.out.size; omega) (by omega) (by omega)).trans (HB4.out.block j hj)⟩)
        obtain ⟨_, _, he, hat⟩ := intsAt_of_own HL2.out HWL.out
        cases he
        obtain ⟨_, _, he, hbt⟩ := intsAt_of_own H12.out.p HWP.out
        cases he
        refine (specEventText_any (i : Int) (k : Int) (sn : Int) (u : Int) (mb : Int) (d : Int) oa J cl tx ob j cp zl zp htl y2 hat hbt).mono ?_
        clear hat hbt
        obtain ⟨st, hst⟩ : ∃ st, evText (⟨i, k, sn, u, mb, zl, tx, zp, d⟩ : EvV) = st := ⟨_, rfl⟩
        rw [hst] at HSR ⊢
        have HST := hide hst
        clear hst
        cases st with
        | none =>
          have HNO := hide (HSR.out (fun q => by cases q.2))
          rw [show etV none = .tuple #[.string ⟨#[]⟩, .bool false] from rfl]
          rintro e y4 ⟨rfl, hb4⟩
          have H13 := hide (H12.out.on hb4)
          have HR7 := hide (HR6.out.on hb4 HR6.out.lt)
          have HB6 := hide (HB5.out.trans (hb4.mono HB5.out.size))
          have cb := H13.out.c.bad
          clear hb4 H12 HR6 HB5
          cases hb11 : r11.isNone with
          | true =>
            rw [hb11] at cb
            have y0 := HR7.out.free 0
            have y1 := HR7.out.free 1
            have y2 := HR7.out.free 2
            have y3 := HR7.out.free 3
            have y4 := HR7.out.free 4
            have y5 := HR7.out.free 5
            have y6 := HR7.out.free 6
            have y7 := HR7.out.free 7
            have y8 := HR7.out.free 8
            obtain ⟨s0, s1, s2, s3, s4, s5, s6, s7, s8⟩ := HR7.out.ev
            go_wp2_with fail
            clear y0 y1 y2 y3 y4 y5 y6 y7 y8 s0 s1 s2 s3 s4 s5 s6 s7 s8
            obtain ⟨w6, hw6, hE6, hg6⟩ := HR7.out.all 0 0 0 0 0 0 (.slice none 0 0) (.slice none 0 0) []
            rw [show ((#[] : Array UInt8)) = ([] : List UInt8).toArray from rfl, hw6]
            obtain ⟨c0, c1, c2, c3, c4, c5, c6, c7, c8⟩ := hE6.ev
            refine bodyPost_ret (v := .tuple #[evval 0 0 0 0 0 0 (.slice none 0 0) (.slice none 0 0) [], .bool false]) (by simp [results, Tryz.results36, go_sem, c0, c1, c2, c3, c4, c5, c6, c7, c8]) rfl ?_
            exact RePost.zero HNO.out (HB6.out.grown hg6 HB6.out.size (fun j hj => by cases hj; exact Nat.le_refl _))
          | false =>
            rw [hb11] at cb
            have y0 := HR7.out.free 0
            have y1 := HR7.out.free 1
            have y2 := HR7.out.free 2
            have y3 := HR7.out.free 3
            have y4 := HR7.out.free 4
            have y5 := HR7.out.free 5
            have y6 := HR7.out.free 6
            have y7 := HR7.out.free 7
            have y8 := HR7.out.free 8
            obtain ⟨s0, s1, s2, s3, s4, s5, s6, s7, s8⟩ := HR7.out.ev
            go_wp2_with fail
            clear y0 y1 y2 y3 y4 y5 y6 y7 y8 s0 s1 s2 s3 s4 s5 s6 s7 s8
            obtain ⟨w6, hw6, hE6, hg6⟩ := HR7.out.all 0 0 0 0 0 0 (.slice none 0 0) (.slice none 0 0) []
            rw [show ((#[] : Array UInt8)) = ([] : List UInt8).toArray from rfl, hw6]
            obtain ⟨c0, c1, c2, c3, c4, c5, c6, c7, c8⟩ := hE6.ev
            refine bodyPost_ret (v := .tuple #[evval 0 0 0 0 0 0 (.slice none 0 0) (.slice none 0 0) [], .bool false]) (by simp [results, Tryz.results36, go_sem, c0, c1, c2, c3, c4, c5, c6, c7, c8]) rfl ?_
            exact RePost.zero HNO.out (HB6.out.grown hg6 HB6.out.size (fun j hj => by cases hj; exact Nat.le_refl _))
        | some T2 =>
          rw [show etV (some T2) = .tuple #[.string ⟨T2.toArray⟩, .bool true] from rfl]
          obtain ⟨Z, hZ⟩ : ∃ Z, (⟨T2.toArray⟩ : ByteArray) = Z := ⟨_, rfl⟩
          rw [hZ]
          have hTZ : (T2 = bl s) ↔ Z = s := by
            rw [← hZ]
            constructor
            · intro h; rw [h]
            · intro h; rw [← h]
          have hZs : (Z.toList == s.toList) = decide (T2 = bl s) := by
            rw [Lib.toList_data, Lib.toList_data]
            by_cases h : T2 = bl s
            · rw [decide_eq_true h, hTZ.1 h]; simp
            · rw [decide_eq_false h, beq_eq_false_iff_ne]
              intro q
              apply h
              rw [← hZ] at q
              exact q
          clear hZ
          rintro e y4 ⟨rfl, hb4⟩
          have H13 := hide (H12.out.on hb4)
          have HR7 := hide (HR6.out.on hb4 HR6.out.lt)
          have HB6 := hide (HB5.out.trans (hb4.mono HB5.out.size))
          have cb := H13.out.c.bad
          clear hb4 HR6 HB5
          cases hb11 : r11.isNone with
          | true =>
            have HNO := hide (HSR.out (fun q => by
              cases hr : r11 with
              | none => exact q.1 hr
              | some x => rw [hr] at hb11; cases hb11))
            rw [hb11] at cb
            clear hTZ hZs H12
            have y0 := HR7.out.free 0
            have y1 := HR7.out.free 1
            have y2 := HR7.out.free 2
            have y3 := HR7.out.free 3
            have y4 := HR7.out.free 4
            have y5 := HR7.out.free 5
            have y6 := HR7.out.free 6
            have y7 := HR7.out.free 7
            have y8 := HR7.out.free 8
            obtain ⟨s0, s1, s2, s3, s4, s5, s6, s7, s8⟩ := HR7.out.ev
            go_wp2_with fail
            clear y0 y1 y2 y3 y4 y5 y6 y7 y8 s0 s1 s2 s3 s4 s5 s6 s7 s8
            obtain ⟨w6, hw6, hE6, hg6⟩ := HR7.out.all 0 0 0 0 0 0 (.slice none 0 0) (.slice none 0 0) []
            rw [show ((#[] : Array UInt8)) = ([] : List UInt8).toArray from rfl, hw6]
            obtain ⟨c0, c1, c2, c3, c4, c5, c6, c7, c8⟩ := hE6.ev
            refine bodyPost_ret (v := .tuple #[evval 0 0 0 0 0 0 (.slice none 0 0) (.slice none 0 0) [], .bool false]) (by simp [results, Tryz.results36, go_sem, c0, c1, c2, c3, c4, c5, c6, c7, c8]) rfl ?_
            exact RePost.zero HNO.out (HB6.out.grown hg6 HB6.out.size (fun j hj => by cases hj; exact Nat.le_refl _))
          | false =>
            rw [hb11] at cb
            by_cases hT2 : T2 = bl s
            · obtain rfl := hTZ.1 hT2
              have HYES := hide (show rdEvent (bl Z) = some ⟨i, k, sn, u, mb, zl, tx, zp, d⟩ from rdEvent_iff.2 (by rw [HST.out, hT2]))
              rw [decide_eq_true hT2] at hZs
              have HL3 := hide (own_grown2 HL0.out H13.out.gr (by omega) (by omega))
              clear hTZ hT2 H12
              obtain ⟨e0, e1, e2, e3, e4, e5, e6, e7, e8⟩ := H13.out.e.ev
              have y0 := HR7.out.free 0
              have y1 := HR7.out.free 1
              have y2 := HR7.out.free 2
              have y3 := HR7.out.free 3
              have y4 := HR7.out.free 4
              have y5 := HR7.out.free 5
              have y6 := HR7.out.free 6
              have y7 := HR7.out.free 7
              have y8 := HR7.out.free 8
              obtain ⟨s0, s1, s2, s3, s4, s5, s6, s7, s8⟩ := HR7.out.ev
              go_wp2_with fail
              clear e0 e1 e2 e3 e4 e5 e6 e7 e8 y0 y1 y2 y3 y4 y5 y6 y7 y8 s0 s1 s2 s3 s4 s5 s6 s7 s8
              obtain ⟨w6, hw6, hE6, hg6⟩ := HR7.out.all (i : Int) (k : Int) (sn : Int) (u : Int) (mb : Int) (d : Int) (.slice oa J cl) (.slice ob j cp) tx
              rw [hw6]
              obtain ⟨c0, c1, c2, c3, c4, c5, c6, c7, c8⟩ := hE6.ev
              refine bodyPost_ret (v := .tuple #[evval (i : Int) (k : Int) (sn : Int) (u : Int) (mb : Int) (d : Int) (.slice oa J cl) (.slice ob j cp) tx, .bool true]) (by simp [results, Tryz.results36, go_sem, c0, c1, c2, c3, c4, c5, c6, c7, c8]) rfl ?_
              refine RePost.found HYES.out ?_ (HB6.out.grown hg6 HB6.out.size (fun j hj => by cases hj; exact Nat.le_refl _))
              have kL := HL3.out.kept hg6 (Or.inr (fun q => by have := HL3.out.lt w.heap.size q; omega))
              have kP := H13.out.p.kept hg6 (Or.inr (fun q => by have := H13.out.p.lt w.heap.size q; omega))
              have kl0 := HL0.out
              simp only
              rw [HZL.out, HZP.out]
              exact ⟨own_base kL (by omega), own_base kP (by omega), fun a ha q => by have := (kl0.lt a ha).2; have := (H13.out.p.lt a q).1; omega⟩
            · have HNO := hide (HSR.out (fun q => hT2 (Option.some.inj q.2)))
              rw [decide_eq_false hT2] at hZs
              clear hTZ hT2 H12
              have y0 := HR7.out.free 0
              have y1 := HR7.out.free 1
              have y2 := HR7.out.free 2
              have y3 := HR7.out.free 3
              have y4 := HR7.out.free 4
              have y5 := HR7.out.free 5
              have y6 := HR7.out.free 6
              have y7 := HR7.out.free 7
              have y8 := HR7.out.free 8
              obtain ⟨s0, s1, s2, s3, s4, s5, s6, s7, s8⟩ := HR7.out.ev
              go_wp2_with fail
              clear y0 y1 y2 y3 y4 y5 y6 y7 y8 s0 s1 s2 s3 s4 s5 s6 s7 s8
              obtain ⟨w6, hw6, hE6, hg6⟩ := HR7.out.all 0 0 0 0 0 0 (.slice none 0 0) (.slice none 0 0) []
              rw [show ((#[] : Array UInt8)) = ([] : List UInt8).toArray from rfl, hw6]
              obtain ⟨c0, c1, c2, c3, c4, c5, c6, c7, c8⟩ := hE6.ev
              refine bodyPost_ret (v := .tuple #[evval 0 0 0 0 0 0 (.slice none 0 0) (.slice none 0 0) [], .bool false]) (by simp [results, Tryz.results36, go_sem, c0, c1, c2, c3, c4, c5, c6, c7, c8]) rfl ?_
              exact RePost.zero HNO.out (HB6.out.grown hg6 HB6.out.size (fun j hj => by cases hj; exact Nat.le_refl _))
    · have j0 : ¬ (j : Int) < (np : Int) := by omega
      have HSP := hide (show Stops numL np r9 j from ⟨hj, hj50, Or.inl (by omega)⟩)
      go_wp2_with fail
      clear cb
      obtain ⟨zp, r10, h10⟩ : ∃ a b, itL numL j r9 = (a, b) := ⟨_, _, rfl⟩
      obtain ⟨d, r11, h11⟩ : ∃ a b, numL r10 = (a, b) := ⟨_, _, rfl⟩
      have hzp := itL_len numL j r9
      have hwp := itL_wf numL numL_le j r9
      rw [h10] at HQ hzp hwp
      simp only at HQ hzp hwp
      have HWP := hide hwp
      have HZP := hide hzp
      have HSR := hide (spec_read HH1.out HH2.out HH3.out HH4.out HH5.out HH6.out HJ.out H7.out H8.out H9.out HSP.out h10 h11)
      have HV11 := hide (l05Var_L G s hs r10 _ HQ.out.c)
      rw [h11] at HV11
      simp only at HV11
      clear hwp hzp h10 h11
      refine HV11.out.mono ?_
      rintro e y1 ⟨rfl, hc11, hg11⟩
      have H11 := hide (HQ.out.step hc11 hg11)
      have H12 := hide (H11.out.put (H11.out.e.put8 (d : Int)))
      have H12E := hide (H11.out.e.put8 (d : Int))
      clear hc11 hg11 HQ HV11
      obtain ⟨e0, e1, e2, e3, e4, e5, e6, e7, e8⟩ := H11.out.e.ev
      have f8 := H11.out.e.free 8
      obtain ⟨t0, t1, t2, t3, t4, t5, t6, t7, t8⟩ := H12E.out.ev
      go_wp2_with fail
      clear e0 e1 e2 e3 e4 e5 e6 e7 e8 f8 t0 t1 t2 t3 t4 t5 t6 t7 t8 H12E H11
      generalize y1.setCell ⟨E, 8, none⟩ (.int .i64 (d : Int)) = y2 at H12 ⊢
      have HL2 := hide (own_grown2 HL0.out H12.out.gr (by omega) (by omega))
      have HR6 := hide (show EB y2 w.heap.size 0 0 0 0 0 0 (.slice none 0 0) (.slice none 0 0) [] from (H12.out.gr.block _ (by omega) (by omega) (by omega)).trans HR5.out)
      have HB5 := hide (show Below w.heap.size w y2 from ⟨H12.out.gr.os.trans HB4.out.os, H12.out.gr.tape.trans HB4.out.tape, H12.out.gr.output.trans HB4.out.output, Nat.le_trans HB4.out.size H12.out.gr.size, fun j hj => (H12.out.gr.block j (by have := HB4.out.size; omega) (by omega) (by omega)).trans (HB4.out.block j hj)⟩)
      obtain ⟨_, _, he, hat⟩ := intsAt_of_own HL2.out HWL.out
      cases he
      obtain ⟨_, _, he, hbt⟩ := intsAt_of_own H12.out.p HWP.out
      cases he
      refine (specEventText_any (i : Int) (k : Int) (sn : Int) (u : Int) (mb : Int) (d : Int) oa J cl tx ob j cp zl zp htl y2 hat hbt).mono ?_
      clear hat hbt
      obtain ⟨st, hst⟩ : ∃ st, evText (⟨i, k, sn, u, mb, zl, tx, zp, d⟩ : EvV) = st := ⟨_, rfl⟩
      rw [hst] at HSR ⊢
      have HST := hide hst
      clear hst
      cases st with
      | none =>
        have HNO := hide (HSR.out (fun q => by cases q.2))
        rw [show etV none = .tuple #[.string ⟨#[]⟩, .bool false] from rfl]
        rintro e y4 ⟨rfl, hb4⟩
        have H13 := hide (H12.out.on hb4)
        have HR7 := hide (HR6.out.on hb4 HR6.out.lt)
        have HB6 := hide (HB5.out.trans (hb4.mono HB5.out.size))
        have cb := H13.out.c.bad
        clear hb4 H12 HR6 HB5
        cases hb11 : r11.isNone with
        | true =>
          rw [hb11] at cb
          have y0 := HR7.out.free 0
          have y1 := HR7.out.free 1
          have y2 := HR7.out.free 2
          have y3 := HR7.out.free 3
          have y4 := HR7.out.free 4
          have y5 := HR7.out.free 5
          have y6 := HR7.out.free 6
          have y7 := HR7.out.free 7
          have y8 := HR7.out.free 8
          obtain ⟨s0, s1, s2, s3, s4, s5, s6, s7, s8⟩ := HR7.out.ev
          go_wp2_with fail
          clear y0 y1 y2 y3 y4 y5 y6 y7 y8 s0 s1 s2 s3 s4 s5 s6 s7 s8
          obtain ⟨w6, hw6, hE6, hg6⟩ := HR7.out.all 0 0 0 0 0 0 (.slice none 0 0) (.slice none 0 0) []
          rw [show ((#[] : Array UInt8)) = ([] : List UInt8).toArray from rfl, hw6]
          obtain ⟨c0, c1, c2, c3, c4, c5, c6, c7, c8⟩ := hE6.ev
          refine bodyPost_ret (v := .tuple #[evval 0 0 0 0 0 0 (.slice none 0 0) (.slice none 0 0) [], .bool false]) (by simp [results, Tryz.results36, go_sem, c0, c1, c2, c3, c4, c5, c6, c7, c8]) rfl ?_
          exact RePost.zero HNO.out (HB6.out.grown hg6 HB6.out.size (fun j hj => by cases hj; exact Nat.le_refl _))
        | false =>
          rw [hb11] at cb
          have y0 := HR7.out.free 0
          have y1 := HR7.out.free 1
          have y2 := HR7.out.free 2
          have y3 := HR7.out.free 3
          have y4 := HR7.out.free 4
          have y5 := HR7.out.free 5
          have y6 := HR7.out.free 6
          have y7 := HR7.out.free 7
          have y8 := HR7.out.free 8
          obtain ⟨s0, s1, s2, s3, s4, s5, s6, s7, s8⟩ := HR7.out.ev
          go_wp2_with fail
          clear y0 y1 y2 y3 y4 y5 y6 y7 y8 s0 s1 s2 s3 s4 s5 s6 s7 s8
          obtain ⟨w6, hw6, hE6, hg6⟩ := HR7.out.all 0 0 0 0 0 0 (.slice none 0 0) (.slice none 0 0) []
          rw [show ((#[] : Array UInt8)) = ([] : List UInt8).toArray from rfl, hw6]
          obtain ⟨c0, c1, c2, c3, c4, c5, c6, c7, c8⟩ := hE6.ev
          refine bodyPost_ret (v := .tuple #[evval 0 0 0 0 0 0 (.slice none 0 0) (.slice none 0 0) [], .bool false]) (by simp [results, Tryz.results36, go_sem, c0, c1, c2, c3, c4, c5, c6, c7, c8]) rfl ?_
          exact RePost.zero HNO.out (HB6.out.grown hg6 HB6.out.size (fun j hj => by cases hj; exact Nat.le_refl _))
      | some T2 =>
        rw [show etV (some T2) = .tuple #[.string ⟨T2.toArray⟩, .bool true] from rfl]
        obtain ⟨Z, hZ⟩ : ∃ Z, (⟨T2.toArray⟩ : ByteArray) = Z := ⟨_, rfl⟩
        rw [hZ]
        have hTZ : (T2 = bl s) ↔ Z = s := by
          rw [← hZ]
          constructor
          · intro h; rw [h]
          · intro h; rw [← h]
        have hZs : (Z.toList == s.toList) = decide (T2 = bl s) := by
          rw [Lib.toList_data, Lib.toList_data]
          by_cases h : T2 = bl s
          · rw [decide_eq_true h, hTZ.1 h]; simp
          · rw [decide_eq_false h, beq_eq_false_iff_ne]
            intro q
            apply h
            rw [← hZ] at q
            exact q
        clear hZ
        rintro e y4 ⟨rfl, hb4⟩
        have H13 := hide (H12.out.on hb4)
        have HR7 := hide (HR6.out.on hb4 HR6.out.lt)
        have HB6 := hide (HB5.out.trans (hb4.mono HB5.out.size))
        have cb := H13.out.c.bad
        clear hb4 HR6 HB5
        cases hb11 : r11.isNone with
        | true =>
          have HNO := hide (HSR.out (fun q => by
            cases hr : r11 with
            | none => exact q.1 hr
            | some x => rw [hr] at hb11; cases hb11))
          rw [hb11] at cb
          clear hTZ hZs H12
          have y0 := HR7.out.free 0
          have y1 := HR7.out.free 1
          have y2 := HR7.out.free 2
          have y3 := HR7.out.free 3
          have y4 := HR7.out.free 4
          have y5 := HR7.out.free 5
          have y6 := HR7.out.free 6
          have y7 := HR7.out.free 7
          have y8 := HR7.out.free 8
          obtain ⟨s0, s1, s2, s3, s4, s5, s6, s7, s8⟩ := HR7.out.ev
          go_wp2_with fail
          clear y0 y1 y2 y3 y4 y5 y6 y7 y8 s0 s1 s2 s3 s4 s5 s6 s7 s8
          obtain ⟨w6, hw6, hE6, hg6⟩ := HR7.out.all 0 0 0 0 0 0 (.slice none 0 0) (.slice none 0 0) []
          rw [show ((#[] : Array UInt8)) = ([] : List UInt8).toArray from rfl, hw6]
          obtain ⟨c0, c1, c2, c3, c4, c5, c6, c7, c8⟩ := hE6.ev
          refine bodyPost_ret (v := .tuple #[evval 0 0 0 0 0 0 (.slice none 0 0) (.slice none 0 0) [], .bool false]) (by simp [results, Tryz.results36, go_sem, c0, c1, c2, c3, c4, c5, c6, c7, c8]) rfl ?_
          exact RePost.zero HNO.out (HB6.out.grown hg6 HB6.out.size (fun j hj => by cases hj; exact Nat.le_refl _))
        | false =>
          rw [hb11] at cb
          by_cases hT2 : T2 = bl s
          · obtain rfl := hTZ.1 hT2
            have HYES := hide (show rdEvent (bl Z) = some ⟨i, k, sn, u, mb, zl, tx, zp, d⟩ from rdEvent_iff.2 (by rw [HST.out, hT2]))
            rw [decide_eq_true hT2] at hZs
            have HL3 := hide (own_grown2 HL0.out H13.out.gr (by omega) (by omega))
            clear hTZ hT2 H12
            obtain ⟨e0, e1, e2, e3, e4, e5, e6, e7, e8⟩ := H13.out.e.ev
            have y0 := HR7.out.free 0
            have y1 := HR7.out.free 1
            have y2 := HR7.out.free 2
            have y3 := HR7.out.free 3
            have y4 := HR7.out.free 4
            have y5 := HR7.out.free 5
            have y6 := HR7.out.free 6
            have y7 := HR7.out.free 7
            have y8 := HR7.out.free 8
            obtain ⟨s0, s1, s2, s3, s4, s5, s6, s7, s8⟩ := HR7.out.ev
            go_wp2_with fail
            clear e0 e1 e2 e3 e4 e5 e6 e7 e8 y0 y1 y2 y3 y4 y5 y6 y7 y8 s0 s1 s2 s3 s4 s5 s6 s7 s8
            obtain ⟨w6, hw6, hE6, hg6⟩ := HR7.out.all (i : Int) (k : Int) (sn : Int) (u : Int) (mb : Int) (d : Int) (.slice oa J cl) (.slice ob j cp) tx
            rw [hw6]
            obtain ⟨c0, c1, c2, c3, c4, c5, c6, c7, c8⟩ := hE6.ev
            refine bodyPost_ret (v := .tuple #[evval (i : Int) (k : Int) (sn : Int) (u : Int) (mb : Int) (d : Int) (.slice oa J cl) (.slice ob j cp) tx, .bool true]) (by simp [results, Tryz.results36, go_sem, c0, c1, c2, c3, c4, c5, c6, c7, c8]) rfl ?_
            refine RePost.found HYES.out ?_ (HB6.out.grown hg6 HB6.out.size (fun j hj => by cases hj; exact Nat.le_refl _))
            have kL := HL3.out.kept hg6 (Or.inr (fun q => by have := HL3.out.lt w.heap.size q; omega))
            have kP := H13.out.p.kept hg6 (Or.inr (fun q => by have := H13.out.p.lt w.heap.size q; omega))
            have kl0 := HL0.out
            simp only
            rw [HZL.out, HZP.out]
            exact ⟨own_base kL (by omega), own_base kP (by omega), fun a ha q => by have := (kl0.lt a ha).2; have := (H13.out.p.lt a q).1; omega⟩
          · have HNO := hide (HSR.out (fun q => hT2 (Option.some.inj q.2)))
            rw [decide_eq_false hT2] at hZs
            clear hTZ hT2 H12
            have y0 := HR7.out.free 0
            have y1 := HR7.out.free 1
            have y2 := HR7.out.free 2
            have y3 := HR7.out.free 3
            have y4 := HR7.out.free 4
            have y5 := HR7.out.free 5
            have y6 := HR7.out.free 6
            have y7 := HR7.out.free 7
            have y8 := HR7.out.free 8
            obtain ⟨s0, s1, s2, s3, s4, s5, s6, s7, s8⟩ := HR7.out.ev
            go_wp2_with fail
            clear y0 y1 y2 y3 y4 y5 y6 y7 y8 s0 s1 s2 s3 s4 s5 s6 s7 s8
            obtain ⟨w6, hw6, hE6, hg6⟩ := HR7.out.all 0 0 0 0 0 0 (.slice none 0 0) (.slice none 0 0) []
            rw [show ((#[] : Array UInt8)) = ([] : List UInt8).toArray from rfl, hw6]
            obtain ⟨c0, c1, c2, c3, c4, c5, c6, c7, c8⟩ := hE6.ev
            refine bodyPost_ret (v := .tuple #[evval 0 0 0 0 0 0 (.slice none 0 0) (.slice none 0 0) [], .bool false]) (by simp [results, Tryz.results36, go_sem, c0, c1, c2, c3, c4, c5, c6, c7, c8]) rfl ?_
            exact RePost.zero HNO.out (HB6.out.grown hg6 HB6.out.size (fun j hj => by cases hj; exact Nat.le_refl _))

end Go.Proofs.YtckkfjmjcknjdaaGreatDoor
