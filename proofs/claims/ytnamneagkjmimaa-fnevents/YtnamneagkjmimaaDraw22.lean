/-
  Draws of chapter 9: an event, right or not (made by wip/tools/gen9t.py).
-/
import Derived.Test.YtnamneagkjmimaaDraw21
import Derived.Deep.RegionLaw
import Derived.Deep.CutRange
import Derived.Deep.Cut
import Derived.Deep.DeepCutAuto
namespace Go.Proofs.Ytnamneagkjmimaa
open Go.RowKit P1 P3 P9 P11 P12 K
set_option linter.unusedVariables false
set_option linter.unusedSimpArgs false
attribute [local go_sem ↓] Go.wp_at_zero Go.wp_at_succ

section
variable {B p : Nat} {a : Option Addr} {len cap : Nat} {w W W' x : World} {R b : Nat} {id kd sn us mb dp : Int} {xl xp vl vp : Value} {tx : List UInt8} {n m : Nat} {zl zp : List Int}
theorem DE.begin (hc : CurAt B x p a len cap) (hr : EB x w.heap.size 0 0 0 0 0 0 (.slice none 0 0) (.slice none 0 0) []) (hg : w.grownBy x (some p)) (hp : p < w.heap.size) (hB : B ≤ w.heap.size) (ho : EvOwn x w.heap.size vl vp n m zl zp) (fl : ∀ z ∈ zl, (Lit.int .i64 z).wf = true) (fp : ∀ z ∈ zp, (Lit.int .i64 z).wf = true) :
    DE B p a len cap w (x.alloc (.cells (evcells id kd sn us mb dp vl vp tx) 26)) w.heap.size x.heap.size id kd sn us mb dp vl vp tx vl vp n m zl zp := by
  have hb := (Below.refl x.heap.size x).alloc (Nat.le_refl _) (.cells (evcells id kd sn us mb dp vl vp tx) 26)
  exact ⟨hc.kept (hb.mono (Nat.le_trans hB hg.size)) (hb.block p hc.lt), hr.on hb hr.lt, heap_alloc_new _ _, grown_trans hg (grown_below hb), own_below ho.l hb, own_below ho.p hb, ho.ne, hp, hB, Nat.le_refl _, hg.size, Nat.ne_of_lt hr.lt, fl, fp⟩
theorem DE.anew (h : DE B p a len cap w W R b id kd sn us mb dp xl xp tx vl vp n m zl zp) {id' kd' sn' : Int} (hg : W.grownBy W' (some b)) (he : EB W' b id' kd' sn' 0 0 0 (.slice none 0 0) (.slice none 0 0) []) : DE B p a len cap w W' R b id' kd' sn' 0 0 0 (.slice none 0 0) (.slice none 0 0) [] (.slice none 0 0) (.slice none 0 0) 0 0 [] [] := by
  have hlow : Below w.heap.size W W' := (Below.refl _ _).grown hg h.gr.size (fun k hk => by cases hk; exact h.hb)
  exact ⟨h.cur.kept (hlow.mono h.hB) (hlow.block p h.hp), h.r.kept hg (fun q => h.hne (Option.some.inj q).symm), he, grown_low h.gr hlow, World.ownsRow_nil _ _ _ _, World.ownsRow_nil _ _ _ _, fun j hj => (by cases hj), h.hp, h.hB, h.hR, h.hb, h.hne, fun z hz => (by cases hz), fun z hz => (by cases hz)⟩
end

theorem zp_next {zp : List Int} {j : Nat} {z : Int} (h : ∀ y ∈ zp, 0 ≤ y ∧ y ≤ 10 * (j : Int)) (h0 : 0 ≤ z) (h1 : z ≤ 10 * (j : Int) + 10) : ∀ y ∈ zp ++ [z], 0 ≤ y ∧ y ≤ 10 * ((j + 1 : Nat) : Int) := by
  intro y hy
  rcases List.mem_append.1 hy with hy | hy
  · have := h y hy; omega
  · simp at hy; subst hy; omega

theorem l01Long_65 (y : Nat) (hy : y < 2) (w : World) :
    Calls Try.prog 51 #[.int .i64 (24 + (y : Int)), .int .u8 65] w fun e w' => ∃ l : List UInt8, l.length ≤ 30 ∧ e = .returned (.string ⟨l.toArray⟩) ∧ Below w.heap.size w w' := by
  have h := l01Long_any (24 + y) (by omega) 65 w
  have e1 : ((24 + y : Nat) : Int) = 24 + (y : Int) := by omega
  rw [e1] at h
  exact h.mono fun e w' ⟨l, q1, q2, q3⟩ => ⟨l, by omega, q2, q3⟩

set_option maxHeartbeats 16000000 in
theorem l09Any_any (B p : Nat) (a : Option Addr) (len cap : Nat) (w : World) (hB : B ≤ w.heap.size) (hc : CurAt B w p a len cap) :
    Calls Try.prog 23 #[.pointer (some ⟨p, 0, none⟩)] w fun e w' => EvD 6 4 B p a len cap w e w' := by
  have hp := hc.lt
  have k1 := (Below.refl w.heap.size w).alloc (Nat.le_refl _) (.cells #[.int .i64 0, .int .i64 0, .int .i64 0, .int .i64 0, .int .i64 0, .slice none 0 0, .string ⟨#[]⟩, .slice none 0 0, .int .i64 0] 26)
  have HBD := hide (l09Bodied_any B p a len cap (w.alloc (.cells #[.int .i64 0, .int .i64 0, .int .i64 0, .int .i64 0, .int .i64 0, .slice none 0 0, .string ⟨#[]⟩, .slice none 0 0, .int .i64 0] 26)) (by simp; omega) (hc.kept (k1.mono hB) (k1.block p hp)))
  have HR0 := hide (EB.new w 0 0 0 0 0 0 (.slice none 0 0) (.slice none 0 0) [])
  have HG0 := hide (show w.grownBy (w.alloc (.cells #[.int .i64 0, .int .i64 0, .int .i64 0, .int .i64 0, .int .i64 0, .slice none 0 0, .string ⟨#[]⟩, .slice none 0 0, .int .i64 0] 26)) (some p) from grown_below k1)
  clear k1 hc
  go_enter Try.func23, Try.ntmps23
  go_wp2_with fail
  refine HBD.out.mono ?_
  rintro e x1 ⟨id0, kd, sn, us, mb, dp0, vl0, vp0, tx, n, m, zl, zp, rfl, hn, hm, htx, hown, hfl, hfp, hc1, hg1⟩
  obtain ⟨oa, cl, hvl⟩ := row_form hown.l
  obtain ⟨ob, cp, hvp⟩ := row_form hown.p
  subst hvl
  subst hvp
  have hm0 : m = 0 := by omega
  subst hm0
  have hzp : zp = [] := by have := hown.p.1; simp at this; exact this
  subst hzp
  have HD0 := hide (DE.begin (id := id0) (kd := kd) (sn := sn) (us := us) (mb := mb) (dp := dp0) (tx := tx) hc1 (HR0.out.kept hg1 (fun q => by have := Option.some.inj q; omega)) (grown_trans HG0.out hg1) hp hB (hown.down (by simp)) hfl hfp)
  clear hc1 hg1 hown hfl hfp hm HBD HR0 HG0
  generalize hb : x1.heap.size = b at HD0
  have HBB := hide hb
  clear hb
  go_wp2_with fail
  rw [HBB.out]
  clear HBB
  generalize x1.alloc (.cells #[.int .i64 id0, .int .i64 kd, .int .i64 sn, .int .i64 us, .int .i64 mb, .slice oa n cl, .string ⟨tx.toArray⟩, .slice ob 0 cp, .int .i64 dp0] 26) = v0 at HD0 ⊢
  refine (l01Below_any B p a len cap 50 (by omega) (by omega) _ HD0.out.cur).mono ?_
  rintro e yw1 ⟨i1, hi1, rfl, hcq, hgq⟩
  have HD2 := hide (HD0.out.drawn hcq hgq)
  clear hcq hgq HD0
  have hID : 1 ≤ 1 + (i1 : Int) ∧ 1 + (i1 : Int) ≤ 50 := by omega
  obtain ⟨e0, e1, e2, e3, e4, e5, e6, e7, e8⟩ := HD2.out.e.ev
  have fk := HD2.out.e.free 0
  go_wp2_with fail
  clear e0 e1 e2 e3 e4 e5 e6 e7 e8 fk
  have HD4 := hide (HD2.out.put (HD2.out.e.put0 (1 + (i1 : Int))))
  generalize yw1.setCell ⟨b, 0, none⟩ (.int .i64 (1 + (i1 : Int))) = vw3 at HD4 ⊢
  clear HD2
  generalize (1 + (i1 : Int)) = ID at hID HD4 ⊢
  refine (l01Below_any B p a len cap 9 (by omega) (by omega) _ HD4.out.cur).mono ?_
  rintro e yw5 ⟨d1, hd1, rfl, hcq, hgq⟩
  have HD6 := hide (HD4.out.drawn hcq hgq)
  clear hcq hgq HD4
  obtain ⟨e0, e1, e2, e3, e4, e5, e6, e7, e8⟩ := HD6.out.e.ev
  have fk := HD6.out.e.free 8
  go_wp2_with fail
  clear e0 e1 e2 e3 e4 e5 e6 e7 e8 fk
  have HD8 := hide (HD6.out.put (HD6.out.e.put8 (d1 : Int)))
  generalize yw5.setCell ⟨b, 8, none⟩ (.int .i64 (d1 : Int)) = vw7 at HD8 ⊢
  clear HD6
  generalize (d1 : Int) = DP at HD8 ⊢
  go_loopw [4] (fun i wr => ∃ (j : Nat) (vp : Value) (zp : List Int), i = .int .i64 (j : Int) ∧ j ≤ 3 ∧ DE B p a len cap w wr w.heap.size b ID kd sn us mb DP (.slice oa n cl) vp tx (.slice oa n cl) vp n j zl zp ∧ ∀ z ∈ zp, 0 ≤ z ∧ z ≤ 10 * (j : Int)) (fun i _ => 3 - (intOf i).toNat)
  case atStart => exact ⟨0, _, _, rfl, by omega, HD8.out, fun z hz => by cases hz⟩
  case round =>
    obtain ⟨j, vp, zp, rfl, hj, hq, hzb⟩ := hrel
    obtain ⟨ob, cp, hvp⟩ := row_form hq.q
    subst hvp
    have HQ0 := hide hq
    have HZB := hide hzb
    clear hq hzb HD8
    go_wp2_with fail
    refine (l01Below_any B p a len cap 3 (by omega) (by omega) _ HQ0.out.cur).mono ?_
    rintro e yw21 ⟨y3, hy3, rfl, hcq, hgq⟩
    have HD22 := hide (HQ0.out.drawn hcq hgq)
    clear hcq hgq HQ0
    by_cases hlt : j < 1 + y3
    · have j0 : (j : Int) < 1 + (y3 : Int) := by omega
      by_cases hj0 : j = 0
      · subst hj0
        have HGD := hide HD22.out.drew
        have hw1 : IntKind.i64.wrap (1 : Int) = 1 := by decide
        go_wp2_with fail
        refine wp_region_held_drew (S := fun _ => True) (by kernel_rfl) trivial (fun hHeld => ?_)
        refine wpAnyH_take (i := 0) (v := ?_) rfl (by kernel_rfl) (by kernel_rfl) (by kernel_rfl) (fun _ _ _ h => h) (Or.inl ⟨by rfl, ?_⟩) (by assumption) ?_; rotate_left
        · (intro w hSw; (try dsimp only at hSw); go_simp; first | done | with_reducible rfl)
        try simp only [Act.put, List.getElem_toArray, List.getElem_cons_zero, List.getElem_cons_succ, List.setIfInBounds_toArray, List.set_cons_zero, List.set_cons_succ]
        refine wpAnyH_take (i := 2) (v := ?_) rfl (by kernel_rfl) (by kernel_rfl) (by kernel_rfl) (fun _ _ _ h => h) (Or.inl ⟨by rfl, ?_⟩) (by assumption) ?_; rotate_left
        · (intro w hSw; (try dsimp only at hSw); go_simp; first | done | with_reducible rfl)
        try simp only [Act.put, List.getElem_toArray, List.getElem_cons_zero, List.getElem_cons_succ, List.setIfInBounds_toArray, List.set_cons_zero, List.set_cons_succ]
        refine wpAnyH_take (i := 3) (v := ?_) rfl (by kernel_rfl) (by kernel_rfl) (by kernel_rfl) (fun _ _ _ h => h) (Or.inl ⟨by rfl, ?_⟩) (by assumption) ?_; rotate_left
        · (intro w hSw; (try dsimp only at hSw); go_simp; first | done | with_reducible rfl)
        try simp only [Act.put, List.getElem_toArray, List.getElem_cons_zero, List.getElem_cons_succ, List.setIfInBounds_toArray, List.set_cons_zero, List.set_cons_succ]
        refine wpAnyH_take (i := 4) (v := ?_) rfl (by kernel_rfl) (by kernel_rfl) (by kernel_rfl) (fun _ _ _ h => h) (Or.inl ⟨by rfl, ?_⟩) (by assumption) ?_; rotate_left
        · (intro w hSw; (try dsimp only at hSw); go_simp; first | done | with_reducible rfl)
        try simp only [Act.put, List.getElem_toArray, List.getElem_cons_zero, List.getElem_cons_succ, List.setIfInBounds_toArray, List.set_cons_zero, List.set_cons_succ]
        refine wpAnyH_ready (rs := [1, 5]) (by kernel_rfl) (by simp) ?_
        refine AllReadyH.cons rfl (fun K hK => ?_) ?_
        · have hcd := HD22.out.e.ev.c7
          rw [if_pos (by rfl)]
          go_simp
          refine hK.out _ _ ?_ (fun hHeld => ?_)
          · trivial
          clear hK K
          try simp only [Act.put, List.getElem_toArray, List.getElem_cons_zero, List.getElem_cons_succ, List.setIfInBounds_toArray, List.set_cons_zero, List.set_cons_succ]
          clear hcd
          refine wpAnyH_ready (rs := [5]) (by kernel_rfl) (by simp) ?_
          refine AllReadyH.cons rfl (fun K hK => ?_) ?_
          · rw [if_pos (by rfl)]
            go_simp
            go_at_call 49
            refine (l01Below_any B p a len cap 9 (by omega) (by omega) _ HGD.out.cur).mono ?_
            rintro r w96 ⟨xx, hxx, rfl, hc6, hg6⟩
            have HG3 := hide (HGD.out.drawn hc6 hg6)
            have hw2 : IntKind.i64.wrap (1 + (xx : Int)) = 1 + (xx : Int) := by rw [IntKind.wrap_i64]; omega
            clear hc6 hg6
            try go_simp
            refine hK.out _ _ ?_ (fun hHeld => ?_)
            · trivial
            clear hK K
            try simp only [Act.put, List.getElem_toArray, List.getElem_cons_zero, List.getElem_cons_succ, List.setIfInBounds_toArray, List.set_cons_zero, List.set_cons_succ]
            refine wpAnyH_take (i := 6) (v := ?_) rfl (by kernel_rfl) (by kernel_rfl) (by kernel_rfl) (fun _ _ _ h => h) (Or.inl ⟨by rfl, ?_⟩) (by assumption) ?_; rotate_left
            · (intro w hSw; (try dsimp only at hSw); go_simp; first | done | with_reducible rfl)
            try simp only [Act.put, List.getElem_toArray, List.getElem_cons_zero, List.getElem_cons_succ, List.setIfInBounds_toArray, List.set_cons_zero, List.set_cons_succ]
            refine wpAnyH_ready (rs := [7]) (by kernel_rfl) (by simp) ?_
            refine AllReadyH.cons rfl (fun K hK => ?_) ?_
            · have HG4 := hide (HG3.out.grow (.cells #[.int .i64 (1 + (xx : Int))] 3))
              rw [if_pos (by rfl)]
              go_simp
              refine hK.out _ _ ?_ (fun hHeld => ?_)
              · trivial
              clear hK K
              try simp only [Act.put, List.getElem_toArray, List.getElem_cons_zero, List.getElem_cons_succ, List.setIfInBounds_toArray, List.set_cons_zero, List.set_cons_succ]
              refine wpAnyH_ready (rs := [8]) (by kernel_rfl) (by simp) ?_
              refine AllReadyH.cons rfl (fun K hK => ?_) ?_
              · refine step_push_at (by rfl) _ _ 24 (by rfl) Try.underlying24 infoIz (by rfl) (by rfl) HG4.out.q (by rfl) (by rfl) (heap_alloc_new _ _) (by simp [Value.oneCell']) HG4.out.gr.size (by unfold maxLen; omega) (by omega) ?_
                intro v8 w98 ho8 hg8 hor8
                obtain ⟨ov8, cv8, hv8⟩ := row_form ho8
                subst hv8
                have HG5 := hide (HG4.out.pushP (by rw [← icells_snoc]; exact ho8) hg8 hor8 (wf_snoc HG4.out.fp (by omega)))
                clear ho8 hg8 hor8
                refine hK.out _ _ ?_ (fun hHeld => ?_)
                · trivial
                clear hK K
                try simp only [Act.put, List.getElem_toArray, List.getElem_cons_zero, List.getElem_cons_succ, List.setIfInBounds_toArray, List.set_cons_zero, List.set_cons_succ]
                refine wpAnyH_take (i := 9) (v := ?_) rfl (by kernel_rfl) (by kernel_rfl) (by kernel_rfl) (fun _ _ _ h => h) (Or.inl ⟨by rfl, ?_⟩) (by assumption) ?_; rotate_left
                · (intro w hSw; (try dsimp only at hSw); go_simp; first | done | with_reducible rfl)
                try simp only [Act.put, List.getElem_toArray, List.getElem_cons_zero, List.getElem_cons_succ, List.setIfInBounds_toArray, List.set_cons_zero, List.set_cons_succ]
                refine wpAnyH_ready (rs := [10]) (by kernel_rfl) (by simp) ?_
                refine AllReadyH.cons rfl (fun K hK => ?_) ?_
                · have hcd := HG5.out.e.ev.c7
                  have hfz := HG5.out.e.free 7
                  rw [if_pos (by rfl)]
                  go_simp
                  refine hK.out _ _ ?_ (fun hHeld => ?_)
                  · trivial
                  clear hK K
                  try simp only [Act.put, List.getElem_toArray, List.getElem_cons_zero, List.getElem_cons_succ, List.setIfInBounds_toArray, List.set_cons_zero, List.set_cons_succ]
                  clear hcd hfz
                  refine wpAnyH_done (by kernel_rfl) ?_ _
                  have HQ11 := hide (HG5.out.put (HG5.out.e.put7 (.slice ov8 (0 + 1) cv8)))
                  clear HG5 HG4 HG3 HGD HD22
                  go_wp2_with fail
                  go_roundw
                  case rel => exact ⟨0 + 1, _, _, by go_num, by omega, HQ11.out, zp_next HZB.out (by omega) (by omega)⟩
                  case measure => simp [intOf] <;> omega
                exact AllReadyH.nil
              exact AllReadyH.nil
            exact AllReadyH.nil
          exact AllReadyH.nil
        refine AllReadyH.cons rfl (fun K hK => ?_) ?_
        · rw [if_pos (by rfl)]
          go_simp
          go_at_call 49
          refine (l01Below_any B p a len cap 9 (by omega) (by omega) _ HGD.out.cur).mono ?_
          rintro r w96 ⟨xx, hxx, rfl, hc6, hg6⟩
          have HG3 := hide (HGD.out.drawn hc6 hg6)
          have hw2 : IntKind.i64.wrap (1 + (xx : Int)) = 1 + (xx : Int) := by rw [IntKind.wrap_i64]; omega
          clear hc6 hg6
          try go_simp
          refine hK.out _ _ ?_ (fun hHeld => ?_)
          · trivial
          clear hK K
          try simp only [Act.put, List.getElem_toArray, List.getElem_cons_zero, List.getElem_cons_succ, List.setIfInBounds_toArray, List.set_cons_zero, List.set_cons_succ]
          refine wpAnyH_take (i := 6) (v := ?_) rfl (by kernel_rfl) (by kernel_rfl) (by kernel_rfl) (fun _ _ _ h => h) (Or.inl ⟨by rfl, ?_⟩) (by assumption) ?_; rotate_left
          · (intro w hSw; (try dsimp only at hSw); go_simp; first | done | with_reducible rfl)
          try simp only [Act.put, List.getElem_toArray, List.getElem_cons_zero, List.getElem_cons_succ, List.setIfInBounds_toArray, List.set_cons_zero, List.set_cons_succ]
          refine wpAnyH_ready (rs := [1, 7]) (by kernel_rfl) (by simp) ?_
          refine AllReadyH.cons rfl (fun K hK => ?_) ?_
          · have hcd := HG3.out.e.ev.c7
            rw [if_pos (by rfl)]
            go_simp
            refine hK.out _ _ ?_ (fun hHeld => ?_)
            · trivial
            clear hK K
            try simp only [Act.put, List.getElem_toArray, List.getElem_cons_zero, List.getElem_cons_succ, List.setIfInBounds_toArray, List.set_cons_zero, List.set_cons_succ]
            clear hcd
            refine wpAnyH_ready (rs := [7]) (by kernel_rfl) (by simp) ?_
            refine AllReadyH.cons rfl (fun K hK => ?_) ?_
            · have HG4 := hide (HG3.out.grow (.cells #[.int .i64 (1 + (xx : Int))] 3))
              rw [if_pos (by rfl)]
              go_simp
              refine hK.out _ _ ?_ (fun hHeld => ?_)
              · trivial
              clear hK K
              try simp only [Act.put, List.getElem_toArray, List.getElem_cons_zero, List.getElem_cons_succ, List.setIfInBounds_toArray, List.set_cons_zero, List.set_cons_succ]
              refine wpAnyH_ready (rs := [8]) (by kernel_rfl) (by simp) ?_
              refine AllReadyH.cons rfl (fun K hK => ?_) ?_
              · refine step_push_at (by rfl) _ _ 24 (by rfl) Try.underlying24 infoIz (by rfl) (by rfl) HG4.out.q (by rfl) (by rfl) (heap_alloc_new _ _) (by simp [Value.oneCell']) HG4.out.gr.size (by unfold maxLen; omega) (by omega) ?_
                intro v8 w98 ho8 hg8 hor8
                obtain ⟨ov8, cv8, hv8⟩ := row_form ho8
                subst hv8
                have HG5 := hide (HG4.out.pushP (by rw [← icells_snoc]; exact ho8) hg8 hor8 (wf_snoc HG4.out.fp (by omega)))
                clear ho8 hg8 hor8
                refine hK.out _ _ ?_ (fun hHeld => ?_)
                · trivial
                clear hK K
                try simp only [Act.put, List.getElem_toArray, List.getElem_cons_zero, List.getElem_cons_succ, List.setIfInBounds_toArray, List.set_cons_zero, List.set_cons_succ]
                refine wpAnyH_take (i := 9) (v := ?_) rfl (by kernel_rfl) (by kernel_rfl) (by kernel_rfl) (fun _ _ _ h => h) (Or.inl ⟨by rfl, ?_⟩) (by assumption) ?_; rotate_left
                · (intro w hSw; (try dsimp only at hSw); go_simp; first | done | with_reducible rfl)
                try simp only [Act.put, List.getElem_toArray, List.getElem_cons_zero, List.getElem_cons_succ, List.setIfInBounds_toArray, List.set_cons_zero, List.set_cons_succ]
                refine wpAnyH_ready (rs := [10]) (by kernel_rfl) (by simp) ?_
                refine AllReadyH.cons rfl (fun K hK => ?_) ?_
                · have hcd := HG5.out.e.ev.c7
                  have hfz := HG5.out.e.free 7
                  rw [if_pos (by rfl)]
                  go_simp
                  refine hK.out _ _ ?_ (fun hHeld => ?_)
                  · trivial
                  clear hK K
                  try simp only [Act.put, List.getElem_toArray, List.getElem_cons_zero, List.getElem_cons_succ, List.setIfInBounds_toArray, List.set_cons_zero, List.set_cons_succ]
                  clear hcd hfz
                  refine wpAnyH_done (by kernel_rfl) ?_ _
                  have HQ11 := hide (HG5.out.put (HG5.out.e.put7 (.slice ov8 (0 + 1) cv8)))
                  clear HG5 HG4 HG3 HGD HD22
                  go_wp2_with fail
                  go_roundw
                  case rel => exact ⟨0 + 1, _, _, by go_num, by omega, HQ11.out, zp_next HZB.out (by omega) (by omega)⟩
                  case measure => simp [intOf] <;> omega
                exact AllReadyH.nil
              exact AllReadyH.nil
            exact AllReadyH.nil
          refine AllReadyH.cons rfl (fun K hK => ?_) ?_
          · have HG4 := hide (HG3.out.grow (.cells #[.int .i64 (1 + (xx : Int))] 3))
            rw [if_pos (by rfl)]
            go_simp
            refine hK.out _ _ ?_ (fun hHeld => ?_)
            · trivial
            clear hK K
            try simp only [Act.put, List.getElem_toArray, List.getElem_cons_zero, List.getElem_cons_succ, List.setIfInBounds_toArray, List.set_cons_zero, List.set_cons_succ]
            refine wpAnyH_ready (rs := [1]) (by kernel_rfl) (by simp) ?_
            refine AllReadyH.cons rfl (fun K hK => ?_) ?_
            · have hcd := HG4.out.e.ev.c7
              rw [if_pos (by rfl)]
              go_simp
              refine hK.out _ _ ?_ (fun hHeld => ?_)
              · trivial
              clear hK K
              try simp only [Act.put, List.getElem_toArray, List.getElem_cons_zero, List.getElem_cons_succ, List.setIfInBounds_toArray, List.set_cons_zero, List.set_cons_succ]
              clear hcd
              refine wpAnyH_ready (rs := [8]) (by kernel_rfl) (by simp) ?_
              refine AllReadyH.cons rfl (fun K hK => ?_) ?_
              · refine step_push_at (by rfl) _ _ 24 (by rfl) Try.underlying24 infoIz (by rfl) (by rfl) HG4.out.q (by rfl) (by rfl) (heap_alloc_new _ _) (by simp [Value.oneCell']) HG4.out.gr.size (by unfold maxLen; omega) (by omega) ?_
                intro v8 w98 ho8 hg8 hor8
                obtain ⟨ov8, cv8, hv8⟩ := row_form ho8
                subst hv8
                have HG5 := hide (HG4.out.pushP (by rw [← icells_snoc]; exact ho8) hg8 hor8 (wf_snoc HG4.out.fp (by omega)))
                clear ho8 hg8 hor8
                refine hK.out _ _ ?_ (fun hHeld => ?_)
                · trivial
                clear hK K
                try simp only [Act.put, List.getElem_toArray, List.getElem_cons_zero, List.getElem_cons_succ, List.setIfInBounds_toArray, List.set_cons_zero, List.set_cons_succ]
                refine wpAnyH_take (i := 9) (v := ?_) rfl (by kernel_rfl) (by kernel_rfl) (by kernel_rfl) (fun _ _ _ h => h) (Or.inl ⟨by rfl, ?_⟩) (by assumption) ?_; rotate_left
                · (intro w hSw; (try dsimp only at hSw); go_simp; first | done | with_reducible rfl)
                try simp only [Act.put, List.getElem_toArray, List.getElem_cons_zero, List.getElem_cons_succ, List.setIfInBounds_toArray, List.set_cons_zero, List.set_cons_succ]
                refine wpAnyH_ready (rs := [10]) (by kernel_rfl) (by simp) ?_
                refine AllReadyH.cons rfl (fun K hK => ?_) ?_
                · have hcd := HG5.out.e.ev.c7
                  have hfz := HG5.out.e.free 7
                  rw [if_pos (by rfl)]
                  go_simp
                  refine hK.out _ _ ?_ (fun hHeld => ?_)
                  · trivial
                  clear hK K
                  try simp only [Act.put, List.getElem_toArray, List.getElem_cons_zero, List.getElem_cons_succ, List.setIfInBounds_toArray, List.set_cons_zero, List.set_cons_succ]
                  clear hcd hfz
                  refine wpAnyH_done (by kernel_rfl) ?_ _
                  have HQ11 := hide (HG5.out.put (HG5.out.e.put7 (.slice ov8 (0 + 1) cv8)))
                  clear HG5 HG4 HG3 HGD HD22
                  go_wp2_with fail
                  go_roundw
                  case rel => exact ⟨0 + 1, _, _, by go_num, by omega, HQ11.out, zp_next HZB.out (by omega) (by omega)⟩
                  case measure => simp [intOf] <;> omega
                exact AllReadyH.nil
              exact AllReadyH.nil
            exact AllReadyH.nil
          exact AllReadyH.nil
        exact AllReadyH.nil
      · have gj : (0 : Int) < (j : Int) := by omega
        have HGD := hide HD22.out.drew
        obtain ⟨_, _, heq, hat⟩ := intsAt_of_own HD22.out.q HD22.out.fp
        cases heq
        obtain ⟨z, bz, qz, hz, hidx, hbz, cz, hwf⟩ := hat.get Try.underlying24 infoI (j - 1) (by omega)
        have hjc : ((j - 1 : Nat) : Int) = (j : Int) - 1 := by omega
        rw [hjc] at hidx
        obtain ⟨hz0, hz1⟩ := HZB.out z (List.mem_of_getElem? hz)
        have hw1 : IntKind.i64.wrap (z + 1) = z + 1 := by rw [IntKind.wrap_i64]; omega
        clear hat hz hjc
        obtain ⟨e0, e1, e2, e3, e4, e5, e6, e7, e8⟩ := HD22.out.e.ev
        go_wp2_with fail
        clear e0 e1 e2 e3 e4 e5 e6 e7 e8
        refine wp_region_held_drew (S := fun _ => True) (by kernel_rfl) trivial (fun hHeld => ?_)
        refine wpAnyH_take (i := 0) (v := ?_) rfl (by kernel_rfl) (by kernel_rfl) (by kernel_rfl) (fun _ _ _ h => h) (Or.inl ⟨by rfl, ?_⟩) (by assumption) ?_; rotate_left
        · (intro w hSw; (try dsimp only at hSw); go_simp; first | done | with_reducible rfl)
        try simp only [Act.put, List.getElem_toArray, List.getElem_cons_zero, List.getElem_cons_succ, List.setIfInBounds_toArray, List.set_cons_zero, List.set_cons_succ]
        refine wpAnyH_take (i := 2) (v := ?_) rfl (by kernel_rfl) (by kernel_rfl) (by kernel_rfl) (fun _ _ _ h => h) (Or.inl ⟨by rfl, ?_⟩) (by assumption) ?_; rotate_left
        · (intro w hSw; (try dsimp only at hSw); go_simp; first | done | with_reducible rfl)
        try simp only [Act.put, List.getElem_toArray, List.getElem_cons_zero, List.getElem_cons_succ, List.setIfInBounds_toArray, List.set_cons_zero, List.set_cons_succ]
        refine wpAnyH_take (i := 3) (v := ?_) rfl (by kernel_rfl) (by kernel_rfl) (by kernel_rfl) (fun _ _ _ h => h) (Or.inl ⟨by rfl, ?_⟩) (by assumption) ?_; rotate_left
        · (intro w hSw; (try dsimp only at hSw); go_simp; first | done | with_reducible rfl)
        try simp only [Act.put, List.getElem_toArray, List.getElem_cons_zero, List.getElem_cons_succ, List.setIfInBounds_toArray, List.set_cons_zero, List.set_cons_succ]
        refine wpAnyH_take (i := 4) (v := ?_) rfl (by kernel_rfl) (by kernel_rfl) (by kernel_rfl) (fun _ _ _ h => h) (Or.inl ⟨by rfl, ?_⟩) (by assumption) ?_; rotate_left
        · (intro w hSw; (try dsimp only at hSw); go_simp; first | done | with_reducible rfl)
        try simp only [Act.put, List.getElem_toArray, List.getElem_cons_zero, List.getElem_cons_succ, List.setIfInBounds_toArray, List.set_cons_zero, List.set_cons_succ]
        refine wpAnyH_ready (rs := [1, 5]) (by kernel_rfl) (by simp) ?_
        refine AllReadyH.cons rfl (fun K hK => ?_) ?_
        · have hcd := HD22.out.e.ev.c7
          rw [if_pos (by rfl)]
          go_simp
          refine hK.out _ _ ?_ (fun hHeld => ?_)
          · trivial
          clear hK K
          try simp only [Act.put, List.getElem_toArray, List.getElem_cons_zero, List.getElem_cons_succ, List.setIfInBounds_toArray, List.set_cons_zero, List.set_cons_succ]
          clear hcd
          refine wpAnyH_ready (rs := [5]) (by kernel_rfl) (by simp) ?_
          refine AllReadyH.cons rfl (fun K hK => ?_) ?_
          · rw [if_pos (by rfl)]
            go_simp
            go_at_call 49
            refine (l01Below_any B p a len cap 9 (by omega) (by omega) _ HGD.out.cur).mono ?_
            rintro r w96 ⟨xx, hxx, rfl, hc6, hg6⟩
            have HG3 := hide (HGD.out.drawn hc6 hg6)
            have hw2 : IntKind.i64.wrap (z + 1 + (xx : Int)) = z + 1 + (xx : Int) := by rw [IntKind.wrap_i64]; omega
            clear hc6 hg6
            try go_simp
            refine hK.out _ _ ?_ (fun hHeld => ?_)
            · trivial
            clear hK K
            try simp only [Act.put, List.getElem_toArray, List.getElem_cons_zero, List.getElem_cons_succ, List.setIfInBounds_toArray, List.set_cons_zero, List.set_cons_succ]
            refine wpAnyH_take (i := 6) (v := ?_) rfl (by kernel_rfl) (by kernel_rfl) (by kernel_rfl) (fun _ _ _ h => h) (Or.inl ⟨by rfl, ?_⟩) (by assumption) ?_; rotate_left
            · (intro w hSw; (try dsimp only at hSw); go_simp; first | done | with_reducible rfl)
            try simp only [Act.put, List.getElem_toArray, List.getElem_cons_zero, List.getElem_cons_succ, List.setIfInBounds_toArray, List.set_cons_zero, List.set_cons_succ]
            refine wpAnyH_ready (rs := [7]) (by kernel_rfl) (by simp) ?_
            refine AllReadyH.cons rfl (fun K hK => ?_) ?_
            · have HG4 := hide (HG3.out.grow (.cells #[.int .i64 (z + 1 + (xx : Int))] 3))
              rw [if_pos (by rfl)]
              go_simp
              refine hK.out _ _ ?_ (fun hHeld => ?_)
              · trivial
              clear hK K
              try simp only [Act.put, List.getElem_toArray, List.getElem_cons_zero, List.getElem_cons_succ, List.setIfInBounds_toArray, List.set_cons_zero, List.set_cons_succ]
              refine wpAnyH_ready (rs := [8]) (by kernel_rfl) (by simp) ?_
              refine AllReadyH.cons rfl (fun K hK => ?_) ?_
              · refine step_push_at (by rfl) _ _ 24 (by rfl) Try.underlying24 infoIz (by rfl) (by rfl) HG4.out.q (by rfl) (by rfl) (heap_alloc_new _ _) (by simp [Value.oneCell']) HG4.out.gr.size (by unfold maxLen; omega) (by omega) ?_
                intro v8 w98 ho8 hg8 hor8
                obtain ⟨ov8, cv8, hv8⟩ := row_form ho8
                subst hv8
                have HG5 := hide (HG4.out.pushP (by rw [← icells_snoc]; exact ho8) hg8 hor8 (wf_snoc HG4.out.fp (by omega)))
                clear ho8 hg8 hor8
                refine hK.out _ _ ?_ (fun hHeld => ?_)
                · trivial
                clear hK K
                try simp only [Act.put, List.getElem_toArray, List.getElem_cons_zero, List.getElem_cons_succ, List.setIfInBounds_toArray, List.set_cons_zero, List.set_cons_succ]
                refine wpAnyH_take (i := 9) (v := ?_) rfl (by kernel_rfl) (by kernel_rfl) (by kernel_rfl) (fun _ _ _ h => h) (Or.inl ⟨by rfl, ?_⟩) (by assumption) ?_; rotate_left
                · (intro w hSw; (try dsimp only at hSw); go_simp; first | done | with_reducible rfl)
                try simp only [Act.put, List.getElem_toArray, List.getElem_cons_zero, List.getElem_cons_succ, List.setIfInBounds_toArray, List.set_cons_zero, List.set_cons_succ]
                refine wpAnyH_ready (rs := [10]) (by kernel_rfl) (by simp) ?_
                refine AllReadyH.cons rfl (fun K hK => ?_) ?_
                · have hcd := HG5.out.e.ev.c7
                  have hfz := HG5.out.e.free 7
                  rw [if_pos (by rfl)]
                  go_simp
                  refine hK.out _ _ ?_ (fun hHeld => ?_)
                  · trivial
                  clear hK K
                  try simp only [Act.put, List.getElem_toArray, List.getElem_cons_zero, List.getElem_cons_succ, List.setIfInBounds_toArray, List.set_cons_zero, List.set_cons_succ]
                  clear hcd hfz
                  refine wpAnyH_done (by kernel_rfl) ?_ _
                  have HQ11 := hide (HG5.out.put (HG5.out.e.put7 (.slice ov8 (j + 1) cv8)))
                  clear HG5 HG4 HG3 HGD HD22
                  go_wp2_with fail
                  go_roundw
                  case rel => exact ⟨j + 1, _, _, by go_num, by omega, HQ11.out, zp_next HZB.out (by omega) (by omega)⟩
                  case measure => simp [intOf] <;> omega
                exact AllReadyH.nil
              exact AllReadyH.nil
            exact AllReadyH.nil
          exact AllReadyH.nil
        refine AllReadyH.cons rfl (fun K hK => ?_) ?_
        · rw [if_pos (by rfl)]
          go_simp
          go_at_call 49
          refine (l01Below_any B p a len cap 9 (by omega) (by omega) _ HGD.out.cur).mono ?_
          rintro r w96 ⟨xx, hxx, rfl, hc6, hg6⟩
          have HG3 := hide (HGD.out.drawn hc6 hg6)
          have hw2 : IntKind.i64.wrap (z + 1 + (xx : Int)) = z + 1 + (xx : Int) := by rw [IntKind.wrap_i64]; omega
          clear hc6 hg6
          try go_simp
          refine hK.out _ _ ?_ (fun hHeld => ?_)
          · trivial
          clear hK K
          try simp only [Act.put, List.getElem_toArray, List.getElem_cons_zero, List.getElem_cons_succ, List.setIfInBounds_toArray, List.set_cons_zero, List.set_cons_succ]
          refine wpAnyH_take (i := 6) (v := ?_) rfl (by kernel_rfl) (by kernel_rfl) (by kernel_rfl) (fun _ _ _ h => h) (Or.inl ⟨by rfl, ?_⟩) (by assumption) ?_; rotate_left
          · (intro w hSw; (try dsimp only at hSw); go_simp; first | done | with_reducible rfl)
          try simp only [Act.put, List.getElem_toArray, List.getElem_cons_zero, List.getElem_cons_succ, List.setIfInBounds_toArray, List.set_cons_zero, List.set_cons_succ]
          refine wpAnyH_ready (rs := [1, 7]) (by kernel_rfl) (by simp) ?_
          refine AllReadyH.cons rfl (fun K hK => ?_) ?_
          · have hcd := HG3.out.e.ev.c7
            rw [if_pos (by rfl)]
            go_simp
            refine hK.out _ _ ?_ (fun hHeld => ?_)
            · trivial
            clear hK K
            try simp only [Act.put, List.getElem_toArray, List.getElem_cons_zero, List.getElem_cons_succ, List.setIfInBounds_toArray, List.set_cons_zero, List.set_cons_succ]
            clear hcd
            refine wpAnyH_ready (rs := [7]) (by kernel_rfl) (by simp) ?_
            refine AllReadyH.cons rfl (fun K hK => ?_) ?_
            · have HG4 := hide (HG3.out.grow (.cells #[.int .i64 (z + 1 + (xx : Int))] 3))
              rw [if_pos (by rfl)]
              go_simp
              refine hK.out _ _ ?_ (fun hHeld => ?_)
              · trivial
              clear hK K
              try simp only [Act.put, List.getElem_toArray, List.getElem_cons_zero, List.getElem_cons_succ, List.setIfInBounds_toArray, List.set_cons_zero, List.set_cons_succ]
              refine wpAnyH_ready (rs := [8]) (by kernel_rfl) (by simp) ?_
              refine AllReadyH.cons rfl (fun K hK => ?_) ?_
              · refine step_push_at (by rfl) _ _ 24 (by rfl) Try.underlying24 infoIz (by rfl) (by rfl) HG4.out.q (by rfl) (by rfl) (heap_alloc_new _ _) (by simp [Value.oneCell']) HG4.out.gr.size (by unfold maxLen; omega) (by omega) ?_
                intro v8 w98 ho8 hg8 hor8
                obtain ⟨ov8, cv8, hv8⟩ := row_form ho8
                subst hv8
                have HG5 := hide (HG4.out.pushP (by rw [← icells_snoc]; exact ho8) hg8 hor8 (wf_snoc HG4.out.fp (by omega)))
                clear ho8 hg8 hor8
                refine hK.out _ _ ?_ (fun hHeld => ?_)
                · trivial
                clear hK K
                try simp only [Act.put, List.getElem_toArray, List.getElem_cons_zero, List.getElem_cons_succ, List.setIfInBounds_toArray, List.set_cons_zero, List.set_cons_succ]
                refine wpAnyH_take (i := 9) (v := ?_) rfl (by kernel_rfl) (by kernel_rfl) (by kernel_rfl) (fun _ _ _ h => h) (Or.inl ⟨by rfl, ?_⟩) (by assumption) ?_; rotate_left
                · (intro w hSw; (try dsimp only at hSw); go_simp; first | done | with_reducible rfl)
                try simp only [Act.put, List.getElem_toArray, List.getElem_cons_zero, List.getElem_cons_succ, List.setIfInBounds_toArray, List.set_cons_zero, List.set_cons_succ]
                refine wpAnyH_ready (rs := [10]) (by kernel_rfl) (by simp) ?_
                refine AllReadyH.cons rfl (fun K hK => ?_) ?_
                · have hcd := HG5.out.e.ev.c7
                  have hfz := HG5.out.e.free 7
                  rw [if_pos (by rfl)]
                  go_simp
                  refine hK.out _ _ ?_ (fun hHeld => ?_)
                  · trivial
                  clear hK K
                  try simp only [Act.put, List.getElem_toArray, List.getElem_cons_zero, List.getElem_cons_succ, List.setIfInBounds_toArray, List.set_cons_zero, List.set_cons_succ]
                  clear hcd hfz
                  refine wpAnyH_done (by kernel_rfl) ?_ _
                  have HQ11 := hide (HG5.out.put (HG5.out.e.put7 (.slice ov8 (j + 1) cv8)))
                  clear HG5 HG4 HG3 HGD HD22
                  go_wp2_with fail
                  go_roundw
                  case rel => exact ⟨j + 1, _, _, by go_num, by omega, HQ11.out, zp_next HZB.out (by omega) (by omega)⟩
                  case measure => simp [intOf] <;> omega
                exact AllReadyH.nil
              exact AllReadyH.nil
            exact AllReadyH.nil
          refine AllReadyH.cons rfl (fun K hK => ?_) ?_
          · have HG4 := hide (HG3.out.grow (.cells #[.int .i64 (z + 1 + (xx : Int))] 3))
            rw [if_pos (by rfl)]
            go_simp
            refine hK.out _ _ ?_ (fun hHeld => ?_)
            · trivial
            clear hK K
            try simp only [Act.put, List.getElem_toArray, List.getElem_cons_zero, List.getElem_cons_succ, List.setIfInBounds_toArray, List.set_cons_zero, List.set_cons_succ]
            refine wpAnyH_ready (rs := [1]) (by kernel_rfl) (by simp) ?_
            refine AllReadyH.cons rfl (fun K hK => ?_) ?_
            · have hcd := HG4.out.e.ev.c7
              rw [if_pos (by rfl)]
              go_simp
              refine hK.out _ _ ?_ (fun hHeld => ?_)
              · trivial
              clear hK K
              try simp only [Act.put, List.getElem_toArray, List.getElem_cons_zero, List.getElem_cons_succ, List.setIfInBounds_toArray, List.set_cons_zero, List.set_cons_succ]
              clear hcd
              refine wpAnyH_ready (rs := [8]) (by kernel_rfl) (by simp) ?_
              refine AllReadyH.cons rfl (fun K hK => ?_) ?_
              · refine step_push_at (by rfl) _ _ 24 (by rfl) Try.underlying24 infoIz (by rfl) (by rfl) HG4.out.q (by rfl) (by rfl) (heap_alloc_new _ _) (by simp [Value.oneCell']) HG4.out.gr.size (by unfold maxLen; omega) (by omega) ?_
                intro v8 w98 ho8 hg8 hor8
                obtain ⟨ov8, cv8, hv8⟩ := row_form ho8
                subst hv8
                have HG5 := hide (HG4.out.pushP (by rw [← icells_snoc]; exact ho8) hg8 hor8 (wf_snoc HG4.out.fp (by omega)))
                clear ho8 hg8 hor8
                refine hK.out _ _ ?_ (fun hHeld => ?_)
                · trivial
                clear hK K
                try simp only [Act.put, List.getElem_toArray, List.getElem_cons_zero, List.getElem_cons_succ, List.setIfInBounds_toArray, List.set_cons_zero, List.set_cons_succ]
                refine wpAnyH_take (i := 9) (v := ?_) rfl (by kernel_rfl) (by kernel_rfl) (by kernel_rfl) (fun _ _ _ h => h) (Or.inl ⟨by rfl, ?_⟩) (by assumption) ?_; rotate_left
                · (intro w hSw; (try dsimp only at hSw); go_simp; first | done | with_reducible rfl)
                try simp only [Act.put, List.getElem_toArray, List.getElem_cons_zero, List.getElem_cons_succ, List.setIfInBounds_toArray, List.set_cons_zero, List.set_cons_succ]
                refine wpAnyH_ready (rs := [10]) (by kernel_rfl) (by simp) ?_
                refine AllReadyH.cons rfl (fun K hK => ?_) ?_
                · have hcd := HG5.out.e.ev.c7
                  have hfz := HG5.out.e.free 7
                  rw [if_pos (by rfl)]
                  go_simp
                  refine hK.out _ _ ?_ (fun hHeld => ?_)
                  · trivial
                  clear hK K
                  try simp only [Act.put, List.getElem_toArray, List.getElem_cons_zero, List.getElem_cons_succ, List.setIfInBounds_toArray, List.set_cons_zero, List.set_cons_succ]
                  clear hcd hfz
                  refine wpAnyH_done (by kernel_rfl) ?_ _
                  have HQ11 := hide (HG5.out.put (HG5.out.e.put7 (.slice ov8 (j + 1) cv8)))
                  clear HG5 HG4 HG3 HGD HD22
                  go_wp2_with fail
                  go_roundw
                  case rel => exact ⟨j + 1, _, _, by go_num, by omega, HQ11.out, zp_next HZB.out (by omega) (by omega)⟩
                  case measure => simp [intOf] <;> omega
                exact AllReadyH.nil
              exact AllReadyH.nil
            exact AllReadyH.nil
          exact AllReadyH.nil
        exact AllReadyH.nil
    · have j0 : ¬ (j : Int) < 1 + (y3 : Int) := by omega
      clear HZB
      go_wp2_with fail
      refine (l01Below_any B p a len cap 30 (by omega) (by omega) _ HD22.out.cur).mono ?_
      rintro e yw31 ⟨xs, hxs, rfl, hcq, hgq⟩
      have HD32 := hide (HD22.out.drawn hcq hgq)
      clear hcq hgq HD22
      obtain ⟨X, hX⟩ : ∃ X : Int, (xs : Int) = X := ⟨_, rfl⟩
      rw [hX]
      have hXb : 0 ≤ X ∧ X < 30 := by omega
      clear hX
      rcases (show X = 0 ∨ X = 1 ∨ X = 2 ∨ X = 3 ∨ X = 4 ∨ X = 5 ∨ X = 6 ∨ X = 7 ∨ X = 8 ∨ X = 9 ∨ 10 ≤ X by omega) with rfl | rfl | rfl | rfl | rfl | rfl | rfl | rfl | rfl | rfl | hX
      · go_wp2_with fail
        have HOL := hide (show (yw31.alloc (.cells #[.int .i64 0, .int .i64 6, .int .i64 1, .int .i64 3] 3)).ownsRow yw31.heap.size 3 1 (.slice (some ⟨yw31.heap.size, 0, none⟩) 4 4) 4 (I64z [0, 6, 1, 3]) from World.ownsRow_lit (base := yw31.heap.size) (size := 1) yw31 #[.int .i64 0, .int .i64 6, .int .i64 1, .int .i64 3] 4 (Nat.le_refl _) (by decide) (by simp))
        have hpl := HD32.out.cur.lt
        have HGL := hide (HD32.out.grow (.cells #[.int .i64 0, .int .i64 6, .int .i64 1, .int .i64 3] 3))
        refine (l01PickInt_any B p a len cap yw31.heap.size _ [0, 6, 1, 3] (by simp) (by simp) _ hpl HOL.out HGL.out.cur).mono ?_
        rintro e yw33 ⟨zz, hzz, rfl, hcq, hgq⟩
        have HD34 := hide (HGL.out.drawn hcq hgq)
        clear hcq hgq HD32 HGL HOL hpl
        obtain ⟨e0, e1, e2, e3, e4, e5, e6, e7, e8⟩ := HD34.out.e.ev
        have fk := HD34.out.e.free 1
        have HD35 := hide (HD34.out.put (HD34.out.e.put1 zz))
        obtain ⟨t0, t1, t2, t3, t4, t5, t6, t7, t8⟩ := HD35.out.e.ev
        obtain ⟨q0, q1, q2, q3, q4, q5, q6, q7, q8⟩ := HD35.out.r.ev
        have y0 := HD35.out.r.free 0
        have y1 := HD35.out.r.free 1
        have y2 := HD35.out.r.free 2
        have y3 := HD35.out.r.free 3
        have y4 := HD35.out.r.free 4
        have y5 := HD35.out.r.free 5
        have y6 := HD35.out.r.free 6
        have y7 := HD35.out.r.free 7
        have y8 := HD35.out.r.free 8
        go_wp2_with fail
        clear e0 e1 e2 e3 e4 e5 e6 e7 e8 fk t0 q0 y0 t1 q1 y1 t2 q2 y2 t3 q3 y3 t4 q4 y4 t5 q5 y5 t6 q6 y6 t7 q7 y7 t8 q8 y8
        generalize yw33.setCell ⟨b, 1, none⟩ (.int .i64 zz) = vw36 at HD35 ⊢
        obtain ⟨w6, hw6, hE6, hg6⟩ := HD35.out.r.all ID zz sn us mb DP (.slice oa n cl) (.slice ob j cp) tx
        try rw [show ((#[] : Array UInt8)) = ([] : List UInt8).toArray from rfl]
        rw [hw6]
        obtain ⟨c0, c1, c2, c3, c4, c5, c6, c7, c8⟩ := hE6.ev
        refine bodyPost_ret (v := evval ID zz sn us mb DP (.slice oa n cl) (.slice ob j cp) tx) (by simp [results, Try.results23, go_sem, c0, c1, c2, c3, c4, c5, c6, c7, c8]) rfl ?_
        exact DE.fin HD35.out hg6 (by omega) (by omega) htx
      · go_wp2_with fail
        have HOL := hide (show (yw31.alloc (.cells #[.int .i64 0, .int .i64 5, .int .i64 6] 3)).ownsRow yw31.heap.size 3 1 (.slice (some ⟨yw31.heap.size, 0, none⟩) 3 3) 3 (I64z [0, 5, 6]) from World.ownsRow_lit (base := yw31.heap.size) (size := 1) yw31 #[.int .i64 0, .int .i64 5, .int .i64 6] 3 (Nat.le_refl _) (by decide) (by simp))
        have hpl := HD32.out.cur.lt
        have HGL := hide (HD32.out.grow (.cells #[.int .i64 0, .int .i64 5, .int .i64 6] 3))
        refine (l01PickInt_any B p a len cap yw31.heap.size _ [0, 5, 6] (by simp) (by simp) _ hpl HOL.out HGL.out.cur).mono ?_
        rintro e yw33 ⟨zz, hzz, rfl, hcq, hgq⟩
        have HD34 := hide (HGL.out.drawn hcq hgq)
        clear hcq hgq HD32 HGL HOL hpl
        obtain ⟨e0, e1, e2, e3, e4, e5, e6, e7, e8⟩ := HD34.out.e.ev
        have fk := HD34.out.e.free 2
        have HD35 := hide (HD34.out.put (HD34.out.e.put2 zz))
        obtain ⟨t0, t1, t2, t3, t4, t5, t6, t7, t8⟩ := HD35.out.e.ev
        obtain ⟨q0, q1, q2, q3, q4, q5, q6, q7, q8⟩ := HD35.out.r.ev
        have y0 := HD35.out.r.free 0
        have y1 := HD35.out.r.free 1
        have y2 := HD35.out.r.free 2
        have y3 := HD35.out.r.free 3
        have y4 := HD35.out.r.free 4
        have y5 := HD35.out.r.free 5
        have y6 := HD35.out.r.free 6
        have y7 := HD35.out.r.free 7
        have y8 := HD35.out.r.free 8
        go_wp2_with fail
        clear e0 e1 e2 e3 e4 e5 e6 e7 e8 fk t0 q0 y0 t1 q1 y1 t2 q2 y2 t3 q3 y3 t4 q4 y4 t5 q5 y5 t6 q6 y6 t7 q7 y7 t8 q8 y8
        generalize yw33.setCell ⟨b, 2, none⟩ (.int .i64 zz) = vw36 at HD35 ⊢
        obtain ⟨w6, hw6, hE6, hg6⟩ := HD35.out.r.all ID kd zz us mb DP (.slice oa n cl) (.slice ob j cp) tx
        try rw [show ((#[] : Array UInt8)) = ([] : List UInt8).toArray from rfl]
        rw [hw6]
        obtain ⟨c0, c1, c2, c3, c4, c5, c6, c7, c8⟩ := hE6.ev
        refine bodyPost_ret (v := evval ID kd zz us mb DP (.slice oa n cl) (.slice ob j cp) tx) (by simp [results, Try.results23, go_sem, c0, c1, c2, c3, c4, c5, c6, c7, c8]) rfl ?_
        exact DE.fin HD35.out hg6 (by omega) (by omega) htx
      · go_wp2_with fail
        have HOL := hide (show (yw31.alloc (.cells #[.int .i64 0, .int .i64 5, .int .i64 6] 3)).ownsRow yw31.heap.size 3 1 (.slice (some ⟨yw31.heap.size, 0, none⟩) 3 3) 3 (I64z [0, 5, 6]) from World.ownsRow_lit (base := yw31.heap.size) (size := 1) yw31 #[.int .i64 0, .int .i64 5, .int .i64 6] 3 (Nat.le_refl _) (by decide) (by simp))
        have hpl := HD32.out.cur.lt
        have HGL := hide (HD32.out.grow (.cells #[.int .i64 0, .int .i64 5, .int .i64 6] 3))
        refine (l01PickInt_any B p a len cap yw31.heap.size _ [0, 5, 6] (by simp) (by simp) _ hpl HOL.out HGL.out.cur).mono ?_
        rintro e yw33 ⟨zz, hzz, rfl, hcq, hgq⟩
        have HD34 := hide (HGL.out.drawn hcq hgq)
        clear hcq hgq HD32 HGL HOL hpl
        obtain ⟨e0, e1, e2, e3, e4, e5, e6, e7, e8⟩ := HD34.out.e.ev
        have fk := HD34.out.e.free 3
        have HD35 := hide (HD34.out.put (HD34.out.e.put3 zz))
        obtain ⟨t0, t1, t2, t3, t4, t5, t6, t7, t8⟩ := HD35.out.e.ev
        obtain ⟨q0, q1, q2, q3, q4, q5, q6, q7, q8⟩ := HD35.out.r.ev
        have y0 := HD35.out.r.free 0
        have y1 := HD35.out.r.free 1
        have y2 := HD35.out.r.free 2
        have y3 := HD35.out.r.free 3
        have y4 := HD35.out.r.free 4
        have y5 := HD35.out.r.free 5
        have y6 := HD35.out.r.free 6
        have y7 := HD35.out.r.free 7
        have y8 := HD35.out.r.free 8
        go_wp2_with fail
        clear e0 e1 e2 e3 e4 e5 e6 e7 e8 fk t0 q0 y0 t1 q1 y1 t2 q2 y2 t3 q3 y3 t4 q4 y4 t5 q5 y5 t6 q6 y6 t7 q7 y7 t8 q8 y8
        generalize yw33.setCell ⟨b, 3, none⟩ (.int .i64 zz) = vw36 at HD35 ⊢
        obtain ⟨w6, hw6, hE6, hg6⟩ := HD35.out.r.all ID kd sn zz mb DP (.slice oa n cl) (.slice ob j cp) tx
        try rw [show ((#[] : Array UInt8)) = ([] : List UInt8).toArray from rfl]
        rw [hw6]
        obtain ⟨c0, c1, c2, c3, c4, c5, c6, c7, c8⟩ := hE6.ev
        refine bodyPost_ret (v := evval ID kd sn zz mb DP (.slice oa n cl) (.slice ob j cp) tx) (by simp [results, Try.results23, go_sem, c0, c1, c2, c3, c4, c5, c6, c7, c8]) rfl ?_
        exact DE.fin HD35.out hg6 (by omega) (by omega) htx
      · go_wp2_with fail
        have HOL := hide (show (yw31.alloc (.cells #[.int .i64 (-1), .int .i64 3, .int .i64 4] 3)).ownsRow yw31.heap.size 3 1 (.slice (some ⟨yw31.heap.size, 0, none⟩) 3 3) 3 (I64z [-1, 3, 4]) from World.ownsRow_lit (base := yw31.heap.size) (size := 1) yw31 #[.int .i64 (-1), .int .i64 3, .int .i64 4] 3 (Nat.le_refl _) (by decide) (by simp))
        have hpl := HD32.out.cur.lt
        have HGL := hide (HD32.out.grow (.cells #[.int .i64 (-1), .int .i64 3, .int .i64 4] 3))
        refine (l01PickInt_any B p a len cap yw31.heap.size _ [-1, 3, 4] (by simp) (by simp) _ hpl HOL.out HGL.out.cur).mono ?_
        rintro e yw33 ⟨zz, hzz, rfl, hcq, hgq⟩
        have HD34 := hide (HGL.out.drawn hcq hgq)
        clear hcq hgq HD32 HGL HOL hpl
        obtain ⟨e0, e1, e2, e3, e4, e5, e6, e7, e8⟩ := HD34.out.e.ev
        have fk := HD34.out.e.free 4
        have HD35 := hide (HD34.out.put (HD34.out.e.put4 zz))
        obtain ⟨t0, t1, t2, t3, t4, t5, t6, t7, t8⟩ := HD35.out.e.ev
        obtain ⟨q0, q1, q2, q3, q4, q5, q6, q7, q8⟩ := HD35.out.r.ev
        have y0 := HD35.out.r.free 0
        have y1 := HD35.out.r.free 1
        have y2 := HD35.out.r.free 2
        have y3 := HD35.out.r.free 3
        have y4 := HD35.out.r.free 4
        have y5 := HD35.out.r.free 5
        have y6 := HD35.out.r.free 6
        have y7 := HD35.out.r.free 7
        have y8 := HD35.out.r.free 8
        go_wp2_with fail
        clear e0 e1 e2 e3 e4 e5 e6 e7 e8 fk t0 q0 y0 t1 q1 y1 t2 q2 y2 t3 q3 y3 t4 q4 y4 t5 q5 y5 t6 q6 y6 t7 q7 y7 t8 q8 y8
        generalize yw33.setCell ⟨b, 4, none⟩ (.int .i64 zz) = vw36 at HD35 ⊢
        obtain ⟨w6, hw6, hE6, hg6⟩ := HD35.out.r.all ID kd sn us zz DP (.slice oa n cl) (.slice ob j cp) tx
        try rw [show ((#[] : Array UInt8)) = ([] : List UInt8).toArray from rfl]
        rw [hw6]
        obtain ⟨c0, c1, c2, c3, c4, c5, c6, c7, c8⟩ := hE6.ev
        refine bodyPost_ret (v := evval ID kd sn us zz DP (.slice oa n cl) (.slice ob j cp) tx) (by simp [results, Try.results23, go_sem, c0, c1, c2, c3, c4, c5, c6, c7, c8]) rfl ?_
        exact DE.fin HD35.out hg6 (by omega) (by omega) htx
      · go_wp2_with fail
        refine wp_region_held_drew (S := fun _ => True) (by kernel_rfl) trivial (fun hHeld => ?_)
        refine wpAnyH_take (i := 0) (v := ?_) rfl (by kernel_rfl) (by kernel_rfl) (by kernel_rfl) (fun _ _ _ h => h) (Or.inl ⟨by rfl, ?_⟩) (by assumption) ?_; rotate_left
        · (intro w hSw; (try dsimp only at hSw); go_simp; first | done | with_reducible rfl)
        try simp only [Act.put, List.getElem_toArray, List.getElem_cons_zero, List.getElem_cons_succ, List.setIfInBounds_toArray, List.set_cons_zero, List.set_cons_succ]
        refine wpAnyH_take (i := 2) (v := ?_) rfl (by kernel_rfl) (by kernel_rfl) (by kernel_rfl) (fun _ _ _ h => h) (Or.inl ⟨by rfl, ?_⟩) (by assumption) ?_; rotate_left
        · (intro w hSw; (try dsimp only at hSw); go_simp; first | done | with_reducible rfl)
        try simp only [Act.put, List.getElem_toArray, List.getElem_cons_zero, List.getElem_cons_succ, List.setIfInBounds_toArray, List.set_cons_zero, List.set_cons_succ]
        refine wpAnyH_ready (rs := [1, 3]) (by kernel_rfl) (by simp) ?_
        refine AllReadyH.cons rfl (fun K hK => ?_) ?_
        · have hcd := HD32.out.e.ev.c5
          rw [if_pos (by rfl)]
          go_simp
          refine hK.out _ _ ?_ (fun hHeld => ?_)
          · trivial
          clear hK K
          try simp only [Act.put, List.getElem_toArray, List.getElem_cons_zero, List.getElem_cons_succ, List.setIfInBounds_toArray, List.set_cons_zero, List.set_cons_succ]
          clear hcd
          refine wpAnyH_ready (rs := [3]) (by kernel_rfl) (by simp) ?_
          refine AllReadyH.cons rfl (fun K hK => ?_) ?_
          · have HG2 := hide ((HD32.out.grow (.cells #[.int .i64 (-1), .int .i64 100, .int .i64 101] 3)).drew)
            rw [if_pos (by rfl)]
            go_simp
            refine hK.out _ _ ?_ (fun hHeld => ?_)
            · trivial
            clear hK K
            try simp only [Act.put, List.getElem_toArray, List.getElem_cons_zero, List.getElem_cons_succ, List.setIfInBounds_toArray, List.set_cons_zero, List.set_cons_succ]
            refine wpAnyH_ready (rs := [4]) (by kernel_rfl) (by simp) ?_
            refine AllReadyH.cons rfl (fun K hK => ?_) ?_
            · rw [if_pos (by rfl)]
              go_simp
              have HOL := hide (show (yw31.alloc (.cells #[.int .i64 (-1), .int .i64 100, .int .i64 101] 3)).drew.ownsRow yw31.heap.size 3 1 (.slice (some ⟨yw31.heap.size, 0, none⟩) 3 3) 3 (I64z [-1, 100, 101]) from World.ownsRow_lit (base := yw31.heap.size) (size := 1) yw31 #[.int .i64 (-1), .int .i64 100, .int .i64 101] 3 (Nat.le_refl _) (by decide) (by simp))
              have hpl := HD32.out.cur.lt
              go_at_call 50
              refine (l01PickInt_any B p a len cap yw31.heap.size _ [-1, 100, 101] (by simp) (by simp) _ hpl HOL.out HG2.out.cur).mono ?_
              rintro r w96 ⟨zz, hzz, rfl, hc6, hg6⟩
              have HG3 := hide (HG2.out.drawn hc6 hg6)
              have hzb : -1000000000 ≤ zz ∧ zz ≤ 1000000000000 := by (simp at hzz; omega)
              clear hc6 hg6 HOL hpl
              try go_simp
              refine hK.out _ _ ?_ (fun hHeld => ?_)
              · trivial
              clear hK K
              try simp only [Act.put, List.getElem_toArray, List.getElem_cons_zero, List.getElem_cons_succ, List.setIfInBounds_toArray, List.set_cons_zero, List.set_cons_succ]
              refine wpAnyH_ready (rs := [5]) (by kernel_rfl) (by simp) ?_
              refine AllReadyH.cons rfl (fun K hK => ?_) ?_
              · have HG4 := hide (HG3.out.grow (.cells #[.int .i64 zz] 3))
                rw [if_pos (by rfl)]
                go_simp
                refine hK.out _ _ ?_ (fun hHeld => ?_)
                · trivial
                clear hK K
                try simp only [Act.put, List.getElem_toArray, List.getElem_cons_zero, List.getElem_cons_succ, List.setIfInBounds_toArray, List.set_cons_zero, List.set_cons_succ]
                refine wpAnyH_ready (rs := [6]) (by kernel_rfl) (by simp) ?_
                refine AllReadyH.cons rfl (fun K hK => ?_) ?_
                · refine step_push_at (by rfl) _ _ 24 (by rfl) Try.underlying24 infoIz (by rfl) (by rfl) HG4.out.l (by rfl) (by rfl) (heap_alloc_new _ _) (by simp [Value.oneCell']) HG4.out.gr.size (by unfold maxLen; omega) (by omega) ?_
                  intro v8 w98 ho8 hg8 hor8
                  obtain ⟨ov8, cv8, hv8⟩ := row_form ho8
                  subst hv8
                  have HG5 := hide (HG4.out.pushL (by rw [← icells_snoc]; exact ho8) hg8 hor8 (wf_snoc HG4.out.fl hzb))
                  clear ho8 hg8 hor8
                  refine hK.out _ _ ?_ (fun hHeld => ?_)
                  · trivial
                  clear hK K
                  try simp only [Act.put, List.getElem_toArray, List.getElem_cons_zero, List.getElem_cons_succ, List.setIfInBounds_toArray, List.set_cons_zero, List.set_cons_succ]
                  refine wpAnyH_take (i := 7) (v := ?_) rfl (by kernel_rfl) (by kernel_rfl) (by kernel_rfl) (fun _ _ _ h => h) (Or.inl ⟨by rfl, ?_⟩) (by assumption) ?_; rotate_left
                  · (intro w hSw; (try dsimp only at hSw); go_simp; first | done | with_reducible rfl)
                  try simp only [Act.put, List.getElem_toArray, List.getElem_cons_zero, List.getElem_cons_succ, List.setIfInBounds_toArray, List.set_cons_zero, List.set_cons_succ]
                  refine wpAnyH_ready (rs := [8]) (by kernel_rfl) (by simp) ?_
                  refine AllReadyH.cons rfl (fun K hK => ?_) ?_
                  · have hcd := HG5.out.e.ev.c5
                    have hfz := HG5.out.e.free 5
                    rw [if_pos (by rfl)]
                    go_simp
                    refine hK.out _ _ ?_ (fun hHeld => ?_)
                    · trivial
                    clear hK K
                    try simp only [Act.put, List.getElem_toArray, List.getElem_cons_zero, List.getElem_cons_succ, List.setIfInBounds_toArray, List.set_cons_zero, List.set_cons_succ]
                    clear hcd hfz
                    refine wpAnyH_done (by kernel_rfl) ?_ _
                    have HQ11 := hide (HG5.out.put (HG5.out.e.put5 (.slice ov8 (n + 1) cv8)))
                    clear HG5 HG4 HG3 HG2 HD32
                    generalize w98.setCell ⟨b, 5, none⟩ (.slice ov8 (n + 1) cv8) = vz at HQ11 ⊢
                    obtain ⟨t0, t1, t2, t3, t4, t5, t6, t7, t8⟩ := HQ11.out.e.ev
                    obtain ⟨q0, q1, q2, q3, q4, q5, q6, q7, q8⟩ := HQ11.out.r.ev
                    have y0 := HQ11.out.r.free 0
                    have y1 := HQ11.out.r.free 1
                    have y2 := HQ11.out.r.free 2
                    have y3 := HQ11.out.r.free 3
                    have y4 := HQ11.out.r.free 4
                    have y5 := HQ11.out.r.free 5
                    have y6 := HQ11.out.r.free 6
                    have y7 := HQ11.out.r.free 7
                    have y8 := HQ11.out.r.free 8
                    go_wp2_with fail
                    clear t0 q0 y0 t1 q1 y1 t2 q2 y2 t3 q3 y3 t4 q4 y4 t5 q5 y5 t6 q6 y6 t7 q7 y7 t8 q8 y8
                    obtain ⟨w6, hw6, hE6, hg6⟩ := HQ11.out.r.all ID kd sn us mb DP (.slice ov8 (n + 1) cv8) (.slice ob j cp) tx
                    try rw [show ((#[] : Array UInt8)) = ([] : List UInt8).toArray from rfl]
                    rw [hw6]
                    obtain ⟨c0, c1, c2, c3, c4, c5, c6, c7, c8⟩ := hE6.ev
                    refine bodyPost_ret (v := evval ID kd sn us mb DP (.slice ov8 (n + 1) cv8) (.slice ob j cp) tx) (by simp [results, Try.results23, go_sem, c0, c1, c2, c3, c4, c5, c6, c7, c8]) rfl ?_
                    exact DE.fin HQ11.out hg6 (by omega) (by omega) htx
                  exact AllReadyH.nil
                exact AllReadyH.nil
              exact AllReadyH.nil
            exact AllReadyH.nil
          exact AllReadyH.nil
        refine AllReadyH.cons rfl (fun K hK => ?_) ?_
        · have HG2 := hide ((HD32.out.grow (.cells #[.int .i64 (-1), .int .i64 100, .int .i64 101] 3)).drew)
          rw [if_pos (by rfl)]
          go_simp
          refine hK.out _ _ ?_ (fun hHeld => ?_)
          · trivial
          clear hK K
          try simp only [Act.put, List.getElem_toArray, List.getElem_cons_zero, List.getElem_cons_succ, List.setIfInBounds_toArray, List.set_cons_zero, List.set_cons_succ]
          refine wpAnyH_ready (rs := [1, 4]) (by kernel_rfl) (by simp) ?_
          refine AllReadyH.cons rfl (fun K hK => ?_) ?_
          · have hcd := HG2.out.e.ev.c5
            rw [if_pos (by rfl)]
            go_simp
            refine hK.out _ _ ?_ (fun hHeld => ?_)
            · trivial
            clear hK K
            try simp only [Act.put, List.getElem_toArray, List.getElem_cons_zero, List.getElem_cons_succ, List.setIfInBounds_toArray, List.set_cons_zero, List.set_cons_succ]
            clear hcd
            refine wpAnyH_ready (rs := [4]) (by kernel_rfl) (by simp) ?_
            refine AllReadyH.cons rfl (fun K hK => ?_) ?_
            · rw [if_pos (by rfl)]
              go_simp
              have HOL := hide (show (yw31.alloc (.cells #[.int .i64 (-1), .int .i64 100, .int .i64 101] 3)).drew.ownsRow yw31.heap.size 3 1 (.slice (some ⟨yw31.heap.size, 0, none⟩) 3 3) 3 (I64z [-1, 100, 101]) from World.ownsRow_lit (base := yw31.heap.size) (size := 1) yw31 #[.int .i64 (-1), .int .i64 100, .int .i64 101] 3 (Nat.le_refl _) (by decide) (by simp))
              have hpl := HD32.out.cur.lt
              go_at_call 50
              refine (l01PickInt_any B p a len cap yw31.heap.size _ [-1, 100, 101] (by simp) (by simp) _ hpl HOL.out HG2.out.cur).mono ?_
              rintro r w96 ⟨zz, hzz, rfl, hc6, hg6⟩
              have HG3 := hide (HG2.out.drawn hc6 hg6)
              have hzb : -1000000000 ≤ zz ∧ zz ≤ 1000000000000 := by (simp at hzz; omega)
              clear hc6 hg6 HOL hpl
              try go_simp
              refine hK.out _ _ ?_ (fun hHeld => ?_)
              · trivial
              clear hK K
              try simp only [Act.put, List.getElem_toArray, List.getElem_cons_zero, List.getElem_cons_succ, List.setIfInBounds_toArray, List.set_cons_zero, List.set_cons_succ]
              refine wpAnyH_ready (rs := [5]) (by kernel_rfl) (by simp) ?_
              refine AllReadyH.cons rfl (fun K hK => ?_) ?_
              · have HG4 := hide (HG3.out.grow (.cells #[.int .i64 zz] 3))
                rw [if_pos (by rfl)]
                go_simp
                refine hK.out _ _ ?_ (fun hHeld => ?_)
                · trivial
                clear hK K
                try simp only [Act.put, List.getElem_toArray, List.getElem_cons_zero, List.getElem_cons_succ, List.setIfInBounds_toArray, List.set_cons_zero, List.set_cons_succ]
                refine wpAnyH_ready (rs := [6]) (by kernel_rfl) (by simp) ?_
                refine AllReadyH.cons rfl (fun K hK => ?_) ?_
                · refine step_push_at (by rfl) _ _ 24 (by rfl) Try.underlying24 infoIz (by rfl) (by rfl) HG4.out.l (by rfl) (by rfl) (heap_alloc_new _ _) (by simp [Value.oneCell']) HG4.out.gr.size (by unfold maxLen; omega) (by omega) ?_
                  intro v8 w98 ho8 hg8 hor8
                  obtain ⟨ov8, cv8, hv8⟩ := row_form ho8
                  subst hv8
                  have HG5 := hide (HG4.out.pushL (by rw [← icells_snoc]; exact ho8) hg8 hor8 (wf_snoc HG4.out.fl hzb))
                  clear ho8 hg8 hor8
                  refine hK.out _ _ ?_ (fun hHeld => ?_)
                  · trivial
                  clear hK K
                  try simp only [Act.put, List.getElem_toArray, List.getElem_cons_zero, List.getElem_cons_succ, List.setIfInBounds_toArray, List.set_cons_zero, List.set_cons_succ]
                  refine wpAnyH_take (i := 7) (v := ?_) rfl (by kernel_rfl) (by kernel_rfl) (by kernel_rfl) (fun _ _ _ h => h) (Or.inl ⟨by rfl, ?_⟩) (by assumption) ?_; rotate_left
                  · (intro w hSw; (try dsimp only at hSw); go_simp; first | done | with_reducible rfl)
                  try simp only [Act.put, List.getElem_toArray, List.getElem_cons_zero, List.getElem_cons_succ, List.setIfInBounds_toArray, List.set_cons_zero, List.set_cons_succ]
                  refine wpAnyH_ready (rs := [8]) (by kernel_rfl) (by simp) ?_
                  refine AllReadyH.cons rfl (fun K hK => ?_) ?_
                  · have hcd := HG5.out.e.ev.c5
                    have hfz := HG5.out.e.free 5
                    rw [if_pos (by rfl)]
                    go_simp
                    refine hK.out _ _ ?_ (fun hHeld => ?_)
                    · trivial
                    clear hK K
                    try simp only [Act.put, List.getElem_toArray, List.getElem_cons_zero, List.getElem_cons_succ, List.setIfInBounds_toArray, List.set_cons_zero, List.set_cons_succ]
                    clear hcd hfz
                    refine wpAnyH_done (by kernel_rfl) ?_ _
                    have HQ11 := hide (HG5.out.put (HG5.out.e.put5 (.slice ov8 (n + 1) cv8)))
                    clear HG5 HG4 HG3 HG2 HD32
                    generalize w98.setCell ⟨b, 5, none⟩ (.slice ov8 (n + 1) cv8) = vz at HQ11 ⊢
                    obtain ⟨t0, t1, t2, t3, t4, t5, t6, t7, t8⟩ := HQ11.out.e.ev
                    obtain ⟨q0, q1, q2, q3, q4, q5, q6, q7, q8⟩ := HQ11.out.r.ev
                    have y0 := HQ11.out.r.free 0
                    have y1 := HQ11.out.r.free 1
                    have y2 := HQ11.out.r.free 2
                    have y3 := HQ11.out.r.free 3
                    have y4 := HQ11.out.r.free 4
                    have y5 := HQ11.out.r.free 5
                    have y6 := HQ11.out.r.free 6
                    have y7 := HQ11.out.r.free 7
                    have y8 := HQ11.out.r.free 8
                    go_wp2_with fail
                    clear t0 q0 y0 t1 q1 y1 t2 q2 y2 t3 q3 y3 t4 q4 y4 t5 q5 y5 t6 q6 y6 t7 q7 y7 t8 q8 y8
                    obtain ⟨w6, hw6, hE6, hg6⟩ := HQ11.out.r.all ID kd sn us mb DP (.slice ov8 (n + 1) cv8) (.slice ob j cp) tx
                    try rw [show ((#[] : Array UInt8)) = ([] : List UInt8).toArray from rfl]
                    rw [hw6]
                    obtain ⟨c0, c1, c2, c3, c4, c5, c6, c7, c8⟩ := hE6.ev
                    refine bodyPost_ret (v := evval ID kd sn us mb DP (.slice ov8 (n + 1) cv8) (.slice ob j cp) tx) (by simp [results, Try.results23, go_sem, c0, c1, c2, c3, c4, c5, c6, c7, c8]) rfl ?_
                    exact DE.fin HQ11.out hg6 (by omega) (by omega) htx
                  exact AllReadyH.nil
                exact AllReadyH.nil
              exact AllReadyH.nil
            exact AllReadyH.nil
          refine AllReadyH.cons rfl (fun K hK => ?_) ?_
          · rw [if_pos (by rfl)]
            go_simp
            have HOL := hide (show (yw31.alloc (.cells #[.int .i64 (-1), .int .i64 100, .int .i64 101] 3)).drew.ownsRow yw31.heap.size 3 1 (.slice (some ⟨yw31.heap.size, 0, none⟩) 3 3) 3 (I64z [-1, 100, 101]) from World.ownsRow_lit (base := yw31.heap.size) (size := 1) yw31 #[.int .i64 (-1), .int .i64 100, .int .i64 101] 3 (Nat.le_refl _) (by decide) (by simp))
            have hpl := HD32.out.cur.lt
            go_at_call 50
            refine (l01PickInt_any B p a len cap yw31.heap.size _ [-1, 100, 101] (by simp) (by simp) _ hpl HOL.out HG2.out.cur).mono ?_
            rintro r w96 ⟨zz, hzz, rfl, hc6, hg6⟩
            have HG3 := hide (HG2.out.drawn hc6 hg6)
            have hzb : -1000000000 ≤ zz ∧ zz ≤ 1000000000000 := by (simp at hzz; omega)
            clear hc6 hg6 HOL hpl
            try go_simp
            refine hK.out _ _ ?_ (fun hHeld => ?_)
            · trivial
            clear hK K
            try simp only [Act.put, List.getElem_toArray, List.getElem_cons_zero, List.getElem_cons_succ, List.setIfInBounds_toArray, List.set_cons_zero, List.set_cons_succ]
            refine wpAnyH_ready (rs := [1, 5]) (by kernel_rfl) (by simp) ?_
            refine AllReadyH.cons rfl (fun K hK => ?_) ?_
            · have hcd := HG3.out.e.ev.c5
              rw [if_pos (by rfl)]
              go_simp
              refine hK.out _ _ ?_ (fun hHeld => ?_)
              · trivial
              clear hK K
              try simp only [Act.put, List.getElem_toArray, List.getElem_cons_zero, List.getElem_cons_succ, List.setIfInBounds_toArray, List.set_cons_zero, List.set_cons_succ]
              clear hcd
              refine wpAnyH_ready (rs := [5]) (by kernel_rfl) (by simp) ?_
              refine AllReadyH.cons rfl (fun K hK => ?_) ?_
              · have HG4 := hide (HG3.out.grow (.cells #[.int .i64 zz] 3))
                rw [if_pos (by rfl)]
                go_simp
                refine hK.out _ _ ?_ (fun hHeld => ?_)
                · trivial
                clear hK K
                try simp only [Act.put, List.getElem_toArray, List.getElem_cons_zero, List.getElem_cons_succ, List.setIfInBounds_toArray, List.set_cons_zero, List.set_cons_succ]
                refine wpAnyH_ready (rs := [6]) (by kernel_rfl) (by simp) ?_
                refine AllReadyH.cons rfl (fun K hK => ?_) ?_
                · refine step_push_at (by rfl) _ _ 24 (by rfl) Try.underlying24 infoIz (by rfl) (by rfl) HG4.out.l (by rfl) (by rfl) (heap_alloc_new _ _) (by simp [Value.oneCell']) HG4.out.gr.size (by unfold maxLen; omega) (by omega) ?_
                  intro v8 w98 ho8 hg8 hor8
                  obtain ⟨ov8, cv8, hv8⟩ := row_form ho8
                  subst hv8
                  have HG5 := hide (HG4.out.pushL (by rw [← icells_snoc]; exact ho8) hg8 hor8 (wf_snoc HG4.out.fl hzb))
                  clear ho8 hg8 hor8
                  refine hK.out _ _ ?_ (fun hHeld => ?_)
                  · trivial
                  clear hK K
                  try simp only [Act.put, List.getElem_toArray, List.getElem_cons_zero, List.getElem_cons_succ, List.setIfInBounds_toArray, List.set_cons_zero, List.set_cons_succ]
                  refine wpAnyH_take (i := 7) (v := ?_) rfl (by kernel_rfl) (by kernel_rfl) (by kernel_rfl) (fun _ _ _ h => h) (Or.inl ⟨by rfl, ?_⟩) (by assumption) ?_; rotate_left
                  · (intro w hSw; (try dsimp only at hSw); go_simp; first | done | with_reducible rfl)
                  try simp only [Act.put, List.getElem_toArray, List.getElem_cons_zero, List.getElem_cons_succ, List.setIfInBounds_toArray, List.set_cons_zero, List.set_cons_succ]
                  refine wpAnyH_ready (rs := [8]) (by kernel_rfl) (by simp) ?_
                  refine AllReadyH.cons rfl (fun K hK => ?_) ?_
                  · have hcd := HG5.out.e.ev.c5
                    have hfz := HG5.out.e.free 5
                    rw [if_pos (by rfl)]
                    go_simp
                    refine hK.out _ _ ?_ (fun hHeld => ?_)
                    · trivial
                    clear hK K
                    try simp only [Act.put, List.getElem_toArray, List.getElem_cons_zero, List.getElem_cons_succ, List.setIfInBounds_toArray, List.set_cons_zero, List.set_cons_succ]
                    clear hcd hfz
                    refine wpAnyH_done (by kernel_rfl) ?_ _
                    have HQ11 := hide (HG5.out.put (HG5.out.e.put5 (.slice ov8 (n + 1) cv8)))
                    clear HG5 HG4 HG3 HG2 HD32
                    generalize w98.setCell ⟨b, 5, none⟩ (.slice ov8 (n + 1) cv8) = vz at HQ11 ⊢
                    obtain ⟨t0, t1, t2, t3, t4, t5, t6, t7, t8⟩ := HQ11.out.e.ev
                    obtain ⟨q0, q1, q2, q3, q4, q5, q6, q7, q8⟩ := HQ11.out.r.ev
                    have y0 := HQ11.out.r.free 0
                    have y1 := HQ11.out.r.free 1
                    have y2 := HQ11.out.r.free 2
                    have y3 := HQ11.out.r.free 3
                    have y4 := HQ11.out.r.free 4
                    have y5 := HQ11.out.r.free 5
                    have y6 := HQ11.out.r.free 6
                    have y7 := HQ11.out.r.free 7
                    have y8 := HQ11.out.r.free 8
                    go_wp2_with fail
                    clear t0 q0 y0 t1 q1 y1 t2 q2 y2 t3 q3 y3 t4 q4 y4 t5 q5 y5 t6 q6 y6 t7 q7 y7 t8 q8 y8
                    obtain ⟨w6, hw6, hE6, hg6⟩ := HQ11.out.r.all ID kd sn us mb DP (.slice ov8 (n + 1) cv8) (.slice ob j cp) tx
                    try rw [show ((#[] : Array UInt8)) = ([] : List UInt8).toArray from rfl]
                    rw [hw6]
                    obtain ⟨c0, c1, c2, c3, c4, c5, c6, c7, c8⟩ := hE6.ev
                    refine bodyPost_ret (v := evval ID kd sn us mb DP (.slice ov8 (n + 1) cv8) (.slice ob j cp) tx) (by simp [results, Try.results23, go_sem, c0, c1, c2, c3, c4, c5, c6, c7, c8]) rfl ?_
                    exact DE.fin HQ11.out hg6 (by omega) (by omega) htx
                  exact AllReadyH.nil
                exact AllReadyH.nil
              exact AllReadyH.nil
            refine AllReadyH.cons rfl (fun K hK => ?_) ?_
            · have HG4 := hide (HG3.out.grow (.cells #[.int .i64 zz] 3))
              rw [if_pos (by rfl)]
              go_simp
              refine hK.out _ _ ?_ (fun hHeld => ?_)
              · trivial
              clear hK K
              try simp only [Act.put, List.getElem_toArray, List.getElem_cons_zero, List.getElem_cons_succ, List.setIfInBounds_toArray, List.set_cons_zero, List.set_cons_succ]
              refine wpAnyH_ready (rs := [1]) (by kernel_rfl) (by simp) ?_
              refine AllReadyH.cons rfl (fun K hK => ?_) ?_
              · have hcd := HG4.out.e.ev.c5
                rw [if_pos (by rfl)]
                go_simp
                refine hK.out _ _ ?_ (fun hHeld => ?_)
                · trivial
                clear hK K
                try simp only [Act.put, List.getElem_toArray, List.getElem_cons_zero, List.getElem_cons_succ, List.setIfInBounds_toArray, List.set_cons_zero, List.set_cons_succ]
                clear hcd
                refine wpAnyH_ready (rs := [6]) (by kernel_rfl) (by simp) ?_
                refine AllReadyH.cons rfl (fun K hK => ?_) ?_
                · refine step_push_at (by rfl) _ _ 24 (by rfl) Try.underlying24 infoIz (by rfl) (by rfl) HG4.out.l (by rfl) (by rfl) (heap_alloc_new _ _) (by simp [Value.oneCell']) HG4.out.gr.size (by unfold maxLen; omega) (by omega) ?_
                  intro v8 w98 ho8 hg8 hor8
                  obtain ⟨ov8, cv8, hv8⟩ := row_form ho8
                  subst hv8
                  have HG5 := hide (HG4.out.pushL (by rw [← icells_snoc]; exact ho8) hg8 hor8 (wf_snoc HG4.out.fl hzb))
                  clear ho8 hg8 hor8
                  refine hK.out _ _ ?_ (fun hHeld => ?_)
                  · trivial
                  clear hK K
                  try simp only [Act.put, List.getElem_toArray, List.getElem_cons_zero, List.getElem_cons_succ, List.setIfInBounds_toArray, List.set_cons_zero, List.set_cons_succ]
                  refine wpAnyH_take (i := 7) (v := ?_) rfl (by kernel_rfl) (by kernel_rfl) (by kernel_rfl) (fun _ _ _ h => h) (Or.inl ⟨by rfl, ?_⟩) (by assumption) ?_; rotate_left
                  · (intro w hSw; (try dsimp only at hSw); go_simp; first | done | with_reducible rfl)
                  try simp only [Act.put, List.getElem_toArray, List.getElem_cons_zero, List.getElem_cons_succ, List.setIfInBounds_toArray, List.set_cons_zero, List.set_cons_succ]
                  refine wpAnyH_ready (rs := [8]) (by kernel_rfl) (by simp) ?_
                  refine AllReadyH.cons rfl (fun K hK => ?_) ?_
                  · have hcd := HG5.out.e.ev.c5
                    have hfz := HG5.out.e.free 5
                    rw [if_pos (by rfl)]
                    go_simp
                    refine hK.out _ _ ?_ (fun hHeld => ?_)
                    · trivial
                    clear hK K
                    try simp only [Act.put, List.getElem_toArray, List.getElem_cons_zero, List.getElem_cons_succ, List.setIfInBounds_toArray, List.set_cons_zero, List.set_cons_succ]
                    clear hcd hfz
                    refine wpAnyH_done (by kernel_rfl) ?_ _
                    have HQ11 := hide (HG5.out.put (HG5.out.e.put5 (.slice ov8 (n + 1) cv8)))
                    clear HG5 HG4 HG3 HG2 HD32
                    generalize w98.setCell ⟨b, 5, none⟩ (.slice ov8 (n + 1) cv8) = vz at HQ11 ⊢
                    obtain ⟨t0, t1, t2, t3, t4, t5, t6, t7, t8⟩ := HQ11.out.e.ev
                    obtain ⟨q0, q1, q2, q3, q4, q5, q6, q7, q8⟩ := HQ11.out.r.ev
                    have y0 := HQ11.out.r.free 0
                    have y1 := HQ11.out.r.free 1
                    have y2 := HQ11.out.r.free 2
                    have y3 := HQ11.out.r.free 3
                    have y4 := HQ11.out.r.free 4
                    have y5 := HQ11.out.r.free 5
                    have y6 := HQ11.out.r.free 6
                    have y7 := HQ11.out.r.free 7
                    have y8 := HQ11.out.r.free 8
                    go_wp2_with fail
                    clear t0 q0 y0 t1 q1 y1 t2 q2 y2 t3 q3 y3 t4 q4 y4 t5 q5 y5 t6 q6 y6 t7 q7 y7 t8 q8 y8
                    obtain ⟨w6, hw6, hE6, hg6⟩ := HQ11.out.r.all ID kd sn us mb DP (.slice ov8 (n + 1) cv8) (.slice ob j cp) tx
                    try rw [show ((#[] : Array UInt8)) = ([] : List UInt8).toArray from rfl]
                    rw [hw6]
                    obtain ⟨c0, c1, c2, c3, c4, c5, c6, c7, c8⟩ := hE6.ev
                    refine bodyPost_ret (v := evval ID kd sn us mb DP (.slice ov8 (n + 1) cv8) (.slice ob j cp) tx) (by simp [results, Try.results23, go_sem, c0, c1, c2, c3, c4, c5, c6, c7, c8]) rfl ?_
                    exact DE.fin HQ11.out hg6 (by omega) (by omega) htx
                  exact AllReadyH.nil
                exact AllReadyH.nil
              exact AllReadyH.nil
            exact AllReadyH.nil
          exact AllReadyH.nil
        exact AllReadyH.nil
      · go_wp2_with fail
        refine (l01Below_any B p a len cap 2 (by omega) (by omega) _ HD32.out.cur).mono ?_
        rintro e yw33 ⟨y5, hy5, rfl, hcq, hgq⟩
        have HD34 := hide (HD32.out.drawn hcq hgq)
        clear hcq hgq HD32
        go_wp2_with fail
        refine (l01Long_65 y5 hy5 _).mono ?_
        rintro e ylw ⟨tt, htt, rfl, hbl⟩
        have HDL := hide (HD34.out.on hbl)
        clear hbl HD34
        obtain ⟨e0, e1, e2, e3, e4, e5, e6, e7, e8⟩ := HDL.out.e.ev
        have fk := HDL.out.e.free 6
        have HD35 := hide (HDL.out.put (HDL.out.e.put6 tt))
        obtain ⟨t0, t1, t2, t3, t4, t5, t6, t7, t8⟩ := HD35.out.e.ev
        obtain ⟨q0, q1, q2, q3, q4, q5, q6, q7, q8⟩ := HD35.out.r.ev
        have y0 := HD35.out.r.free 0
        have y1 := HD35.out.r.free 1
        have y2 := HD35.out.r.free 2
        have y3 := HD35.out.r.free 3
        have y4 := HD35.out.r.free 4
        have y5 := HD35.out.r.free 5
        have y6 := HD35.out.r.free 6
        have y7 := HD35.out.r.free 7
        have y8 := HD35.out.r.free 8
        go_wp2_with fail
        clear e0 e1 e2 e3 e4 e5 e6 e7 e8 fk t0 q0 y0 t1 q1 y1 t2 q2 y2 t3 q3 y3 t4 q4 y4 t5 q5 y5 t6 q6 y6 t7 q7 y7 t8 q8 y8
        generalize ylw.setCell ⟨b, 6, none⟩ (.string ⟨tt.toArray⟩) = vw36 at HD35 ⊢
        obtain ⟨w6, hw6, hE6, hg6⟩ := HD35.out.r.all ID kd sn us mb DP (.slice oa n cl) (.slice ob j cp) tt
        try rw [show ((#[] : Array UInt8)) = ([] : List UInt8).toArray from rfl]
        rw [hw6]
        obtain ⟨c0, c1, c2, c3, c4, c5, c6, c7, c8⟩ := hE6.ev
        refine bodyPost_ret (v := evval ID kd sn us mb DP (.slice oa n cl) (.slice ob j cp) tt) (by simp [results, Try.results23, go_sem, c0, c1, c2, c3, c4, c5, c6, c7, c8]) rfl ?_
        exact DE.fin HD35.out hg6 (by omega) (by omega) htt
      · go_wp2_with fail
        refine wp_region_held_drew (S := fun _ => True) (by kernel_rfl) trivial (fun hHeld => ?_)
        refine wpAnyH_take (i := 0) (v := ?_) rfl (by kernel_rfl) (by kernel_rfl) (by kernel_rfl) (fun _ _ _ h => h) (Or.inl ⟨by rfl, ?_⟩) (by assumption) ?_; rotate_left
        · (intro w hSw; (try dsimp only at hSw); go_simp; first | done | with_reducible rfl)
        try simp only [Act.put, List.getElem_toArray, List.getElem_cons_zero, List.getElem_cons_succ, List.setIfInBounds_toArray, List.set_cons_zero, List.set_cons_succ]
        refine wpAnyH_take (i := 2) (v := ?_) rfl (by kernel_rfl) (by kernel_rfl) (by kernel_rfl) (fun _ _ _ h => h) (Or.inl ⟨by rfl, ?_⟩) (by assumption) ?_; rotate_left
        · (intro w hSw; (try dsimp only at hSw); go_simp; first | done | with_reducible rfl)
        try simp only [Act.put, List.getElem_toArray, List.getElem_cons_zero, List.getElem_cons_succ, List.setIfInBounds_toArray, List.set_cons_zero, List.set_cons_succ]
        refine wpAnyH_take (i := 3) (v := ?_) rfl (by kernel_rfl) (by kernel_rfl) (by kernel_rfl) (fun _ _ _ h => h) (Or.inl ⟨by rfl, ?_⟩) (by assumption) ?_; rotate_left
        · (intro w hSw; (try dsimp only at hSw); go_simp; first | done | with_reducible rfl)
        try simp only [Act.put, List.getElem_toArray, List.getElem_cons_zero, List.getElem_cons_succ, List.setIfInBounds_toArray, List.set_cons_zero, List.set_cons_succ]
        refine wpAnyH_ready (rs := [1, 4]) (by kernel_rfl) (by simp) ?_
        refine AllReadyH.cons rfl (fun K hK => ?_) ?_
        · have hcd := HD32.out.e.ev.c7
          rw [if_pos (by rfl)]
          go_simp
          refine hK.out _ _ ?_ (fun hHeld => ?_)
          · trivial
          clear hK K
          try simp only [Act.put, List.getElem_toArray, List.getElem_cons_zero, List.getElem_cons_succ, List.setIfInBounds_toArray, List.set_cons_zero, List.set_cons_succ]
          clear hcd
          refine wpAnyH_ready (rs := [4]) (by kernel_rfl) (by simp) ?_
          refine AllReadyH.cons rfl (fun K hK => ?_) ?_
          · have hcd := HD32.out.e.ev.c0
            rw [if_pos (by rfl)]
            go_simp
            refine hK.out _ _ ?_ (fun hHeld => ?_)
            · trivial
            clear hK K
            try simp only [Act.put, List.getElem_toArray, List.getElem_cons_zero, List.getElem_cons_succ, List.setIfInBounds_toArray, List.set_cons_zero, List.set_cons_succ]
            clear hcd
            refine wpAnyH_ready (rs := [5]) (by kernel_rfl) (by simp) ?_
            refine AllReadyH.cons rfl (fun K hK => ?_) ?_
            · have HG2 := hide ((HD32.out.grow (.cells #[.int .i64 0, .int .i64 99, .int .i64 ID, .int .i64 1000000, .int .i64 1000001] 3)).drew)
              rw [if_pos (by rfl)]
              go_simp
              refine hK.out _ _ ?_ (fun hHeld => ?_)
              · trivial
              clear hK K
              try simp only [Act.put, List.getElem_toArray, List.getElem_cons_zero, List.getElem_cons_succ, List.setIfInBounds_toArray, List.set_cons_zero, List.set_cons_succ]
              refine wpAnyH_ready (rs := [6]) (by kernel_rfl) (by simp) ?_
              refine AllReadyH.cons rfl (fun K hK => ?_) ?_
              · rw [if_pos (by rfl)]
                go_simp
                have HOL := hide (show (yw31.alloc (.cells #[.int .i64 0, .int .i64 99, .int .i64 ID, .int .i64 1000000, .int .i64 1000001] 3)).drew.ownsRow yw31.heap.size 3 1 (.slice (some ⟨yw31.heap.size, 0, none⟩) 5 5) 5 (I64z [0, 99, ID, 1000000, 1000001]) from World.ownsRow_lit (base := yw31.heap.size) (size := 1) yw31 #[.int .i64 0, .int .i64 99, .int .i64 ID, .int .i64 1000000, .int .i64 1000001] 5 (Nat.le_refl _) (by decide) (by simp))
                have hpl := HD32.out.cur.lt
                go_at_call 50
                refine (l01PickInt_any B p a len cap yw31.heap.size _ [0, 99, ID, 1000000, 1000001] (by simp) (by simp) _ hpl HOL.out HG2.out.cur).mono ?_
                rintro r w96 ⟨zz, hzz, rfl, hc6, hg6⟩
                have HG3 := hide (HG2.out.drawn hc6 hg6)
                have hzb : -1000000000 ≤ zz ∧ zz ≤ 1000000000000 := by (simp at hzz; omega)
                clear hc6 hg6 HOL hpl
                try go_simp
                refine hK.out _ _ ?_ (fun hHeld => ?_)
                · trivial
                clear hK K
                try simp only [Act.put, List.getElem_toArray, List.getElem_cons_zero, List.getElem_cons_succ, List.setIfInBounds_toArray, List.set_cons_zero, List.set_cons_succ]
                refine wpAnyH_ready (rs := [7]) (by kernel_rfl) (by simp) ?_
                refine AllReadyH.cons rfl (fun K hK => ?_) ?_
                · have HG4 := hide (HG3.out.grow (.cells #[.int .i64 zz] 3))
                  rw [if_pos (by rfl)]
                  go_simp
                  refine hK.out _ _ ?_ (fun hHeld => ?_)
                  · trivial
                  clear hK K
                  try simp only [Act.put, List.getElem_toArray, List.getElem_cons_zero, List.getElem_cons_succ, List.setIfInBounds_toArray, List.set_cons_zero, List.set_cons_succ]
                  refine wpAnyH_ready (rs := [8]) (by kernel_rfl) (by simp) ?_
                  refine AllReadyH.cons rfl (fun K hK => ?_) ?_
                  · refine step_push_at (by rfl) _ _ 24 (by rfl) Try.underlying24 infoIz (by rfl) (by rfl) HG4.out.q (by rfl) (by rfl) (heap_alloc_new _ _) (by simp [Value.oneCell']) HG4.out.gr.size (by unfold maxLen; omega) (by omega) ?_
                    intro v8 w98 ho8 hg8 hor8
                    obtain ⟨ov8, cv8, hv8⟩ := row_form ho8
                    subst hv8
                    have HG5 := hide (HG4.out.pushP (by rw [← icells_snoc]; exact ho8) hg8 hor8 (wf_snoc HG4.out.fp hzb))
                    clear ho8 hg8 hor8
                    refine hK.out _ _ ?_ (fun hHeld => ?_)
                    · trivial
                    clear hK K
                    try simp only [Act.put, List.getElem_toArray, List.getElem_cons_zero, List.getElem_cons_succ, List.setIfInBounds_toArray, List.set_cons_zero, List.set_cons_succ]
                    refine wpAnyH_take (i := 9) (v := ?_) rfl (by kernel_rfl) (by kernel_rfl) (by kernel_rfl) (fun _ _ _ h => h) (Or.inl ⟨by rfl, ?_⟩) (by assumption) ?_; rotate_left
                    · (intro w hSw; (try dsimp only at hSw); go_simp; first | done | with_reducible rfl)
                    try simp only [Act.put, List.getElem_toArray, List.getElem_cons_zero, List.getElem_cons_succ, List.setIfInBounds_toArray, List.set_cons_zero, List.set_cons_succ]
                    refine wpAnyH_ready (rs := [10]) (by kernel_rfl) (by simp) ?_
                    refine AllReadyH.cons rfl (fun K hK => ?_) ?_
                    · have hcd := HG5.out.e.ev.c7
                      have hfz := HG5.out.e.free 7
                      rw [if_pos (by rfl)]
                      go_simp
                      refine hK.out _ _ ?_ (fun hHeld => ?_)
                      · trivial
                      clear hK K
                      try simp only [Act.put, List.getElem_toArray, List.getElem_cons_zero, List.getElem_cons_succ, List.setIfInBounds_toArray, List.set_cons_zero, List.set_cons_succ]
                      clear hcd hfz
                      refine wpAnyH_done (by kernel_rfl) ?_ _
                      have HQ11 := hide (HG5.out.put (HG5.out.e.put7 (.slice ov8 (j + 1) cv8)))
                      clear HG5 HG4 HG3 HG2 HD32
                      generalize w98.setCell ⟨b, 7, none⟩ (.slice ov8 (j + 1) cv8) = vz at HQ11 ⊢
                      obtain ⟨t0, t1, t2, t3, t4, t5, t6, t7, t8⟩ := HQ11.out.e.ev
                      obtain ⟨q0, q1, q2, q3, q4, q5, q6, q7, q8⟩ := HQ11.out.r.ev
                      have y0 := HQ11.out.r.free 0
                      have y1 := HQ11.out.r.free 1
                      have y2 := HQ11.out.r.free 2
                      have y3 := HQ11.out.r.free 3
                      have y4 := HQ11.out.r.free 4
                      have y5 := HQ11.out.r.free 5
                      have y6 := HQ11.out.r.free 6
                      have y7 := HQ11.out.r.free 7
                      have y8 := HQ11.out.r.free 8
                      go_wp2_with fail
                      clear t0 q0 y0 t1 q1 y1 t2 q2 y2 t3 q3 y3 t4 q4 y4 t5 q5 y5 t6 q6 y6 t7 q7 y7 t8 q8 y8
                      obtain ⟨w6, hw6, hE6, hg6⟩ := HQ11.out.r.all ID kd sn us mb DP (.slice oa n cl) (.slice ov8 (j + 1) cv8) tx
                      try rw [show ((#[] : Array UInt8)) = ([] : List UInt8).toArray from rfl]
                      rw [hw6]
                      obtain ⟨c0, c1, c2, c3, c4, c5, c6, c7, c8⟩ := hE6.ev
                      refine bodyPost_ret (v := evval ID kd sn us mb DP (.slice oa n cl) (.slice ov8 (j + 1) cv8) tx) (by simp [results, Try.results23, go_sem, c0, c1, c2, c3, c4, c5, c6, c7, c8]) rfl ?_
                      exact DE.fin HQ11.out hg6 (by omega) (by omega) htx
                    exact AllReadyH.nil
                  exact AllReadyH.nil
                exact AllReadyH.nil
              exact AllReadyH.nil
            exact AllReadyH.nil
          exact AllReadyH.nil
        refine AllReadyH.cons rfl (fun K hK => ?_) ?_
        · have hcd := HD32.out.e.ev.c0
          rw [if_pos (by rfl)]
          go_simp
          refine hK.out _ _ ?_ (fun hHeld => ?_)
          · trivial
          clear hK K
          try simp only [Act.put, List.getElem_toArray, List.getElem_cons_zero, List.getElem_cons_succ, List.setIfInBounds_toArray, List.set_cons_zero, List.set_cons_succ]
          clear hcd
          refine wpAnyH_ready (rs := [1, 5]) (by kernel_rfl) (by simp) ?_
          refine AllReadyH.cons rfl (fun K hK => ?_) ?_
          · have hcd := HD32.out.e.ev.c7
            rw [if_pos (by rfl)]
            go_simp
            refine hK.out _ _ ?_ (fun hHeld => ?_)
            · trivial
            clear hK K
            try simp only [Act.put, List.getElem_toArray, List.getElem_cons_zero, List.getElem_cons_succ, List.setIfInBounds_toArray, List.set_cons_zero, List.set_cons_succ]
            clear hcd
            refine wpAnyH_ready (rs := [5]) (by kernel_rfl) (by simp) ?_
            refine AllReadyH.cons rfl (fun K hK => ?_) ?_
            · have HG2 := hide ((HD32.out.grow (.cells #[.int .i64 0, .int .i64 99, .int .i64 ID, .int .i64 1000000, .int .i64 1000001] 3)).drew)
              rw [if_pos (by rfl)]
              go_simp
              refine hK.out _ _ ?_ (fun hHeld => ?_)
              · trivial
              clear hK K
              try simp only [Act.put, List.getElem_toArray, List.getElem_cons_zero, List.getElem_cons_succ, List.setIfInBounds_toArray, List.set_cons_zero, List.set_cons_succ]
              refine wpAnyH_ready (rs := [6]) (by kernel_rfl) (by simp) ?_
              refine AllReadyH.cons rfl (fun K hK => ?_) ?_
              · rw [if_pos (by rfl)]
                go_simp
                have HOL := hide (show (yw31.alloc (.cells #[.int .i64 0, .int .i64 99, .int .i64 ID, .int .i64 1000000, .int .i64 1000001] 3)).drew.ownsRow yw31.heap.size 3 1 (.slice (some ⟨yw31.heap.size, 0, none⟩) 5 5) 5 (I64z [0, 99, ID, 1000000, 1000001]) from World.ownsRow_lit (base := yw31.heap.size) (size := 1) yw31 #[.int .i64 0, .int .i64 99, .int .i64 ID, .int .i64 1000000, .int .i64 1000001] 5 (Nat.le_refl _) (by decide) (by simp))
                have hpl := HD32.out.cur.lt
                go_at_call 50
                refine (l01PickInt_any B p a len cap yw31.heap.size _ [0, 99, ID, 1000000, 1000001] (by simp) (by simp) _ hpl HOL.out HG2.out.cur).mono ?_
                rintro r w96 ⟨zz, hzz, rfl, hc6, hg6⟩
                have HG3 := hide (HG2.out.drawn hc6 hg6)
                have hzb : -1000000000 ≤ zz ∧ zz ≤ 1000000000000 := by (simp at hzz; omega)
                clear hc6 hg6 HOL hpl
                try go_simp
                refine hK.out _ _ ?_ (fun hHeld => ?_)
                · trivial
                clear hK K
                try simp only [Act.put, List.getElem_toArray, List.getElem_cons_zero, List.getElem_cons_succ, List.setIfInBounds_toArray, List.set_cons_zero, List.set_cons_succ]
                refine wpAnyH_ready (rs := [7]) (by kernel_rfl) (by simp) ?_
                refine AllReadyH.cons rfl (fun K hK => ?_) ?_
                · have HG4 := hide (HG3.out.grow (.cells #[.int .i64 zz] 3))
                  rw [if_pos (by rfl)]
                  go_simp
                  refine hK.out _ _ ?_ (fun hHeld => ?_)
                  · trivial
                  clear hK K
                  try simp only [Act.put, List.getElem_toArray, List.getElem_cons_zero, List.getElem_cons_succ, List.setIfInBounds_toArray, List.set_cons_zero, List.set_cons_succ]
                  refine wpAnyH_ready (rs := [8]) (by kernel_rfl) (by simp) ?_
                  refine AllReadyH.cons rfl (fun K hK => ?_) ?_
                  · refine step_push_at (by rfl) _ _ 24 (by rfl) Try.underlying24 infoIz (by rfl) (by rfl) HG4.out.q (by rfl) (by rfl) (heap_alloc_new _ _) (by simp [Value.oneCell']) HG4.out.gr.size (by unfold maxLen; omega) (by omega) ?_
                    intro v8 w98 ho8 hg8 hor8
                    obtain ⟨ov8, cv8, hv8⟩ := row_form ho8
                    subst hv8
                    have HG5 := hide (HG4.out.pushP (by rw [← icells_snoc]; exact ho8) hg8 hor8 (wf_snoc HG4.out.fp hzb))
                    clear ho8 hg8 hor8
                    refine hK.out _ _ ?_ (fun hHeld => ?_)
                    · trivial
                    clear hK K
                    try simp only [Act.put, List.getElem_toArray, List.getElem_cons_zero, List.getElem_cons_succ, List.setIfInBounds_toArray, List.set_cons_zero, List.set_cons_succ]
                    refine wpAnyH_take (i := 9) (v := ?_) rfl (by kernel_rfl) (by kernel_rfl) (by kernel_rfl) (fun _ _ _ h => h) (Or.inl ⟨by rfl, ?_⟩) (by assumption) ?_; rotate_left
                    · (intro w hSw; (try dsimp only at hSw); go_simp; first | done | with_reducible rfl)
                    try simp only [Act.put, List.getElem_toArray, List.getElem_cons_zero, List.getElem_cons_succ, List.setIfInBounds_toArray, List.set_cons_zero, List.set_cons_succ]
                    refine wpAnyH_ready (rs := [10]) (by kernel_rfl) (by simp) ?_
                    refine AllReadyH.cons rfl (fun K hK => ?_) ?_
                    · have hcd := HG5.out.e.ev.c7
                      have hfz := HG5.out.e.free 7
                      rw [if_pos (by rfl)]
                      go_simp
                      refine hK.out _ _ ?_ (fun hHeld => ?_)
                      · trivial
                      clear hK K
                      try simp only [Act.put, List.getElem_toArray, List.getElem_cons_zero, List.getElem_cons_succ, List.setIfInBounds_toArray, List.set_cons_zero, List.set_cons_succ]
                      clear hcd hfz
                      refine wpAnyH_done (by kernel_rfl) ?_ _
                      have HQ11 := hide (HG5.out.put (HG5.out.e.put7 (.slice ov8 (j + 1) cv8)))
                      clear HG5 HG4 HG3 HG2 HD32
                      generalize w98.setCell ⟨b, 7, none⟩ (.slice ov8 (j + 1) cv8) = vz at HQ11 ⊢
                      obtain ⟨t0, t1, t2, t3, t4, t5, t6, t7, t8⟩ := HQ11.out.e.ev
                      obtain ⟨q0, q1, q2, q3, q4, q5, q6, q7, q8⟩ := HQ11.out.r.ev
                      have y0 := HQ11.out.r.free 0
                      have y1 := HQ11.out.r.free 1
                      have y2 := HQ11.out.r.free 2
                      have y3 := HQ11.out.r.free 3
                      have y4 := HQ11.out.r.free 4
                      have y5 := HQ11.out.r.free 5
                      have y6 := HQ11.out.r.free 6
                      have y7 := HQ11.out.r.free 7
                      have y8 := HQ11.out.r.free 8
                      go_wp2_with fail
                      clear t0 q0 y0 t1 q1 y1 t2 q2 y2 t3 q3 y3 t4 q4 y4 t5 q5 y5 t6 q6 y6 t7 q7 y7 t8 q8 y8
                      obtain ⟨w6, hw6, hE6, hg6⟩ := HQ11.out.r.all ID kd sn us mb DP (.slice oa n cl) (.slice ov8 (j + 1) cv8) tx
                      try rw [show ((#[] : Array UInt8)) = ([] : List UInt8).toArray from rfl]
                      rw [hw6]
                      obtain ⟨c0, c1, c2, c3, c4, c5, c6, c7, c8⟩ := hE6.ev
                      refine bodyPost_ret (v := evval ID kd sn us mb DP (.slice oa n cl) (.slice ov8 (j + 1) cv8) tx) (by simp [results, Try.results23, go_sem, c0, c1, c2, c3, c4, c5, c6, c7, c8]) rfl ?_
                      exact DE.fin HQ11.out hg6 (by omega) (by omega) htx
                    exact AllReadyH.nil
                  exact AllReadyH.nil
                exact AllReadyH.nil
              exact AllReadyH.nil
            exact AllReadyH.nil
          refine AllReadyH.cons rfl (fun K hK => ?_) ?_
          · have HG2 := hide ((HD32.out.grow (.cells #[.int .i64 0, .int .i64 99, .int .i64 ID, .int .i64 1000000, .int .i64 1000001] 3)).drew)
            rw [if_pos (by rfl)]
            go_simp
            refine hK.out _ _ ?_ (fun hHeld => ?_)
            · trivial
            clear hK K
            try simp only [Act.put, List.getElem_toArray, List.getElem_cons_zero, List.getElem_cons_succ, List.setIfInBounds_toArray, List.set_cons_zero, List.set_cons_succ]
            refine wpAnyH_ready (rs := [1, 6]) (by kernel_rfl) (by simp) ?_
            refine AllReadyH.cons rfl (fun K hK => ?_) ?_
            · have hcd := HG2.out.e.ev.c7
              rw [if_pos (by rfl)]
              go_simp
              refine hK.out _ _ ?_ (fun hHeld => ?_)
              · trivial
              clear hK K
              try simp only [Act.put, List.getElem_toArray, List.getElem_cons_zero, List.getElem_cons_succ, List.setIfInBounds_toArray, List.set_cons_zero, List.set_cons_succ]
              clear hcd
              refine wpAnyH_ready (rs := [6]) (by kernel_rfl) (by simp) ?_
              refine AllReadyH.cons rfl (fun K hK => ?_) ?_
              · rw [if_pos (by rfl)]
                go_simp
                have HOL := hide (show (yw31.alloc (.cells #[.int .i64 0, .int .i64 99, .int .i64 ID, .int .i64 1000000, .int .i64 1000001] 3)).drew.ownsRow yw31.heap.size 3 1 (.slice (some ⟨yw31.heap.size, 0, none⟩) 5 5) 5 (I64z [0, 99, ID, 1000000, 1000001]) from World.ownsRow_lit (base := yw31.heap.size) (size := 1) yw31 #[.int .i64 0, .int .i64 99, .int .i64 ID, .int .i64 1000000, .int .i64 1000001] 5 (Nat.le_refl _) (by decide) (by simp))
                have hpl := HD32.out.cur.lt
                go_at_call 50
                refine (l01PickInt_any B p a len cap yw31.heap.size _ [0, 99, ID, 1000000, 1000001] (by simp) (by simp) _ hpl HOL.out HG2.out.cur).mono ?_
                rintro r w96 ⟨zz, hzz, rfl, hc6, hg6⟩
                have HG3 := hide (HG2.out.drawn hc6 hg6)
                have hzb : -1000000000 ≤ zz ∧ zz ≤ 1000000000000 := by (simp at hzz; omega)
                clear hc6 hg6 HOL hpl
                try go_simp
                refine hK.out _ _ ?_ (fun hHeld => ?_)
                · trivial
                clear hK K
                try simp only [Act.put, List.getElem_toArray, List.getElem_cons_zero, List.getElem_cons_succ, List.setIfInBounds_toArray, List.set_cons_zero, List.set_cons_succ]
                refine wpAnyH_ready (rs := [7]) (by kernel_rfl) (by simp) ?_
                refine AllReadyH.cons rfl (fun K hK => ?_) ?_
                · have HG4 := hide (HG3.out.grow (.cells #[.int .i64 zz] 3))
                  rw [if_pos (by rfl)]
                  go_simp
                  refine hK.out _ _ ?_ (fun hHeld => ?_)
                  · trivial
                  clear hK K
                  try simp only [Act.put, List.getElem_toArray, List.getElem_cons_zero, List.getElem_cons_succ, List.setIfInBounds_toArray, List.set_cons_zero, List.set_cons_succ]
                  refine wpAnyH_ready (rs := [8]) (by kernel_rfl) (by simp) ?_
                  refine AllReadyH.cons rfl (fun K hK => ?_) ?_
                  · refine step_push_at (by rfl) _ _ 24 (by rfl) Try.underlying24 infoIz (by rfl) (by rfl) HG4.out.q (by rfl) (by rfl) (heap_alloc_new _ _) (by simp [Value.oneCell']) HG4.out.gr.size (by unfold maxLen; omega) (by omega) ?_
                    intro v8 w98 ho8 hg8 hor8
                    obtain ⟨ov8, cv8, hv8⟩ := row_form ho8
                    subst hv8
                    have HG5 := hide (HG4.out.pushP (by rw [← icells_snoc]; exact ho8) hg8 hor8 (wf_snoc HG4.out.fp hzb))
                    clear ho8 hg8 hor8
                    refine hK.out _ _ ?_ (fun hHeld => ?_)
                    · trivial
                    clear hK K
                    try simp only [Act.put, List.getElem_toArray, List.getElem_cons_zero, List.getElem_cons_succ, List.setIfInBounds_toArray, List.set_cons_zero, List.set_cons_succ]
                    refine wpAnyH_take (i := 9) (v := ?_) rfl (by kernel_rfl) (by kernel_rfl) (by kernel_rfl) (fun _ _ _ h => h) (Or.inl ⟨by rfl, ?_⟩) (by assumption) ?_; rotate_left
                    · (intro w hSw; (try dsimp only at hSw); go_simp; first | done | with_reducible rfl)
                    try simp only [Act.put, List.getElem_toArray, List.getElem_cons_zero, List.getElem_cons_succ, List.setIfInBounds_toArray, List.set_cons_zero, List.set_cons_succ]
                    refine wpAnyH_ready (rs := [10]) (by kernel_rfl) (by simp) ?_
                    refine AllReadyH.cons rfl (fun K hK => ?_) ?_
                    · have hcd := HG5.out.e.ev.c7
                      have hfz := HG5.out.e.free 7
                      rw [if_pos (by rfl)]
                      go_simp
                      refine hK.out _ _ ?_ (fun hHeld => ?_)
                      · trivial
                      clear hK K
                      try simp only [Act.put, List.getElem_toArray, List.getElem_cons_zero, List.getElem_cons_succ, List.setIfInBounds_toArray, List.set_cons_zero, List.set_cons_succ]
                      clear hcd hfz
                      refine wpAnyH_done (by kernel_rfl) ?_ _
                      have HQ11 := hide (HG5.out.put (HG5.out.e.put7 (.slice ov8 (j + 1) cv8)))
                      clear HG5 HG4 HG3 HG2 HD32
                      generalize w98.setCell ⟨b, 7, none⟩ (.slice ov8 (j + 1) cv8) = vz at HQ11 ⊢
                      obtain ⟨t0, t1, t2, t3, t4, t5, t6, t7, t8⟩ := HQ11.out.e.ev
                      obtain ⟨q0, q1, q2, q3, q4, q5, q6, q7, q8⟩ := HQ11.out.r.ev
                      have y0 := HQ11.out.r.free 0
                      have y1 := HQ11.out.r.free 1
                      have y2 := HQ11.out.r.free 2
                      have y3 := HQ11.out.r.free 3
                      have y4 := HQ11.out.r.free 4
                      have y5 := HQ11.out.r.free 5
                      have y6 := HQ11.out.r.free 6
                      have y7 := HQ11.out.r.free 7
                      have y8 := HQ11.out.r.free 8
                      go_wp2_with fail
                      clear t0 q0 y0 t1 q1 y1 t2 q2 y2 t3 q3 y3 t4 q4 y4 t5 q5 y5 t6 q6 y6 t7 q7 y7 t8 q8 y8
                      obtain ⟨w6, hw6, hE6, hg6⟩ := HQ11.out.r.all ID kd sn us mb DP (.slice oa n cl) (.slice ov8 (j + 1) cv8) tx
                      try rw [show ((#[] : Array UInt8)) = ([] : List UInt8).toArray from rfl]
                      rw [hw6]
                      obtain ⟨c0, c1, c2, c3, c4, c5, c6, c7, c8⟩ := hE6.ev
                      refine bodyPost_ret (v := evval ID kd sn us mb DP (.slice oa n cl) (.slice ov8 (j + 1) cv8) tx) (by simp [results, Try.results23, go_sem, c0, c1, c2, c3, c4, c5, c6, c7, c8]) rfl ?_
                      exact DE.fin HQ11.out hg6 (by omega) (by omega) htx
                    exact AllReadyH.nil
                  exact AllReadyH.nil
                exact AllReadyH.nil
              exact AllReadyH.nil
            refine AllReadyH.cons rfl (fun K hK => ?_) ?_
            · rw [if_pos (by rfl)]
              go_simp
              have HOL := hide (show (yw31.alloc (.cells #[.int .i64 0, .int .i64 99, .int .i64 ID, .int .i64 1000000, .int .i64 1000001] 3)).drew.ownsRow yw31.heap.size 3 1 (.slice (some ⟨yw31.heap.size, 0, none⟩) 5 5) 5 (I64z [0, 99, ID, 1000000, 1000001]) from World.ownsRow_lit (base := yw31.heap.size) (size := 1) yw31 #[.int .i64 0, .int .i64 99, .int .i64 ID, .int .i64 1000000, .int .i64 1000001] 5 (Nat.le_refl _) (by decide) (by simp))
              have hpl := HD32.out.cur.lt
              go_at_call 50
              refine (l01PickInt_any B p a len cap yw31.heap.size _ [0, 99, ID, 1000000, 1000001] (by simp) (by simp) _ hpl HOL.out HG2.out.cur).mono ?_
              rintro r w96 ⟨zz, hzz, rfl, hc6, hg6⟩
              have HG3 := hide (HG2.out.drawn hc6 hg6)
              have hzb : -1000000000 ≤ zz ∧ zz ≤ 1000000000000 := by (simp at hzz; omega)
              clear hc6 hg6 HOL hpl
              try go_simp
              refine hK.out _ _ ?_ (fun hHeld => ?_)
              · trivial
              clear hK K
              try simp only [Act.put, List.getElem_toArray, List.getElem_cons_zero, List.getElem_cons_succ, List.setIfInBounds_toArray, List.set_cons_zero, List.set_cons_succ]
              refine wpAnyH_ready (rs := [1, 7]) (by kernel_rfl) (by simp) ?_
              refine AllReadyH.cons rfl (fun K hK => ?_) ?_
              · have hcd := HG3.out.e.ev.c7
                rw [if_pos (by rfl)]
                go_simp
                refine hK.out _ _ ?_ (fun hHeld => ?_)
                · trivial
                clear hK K
                try simp only [Act.put, List.getElem_toArray, List.getElem_cons_zero, List.getElem_cons_succ, List.setIfInBounds_toArray, List.set_cons_zero, List.set_cons_succ]
                clear hcd
                refine wpAnyH_ready (rs := [7]) (by kernel_rfl) (by simp) ?_
                refine AllReadyH.cons rfl (fun K hK => ?_) ?_
                · have HG4 := hide (HG3.out.grow (.cells #[.int .i64 zz] 3))
                  rw [if_pos (by rfl)]
                  go_simp
                  refine hK.out _ _ ?_ (fun hHeld => ?_)
                  · trivial
                  clear hK K
                  try simp only [Act.put, List.getElem_toArray, List.getElem_cons_zero, List.getElem_cons_succ, List.setIfInBounds_toArray, List.set_cons_zero, List.set_cons_succ]
                  refine wpAnyH_ready (rs := [8]) (by kernel_rfl) (by simp) ?_
                  refine AllReadyH.cons rfl (fun K hK => ?_) ?_
                  · refine step_push_at (by rfl) _ _ 24 (by rfl) Try.underlying24 infoIz (by rfl) (by rfl) HG4.out.q (by rfl) (by rfl) (heap_alloc_new _ _) (by simp [Value.oneCell']) HG4.out.gr.size (by unfold maxLen; omega) (by omega) ?_
                    intro v8 w98 ho8 hg8 hor8
                    obtain ⟨ov8, cv8, hv8⟩ := row_form ho8
                    subst hv8
                    have HG5 := hide (HG4.out.pushP (by rw [← icells_snoc]; exact ho8) hg8 hor8 (wf_snoc HG4.out.fp hzb))
                    clear ho8 hg8 hor8
                    refine hK.out _ _ ?_ (fun hHeld => ?_)
                    · trivial
                    clear hK K
                    try simp only [Act.put, List.getElem_toArray, List.getElem_cons_zero, List.getElem_cons_succ, List.setIfInBounds_toArray, List.set_cons_zero, List.set_cons_succ]
                    refine wpAnyH_take (i := 9) (v := ?_) rfl (by kernel_rfl) (by kernel_rfl) (by kernel_rfl) (fun _ _ _ h => h) (Or.inl ⟨by rfl, ?_⟩) (by assumption) ?_; rotate_left
                    · (intro w hSw; (try dsimp only at hSw); go_simp; first | done | with_reducible rfl)
                    try simp only [Act.put, List.getElem_toArray, List.getElem_cons_zero, List.getElem_cons_succ, List.setIfInBounds_toArray, List.set_cons_zero, List.set_cons_succ]
                    refine wpAnyH_ready (rs := [10]) (by kernel_rfl) (by simp) ?_
                    refine AllReadyH.cons rfl (fun K hK => ?_) ?_
                    · have hcd := HG5.out.e.ev.c7
                      have hfz := HG5.out.e.free 7
                      rw [if_pos (by rfl)]
                      go_simp
                      refine hK.out _ _ ?_ (fun hHeld => ?_)
                      · trivial
                      clear hK K
                      try simp only [Act.put, List.getElem_toArray, List.getElem_cons_zero, List.getElem_cons_succ, List.setIfInBounds_toArray, List.set_cons_zero, List.set_cons_succ]
                      clear hcd hfz
                      refine wpAnyH_done (by kernel_rfl) ?_ _
                      have HQ11 := hide (HG5.out.put (HG5.out.e.put7 (.slice ov8 (j + 1) cv8)))
                      clear HG5 HG4 HG3 HG2 HD32
                      generalize w98.setCell ⟨b, 7, none⟩ (.slice ov8 (j + 1) cv8) = vz at HQ11 ⊢
                      obtain ⟨t0, t1, t2, t3, t4, t5, t6, t7, t8⟩ := HQ11.out.e.ev
                      obtain ⟨q0, q1, q2, q3, q4, q5, q6, q7, q8⟩ := HQ11.out.r.ev
                      have y0 := HQ11.out.r.free 0
                      have y1 := HQ11.out.r.free 1
                      have y2 := HQ11.out.r.free 2
                      have y3 := HQ11.out.r.free 3
                      have y4 := HQ11.out.r.free 4
                      have y5 := HQ11.out.r.free 5
                      have y6 := HQ11.out.r.free 6
                      have y7 := HQ11.out.r.free 7
                      have y8 := HQ11.out.r.free 8
                      go_wp2_with fail
                      clear t0 q0 y0 t1 q1 y1 t2 q2 y2 t3 q3 y3 t4 q4 y4 t5 q5 y5 t6 q6 y6 t7 q7 y7 t8 q8 y8
                      obtain ⟨w6, hw6, hE6, hg6⟩ := HQ11.out.r.all ID kd sn us mb DP (.slice oa n cl) (.slice ov8 (j + 1) cv8) tx
                      try rw [show ((#[] : Array UInt8)) = ([] : List UInt8).toArray from rfl]
                      rw [hw6]
                      obtain ⟨c0, c1, c2, c3, c4, c5, c6, c7, c8⟩ := hE6.ev
                      refine bodyPost_ret (v := evval ID kd sn us mb DP (.slice oa n cl) (.slice ov8 (j + 1) cv8) tx) (by simp [results, Try.results23, go_sem, c0, c1, c2, c3, c4, c5, c6, c7, c8]) rfl ?_
                      exact DE.fin HQ11.out hg6 (by omega) (by omega) htx
                    exact AllReadyH.nil
                  exact AllReadyH.nil
                exact AllReadyH.nil
              refine AllReadyH.cons rfl (fun K hK => ?_) ?_
              · have HG4 := hide (HG3.out.grow (.cells #[.int .i64 zz] 3))
                rw [if_pos (by rfl)]
                go_simp
                refine hK.out _ _ ?_ (fun hHeld => ?_)
                · trivial
                clear hK K
                try simp only [Act.put, List.getElem_toArray, List.getElem_cons_zero, List.getElem_cons_succ, List.setIfInBounds_toArray, List.set_cons_zero, List.set_cons_succ]
                refine wpAnyH_ready (rs := [1]) (by kernel_rfl) (by simp) ?_
                refine AllReadyH.cons rfl (fun K hK => ?_) ?_
                · have hcd := HG4.out.e.ev.c7
                  rw [if_pos (by rfl)]
                  go_simp
                  refine hK.out _ _ ?_ (fun hHeld => ?_)
                  · trivial
                  clear hK K
                  try simp only [Act.put, List.getElem_toArray, List.getElem_cons_zero, List.getElem_cons_succ, List.setIfInBounds_toArray, List.set_cons_zero, List.set_cons_succ]
                  clear hcd
                  refine wpAnyH_ready (rs := [8]) (by kernel_rfl) (by simp) ?_
                  refine AllReadyH.cons rfl (fun K hK => ?_) ?_
                  · refine step_push_at (by rfl) _ _ 24 (by rfl) Try.underlying24 infoIz (by rfl) (by rfl) HG4.out.q (by rfl) (by rfl) (heap_alloc_new _ _) (by simp [Value.oneCell']) HG4.out.gr.size (by unfold maxLen; omega) (by omega) ?_
                    intro v8 w98 ho8 hg8 hor8
                    obtain ⟨ov8, cv8, hv8⟩ := row_form ho8
                    subst hv8
                    have HG5 := hide (HG4.out.pushP (by rw [← icells_snoc]; exact ho8) hg8 hor8 (wf_snoc HG4.out.fp hzb))
                    clear ho8 hg8 hor8
                    refine hK.out _ _ ?_ (fun hHeld => ?_)
                    · trivial
                    clear hK K
                    try simp only [Act.put, List.getElem_toArray, List.getElem_cons_zero, List.getElem_cons_succ, List.setIfInBounds_toArray, List.set_cons_zero, List.set_cons_succ]
                    refine wpAnyH_take (i := 9) (v := ?_) rfl (by kernel_rfl) (by kernel_rfl) (by kernel_rfl) (fun _ _ _ h => h) (Or.inl ⟨by rfl, ?_⟩) (by assumption) ?_; rotate_left
                    · (intro w hSw; (try dsimp only at hSw); go_simp; first | done | with_reducible rfl)
                    try simp only [Act.put, List.getElem_toArray, List.getElem_cons_zero, List.getElem_cons_succ, List.setIfInBounds_toArray, List.set_cons_zero, List.set_cons_succ]
                    refine wpAnyH_ready (rs := [10]) (by kernel_rfl) (by simp) ?_
                    refine AllReadyH.cons rfl (fun K hK => ?_) ?_
                    · have hcd := HG5.out.e.ev.c7
                      have hfz := HG5.out.e.free 7
                      rw [if_pos (by rfl)]
                      go_simp
                      refine hK.out _ _ ?_ (fun hHeld => ?_)
                      · trivial
                      clear hK K
                      try simp only [Act.put, List.getElem_toArray, List.getElem_cons_zero, List.getElem_cons_succ, List.setIfInBounds_toArray, List.set_cons_zero, List.set_cons_succ]
                      clear hcd hfz
                      refine wpAnyH_done (by kernel_rfl) ?_ _
                      have HQ11 := hide (HG5.out.put (HG5.out.e.put7 (.slice ov8 (j + 1) cv8)))
                      clear HG5 HG4 HG3 HG2 HD32
                      generalize w98.setCell ⟨b, 7, none⟩ (.slice ov8 (j + 1) cv8) = vz at HQ11 ⊢
                      obtain ⟨t0, t1, t2, t3, t4, t5, t6, t7, t8⟩ := HQ11.out.e.ev
                      obtain ⟨q0, q1, q2, q3, q4, q5, q6, q7, q8⟩ := HQ11.out.r.ev
                      have y0 := HQ11.out.r.free 0
                      have y1 := HQ11.out.r.free 1
                      have y2 := HQ11.out.r.free 2
                      have y3 := HQ11.out.r.free 3
                      have y4 := HQ11.out.r.free 4
                      have y5 := HQ11.out.r.free 5
                      have y6 := HQ11.out.r.free 6
                      have y7 := HQ11.out.r.free 7
                      have y8 := HQ11.out.r.free 8
                      go_wp2_with fail
                      clear t0 q0 y0 t1 q1 y1 t2 q2 y2 t3 q3 y3 t4 q4 y4 t5 q5 y5 t6 q6 y6 t7 q7 y7 t8 q8 y8
                      obtain ⟨w6, hw6, hE6, hg6⟩ := HQ11.out.r.all ID kd sn us mb DP (.slice oa n cl) (.slice ov8 (j + 1) cv8) tx
                      try rw [show ((#[] : Array UInt8)) = ([] : List UInt8).toArray from rfl]
                      rw [hw6]
                      obtain ⟨c0, c1, c2, c3, c4, c5, c6, c7, c8⟩ := hE6.ev
                      refine bodyPost_ret (v := evval ID kd sn us mb DP (.slice oa n cl) (.slice ov8 (j + 1) cv8) tx) (by simp [results, Try.results23, go_sem, c0, c1, c2, c3, c4, c5, c6, c7, c8]) rfl ?_
                      exact DE.fin HQ11.out hg6 (by omega) (by omega) htx
                    exact AllReadyH.nil
                  exact AllReadyH.nil
                exact AllReadyH.nil
              exact AllReadyH.nil
            exact AllReadyH.nil
          exact AllReadyH.nil
        exact AllReadyH.nil
      · go_wp2_with fail
        have HOL := hide (show (yw31.alloc (.cells #[.int .i64 (-1), .int .i64 1000000, .int .i64 1000001] 3)).ownsRow yw31.heap.size 3 1 (.slice (some ⟨yw31.heap.size, 0, none⟩) 3 3) 3 (I64z [-1, 1000000, 1000001]) from World.ownsRow_lit (base := yw31.heap.size) (size := 1) yw31 #[.int .i64 (-1), .int .i64 1000000, .int .i64 1000001] 3 (Nat.le_refl _) (by decide) (by simp))
        have hpl := HD32.out.cur.lt
        have HGL := hide (HD32.out.grow (.cells #[.int .i64 (-1), .int .i64 1000000, .int .i64 1000001] 3))
        refine (l01PickInt_any B p a len cap yw31.heap.size _ [-1, 1000000, 1000001] (by simp) (by simp) _ hpl HOL.out HGL.out.cur).mono ?_
        rintro e yw33 ⟨zz, hzz, rfl, hcq, hgq⟩
        have HD34 := hide (HGL.out.drawn hcq hgq)
        clear hcq hgq HD32 HGL HOL hpl
        obtain ⟨e0, e1, e2, e3, e4, e5, e6, e7, e8⟩ := HD34.out.e.ev
        have fk := HD34.out.e.free 8
        have HD35 := hide (HD34.out.put (HD34.out.e.put8 zz))
        obtain ⟨t0, t1, t2, t3, t4, t5, t6, t7, t8⟩ := HD35.out.e.ev
        obtain ⟨q0, q1, q2, q3, q4, q5, q6, q7, q8⟩ := HD35.out.r.ev
        have y0 := HD35.out.r.free 0
        have y1 := HD35.out.r.free 1
        have y2 := HD35.out.r.free 2
        have y3 := HD35.out.r.free 3
        have y4 := HD35.out.r.free 4
        have y5 := HD35.out.r.free 5
        have y6 := HD35.out.r.free 6
        have y7 := HD35.out.r.free 7
        have y8 := HD35.out.r.free 8
        go_wp2_with fail
        clear e0 e1 e2 e3 e4 e5 e6 e7 e8 fk t0 q0 y0 t1 q1 y1 t2 q2 y2 t3 q3 y3 t4 q4 y4 t5 q5 y5 t6 q6 y6 t7 q7 y7 t8 q8 y8
        generalize yw33.setCell ⟨b, 8, none⟩ (.int .i64 zz) = vw36 at HD35 ⊢
        obtain ⟨w6, hw6, hE6, hg6⟩ := HD35.out.r.all ID kd sn us mb zz (.slice oa n cl) (.slice ob j cp) tx
        try rw [show ((#[] : Array UInt8)) = ([] : List UInt8).toArray from rfl]
        rw [hw6]
        obtain ⟨c0, c1, c2, c3, c4, c5, c6, c7, c8⟩ := hE6.ev
        refine bodyPost_ret (v := evval ID kd sn us mb zz (.slice oa n cl) (.slice ob j cp) tx) (by simp [results, Try.results23, go_sem, c0, c1, c2, c3, c4, c5, c6, c7, c8]) rfl ?_
        exact DE.fin HD35.out hg6 (by omega) (by omega) htx
      · go_wp2_with fail
        have HOL := hide (show (yw31.alloc (.cells #[.int .i64 0, .int .i64 (-1), .int .i64 1000000, .int .i64 1000001] 3)).ownsRow yw31.heap.size 3 1 (.slice (some ⟨yw31.heap.size, 0, none⟩) 4 4) 4 (I64z [0, -1, 1000000, 1000001]) from World.ownsRow_lit (base := yw31.heap.size) (size := 1) yw31 #[.int .i64 0, .int .i64 (-1), .int .i64 1000000, .int .i64 1000001] 4 (Nat.le_refl _) (by decide) (by simp))
        have hpl := HD32.out.cur.lt
        have HGL := hide (HD32.out.grow (.cells #[.int .i64 0, .int .i64 (-1), .int .i64 1000000, .int .i64 1000001] 3))
        refine (l01PickInt_any B p a len cap yw31.heap.size _ [0, -1, 1000000, 1000001] (by simp) (by simp) _ hpl HOL.out HGL.out.cur).mono ?_
        rintro e yw33 ⟨zz, hzz, rfl, hcq, hgq⟩
        have HD34 := hide (HGL.out.drawn hcq hgq)
        clear hcq hgq HD32 HGL HOL hpl
        obtain ⟨e0, e1, e2, e3, e4, e5, e6, e7, e8⟩ := HD34.out.e.ev
        have fk := HD34.out.e.free 0
        have HD35 := hide (HD34.out.put (HD34.out.e.put0 zz))
        obtain ⟨t0, t1, t2, t3, t4, t5, t6, t7, t8⟩ := HD35.out.e.ev
        obtain ⟨q0, q1, q2, q3, q4, q5, q6, q7, q8⟩ := HD35.out.r.ev
        have y0 := HD35.out.r.free 0
        have y1 := HD35.out.r.free 1
        have y2 := HD35.out.r.free 2
        have y3 := HD35.out.r.free 3
        have y4 := HD35.out.r.free 4
        have y5 := HD35.out.r.free 5
        have y6 := HD35.out.r.free 6
        have y7 := HD35.out.r.free 7
        have y8 := HD35.out.r.free 8
        go_wp2_with fail
        clear e0 e1 e2 e3 e4 e5 e6 e7 e8 fk t0 q0 y0 t1 q1 y1 t2 q2 y2 t3 q3 y3 t4 q4 y4 t5 q5 y5 t6 q6 y6 t7 q7 y7 t8 q8 y8
        generalize yw33.setCell ⟨b, 0, none⟩ (.int .i64 zz) = vw36 at HD35 ⊢
        obtain ⟨w6, hw6, hE6, hg6⟩ := HD35.out.r.all zz kd sn us mb DP (.slice oa n cl) (.slice ob j cp) tx
        try rw [show ((#[] : Array UInt8)) = ([] : List UInt8).toArray from rfl]
        rw [hw6]
        obtain ⟨c0, c1, c2, c3, c4, c5, c6, c7, c8⟩ := hE6.ev
        refine bodyPost_ret (v := evval zz kd sn us mb DP (.slice oa n cl) (.slice ob j cp) tx) (by simp [results, Try.results23, go_sem, c0, c1, c2, c3, c4, c5, c6, c7, c8]) rfl ?_
        exact DE.fin HD35.out hg6 (by omega) (by omega) htx
      · go_wp2_with fail
        refine (l01Below_any B p a len cap 9 (by omega) (by omega) _ HD32.out.cur).mono ?_
        rintro e yw33 ⟨i9, hi9, rfl, hcq, hgq⟩
        have HD34 := hide (HD32.out.drawn hcq hgq)
        clear hcq hgq HD32
        go_wp2_with fail
        refine (l01Below_any B p a len cap 3 (by omega) (by omega) _ HD34.out.cur).mono ?_
        rintro e yw35 ⟨s9, hs9, rfl, hcq, hgq⟩
        have HD36 := hide (HD34.out.drawn hcq hgq)
        clear hcq hgq HD34
        obtain ⟨w7, hw7, hE7, hg7⟩ := HD36.out.e.all (1 + (i9 : Int)) 1 (1 + (s9 : Int)) 0 0 0 (.slice none 0 0) (.slice none 0 0) []
        have HDN := hide (DE.anew HD36.out hg7 hE7)
        obtain ⟨e0, e1, e2, e3, e4, e5, e6, e7, e8⟩ := HD36.out.e.ev
        have f0 := HD36.out.e.free 0
        have f1 := HD36.out.e.free 1
        have f2 := HD36.out.e.free 2
        have f3 := HD36.out.e.free 3
        have f4 := HD36.out.e.free 4
        have f5 := HD36.out.e.free 5
        have f6 := HD36.out.e.free 6
        have f7 := HD36.out.e.free 7
        have f8 := HD36.out.e.free 8
        clear hE7 hg7
        go_upto_region 32 with fail
        clear e0 e1 e2 e3 e4 e5 e6 e7 e8 f0 f1 f2 f3 f4 f5 f6 f7 f8
        try rw [hw7]
        clear hw7
        obtain ⟨t0, t1, t2, t3, t4, t5, t6, t7, t8⟩ := HDN.out.e.ev
        obtain ⟨q0, q1, q2, q3, q4, q5, q6, q7, q8⟩ := HDN.out.r.ev
        have y0 := HDN.out.r.free 0
        have y1 := HDN.out.r.free 1
        have y2 := HDN.out.r.free 2
        have y3 := HDN.out.r.free 3
        have y4 := HDN.out.r.free 4
        have y5 := HDN.out.r.free 5
        have y6 := HDN.out.r.free 6
        have y7 := HDN.out.r.free 7
        have y8 := HDN.out.r.free 8
        go_wp2_with fail
        clear t0 q0 y0 t1 q1 y1 t2 q2 y2 t3 q3 y3 t4 q4 y4 t5 q5 y5 t6 q6 y6 t7 q7 y7 t8 q8 y8
        obtain ⟨w6, hw6, hE6, hg6⟩ := HDN.out.r.all (1 + (i9 : Int)) 1 (1 + (s9 : Int)) 0 0 0 (.slice none 0 0) (.slice none 0 0) []
        try rw [show ((#[] : Array UInt8)) = ([] : List UInt8).toArray from rfl]
        rw [hw6]
        obtain ⟨c0, c1, c2, c3, c4, c5, c6, c7, c8⟩ := hE6.ev
        refine bodyPost_ret (v := evval (1 + (i9 : Int)) 1 (1 + (s9 : Int)) 0 0 0 (.slice none 0 0) (.slice none 0 0) []) (by simp [results, Try.results23, go_sem, c0, c1, c2, c3, c4, c5, c6, c7, c8]) rfl ?_
        exact DE.fin HDN.out hg6 (by omega) (by omega) (by simp)
      · have n0 : (X == 0) = false := by simp; omega
        have n1 : (X == 1) = false := by simp; omega
        have n2 : (X == 2) = false := by simp; omega
        have n3 : (X == 3) = false := by simp; omega
        have n4 : (X == 4) = false := by simp; omega
        have n5 : (X == 5) = false := by simp; omega
        have n6 : (X == 6) = false := by simp; omega
        have n7 : (X == 7) = false := by simp; omega
        have n8 : (X == 8) = false := by simp; omega
        have n9 : (X == 9) = false := by simp; omega
        obtain ⟨t0, t1, t2, t3, t4, t5, t6, t7, t8⟩ := HD32.out.e.ev
        obtain ⟨q0, q1, q2, q3, q4, q5, q6, q7, q8⟩ := HD32.out.r.ev
        have y0 := HD32.out.r.free 0
        have y1 := HD32.out.r.free 1
        have y2 := HD32.out.r.free 2
        have y3 := HD32.out.r.free 3
        have y4 := HD32.out.r.free 4
        have y5 := HD32.out.r.free 5
        have y6 := HD32.out.r.free 6
        have y7 := HD32.out.r.free 7
        have y8 := HD32.out.r.free 8
        go_wp2_with fail
        clear t0 q0 y0 t1 q1 y1 t2 q2 y2 t3 q3 y3 t4 q4 y4 t5 q5 y5 t6 q6 y6 t7 q7 y7 t8 q8 y8
        obtain ⟨w6, hw6, hE6, hg6⟩ := HD32.out.r.all ID kd sn us mb DP (.slice oa n cl) (.slice ob j cp) tx
        try rw [show ((#[] : Array UInt8)) = ([] : List UInt8).toArray from rfl]
        rw [hw6]
        obtain ⟨c0, c1, c2, c3, c4, c5, c6, c7, c8⟩ := hE6.ev
        refine bodyPost_ret (v := evval ID kd sn us mb DP (.slice oa n cl) (.slice ob j cp) tx) (by simp [results, Try.results23, go_sem, c0, c1, c2, c3, c4, c5, c6, c7, c8]) rfl ?_
        exact DE.fin HD32.out hg6 (by omega) (by omega) htx

end Go.Proofs.Ytnamneagkjmimaa
