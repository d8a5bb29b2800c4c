/-
  Walks and mathematics of Msg21.
-/
import Derived.Test.YtmllcomppjkhhaaGreatDoorRMsg20
namespace Go.Proofs.YtmllcomppjkhhaaGreatDoor.P18
end Go.Proofs.YtmllcomppjkhhaaGreatDoor.P18
namespace Go.Proofs.YtmllcomppjkhhaaGreatDoor.P3
end Go.Proofs.YtmllcomppjkhhaaGreatDoor.P3
namespace Go.Proofs.YtmllcomppjkhhaaGreatDoor
open Go.RowKit P1 P3 P9 P11 P12 P18 K
attribute [local go_sem ↓] Go.wp_at_zero Go.wp_at_succ
set_option linter.unusedVariables false
set_option linter.unusedSimpArgs false

set_option maxRecDepth 100000 in
set_option maxHeartbeats 8000000 in
theorem l15Right_any (B p : Nat) (a : Option Addr) (len cap : Nat) (w : World) (hB : B ≤ w.heap.size) (hc : CurAt B w p a len cap) :
    Calls Tryz.prog 36 #[.pointer (some ⟨p, 0, none⟩)] w (MgDr B p a len cap 4 w) := by
  have H0 := hide (RvS.start hB hc ZM15 27)
  clear hc
  go_enter Tryz.func36, Tryz.ntmps36
  go_wp2_with fail
  refine (l01Below_any B p a len cap 6 (by decide) (by decide) _ H0.out.cur).mono ?_
  rintro r w1 ⟨x1, hx1, rfl, hc1, hg1⟩
  have H1 := hide (H0.out.drawn hc1 hg1)
  clear hc1 hg1 H0
  obtain ⟨kd, hkd⟩ : ∃ s : Int, 1 + (x1 : Int) = s := ⟨_, rfl⟩
  obtain ⟨hk1, hk2⟩ := wrap15 (n := kd) (by omega)
  go_wp2_with fail
  refine (l01Below_any B p a len cap 4 (by decide) (by decide) _ H1.out.cur).mono ?_
  rintro r w2 ⟨x2, hx2, rfl, hc2, hg2⟩
  have H2 := hide (H1.out.drawn hc2 hg2)
  clear hc2 hg2 H1
  obtain ⟨fr, hfr⟩ : ∃ s : Int, 1 + (x2 : Int) = s := ⟨_, rfl⟩
  obtain ⟨hf1, hf2⟩ := wrap15 (n := fr) (by omega)
  go_wp2_with fail
  refine (l01Below_any B p a len cap 8 (by decide) (by decide) _ H2.out.cur).mono ?_
  rintro r w3 ⟨tm, htm, rfl, hc3, hg3⟩
  have H3 := hide (H2.out.drawn hc3 hg3)
  clear hc3 hg3 H2
  go_wp2_with fail
  refine (l01Below_any B p a len cap 12 (by decide) (by decide) _ H3.out.cur).mono ?_
  rintro r w4 ⟨ix, hix, rfl, hc4, hg4⟩
  have H4 := hide (H3.out.drawn hc4 hg4)
  clear hc4 hg4 H3
  go_wp2_with fail
  refine (l01Below_any B p a len cap 5 (by decide) (by decide) _ H4.out.cur).mono ?_
  rintro r w5 ⟨lt, hlt, rfl, hc5, hg5⟩
  have H5 := hide (H4.out.drawn hc5 hg5)
  clear hc5 hg5 H4
  go_wp2_with fail
  refine (l01Below_any B p a len cap 9 (by decide) (by decide) _ H5.out.cur).mono ?_
  rintro r w6 ⟨cm, hcm, rfl, hc6, hg6⟩
  have H6 := hide (H5.out.drawn hc6 hg6)
  clear hc6 hg6 H5
  go_wp2_with fail
  refine (l01Once_any B p a len cap 2 (by decide) (by decide) _ H6.out.cur).mono ?_
  rintro r w7 ⟨ok, rfl, hc7, hg7⟩
  have H7 := hide (H6.out.drawn hc7 hg7)
  have HD0 : Hid (MgD B p a len cap w w7.heap.size #[.int .i64 kd, .int .i64 fr, .int .i64 (fr % 4 + 1), .int .i64 (tm : Int), .int .i64 (ix : Int), .int .i64 (lt : Int), .int .i64 (cm : Int), .bool ok, (.slice none 0 0), (.slice none 0 0), .string ⟨#[]⟩, .bool false] (.slice none 0 0) (.slice none 0 0) [] [] (w7.alloc (.cells #[.int .i64 kd, .int .i64 fr, .int .i64 (fr % 4 + 1), .int .i64 (tm : Int), .int .i64 (ix : Int), .int .i64 (lt : Int), .int .i64 (cm : Int), .bool ok, (.slice none 0 0), (.slice none 0 0), .string ⟨#[]⟩, .bool false] 27))) := hide ⟨H7.out.var _ _, World.ownsRow_nil _ _ _ _, World.ownsRow_nil _ _ _ _⟩
  clear hc7 hg7 H6 H7
  by_cases k3 : kd = 3
  · subst k3
    go_wp2_with fail
    generalize hW : w7.alloc (.cells #[(Value.int IntKind.i64 3), (Value.int IntKind.i64 fr), (Value.int IntKind.i64 (fr % 4 + 1)), (Value.int IntKind.i64 (tm : Int)), (Value.int IntKind.i64 (ix : Int)), (Value.int IntKind.i64 (lt : Int)), (Value.int IntKind.i64 (cm : Int)), (Value.bool ok), (Value.slice none 0 0), (Value.slice none 0 0), (Value.string ⟨#[]⟩), (Value.bool false)] 27) = W0 at HD0 ⊢
    clear hW
    generalize w7.heap.size = b at HD0 ⊢
    have HBL := hide (l01Below_any B p a len cap (tm + 1) (by omega) (by omega) W0 HD0.out.rv.rs.cur)
    rw [show ((tm + 1 : Nat) : Int) = (tm : Int) + 1 by omega] at HBL
    refine HBL.out.mono ?_
    rintro r w8 ⟨l, hl, rfl, hc8, hg8⟩
    have HD8 := hide (HD0.out.drawn hc8 hg8)
    clear hc8 hg8 HBL HD0
    have kp := HD8.out.put 5 (.int .i64 (l : Int))
    simp only [List.setIfInBounds_toArray, List.set_cons_zero, List.set_cons_succ] at kp
    have HD9 := hide kp
    clear kp
    obtain ⟨c0, c1, c2, c3, c4, c5, c6, c7, c8, c9, c10, c11⟩ := HD8.out.c12
    have f5 := HD8.out.free 5
    go_wp2_with fail
    clear c0 c1 c2 c3 c4 c5 c6 c7 c8 c9 c10 c11 f5 HD8
    generalize w8.setCell ⟨b, 5, none⟩ (Value.int IntKind.i64 (l : Int)) = W1 at HD9 ⊢
    go_loopw [5, 4] (fun i t wr => ∃ (j tn : Nat) (ov : Option Addr) (cv : Nat) (es : List EntV), i = .int .i64 (j : Int) ∧ t = .int .i64 (tn : Int) ∧ tn ≤ tm ∧ j ≤ 4 ∧ es.length = j ∧ (∀ f ∈ es, f.data.size ≤ 1000) ∧ MgD B p a len cap w b #[.int .i64 3, .int .i64 fr, .int .i64 (fr % 4 + 1), .int .i64 (tm : Int), .int .i64 (ix : Int), .int .i64 (l : Int), .int .i64 (cm : Int), .bool ok, (.slice ov es.length cv), (.slice none 0 0), .string ⟨#[]⟩, .bool false] (.slice ov es.length cv) (.slice none 0 0) es [] wr) (fun i _ _ => 4 - (intOf i).toNat)
    case atStart => exact ⟨0, l, none, 0, [], rfl, rfl, by omega, by omega, rfl, (by simp), HD9.out⟩
    case round =>
      clear HD9
      obtain ⟨j, tn, ov, cv, es, rfl, rfl, ht, hj, hel, hew, hd⟩ := hrel
      have HD1 := hide hd
      have HEL := hide hel
      have HEW := hide hew
      clear hd hel hew
      go_wp2_with fail
      refine (l01Below_any B p a len cap 5 (by decide) (by decide) _ HD1.out.rv.rs.cur).mono ?_
      rintro r w5' ⟨y, hy, rfl, hc5, hg5⟩
      have HD5a := hide (HD1.out.drawn hc5 hg5)
      clear hc5 hg5 HD1
      by_cases hjy : j < y
      · have j0 : (j : Int) < (y : Int) := by omega
        have hel8 : es.length < 4 := by rw [HEL.out]; omega
        obtain ⟨c0, c1, c2, c3, c4, c5, c6, c7, c8, c9, c10, c11⟩ := HD5a.out.c12
        have HBL := hide (l01Below_any B p a len cap (tm - tn + 1) (by omega) (by omega) w5' HD5a.out.rv.rs.cur)
        rw [show ((tm - tn + 1 : Nat) : Int) = (tm : Int) - (tn : Int) + 1 by omega] at HBL
        go_wp2_with fail
        clear c0 c1 c2 c3 c4 c5 c6 c7 c8 c9 c10 c11
        refine HBL.out.mono ?_
        rintro r w7' ⟨z, hz, rfl, hc7, hg7⟩
        have HD7 := hide (HD5a.out.drawn hc7 hg7)
        clear hc7 hg7 HD5a HBL
        go_wp2_with fail
        have HDs := hide (HD7.out.on (Below.refl _ _).drew)
        clear HD7
        refine wp_region_held_drew (S := fun _ => True) (by kernel_rfl) trivial (fun hHeld => ?_)
        generalize w7'.drew = xs at HDs ⊢
        refine wpAnyH_take (i := 0) (v := ?_) rfl (by kernel_rfl) (by kernel_rfl) (by kernel_rfl) (fun _ _ _ h => h) (Or.inl ⟨by rfl, ?_⟩) (by assumption) ?_; rotate_left
        · (intro w hSw; (try dsimp only at hSw); go_simp; first | done | with_reducible rfl)
        try simp only [Act.put, List.getElem_toArray, List.getElem_cons_zero, List.getElem_cons_succ, List.setIfInBounds_toArray, List.set_cons_zero, List.set_cons_succ]
        refine wpAnyH_take (i := 2) (v := ?_) rfl (by kernel_rfl) (by kernel_rfl) (by kernel_rfl) (fun _ _ _ h => h) (Or.inl ⟨by rfl, ?_⟩) (by assumption) ?_; rotate_left
        · (intro w hSw; (try dsimp only at hSw); go_simp; first | done | with_reducible rfl)
        try simp only [Act.put, List.getElem_toArray, List.getElem_cons_zero, List.getElem_cons_succ, List.setIfInBounds_toArray, List.set_cons_zero, List.set_cons_succ]
        refine wpAnyH_take (i := 3) (v := ?_) rfl (by kernel_rfl) (by kernel_rfl) (by kernel_rfl) (fun _ _ _ h => h) (Or.inl ⟨by rfl, ?_⟩) (by assumption) ?_; rotate_left
        · (intro w hSw; (try dsimp only at hSw); go_simp; first | done | with_reducible rfl)
        try simp only [Act.put, List.getElem_toArray, List.getElem_cons_zero, List.getElem_cons_succ, List.setIfInBounds_toArray, List.set_cons_zero, List.set_cons_succ]
        refine wpAnyH_ready (rs := [1, 4]) (by kernel_rfl) (by simp) ?_
        refine AllReadyH.cons rfl (fun K hK => ?_) ?_
        · obtain ⟨c0, c1, c2, c3, c4, c5, c6, c7, hcd, c9, c10, c11⟩ := HDs.out.c12
          clear c0 c1 c2 c3 c4 c5 c6 c7 c9 c10 c11
          rw [if_pos (by rfl)]
          go_simp
          refine hK.out _ _ ?_ (fun hHeld => ?_)
          · trivial
          clear hK K
          try simp only [Act.put, List.getElem_toArray, List.getElem_cons_zero, List.getElem_cons_succ, List.setIfInBounds_toArray, List.set_cons_zero, List.set_cons_succ]
          clear hcd
          refine wpAnyH_ready (rs := [4]) (by kernel_rfl) (by simp) ?_
          refine AllReadyH.cons rfl (fun K hK => ?_) ?_
          · rw [if_pos (by rfl)]
            go_simp
            go_at_call 67
            refine (l05Right_any B p a len cap _ _ HDs.out.size.1 HDs.out.rv.rs.cur).mono ?_
            rintro r x4 ⟨et, ek, ez, hez, rfl, hc4, hg4⟩
            have HD4 := hide (HDs.out.drawn hc4 hg4)
            have HEZ := hide hez
            clear hc4 hg4 hez
            try go_simp
            refine hK.out _ _ ?_ (fun hHeld => ?_)
            · trivial
            clear hK K
            try simp only [Act.put, List.getElem_toArray, List.getElem_cons_zero, List.getElem_cons_succ, List.setIfInBounds_toArray, List.set_cons_zero, List.set_cons_succ]
            refine wpAnyH_ready (rs := [5]) (by kernel_rfl) (by simp) ?_
            refine AllReadyH.cons rfl (fun K hK => ?_) ?_
            · have HD5 := hide (HD4.out.on ((Below.refl _ _).alloc (Nat.le_refl _) (Obj.cells #[Value.int IntKind.i64 et, Value.int IntKind.i64 ek, Value.string ez] 56)))
              have hk5 := heap_alloc_new x4 (Obj.cells #[Value.int IntKind.i64 et, Value.int IntKind.i64 ek, Value.string ez] 56)
              rw [if_pos (by rfl)]
              go_simp
              refine hK.out _ _ ?_ (fun hHeld => ?_)
              · trivial
              clear hK K
              try simp only [Act.put, List.getElem_toArray, List.getElem_cons_zero, List.getElem_cons_succ, List.setIfInBounds_toArray, List.set_cons_zero, List.set_cons_succ]
              have z5 : (x4.alloc (Obj.cells #[Value.int IntKind.i64 et, Value.int IntKind.i64 ek, Value.string ez] 56)).heap.size = x4.heap.size + 1 := by simp
              generalize x4.alloc (Obj.cells #[Value.int IntKind.i64 et, Value.int IntKind.i64 ek, Value.string ez] 56) = x5 at HD5 hk5 ⊢
              have HK5 := hide hk5
              clear hk5
              refine wpAnyH_ready (rs := [6]) (by kernel_rfl) (by simp) ?_
              refine AllReadyH.cons rfl (fun K hK => ?_) ?_
              · rw [if_pos (by rfl)]
                refine wp_append_ent15 _ _ rfl (w.heap.size + 1) _ es.length es rfl HD5.out.own (by omega) HD5.out.size.2 _ _ (EntV.mk et ek ez) rfl HK5.out ?_
                intro v6 x6 ho6 hg6
                obtain ⟨ES, hES⟩ : ∃ ES, ES = es ++ [EntV.mk et ek ez] := ⟨_, rfl⟩
                have ho7 : x6.ownsRow (w.heap.size + 1) 56 3 v6 ES.length (ES.flatMap ecells) := by rw [hES, List.length_append]; exact ho6
                have HES := hide hES
                clear hES
                obtain ⟨o6, k6, rfl⟩ := own_form3 ho7
                have HD6 := hide (HD5.out.row ho7 hg6)
                clear ho6 hg6 ho7
                try go_simp
                refine hK.out _ _ ?_ (fun hHeld => ?_)
                · trivial
                clear hK K
                try simp only [Act.put, List.getElem_toArray, List.getElem_cons_zero, List.getElem_cons_succ, List.setIfInBounds_toArray, List.set_cons_zero, List.set_cons_succ]
                refine wpAnyH_take (i := 7) (v := ?_) rfl (by kernel_rfl) (by kernel_rfl) (by kernel_rfl) (fun _ _ _ h => h) (Or.inl ⟨by rfl, ?_⟩) (by assumption) ?_; rotate_left
                · (intro w hSw; (try dsimp only at hSw); go_simp; first | done | with_reducible rfl)
                try simp only [Act.put, List.getElem_toArray, List.getElem_cons_zero, List.getElem_cons_succ, List.setIfInBounds_toArray, List.set_cons_zero, List.set_cons_succ]
                refine wpAnyH_ready (rs := [8]) (by kernel_rfl) (by simp) ?_
                refine AllReadyH.cons rfl (fun K hK => ?_) ?_
                · obtain ⟨c0, c1, c2, c3, c4, c5, c6x, c7, q2, c9, c10, c11⟩ := HD6.out.c12
                  clear c0 c1 c2 c3 c4 c5 c6x c7 c9 c10 c11
                  have f2 := HD6.out.free 8
                  have kp := HD6.out.put 8 (.slice o6 ES.length k6)
                  simp only [List.setIfInBounds_toArray, List.set_cons_zero, List.set_cons_succ] at kp
                  have HDN := hide kp
                  clear kp
                  rw [if_pos (by rfl)]
                  go_simp
                  refine hK.out _ _ ?_ (fun hHeld => ?_)
                  · trivial
                  clear hK K
                  try simp only [Act.put, List.getElem_toArray, List.getElem_cons_zero, List.getElem_cons_succ, List.setIfInBounds_toArray, List.set_cons_zero, List.set_cons_succ]
                  clear q2 f2
                  refine wpAnyH_done (by kernel_rfl) ?_ _
                  have HW2 := hide (show ∀ f ∈ ES, f.data.size ≤ 1000 from fun f hf => (List.mem_append.1 (by rw [HES.out] at hf; exact hf)).elim (HEW.out f) (fun h => by rw [List.mem_singleton.1 h]; have := HEZ.out; show ez.size ≤ 1000; omega))
                  have HL2 := hide (show ES.length = j + 1 by rw [HES.out, List.length_append, HEL.out]; rfl)
                  clear hHeld
                  go_wp2_with fail
                  go_roundw
                  case rel => exact ⟨j + 1, tn + z, o6, k6, ES, by go_num, by first | rfl | go_num, by omega, by omega, HL2.out, HW2.out, HDN.out⟩
                  case measure => simp [intOf]; omega
                exact AllReadyH.nil
              exact AllReadyH.nil
            exact AllReadyH.nil
          exact AllReadyH.nil
        refine AllReadyH.cons rfl (fun K hK => ?_) ?_
        · rw [if_pos (by rfl)]
          go_simp
          go_at_call 67
          refine (l05Right_any B p a len cap _ _ HDs.out.size.1 HDs.out.rv.rs.cur).mono ?_
          rintro r x4 ⟨et, ek, ez, hez, rfl, hc4, hg4⟩
          have HD4 := hide (HDs.out.drawn hc4 hg4)
          have HEZ := hide hez
          clear hc4 hg4 hez
          try go_simp
          refine hK.out _ _ ?_ (fun hHeld => ?_)
          · trivial
          clear hK K
          try simp only [Act.put, List.getElem_toArray, List.getElem_cons_zero, List.getElem_cons_succ, List.setIfInBounds_toArray, List.set_cons_zero, List.set_cons_succ]
          refine wpAnyH_ready (rs := [1, 5]) (by kernel_rfl) (by simp) ?_
          refine AllReadyH.cons rfl (fun K hK => ?_) ?_
          · obtain ⟨c0, c1, c2, c3, c4, c5, c6, c7, hcd, c9, c10, c11⟩ := HD4.out.c12
            clear c0 c1 c2 c3 c4 c5 c6 c7 c9 c10 c11
            rw [if_pos (by rfl)]
            go_simp
            refine hK.out _ _ ?_ (fun hHeld => ?_)
            · trivial
            clear hK K
            try simp only [Act.put, List.getElem_toArray, List.getElem_cons_zero, List.getElem_cons_succ, List.setIfInBounds_toArray, List.set_cons_zero, List.set_cons_succ]
            clear hcd
            refine wpAnyH_ready (rs := [5]) (by kernel_rfl) (by simp) ?_
            refine AllReadyH.cons rfl (fun K hK => ?_) ?_
            · have HD5 := hide (HD4.out.on ((Below.refl _ _).alloc (Nat.le_refl _) (Obj.cells #[Value.int IntKind.i64 et, Value.int IntKind.i64 ek, Value.string ez] 56)))
              have hk5 := heap_alloc_new x4 (Obj.cells #[Value.int IntKind.i64 et, Value.int IntKind.i64 ek, Value.string ez] 56)
              rw [if_pos (by rfl)]
              go_simp
              refine hK.out _ _ ?_ (fun hHeld => ?_)
              · trivial
              clear hK K
              try simp only [Act.put, List.getElem_toArray, List.getElem_cons_zero, List.getElem_cons_succ, List.setIfInBounds_toArray, List.set_cons_zero, List.set_cons_succ]
              have z5 : (x4.alloc (Obj.cells #[Value.int IntKind.i64 et, Value.int IntKind.i64 ek, Value.string ez] 56)).heap.size = x4.heap.size + 1 := by simp
              generalize x4.alloc (Obj.cells #[Value.int IntKind.i64 et, Value.int IntKind.i64 ek, Value.string ez] 56) = x5 at HD5 hk5 ⊢
              have HK5 := hide hk5
              clear hk5
              refine wpAnyH_ready (rs := [6]) (by kernel_rfl) (by simp) ?_
              refine AllReadyH.cons rfl (fun K hK => ?_) ?_
              · rw [if_pos (by rfl)]
                refine wp_append_ent15 _ _ rfl (w.heap.size + 1) _ es.length es rfl HD5.out.own (by omega) HD5.out.size.2 _ _ (EntV.mk et ek ez) rfl HK5.out ?_
                intro v6 x6 ho6 hg6
                obtain ⟨ES, hES⟩ : ∃ ES, ES = es ++ [EntV.mk et ek ez] := ⟨_, rfl⟩
                have ho7 : x6.ownsRow (w.heap.size + 1) 56 3 v6 ES.length (ES.flatMap ecells) := by rw [hES, List.length_append]; exact ho6
                have HES := hide hES
                clear hES
                obtain ⟨o6, k6, rfl⟩ := own_form3 ho7
                have HD6 := hide (HD5.out.row ho7 hg6)
                clear ho6 hg6 ho7
                try go_simp
                refine hK.out _ _ ?_ (fun hHeld => ?_)
                · trivial
                clear hK K
                try simp only [Act.put, List.getElem_toArray, List.getElem_cons_zero, List.getElem_cons_succ, List.setIfInBounds_toArray, List.set_cons_zero, List.set_cons_succ]
                refine wpAnyH_take (i := 7) (v := ?_) rfl (by kernel_rfl) (by kernel_rfl) (by kernel_rfl) (fun _ _ _ h => h) (Or.inl ⟨by rfl, ?_⟩) (by assumption) ?_; rotate_left
                · (intro w hSw; (try dsimp only at hSw); go_simp; first | done | with_reducible rfl)
                try simp only [Act.put, List.getElem_toArray, List.getElem_cons_zero, List.getElem_cons_succ, List.setIfInBounds_toArray, List.set_cons_zero, List.set_cons_succ]
                refine wpAnyH_ready (rs := [8]) (by kernel_rfl) (by simp) ?_
                refine AllReadyH.cons rfl (fun K hK => ?_) ?_
                · obtain ⟨c0, c1, c2, c3, c4, c5, c6x, c7, q2, c9, c10, c11⟩ := HD6.out.c12
                  clear c0 c1 c2 c3 c4 c5 c6x c7 c9 c10 c11
                  have f2 := HD6.out.free 8
                  have kp := HD6.out.put 8 (.slice o6 ES.length k6)
                  simp only [List.setIfInBounds_toArray, List.set_cons_zero, List.set_cons_succ] at kp
                  have HDN := hide kp
                  clear kp
                  rw [if_pos (by rfl)]
                  go_simp
                  refine hK.out _ _ ?_ (fun hHeld => ?_)
                  · trivial
                  clear hK K
                  try simp only [Act.put, List.getElem_toArray, List.getElem_cons_zero, List.getElem_cons_succ, List.setIfInBounds_toArray, List.set_cons_zero, List.set_cons_succ]
                  clear q2 f2
                  refine wpAnyH_done (by kernel_rfl) ?_ _
                  have HW2 := hide (show ∀ f ∈ ES, f.data.size ≤ 1000 from fun f hf => (List.mem_append.1 (by rw [HES.out] at hf; exact hf)).elim (HEW.out f) (fun h => by rw [List.mem_singleton.1 h]; have := HEZ.out; show ez.size ≤ 1000; omega))
                  have HL2 := hide (show ES.length = j + 1 by rw [HES.out, List.length_append, HEL.out]; rfl)
                  clear hHeld
                  go_wp2_with fail
                  go_roundw
                  case rel => exact ⟨j + 1, tn + z, o6, k6, ES, by go_num, by first | rfl | go_num, by omega, by omega, HL2.out, HW2.out, HDN.out⟩
                  case measure => simp [intOf]; omega
                exact AllReadyH.nil
              exact AllReadyH.nil
            exact AllReadyH.nil
          refine AllReadyH.cons rfl (fun K hK => ?_) ?_
          · have HD5 := hide (HD4.out.on ((Below.refl _ _).alloc (Nat.le_refl _) (Obj.cells #[Value.int IntKind.i64 et, Value.int IntKind.i64 ek, Value.string ez] 56)))
            have hk5 := heap_alloc_new x4 (Obj.cells #[Value.int IntKind.i64 et, Value.int IntKind.i64 ek, Value.string ez] 56)
            rw [if_pos (by rfl)]
            go_simp
            refine hK.out _ _ ?_ (fun hHeld => ?_)
            · trivial
            clear hK K
            try simp only [Act.put, List.getElem_toArray, List.getElem_cons_zero, List.getElem_cons_succ, List.setIfInBounds_toArray, List.set_cons_zero, List.set_cons_succ]
            have z5 : (x4.alloc (Obj.cells #[Value.int IntKind.i64 et, Value.int IntKind.i64 ek, Value.string ez] 56)).heap.size = x4.heap.size + 1 := by simp
            generalize x4.alloc (Obj.cells #[Value.int IntKind.i64 et, Value.int IntKind.i64 ek, Value.string ez] 56) = x5 at HD5 hk5 ⊢
            have HK5 := hide hk5
            clear hk5
            refine wpAnyH_ready (rs := [1]) (by kernel_rfl) (by simp) ?_
            refine AllReadyH.cons rfl (fun K hK => ?_) ?_
            · obtain ⟨c0, c1, c2, c3, c4, c5, c6, c7, hcd, c9, c10, c11⟩ := HD5.out.c12
              clear c0 c1 c2 c3 c4 c5 c6 c7 c9 c10 c11
              rw [if_pos (by rfl)]
              go_simp
              refine hK.out _ _ ?_ (fun hHeld => ?_)
              · trivial
              clear hK K
              try simp only [Act.put, List.getElem_toArray, List.getElem_cons_zero, List.getElem_cons_succ, List.setIfInBounds_toArray, List.set_cons_zero, List.set_cons_succ]
              clear hcd
              refine wpAnyH_ready (rs := [6]) (by kernel_rfl) (by simp) ?_
              refine AllReadyH.cons rfl (fun K hK => ?_) ?_
              · rw [if_pos (by rfl)]
                refine wp_append_ent15 _ _ rfl (w.heap.size + 1) _ es.length es rfl HD5.out.own (by omega) HD5.out.size.2 _ _ (EntV.mk et ek ez) rfl HK5.out ?_
                intro v6 x6 ho6 hg6
                obtain ⟨ES, hES⟩ : ∃ ES, ES = es ++ [EntV.mk et ek ez] := ⟨_, rfl⟩
                have ho7 : x6.ownsRow (w.heap.size + 1) 56 3 v6 ES.length (ES.flatMap ecells) := by rw [hES, List.length_append]; exact ho6
                have HES := hide hES
                clear hES
                obtain ⟨o6, k6, rfl⟩ := own_form3 ho7
                have HD6 := hide (HD5.out.row ho7 hg6)
                clear ho6 hg6 ho7
                try go_simp
                refine hK.out _ _ ?_ (fun hHeld => ?_)
                · trivial
                clear hK K
                try simp only [Act.put, List.getElem_toArray, List.getElem_cons_zero, List.getElem_cons_succ, List.setIfInBounds_toArray, List.set_cons_zero, List.set_cons_succ]
                refine wpAnyH_take (i := 7) (v := ?_) rfl (by kernel_rfl) (by kernel_rfl) (by kernel_rfl) (fun _ _ _ h => h) (Or.inl ⟨by rfl, ?_⟩) (by assumption) ?_; rotate_left
                · (intro w hSw; (try dsimp only at hSw); go_simp; first | done | with_reducible rfl)
                try simp only [Act.put, List.getElem_toArray, List.getElem_cons_zero, List.getElem_cons_succ, List.setIfInBounds_toArray, List.set_cons_zero, List.set_cons_succ]
                refine wpAnyH_ready (rs := [8]) (by kernel_rfl) (by simp) ?_
                refine AllReadyH.cons rfl (fun K hK => ?_) ?_
                · obtain ⟨c0, c1, c2, c3, c4, c5, c6x, c7, q2, c9, c10, c11⟩ := HD6.out.c12
                  clear c0 c1 c2 c3 c4 c5 c6x c7 c9 c10 c11
                  have f2 := HD6.out.free 8
                  have kp := HD6.out.put 8 (.slice o6 ES.length k6)
                  simp only [List.setIfInBounds_toArray, List.set_cons_zero, List.set_cons_succ] at kp
                  have HDN := hide kp
                  clear kp
                  rw [if_pos (by rfl)]
                  go_simp
                  refine hK.out _ _ ?_ (fun hHeld => ?_)
                  · trivial
                  clear hK K
                  try simp only [Act.put, List.getElem_toArray, List.getElem_cons_zero, List.getElem_cons_succ, List.setIfInBounds_toArray, List.set_cons_zero, List.set_cons_succ]
                  clear q2 f2
                  refine wpAnyH_done (by kernel_rfl) ?_ _
                  have HW2 := hide (show ∀ f ∈ ES, f.data.size ≤ 1000 from fun f hf => (List.mem_append.1 (by rw [HES.out] at hf; exact hf)).elim (HEW.out f) (fun h => by rw [List.mem_singleton.1 h]; have := HEZ.out; show ez.size ≤ 1000; omega))
                  have HL2 := hide (show ES.length = j + 1 by rw [HES.out, List.length_append, HEL.out]; rfl)
                  clear hHeld
                  go_wp2_with fail
                  go_roundw
                  case rel => exact ⟨j + 1, tn + z, o6, k6, ES, by go_num, by first | rfl | go_num, by omega, by omega, HL2.out, HW2.out, HDN.out⟩
                  case measure => simp [intOf]; omega
                exact AllReadyH.nil
              exact AllReadyH.nil
            exact AllReadyH.nil
          exact AllReadyH.nil
        exact AllReadyH.nil
      · have j0 : ¬ (j : Int) < (y : Int) := by omega
        have hes4 : es.length ≤ 4 := by rw [HEL.out]; omega
        obtain ⟨c0, c1, c2, c3, c4, c5, c6, c7, c8, c9, c10, c11⟩ := HD5a.out.c12
        obtain ⟨r0, r1, r2, r3, r4, r5, r6, r7, r8, r9, r10, r11⟩ := HD5a.out.r12
        have t0 := HD5a.out.rf 0
        have t1 := HD5a.out.rf 1
        have t2 := HD5a.out.rf 2
        have t3 := HD5a.out.rf 3
        have t4 := HD5a.out.rf 4
        have t5 := HD5a.out.rf 5
        have t6 := HD5a.out.rf 6
        have t7 := HD5a.out.rf 7
        have t8 := HD5a.out.rf 8
        have t9 := HD5a.out.rf 9
        have t10 := HD5a.out.rf 10
        have t11 := HD5a.out.rf 11
        go_wp2_with fail
        obtain ⟨hr, hc9, hg9, ho9, hp9⟩ := HD5a.out.ret ((((((((((((w5'.setCell ⟨w.heap.size, 0, none⟩ (Value.int IntKind.i64 3)).setCell ⟨w.heap.size, 1, none⟩ (Value.int IntKind.i64 fr)).setCell ⟨w.heap.size, 2, none⟩ (Value.int IntKind.i64 (fr % 4 + 1))).setCell ⟨w.heap.size, 3, none⟩ (Value.int IntKind.i64 (tm : Int))).setCell ⟨w.heap.size, 4, none⟩ (Value.int IntKind.i64 (ix : Int))).setCell ⟨w.heap.size, 5, none⟩ (Value.int IntKind.i64 (l : Int))).setCell ⟨w.heap.size, 6, none⟩ (Value.int IntKind.i64 (cm : Int))).setCell ⟨w.heap.size, 7, none⟩ (Value.bool ok)).setCell ⟨w.heap.size, 8, none⟩ (Value.slice ov es.length cv)).setCell ⟨w.heap.size, 9, none⟩ (Value.slice none 0 0)).setCell ⟨w.heap.size, 10, none⟩ (Value.string ⟨#[]⟩)).setCell ⟨w.heap.size, 11, none⟩ (Value.bool false)) (by simp only [World.setCells, Nat.zero_add, Nat.reduceAdd])
        generalize ((((((((((((w5'.setCell ⟨w.heap.size, 0, none⟩ (Value.int IntKind.i64 3)).setCell ⟨w.heap.size, 1, none⟩ (Value.int IntKind.i64 fr)).setCell ⟨w.heap.size, 2, none⟩ (Value.int IntKind.i64 (fr % 4 + 1))).setCell ⟨w.heap.size, 3, none⟩ (Value.int IntKind.i64 (tm : Int))).setCell ⟨w.heap.size, 4, none⟩ (Value.int IntKind.i64 (ix : Int))).setCell ⟨w.heap.size, 5, none⟩ (Value.int IntKind.i64 (l : Int))).setCell ⟨w.heap.size, 6, none⟩ (Value.int IntKind.i64 (cm : Int))).setCell ⟨w.heap.size, 7, none⟩ (Value.bool ok)).setCell ⟨w.heap.size, 8, none⟩ (Value.slice ov es.length cv)).setCell ⟨w.heap.size, 9, none⟩ (Value.slice none 0 0)).setCell ⟨w.heap.size, 10, none⟩ (Value.string ⟨#[]⟩)).setCell ⟨w.heap.size, 11, none⟩ (Value.bool false)) = w9 at hr hc9 hg9 ho9 hp9 ⊢
        obtain ⟨q0, q1, q2, q3, q4, q5, q6, q7, q8, q9, q10, q11⟩ := xs12 (T := 27) hr
        exact bodyPost_ret (v := .agg #[.int .i64 3, .int .i64 fr, .int .i64 (fr % 4 + 1), .int .i64 (tm : Int), .int .i64 (ix : Int), .int .i64 (l : Int), .int .i64 (cm : Int), .bool ok, (.slice ov es.length cv), (.slice none 0 0), .string ⟨#[]⟩, .bool false]) (by simp [results, Tryz.results36, go_sem, q0, q1, q2, q3, q4, q5, q6, q7, q8, q9, q10, q11]) rfl ⟨_, fr, _, (tm : Int), (ix : Int), _, (cm : Int), _, _, _, [], false, es, [], hes4, HEW.out, ⟨Nat.zero_le _, by simp⟩, (by simp), rfl, hc9, hg9, ho9, hp9⟩
  · have g3 : (kd == 3) = false := by rw [beq_eq_false_iff_ne]; exact k3
    by_cases k5 : kd = 5
    · subst k5
      go_wp2_with fail
      generalize hW : w7.alloc (.cells #[(Value.int IntKind.i64 5), (Value.int IntKind.i64 fr), (Value.int IntKind.i64 (fr % 4 + 1)), (Value.int IntKind.i64 (tm : Int)), (Value.int IntKind.i64 (ix : Int)), (Value.int IntKind.i64 (lt : Int)), (Value.int IntKind.i64 (cm : Int)), (Value.bool ok), (Value.slice none 0 0), (Value.slice none 0 0), (Value.string ⟨#[]⟩), (Value.bool false)] 27) = W0 at HD0 ⊢
      clear hW
      generalize w7.heap.size = b at HD0 ⊢
      refine (l05Conf_any B p a len cap _ HD0.out.size.1 HD0.out.rv.rs.cur).mono ?_
      rintro r w8 ⟨zs, vc, hzs, rfl, hdr⟩
      have HZS := hide (show ConfIn 5 0 5 zs from ⟨by have := hzs.1; omega, fun z hz => by have := hzs.2 z hz; omega⟩)
      obtain ⟨oc, cc, rfl⟩ := row_form hdr.own
      have HD8 := hide (HD0.out.conf hdr)
      clear hzs hdr HD0
      have kp := HD8.out.put 9 (.slice oc zs.length cc)
      simp only [List.setIfInBounds_toArray, List.set_cons_zero, List.set_cons_succ] at kp
      have HD9 := hide kp
      clear kp
      obtain ⟨c0, c1, c2, c3, c4, c5, c6, c7, c8, c9, c10, c11⟩ := HD8.out.c12
      have f9 := HD8.out.free 9
      go_wp2_with fail
      clear c0 c1 c2 c3 c4 c5 c6 c7 c8 c9 c10 c11 f9 HD8
      generalize w8.setCell ⟨b, 9, none⟩ (Value.slice oc zs.length cc) = W1 at HD9 ⊢
      refine (l01Below_any B p a len cap 9 (by decide) (by decide) _ HD9.out.rv.rs.cur).mono ?_
      rintro r w10 ⟨k, hk, rfl, hc10, hg10⟩
      have HD10 := hide (HD9.out.drawn hc10 hg10)
      clear hc10 hg10 HD9
      go_wp2_with fail
      refine (l01Text_any B p a len cap k (by omega) _ HD10.out.size.1 HD10.out.rv.rs.cur).mono ?_
      rintro r w11 ⟨da, hda, rfl, hc11, hg11⟩
      have HD11 := hide (HD10.out.drawn hc11 hg11)
      clear hc11 hg11 HD10
      have kp := HD11.out.put 10 (.string ⟨da.toArray⟩)
      simp only [List.setIfInBounds_toArray, List.set_cons_zero, List.set_cons_succ] at kp
      have HD12 := hide kp
      clear kp
      obtain ⟨c0, c1, c2, c3, c4, c5, c6, c7, c8, c9, c10, c11⟩ := HD11.out.c12
      have f10 := HD11.out.free 10
      go_wp2_with fail
      clear c0 c1 c2 c3 c4 c5 c6 c7 c8 c9 c10 c11 f10 HD11
      generalize w11.setCell ⟨b, 10, none⟩ (Value.string ⟨da.toArray⟩) = W2 at HD12 ⊢
      refine (l01Once_any B p a len cap 2 (by decide) (by decide) _ HD12.out.rv.rs.cur).mono ?_
      rintro r w13 ⟨la, rfl, hc13, hg13⟩
      have HD13 := hide (HD12.out.drawn hc13 hg13)
      clear hc13 hg13 HD12
      have kp := HD13.out.put 11 (.bool la)
      simp only [List.setIfInBounds_toArray, List.set_cons_zero, List.set_cons_succ] at kp
      have HD14 := hide kp
      clear kp
      obtain ⟨c0, c1, c2, c3, c4, c5, c6, c7, c8, c9, c10, c11⟩ := HD13.out.c12
      have f11 := HD13.out.free 11
      have hlw := HD13.out.rv.hb
      obtain ⟨r0, r1, r2, r3, r4, r5, r6, r7, r8, r9, r10, r11⟩ := HD13.out.r12
      have t0 := HD13.out.rf 0
      have t1 := HD13.out.rf 1
      have t2 := HD13.out.rf 2
      have t3 := HD13.out.rf 3
      have t4 := HD13.out.rf 4
      have t5 := HD13.out.rf 5
      have t6 := HD13.out.rf 6
      have t7 := HD13.out.rf 7
      have t8 := HD13.out.rf 8
      have t9 := HD13.out.rf 9
      have t10 := HD13.out.rf 10
      have t11 := HD13.out.rf 11
      go_wp2_with fail
      generalize w13.setCell ⟨b, 11, none⟩ (Value.bool la) = W3 at HD14 ⊢
      obtain ⟨hr, hc9, hg9, ho9, hp9⟩ := HD14.out.ret ((((((((((((W3.setCell ⟨w.heap.size, 0, none⟩ (Value.int IntKind.i64 5)).setCell ⟨w.heap.size, 1, none⟩ (Value.int IntKind.i64 fr)).setCell ⟨w.heap.size, 2, none⟩ (Value.int IntKind.i64 (fr % 4 + 1))).setCell ⟨w.heap.size, 3, none⟩ (Value.int IntKind.i64 (tm : Int))).setCell ⟨w.heap.size, 4, none⟩ (Value.int IntKind.i64 (ix : Int))).setCell ⟨w.heap.size, 5, none⟩ (Value.int IntKind.i64 (lt : Int))).setCell ⟨w.heap.size, 6, none⟩ (Value.int IntKind.i64 (cm : Int))).setCell ⟨w.heap.size, 7, none⟩ (Value.bool ok)).setCell ⟨w.heap.size, 8, none⟩ (Value.slice none 0 0)).setCell ⟨w.heap.size, 9, none⟩ (Value.slice oc zs.length cc)).setCell ⟨w.heap.size, 10, none⟩ (Value.string ⟨da.toArray⟩)).setCell ⟨w.heap.size, 11, none⟩ (Value.bool la)) (by simp only [World.setCells, Nat.zero_add, Nat.reduceAdd])
      generalize ((((((((((((W3.setCell ⟨w.heap.size, 0, none⟩ (Value.int IntKind.i64 5)).setCell ⟨w.heap.size, 1, none⟩ (Value.int IntKind.i64 fr)).setCell ⟨w.heap.size, 2, none⟩ (Value.int IntKind.i64 (fr % 4 + 1))).setCell ⟨w.heap.size, 3, none⟩ (Value.int IntKind.i64 (tm : Int))).setCell ⟨w.heap.size, 4, none⟩ (Value.int IntKind.i64 (ix : Int))).setCell ⟨w.heap.size, 5, none⟩ (Value.int IntKind.i64 (lt : Int))).setCell ⟨w.heap.size, 6, none⟩ (Value.int IntKind.i64 (cm : Int))).setCell ⟨w.heap.size, 7, none⟩ (Value.bool ok)).setCell ⟨w.heap.size, 8, none⟩ (Value.slice none 0 0)).setCell ⟨w.heap.size, 9, none⟩ (Value.slice oc zs.length cc)).setCell ⟨w.heap.size, 10, none⟩ (Value.string ⟨da.toArray⟩)).setCell ⟨w.heap.size, 11, none⟩ (Value.bool la)) = w9 at hr hc9 hg9 ho9 hp9 ⊢
      obtain ⟨q0, q1, q2, q3, q4, q5, q6, q7, q8, q9, q10, q11⟩ := xs12 (T := 27) hr
      exact bodyPost_ret (v := .agg #[.int .i64 5, .int .i64 fr, .int .i64 (fr % 4 + 1), .int .i64 (tm : Int), .int .i64 (ix : Int), .int .i64 (lt : Int), .int .i64 (cm : Int), .bool ok, (.slice none 0 0), (.slice oc zs.length cc), .string ⟨da.toArray⟩, .bool la]) (by simp [results, Tryz.results36, go_sem, q0, q1, q2, q3, q4, q5, q6, q7, q8, q9, q10, q11]) rfl ⟨_, fr, _, (tm : Int), (ix : Int), _, (cm : Int), _, _, _, da, la, [], zs, (by simp), (by simp), HZS.out, (by omega), rfl, hc9, hg9, ho9, hp9⟩
    · have g5 : (kd == 5) = false := by rw [beq_eq_false_iff_ne]; exact k5
      obtain ⟨r0, r1, r2, r3, r4, r5, r6, r7, r8, r9, r10, r11⟩ := HD0.out.r12
      have t0 := HD0.out.rf 0
      have t1 := HD0.out.rf 1
      have t2 := HD0.out.rf 2
      have t3 := HD0.out.rf 3
      have t4 := HD0.out.rf 4
      have t5 := HD0.out.rf 5
      have t6 := HD0.out.rf 6
      have t7 := HD0.out.rf 7
      have t8 := HD0.out.rf 8
      have t9 := HD0.out.rf 9
      have t10 := HD0.out.rf 10
      have t11 := HD0.out.rf 11
      go_wp2_with fail
      clear r0 r1 r2 r3 r4 r5 r6 r7 r8 r9 r10 r11 t0 t1 t2 t3 t4 t5 t6 t7 t8 t9 t10 t11
      generalize w7.alloc (.cells #[(Value.int IntKind.i64 kd), (Value.int IntKind.i64 fr), (Value.int IntKind.i64 (fr % 4 + 1)), (Value.int IntKind.i64 (tm : Int)), (Value.int IntKind.i64 (ix : Int)), (Value.int IntKind.i64 (lt : Int)), (Value.int IntKind.i64 (cm : Int)), (Value.bool ok), (Value.slice none 0 0), (Value.slice none 0 0), (Value.string ⟨#[]⟩), (Value.bool false)] 27) = W0 at HD0 ⊢
      obtain ⟨hr, hc9, hg9, ho9, hp9⟩ := HD0.out.ret ((((((((((((W0.setCell ⟨w.heap.size, 0, none⟩ (Value.int IntKind.i64 kd)).setCell ⟨w.heap.size, 1, none⟩ (Value.int IntKind.i64 fr)).setCell ⟨w.heap.size, 2, none⟩ (Value.int IntKind.i64 (fr % 4 + 1))).setCell ⟨w.heap.size, 3, none⟩ (Value.int IntKind.i64 (tm : Int))).setCell ⟨w.heap.size, 4, none⟩ (Value.int IntKind.i64 (ix : Int))).setCell ⟨w.heap.size, 5, none⟩ (Value.int IntKind.i64 (lt : Int))).setCell ⟨w.heap.size, 6, none⟩ (Value.int IntKind.i64 (cm : Int))).setCell ⟨w.heap.size, 7, none⟩ (Value.bool ok)).setCell ⟨w.heap.size, 8, none⟩ (Value.slice none 0 0)).setCell ⟨w.heap.size, 9, none⟩ (Value.slice none 0 0)).setCell ⟨w.heap.size, 10, none⟩ (Value.string ⟨#[]⟩)).setCell ⟨w.heap.size, 11, none⟩ (Value.bool false)) (by simp only [World.setCells, Nat.zero_add, Nat.reduceAdd])
      generalize ((((((((((((W0.setCell ⟨w.heap.size, 0, none⟩ (Value.int IntKind.i64 kd)).setCell ⟨w.heap.size, 1, none⟩ (Value.int IntKind.i64 fr)).setCell ⟨w.heap.size, 2, none⟩ (Value.int IntKind.i64 (fr % 4 + 1))).setCell ⟨w.heap.size, 3, none⟩ (Value.int IntKind.i64 (tm : Int))).setCell ⟨w.heap.size, 4, none⟩ (Value.int IntKind.i64 (ix : Int))).setCell ⟨w.heap.size, 5, none⟩ (Value.int IntKind.i64 (lt : Int))).setCell ⟨w.heap.size, 6, none⟩ (Value.int IntKind.i64 (cm : Int))).setCell ⟨w.heap.size, 7, none⟩ (Value.bool ok)).setCell ⟨w.heap.size, 8, none⟩ (Value.slice none 0 0)).setCell ⟨w.heap.size, 9, none⟩ (Value.slice none 0 0)).setCell ⟨w.heap.size, 10, none⟩ (Value.string ⟨#[]⟩)).setCell ⟨w.heap.size, 11, none⟩ (Value.bool false)) = w9 at hr hc9 hg9 ho9 hp9 ⊢
      obtain ⟨q0, q1, q2, q3, q4, q5, q6, q7, q8, q9, q10, q11⟩ := xs12 (T := 27) hr
      exact bodyPost_ret (v := .agg #[.int .i64 kd, .int .i64 fr, .int .i64 (fr % 4 + 1), .int .i64 (tm : Int), .int .i64 (ix : Int), .int .i64 (lt : Int), .int .i64 (cm : Int), .bool ok, (.slice none 0 0), (.slice none 0 0), .string ⟨#[]⟩, .bool false]) (by simp [results, Tryz.results36, go_sem, q0, q1, q2, q3, q4, q5, q6, q7, q8, q9, q10, q11]) rfl ⟨_, fr, _, (tm : Int), (ix : Int), _, (cm : Int), _, _, _, [], false, [], [], (by simp), (by simp), ⟨Nat.zero_le _, by simp⟩, (by simp), rfl, hc9, hg9, ho9, hp9⟩

end Go.Proofs.YtmllcomppjkhhaaGreatDoor
