/-
  Walks of chapter 7: JournalText of the program (made by wip/tools/gen7t.py).
-/
import Derived.Test.YthbgklmnmoclhaaDoorWalk7c
import Derived.Test.YthbgklmnmoclhaaDoorPack24
namespace Go.Proofs.YthbgklmnmoclhaaDoor
open Go.RowKit P1 P3 P9 K
attribute [local go_sem ↓] Go.wp_at_zero Go.wp_at_succ
set_option linter.unusedVariables false
set_option linter.unusedSimpArgs false

/-- Two texts in a new row. -/
theorem strsAt_two (w : World) (x y : List UInt8) : StrsAt (w.alloc (.cells #[.string ⟨x.toArray⟩, .string ⟨y.toArray⟩] 9)) (some ⟨w.heap.size, 0, none⟩) 2 2 [x, y] := by
  have h := World.ownsRow_lit (base := w.heap.size) (size := 1) (e := 9) w #[.string ⟨x.toArray⟩, .string ⟨y.toArray⟩] 2 (Nat.le_refl _) (by decide) rfl
  have h2 : (w.alloc (.cells #[.string ⟨x.toArray⟩, .string ⟨y.toArray⟩] 9)).ownsRow w.heap.size 9 1 (.slice (some ⟨w.heap.size, 0, none⟩) 2 2) 2 (strs [x, y]) := h
  obtain ⟨oa, cap, he, hat⟩ := strsAt_own h2
  cases he
  exact hat

theorem framed_two (j : JnV) : framedB [twoB 66 j.s.toNat j.u.toNat, twoB 72 j.term.toNat j.vote.toNat] = headB j.s j.u ++ hardB j.term j.vote := by
  simp [framedB, headB, hardB]

set_option maxHeartbeats 4000000 in
theorem implJournalText_any (j : JnV) (oa : Option Addr) (n cap : Nat) (w : World) (hat : EntsAt w oa n cap j.es) (hw : ∀ f ∈ j.es, f.data.size ≤ 1048576) (htb : SumTabIs w) :
    Calls Tryd.prog 11 #[jval j.number j.term j.vote j.s j.u (.slice oa n cap)] w fun e w' => e = .returned (jtVal j) ∧ Below w.heap.size w w' := by
  have hx0 := BoxS.new w #[.int .i64 j.number, .int .i64 j.term, .int .i64 j.vote, .int .i64 j.s, .int .i64 j.u, .slice oa n cap] 36
  have HJO := hide (implJournalOk_any j oa n cap _ (hat.below hx0.1) hw)
  have HB0 := hide hx0
  have HAT := hide hat
  have HTB := hide htb
  clear hat hw hx0 htb
  cases hok : j.ok with
  | false =>
    have R := hide (show jtVal j = .tuple #[.string ⟨#[]⟩, .bool false] by unfold jtVal; rw [hok]; rfl)
    rw [hok] at HJO
    clear hok
    go_enter Tryd.func11, Tryd.ntmps11
    go_wp2_with fail
    refine HJO.out.mono ?_
    rintro r w1 ⟨rfl, hb1⟩
    go_wp2_with fail
    go_ret2
    exact ⟨by rw [R.out]; rfl, (HB0.out.call hb1).1⟩
  | true =>
    obtain ⟨-, hH, hL⟩ := JnV.parts hok
    obtain ⟨s0, s1, u0, u1, n1, sn⟩ := lgOk_rm hL
    have hlen := HAT.out.len
    have R := hide (show jtVal j = .tuple #[.string ⟨j.text.toArray⟩, .bool true] by unfold jtVal; rw [hok]; rfl)
    have htl := text_room hL
    have htw := twoB_length 66 j.s.toNat j.u.toNat
    have htv := twoB_length 72 j.term.toNat j.vote.toNat
    have H1 := hide (beginRecord_any j.number j.term j.vote j.s j.u (.slice oa n cap) rfl ⟨s0, by omega⟩ ⟨u0, by omega⟩)
    have H3 := hide (voteRecord_any j.number j.term j.vote j.s j.u (.slice oa n cap) rfl ⟨hH.1, by omega⟩ ⟨hH.2.2.1, by omega⟩)
    have H5 := hide (fun (g : Nat) wx hat => framed_any (some ⟨g, 0, none⟩) 2 2 [twoB 66 j.s.toNat j.u.toNat, twoB 72 j.term.toNat j.vote.toNat] (by decide) (fun x hx => by
      rcases List.mem_cons.1 hx with rfl | hx
      · omega
      · rcases List.mem_cons.1 hx with rfl | hx
        · omega
        · simp at hx) wx hat)
    rw [framed_two] at H5
    have H7 := hide (fun wx hat => entryRecords_any j.number j.term j.vote j.s j.u oa n cap j.es 0 wx hat hL (Nat.zero_le _))
    rw [List.drop_zero, show j.s + ((0 : Nat) : Int) = j.s by omega] at H7
    have hrl := recsB_length j.es j.s
    have H8 := hide (fun (oa' : Option Addr) (cap' : Nat) wx hat => framed_any oa' (recsB j.s j.es).length cap' (recsB j.s j.es) (by omega) (fun x hx => by have := recsB_mem j.es j.s x hx (lgOk_ok hL); omega) wx hat)
    rw [framedB_recs] at H8
    have hl2 : (headB j.s j.u ++ hardB j.term j.vote).length ≤ 100 := by
      have h3 := frameL_room htw.2
      have h4 := frameL_room htv.2
      simp only [headB, hardB, List.length_append]
      omega
    have hl3 : (framesB j.s j.es).length ≤ 9360 := by have := framesB_length j.es j.s (lgOk_ok hL); omega
    have f9 : ∀ wx, (Op.stringOp .add ⟨(headB j.s j.u ++ hardB j.term j.vote).toArray⟩ ⟨(framesB j.s j.es).toArray⟩).run Tryd.prog wx = .ok (.string ⟨j.text.toArray⟩) wx := fun wx => by
      have := run_string_add_sum (P := Tryd.prog) (w := wx) ⟨(headB j.s j.u ++ hardB j.term j.vote).toArray⟩ ⟨(framesB j.s j.es).toArray⟩ (by rw [size_mk7, size_mk7]; omega)
      rw [cat_two7] at this
      exact this
    have htl : (⟨j.text.toArray⟩ : ByteArray).size ≤ 20000 := by rw [size_mk7]; omega
    generalize (⟨j.text.toArray⟩ : ByteArray) = TX at R htl f9
    generalize (⟨(headB j.s j.u ++ hardB j.term j.vote).toArray⟩ : ByteArray) = HH at H5 f9
    generalize (⟨(framesB j.s j.es).toArray⟩ : ByteArray) = FS at H8 f9
    generalize recsB j.s j.es = RS at H7 H8 hrl
    generalize twoB 66 j.s.toNat j.u.toNat = TB at H1 H5 htw
    generalize twoB 72 j.term.toNat j.vote.toNat = TH at H3 H5 htv
    rw [hok] at HJO
    clear hok hL hH hl2 hl3
    generalize j.number = jN at HJO HB0 H1 H3 H7 ⊢
    generalize j.term = jT at HJO HB0 H1 H3 H7 ⊢
    generalize j.vote = jV at HJO HB0 H1 H3 H7 ⊢
    generalize j.s = jS at HJO HB0 H1 H3 H7 ⊢
    generalize j.u = jU at HJO HB0 H1 H3 H7 ⊢
    clear s0 s1 u0 u1 sn n1 htw htv hrl hlen
    go_enter Tryd.func11, Tryd.ntmps11
    go_wp2_with fail
    refine HJO.out.mono ?_
    rintro r w1 ⟨rfl, hb1⟩
    have hHeld := HB0.out.call hb1
    clear hb1 HJO HB0
    have z0 := hHeld.cell 0 rfl
    have HHE := hide hHeld
    clear hHeld z0
    go_wp2_with fail
    refine wp_region_held_drew (S := BoxS w #[.int .i64 jN, .int .i64 jT, .int .i64 jV, .int .i64 jS, .int .i64 jU, .slice oa n cap] 36) (by kernel_rfl) HHE.out.drew (fun hHeld => ?_)
    refine wpAnyH_take (i := 0) (v := ?_) rfl (by kernel_rfl) (by kernel_rfl) (by kernel_rfl) (fun _ _ _ h => h) (Or.inl ⟨by rfl, ?_⟩) (by assumption) ?_; rotate_left
    · (intro wz hSw; have z0 := BoxS.cell hSw 0 rfl; have z1 := BoxS.cell hSw 1 rfl; have z2 := BoxS.cell hSw 2 rfl; have z3 := BoxS.cell hSw 3 rfl; have z4 := BoxS.cell hSw 4 rfl; have z5 := BoxS.cell hSw 5 rfl; clear hSw; go_simp; first | done | with_reducible rfl)
    try simp only [Act.put, List.getElem_toArray, List.getElem_cons_zero, List.getElem_cons_succ, List.setIfInBounds_toArray, List.set_cons_zero, List.set_cons_succ]
    refine wpAnyH_take (i := 2) (v := ?_) rfl (by kernel_rfl) (by kernel_rfl) (by kernel_rfl) (fun _ _ _ h => h) (Or.inl ⟨by rfl, ?_⟩) (by assumption) ?_; rotate_left
    · (intro wz hSw; have z0 := BoxS.cell hSw 0 rfl; have z1 := BoxS.cell hSw 1 rfl; have z2 := BoxS.cell hSw 2 rfl; have z3 := BoxS.cell hSw 3 rfl; have z4 := BoxS.cell hSw 4 rfl; have z5 := BoxS.cell hSw 5 rfl; clear hSw; go_simp; first | done | with_reducible rfl)
    try simp only [Act.put, List.getElem_toArray, List.getElem_cons_zero, List.getElem_cons_succ, List.setIfInBounds_toArray, List.set_cons_zero, List.set_cons_succ]
    refine wpAnyH_take (i := 6) (v := ?_) rfl (by kernel_rfl) (by kernel_rfl) (by kernel_rfl) (fun _ _ _ h => h) (Or.inl ⟨by rfl, ?_⟩) (by assumption) ?_; rotate_left
    · (intro wz hSw; have z0 := BoxS.cell hSw 0 rfl; have z1 := BoxS.cell hSw 1 rfl; have z2 := BoxS.cell hSw 2 rfl; have z3 := BoxS.cell hSw 3 rfl; have z4 := BoxS.cell hSw 4 rfl; have z5 := BoxS.cell hSw 5 rfl; clear hSw; go_simp; first | done | with_reducible rfl)
    try simp only [Act.put, List.getElem_toArray, List.getElem_cons_zero, List.getElem_cons_succ, List.setIfInBounds_toArray, List.set_cons_zero, List.set_cons_succ]
    refine wpAnyH_ready (rs := [1]) (by kernel_rfl) (by simp) ?_
    refine AllReadyH.cons rfl (fun K hK => ?_) ?_
    · rw [if_pos (by rfl)]
      go_simp
      go_at_call 30
      refine (H1.out _).mono ?_
      rintro r x1 ⟨rfl, hb1⟩
      try go_simp
      refine hK.out _ _ ?_ (fun hHeld => ?_)
      · exact BoxS.call hHeld hb1
      clear hK K
      try simp only [Act.put, List.getElem_toArray, List.getElem_cons_zero, List.getElem_cons_succ, List.setIfInBounds_toArray, List.set_cons_zero, List.set_cons_succ]
      clear hb1
      refine wpAnyH_ready (rs := [3]) (by kernel_rfl) (by simp) ?_
      refine AllReadyH.cons rfl (fun K hK => ?_) ?_
      · rw [if_pos (by rfl)]
        go_simp
        go_at_call 31
        refine (H3.out _).mono ?_
        rintro r x3 ⟨rfl, hb3⟩
        try go_simp
        refine hK.out _ _ ?_ (fun hHeld => ?_)
        · exact BoxS.call hHeld hb3
        clear hK K
        try simp only [Act.put, List.getElem_toArray, List.getElem_cons_zero, List.getElem_cons_succ, List.setIfInBounds_toArray, List.set_cons_zero, List.set_cons_succ]
        clear hb3
        refine wpAnyH_ready (rs := [4]) (by kernel_rfl) (by simp) ?_
        refine AllReadyH.cons rfl (fun K hK => ?_) ?_
        · have HAT4 := hide (strsAt_two x3 TB TH)
          rw [if_pos (by rfl)]
          go_simp
          refine hK.out _ _ ?_ (fun hHeld => ?_)
          · exact BoxS.alloc hHeld _
          clear hK K
          try simp only [Act.put, List.getElem_toArray, List.getElem_cons_zero, List.getElem_cons_succ, List.setIfInBounds_toArray, List.set_cons_zero, List.set_cons_succ]
          generalize x3.heap.size = g4 at HAT4 ⊢
          generalize x3.alloc (Obj.cells #[Value.string ⟨TB.toArray⟩, Value.string ⟨TH.toArray⟩] 9) = x4 at HAT4 hHeld ⊢
          refine wpAnyH_ready (rs := [5]) (by kernel_rfl) (by simp) ?_
          refine AllReadyH.cons rfl (fun K hK => ?_) ?_
          · rw [if_pos (by rfl)]
            go_simp
            go_at_call 29
            refine (H5.out _ _ HAT4.out (tab_below HTB.out hHeld.1)).mono ?_
            rintro r x5 ⟨rfl, hb5⟩
            try go_simp
            refine hK.out _ _ ?_ (fun hHeld => ?_)
            · exact BoxS.call hHeld hb5
            clear hK K
            try simp only [Act.put, List.getElem_toArray, List.getElem_cons_zero, List.getElem_cons_succ, List.setIfInBounds_toArray, List.set_cons_zero, List.set_cons_succ]
            clear hb5
            refine wpAnyH_ready (rs := [7]) (by kernel_rfl) (by simp) ?_
            refine AllReadyH.cons rfl (fun K hK => ?_) ?_
            · rw [if_pos (by rfl)]
              go_simp
              go_at_call 32
              refine (H7.out _ (HAT.out.below hHeld.1)).mono ?_
              rintro r x7 ⟨v7, rfl, ho7, hb7⟩
              obtain ⟨oa7, cap7, rfl, hat7⟩ := strsAt_own ho7
              have HAT7 := hide hat7
              clear ho7 hat7
              try go_simp
              refine hK.out _ _ ?_ (fun hHeld => ?_)
              · exact BoxS.call hHeld hb7
              clear hK K
              try simp only [Act.put, List.getElem_toArray, List.getElem_cons_zero, List.getElem_cons_succ, List.setIfInBounds_toArray, List.set_cons_zero, List.set_cons_succ]
              clear hb7
              refine wpAnyH_ready (rs := [8]) (by kernel_rfl) (by simp) ?_
              refine AllReadyH.cons rfl (fun K hK => ?_) ?_
              · rw [if_pos (by rfl)]
                go_simp
                go_at_call 29
                refine (H8.out _ _ _ HAT7.out (tab_below HTB.out hHeld.1)).mono ?_
                rintro r x8 ⟨rfl, hb8⟩
                try go_simp
                refine hK.out _ _ ?_ (fun hHeld => ?_)
                · exact BoxS.call hHeld hb8
                clear hK K
                try simp only [Act.put, List.getElem_toArray, List.getElem_cons_zero, List.getElem_cons_succ, List.setIfInBounds_toArray, List.set_cons_zero, List.set_cons_succ]
                clear hb8
                refine wpAnyH_take (i := 9) (v := ?_) rfl (by kernel_rfl) (by kernel_rfl) (by kernel_rfl) (fun _ _ _ h => h) (Or.inl ⟨by rfl, ?_⟩) (by assumption) ?_; rotate_left
                · (intro wz hSw; have z0 := BoxS.cell hSw 0 rfl; have z1 := BoxS.cell hSw 1 rfl; have z2 := BoxS.cell hSw 2 rfl; have z3 := BoxS.cell hSw 3 rfl; have z4 := BoxS.cell hSw 4 rfl; have z5 := BoxS.cell hSw 5 rfl; clear hSw; go_simp; first | done | with_reducible rfl)
                try simp only [Act.put, List.getElem_toArray, List.getElem_cons_zero, List.getElem_cons_succ, List.setIfInBounds_toArray, List.set_cons_zero, List.set_cons_succ]
                refine wpAnyH_take (i := 10) (v := ?_) rfl (by kernel_rfl) (by kernel_rfl) (by kernel_rfl) (fun _ _ _ h => h) (Or.inl ⟨by rfl, ?_⟩) (by assumption) ?_; rotate_left
                · (intro wz hSw; have z0 := BoxS.cell hSw 0 rfl; have z1 := BoxS.cell hSw 1 rfl; have z2 := BoxS.cell hSw 2 rfl; have z3 := BoxS.cell hSw 3 rfl; have z4 := BoxS.cell hSw 4 rfl; have z5 := BoxS.cell hSw 5 rfl; clear hSw; go_simp; first | done | with_reducible rfl)
                try simp only [Act.put, List.getElem_toArray, List.getElem_cons_zero, List.getElem_cons_succ, List.setIfInBounds_toArray, List.set_cons_zero, List.set_cons_succ]
                refine wpAnyH_done (by kernel_rfl) ?_ _
                have BZ := hide hHeld.1
                clear hHeld
                go_wp2_with fail
                go_ret2
                exact ⟨by rw [R.out]; rfl, BZ.out⟩
              exact AllReadyH.nil
            exact AllReadyH.nil
          exact AllReadyH.nil
        exact AllReadyH.nil
      exact AllReadyH.nil
    exact AllReadyH.nil

end Go.Proofs.YthbgklmnmoclhaaDoor
