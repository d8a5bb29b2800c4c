/-
  Walks and mathematics of Msg5.
-/
import Derived.Test.YtmllcomppjkhhaaGreatDoorRMsg3
import Derived.Test.YtmllcomppjkhhaaGreatDoorRHeldMore
import Derived.Test.YtmllcomppjkhhaaGreatDoorRIntsMark
import Derived.BigRegion
import Derived.Deep.RegionHeld3
namespace Go.Proofs.YtmllcomppjkhhaaGreatDoor.P18
end Go.Proofs.YtmllcomppjkhhaaGreatDoor.P18
namespace Go.Proofs.YtmllcomppjkhhaaGreatDoor.P3
end Go.Proofs.YtmllcomppjkhhaaGreatDoor.P3
namespace Go.Proofs.YtmllcomppjkhhaaGreatDoor
open Go.RowKit P1 P3 P9 P11 P12 P18 K
set_option linter.unusedVariables false
set_option linter.unusedSimpArgs false

theorem XS.off {h b : Nat} {cs cs' : Array Value} {T T' : TypeId} {w w' : World} (k : XS h cs T w) (j : XS b cs' T' w) (hne : T ≠ T') (hg : w.grownBy w' (some b)) : XS h cs T w' := k.kept hg (fun e => by
  cases e
  unfold XS at k j
  rw [k] at j
  cases j
  exact hne rfl)

theorem inw_more15 {w2 : World} (m : InW (fun w' => Below w2.heap.size w2 w')) {w3 : World} (h : Below m.w.heap.size m.w w3) : Below w2.heap.size w2 w3 := m.h.trans (h.mono m.h.size)

theorem below_from15 {w w2 : World} (hb : Below w.heap.size w w2) (m : InW (fun w' => Below w2.heap.size w2 w')) : Below w.heap.size w m.w := hb.trans (m.h.mono hb.size)

set_option maxRecDepth 100000 in
set_option maxHeartbeats 16000000 in
theorem implMessageOk_any (kd fr to tm ix lt cm : Int) (ok : Bool) (oa : Option Addr) (n cl : Nat) (ob : Option Addr) (m cp : Nat) (da : List UInt8) (la : Bool) (es : List EntV) (zs : List Int) (hd : da.length ≤ 1048576) (w : World) (ht : LimIs w) (hat : EntsAt w oa n cl es) (hbt : IntsAt w ob m cp zs) (hw : ∀ f ∈ es, f.data.size ≤ 1048576) (hn20 : n ≤ 1048576) (hm20 : m ≤ 1048576) :
    Calls Tryz.prog 9 #[(mgval kd fr to tm ix lt cm ok (.slice oa n cl) (.slice ob m cp) da la)] w fun e w' => e = .returned (.bool (msgOk (⟨kd, fr, to, tm, ix, lt, cm, ok, es, zs, da, la⟩ : MsgV))) ∧ Below w.heap.size w w' := by
  have hn := hat.len
  have hm := hbt.len
  have hb0 := (Below.refl w.heap.size w).alloc (Nat.le_refl _) (.cells #[.int .i64 kd, .int .i64 fr, .int .i64 to, .int .i64 tm, .int .i64 ix, .int .i64 lt, .int .i64 cm, .bool ok, .slice oa n cl, .slice ob m cp, .string ⟨da.toArray⟩, .bool la] 27)
  have HX0 := hide (XS.new w #[.int .i64 kd, .int .i64 fr, .int .i64 to, .int .i64 tm, .int .i64 ix, .int .i64 lt, .int .i64 cm, .bool ok, .slice oa n cl, .slice ob m cp, .string ⟨da.toArray⟩, .bool la] 27)
  have HNU := hide (fun w => numbers_any15 kd fr to tm ix lt cm ok oa n cl ob m cp da la w)
  have HPA := hide (fun w => parts_any15 kd fr to tm ix lt cm ok oa n cl ob m cp da la hn20 hm20 w)
  have HB0 := hide hb0
  have HAT := hide hat
  have HBT := hide hbt
  have HT := hide ht
  clear hb0 hat hbt ht
  obtain ⟨b0, hp0⟩ : ∃ b, (!decide (n = 0)) = b := ⟨_, rfl⟩
  obtain ⟨b1, hp1⟩ : ∃ b, (!decide (m = 0)) = b := ⟨_, rfl⟩
  obtain ⟨b2, hp2⟩ : ∃ b, (!decide (da.length = 0)) = b := ⟨_, rfl⟩
  rw [hp0, hp1, hp2] at HPA
  have HP0 := hide hp0
  have HP1 := hide hp1
  have HP2 := hide hp2
  clear hp0 hp1 hp2
  have hcomp : msgOk (⟨kd, fr, to, tm, ix, lt, cm, ok, es, zs, da, la⟩ : MsgV) = (hdM (⟨kd, fr, to, tm, ix, lt, cm, ok, es, zs, da, la⟩ : MsgV) && (!decide (fr = to) && (partsM (⟨kd, fr, to, tm, ix, lt, cm, ok, es, zs, da, la⟩ : MsgV) && ((decide (es.length ≤ 4) && upM tm lt es) && (confM (⟨kd, fr, to, tm, ix, lt, cm, ok, es, zs, da, la⟩ : MsgV) && decide (da.length ≤ 60)))))) := rfl
  rw [hcomp]
  obtain ⟨nb, hnb⟩ : ∃ b, hdM (⟨kd, fr, to, tm, ix, lt, cm, ok, es, zs, da, la⟩ : MsgV) = b := ⟨_, rfl⟩
  obtain ⟨pb, hpb⟩ : ∃ b, partsM (⟨kd, fr, to, tm, ix, lt, cm, ok, es, zs, da, la⟩ : MsgV) = b := ⟨_, rfl⟩
  obtain ⟨eb, heb⟩ : ∃ b, (decide (es.length ≤ 4) && upM tm lt es) = b := ⟨_, rfl⟩
  obtain ⟨cb, hcb⟩ : ∃ b, confM (⟨kd, fr, to, tm, ix, lt, cm, ok, es, zs, da, la⟩ : MsgV) = b := ⟨_, rfl⟩
  rw [hnb, hpb, heb, hcb]
  have HNB := hide hnb
  have HPB := hide hpb
  have HEB := hide heb
  have HCB := hide hcb
  clear hcomp hnb hpb heb hcb
  go_enter Tryz.func9, Tryz.ntmps9
  go_wp2_with fail
  generalize w.alloc (.cells #[.int .i64 kd, .int .i64 fr, .int .i64 to, .int .i64 tm, .int .i64 ix, .int .i64 lt, .int .i64 cm, .bool ok, .slice oa n cl, .slice ob m cp, .string ⟨da.toArray⟩, .bool la] 27) = x0 at HX0 HB0 ⊢
  refine (fun (KEY : Hid ?G) => ?main) (hide ?key)
  case main =>
    refine wp_region_held_drew (S := XS w.heap.size #[.int .i64 kd, .int .i64 fr, .int .i64 to, .int .i64 tm, .int .i64 ix, .int .i64 lt, .int .i64 cm, .bool ok, .slice oa n cl, .slice ob m cp, .string ⟨da.toArray⟩, .bool la] 27) (by kernel_rfl) HX0.out.drew (fun hHeld => ?_)
    have HBB := hide HB0.out.drew
    have HLO := hide (show w.heap.size ≤ x0.drew.heap.size from HBB.out.size)
    generalize x0.drew = xd at hHeld HBB HLO ⊢
    refine wpAnyH_take (i := 0) (v := ?_) rfl (by kernel_rfl) (by kernel_rfl) (by kernel_rfl) (fun _ _ _ h => h) (Or.inl ⟨by rfl, ?_⟩) (by assumption) ?_; rotate_left
    · (intro wz hSw; obtain ⟨z0, z1, z2, z3, z4, z5, z6, z7, z8, z9, z10, z11⟩ := xs12 hSw; clear hSw; go_simp; first | done | with_reducible rfl)
    try simp only [Act.put, List.getElem_toArray, List.getElem_cons_zero, List.getElem_cons_succ, List.setIfInBounds_toArray, List.set_cons_zero, List.set_cons_succ]
    refine wpAnyH_take (i := 2) (v := ?_) rfl (by kernel_rfl) (by kernel_rfl) (by kernel_rfl) (fun _ _ _ h => h) (Or.inl ⟨by rfl, ?_⟩) (by assumption) ?_; rotate_left
    · (intro wz hSw; obtain ⟨z0, z1, z2, z3, z4, z5, z6, z7, z8, z9, z10, z11⟩ := xs12 hSw; clear hSw; go_simp; first | done | with_reducible rfl)
    try simp only [Act.put, List.getElem_toArray, List.getElem_cons_zero, List.getElem_cons_succ, List.setIfInBounds_toArray, List.set_cons_zero, List.set_cons_succ]
    refine wpAnyH_ready (rs := [1, 4, 5]) (by kernel_rfl) (by simp) ?_
    refine AllReadyH.cons rfl (fun K hK => ?_) ?_
    · rw [if_pos (by rfl)]
      go_simp
      go_at_call 22
      refine (HNU.out _).mono ?_
      rintro r x1 ⟨rfl, hb1⟩
      try go_simp
      refine hK.out _ _ ?_ (fun hHeld => ?_)
      · exact hHeld.on hb1
      clear hK K
      try simp only [Act.put, List.getElem_toArray, List.getElem_cons_zero, List.getElem_cons_succ, List.setIfInBounds_toArray, List.set_cons_zero, List.set_cons_succ]
      replace HBB := hide (HBB.out.trans (hb1.mono HBB.out.size))
      replace HLO := hide HBB.out.size
      clear hb1
      refine wpAnyH_ready (rs := [3, 4, 5]) (by kernel_rfl) (by simp) ?_
      refine AllReadyH.cons rfl (fun K hK => ?_) ?_
      · rw [if_pos (by rfl)]
        go_simp
        go_at_call 23
        refine (HPA.out _).mono ?_
        rintro r x3 ⟨rfl, hb3⟩
        try go_simp
        refine hK.out _ _ ?_ (fun hHeld => ?_)
        · exact hHeld.on hb3
        clear hK K
        try simp only [Act.put, List.getElem_toArray, List.getElem_cons_zero, List.getElem_cons_succ, List.setIfInBounds_toArray, List.set_cons_zero, List.set_cons_succ]
        replace HBB := hide (HBB.out.trans (hb3.mono HBB.out.size))
        replace HLO := hide HBB.out.size
        clear hb3
        refine wpAnyH_ready (rs := [4, 5]) (by kernel_rfl) (by simp) ?_
        refine AllReadyH.cons rfl (fun K hK => ?_) ?_
        · rw [if_pos (by rfl)]
          go_simp
          refine hK.out _ _ ?_ (fun hHeld => ?_)
          · exact XS.alloc hHeld _
          clear hK K
          try simp only [Act.put, List.getElem_toArray, List.getElem_cons_zero, List.getElem_cons_succ, List.setIfInBounds_toArray, List.set_cons_zero, List.set_cons_succ]
          replace HBB := hide (HBB.out.alloc HBB.out.size (.cells #[.int .i64 0, .int .i64 0, .int .i64 0, .int .i64 0, .int .i64 0, .int .i64 0, .int .i64 0] 59))
          have hnew := XS.new (x3) #[.int .i64 0, .int .i64 0, .int .i64 0, .int .i64 0, .int .i64 0, .int .i64 0, .int .i64 0] 59
          generalize hW4 : (x3).alloc (.cells #[.int .i64 0, .int .i64 0, .int .i64 0, .int .i64 0, .int .i64 0, .int .i64 0, .int .i64 0] 59) = x4 at hHeld HBB hnew ⊢
          generalize hp4 : (x3).heap.size = p4 at hnew ⊢
          have HN := hide hnew
          have hlo4 : w.heap.size ≤ p4 := by rw [← hp4]; exact HLO.out
          clear hnew hW4 hp4
          replace HLO := hide HBB.out.size
          refine wpAnyH_ready (rs := [5]) (by kernel_rfl) (by simp) ?_
          refine AllReadyH.cons rfl (fun K hK => ?_) ?_
          · rw [if_pos (by rfl)]
            go_simp
            refine hK.out _ _ ?_ (fun hHeld => ?_)
            · exact XS.alloc hHeld _
            clear hK K
            try simp only [Act.put, List.getElem_toArray, List.getElem_cons_zero, List.getElem_cons_succ, List.setIfInBounds_toArray, List.set_cons_zero, List.set_cons_succ]
            replace HBB := hide (HBB.out.alloc HBB.out.size (.cells #[.bool false, .bool false, .bool false, .bool false] 62))
            have hnew := XS.new (x4) #[.bool false, .bool false, .bool false, .bool false] 62
            generalize hW5 : (x4).alloc (.cells #[.bool false, .bool false, .bool false, .bool false] 62) = x5 at hHeld HBB hnew ⊢
            replace HN := hide (show XS p4 #[.int .i64 0, .int .i64 0, .int .i64 0, .int .i64 0, .int .i64 0, .int .i64 0, .int .i64 0] 59 x5 by rw [← hW5]; exact HN.out.alloc _)
            generalize hp5 : (x4).heap.size = p5 at hnew ⊢
            have HQ := hide hnew
            have hlo5 : w.heap.size ≤ p5 := by rw [← hp5]; exact HLO.out
            clear hnew hW5 hp5
            replace HLO := hide HBB.out.size
            refine wpAnyH_ready (rs := [6]) (by kernel_rfl) (by simp) ?_
            refine AllReadyH.cons rfl (fun K hK => ?_) ?_
            · obtain ⟨fz0, fz1, fz2, fz3, fz4, fz5, fz6⟩ : (x5).frozen? ⟨p4, 0, none⟩ = false ∧ (x5).frozen? ⟨p4, 1, none⟩ = false ∧ (x5).frozen? ⟨p4, 2, none⟩ = false ∧ (x5).frozen? ⟨p4, 3, none⟩ = false ∧ (x5).frozen? ⟨p4, 4, none⟩ = false ∧ (x5).frozen? ⟨p4, 5, none⟩ = false ∧ (x5).frozen? ⟨p4, 6, none⟩ = false := ⟨HN.out.free 0, HN.out.free 1, HN.out.free 2, HN.out.free 3, HN.out.free 4, HN.out.free 5, HN.out.free 6⟩
              obtain ⟨yz0, yz1, yz2, yz3, yz4, yz5, yz6⟩ := xs7 HN.out
              rw [if_pos (by rfl)]
              go_simp
              obtain ⟨x6, hx6, hy6, hg6⟩ := sets7 HN.out (.int .i64 kd) (.int .i64 fr) (.int .i64 to) (.int .i64 tm) (.int .i64 ix) (.int .i64 lt) (.int .i64 cm)
              rw [hx6]
              clear fz0 yz0 fz1 yz1 fz2 yz2 fz3 yz3 fz4 yz4 fz5 yz5 fz6 yz6
              refine hK.out _ _ ?_ (fun hHeld => ?_)
              · exact XS.off hHeld HN.out (by decide) hg6
              clear hK K
              try simp only [Act.put, List.getElem_toArray, List.getElem_cons_zero, List.getElem_cons_succ, List.setIfInBounds_toArray, List.set_cons_zero, List.set_cons_succ]
              replace HBB := hide (HBB.out.grown hg6 HBB.out.size (fun q hq => by cases hq; assumption))
              replace HQ := hide (HQ.out.off HN.out (by decide) hg6)
              replace HN := hide hy6
              clear hx6 hy6 hg6
              refine wpAnyH_ready (rs := [7]) (by kernel_rfl) (by simp) ?_
              refine AllReadyH.cons rfl (fun K hK => ?_) ?_
              · obtain ⟨fz0, fz1, fz2, fz3⟩ : (x6).frozen? ⟨p5, 0, none⟩ = false ∧ (x6).frozen? ⟨p5, 1, none⟩ = false ∧ (x6).frozen? ⟨p5, 2, none⟩ = false ∧ (x6).frozen? ⟨p5, 3, none⟩ = false := ⟨HQ.out.free 0, HQ.out.free 1, HQ.out.free 2, HQ.out.free 3⟩
                obtain ⟨yz0, yz1, yz2, yz3⟩ := xs4 HQ.out
                rw [if_pos (by rfl)]
                go_simp
                obtain ⟨x7, hx7, hy7, hg7⟩ := sets4 HQ.out (.bool b0) (.bool b1) (.bool b2) (.bool la)
                rw [hx7]
                clear fz0 yz0 fz1 yz1 fz2 yz2 fz3 yz3
                refine hK.out _ _ ?_ (fun hHeld => ?_)
                · exact XS.off hHeld HQ.out (by decide) hg7
                clear hK K
                try simp only [Act.put, List.getElem_toArray, List.getElem_cons_zero, List.getElem_cons_succ, List.setIfInBounds_toArray, List.set_cons_zero, List.set_cons_succ]
                replace HBB := hide (HBB.out.grown hg7 HBB.out.size (fun q hq => by cases hq; assumption))
                replace HN := hide (HN.out.off HQ.out (by decide) hg7)
                replace HQ := hide hy7
                clear hx7 hy7 hg7
                refine wpAnyH_done (by kernel_rfl) ?_ _
                have HX := hide hHeld
                clear hHeld
                clear HLO
                clear hlo4 hlo5
                revert HX
                revert HQ
                revert HN
                revert HBB
                revert x7
                revert p5
                revert p4
                exact KEY.out
              exact AllReadyH.nil
            exact AllReadyH.nil
          exact AllReadyH.nil
        refine AllReadyH.cons rfl (fun K hK => ?_) ?_
        · rw [if_pos (by rfl)]
          go_simp
          refine hK.out _ _ ?_ (fun hHeld => ?_)
          · exact XS.alloc hHeld _
          clear hK K
          try simp only [Act.put, List.getElem_toArray, List.getElem_cons_zero, List.getElem_cons_succ, List.setIfInBounds_toArray, List.set_cons_zero, List.set_cons_succ]
          replace HBB := hide (HBB.out.alloc HBB.out.size (.cells #[.bool false, .bool false, .bool false, .bool false] 62))
          have hnew := XS.new (x3) #[.bool false, .bool false, .bool false, .bool false] 62
          generalize hW5 : (x3).alloc (.cells #[.bool false, .bool false, .bool false, .bool false] 62) = x5 at hHeld HBB hnew ⊢
          generalize hp5 : (x3).heap.size = p5 at hnew ⊢
          have HQ := hide hnew
          have hlo5 : w.heap.size ≤ p5 := by rw [← hp5]; exact HLO.out
          clear hnew hW5 hp5
          replace HLO := hide HBB.out.size
          refine wpAnyH_ready (rs := [4]) (by kernel_rfl) (by simp) ?_
          refine AllReadyH.cons rfl (fun K hK => ?_) ?_
          · rw [if_pos (by rfl)]
            go_simp
            refine hK.out _ _ ?_ (fun hHeld => ?_)
            · exact XS.alloc hHeld _
            clear hK K
            try simp only [Act.put, List.getElem_toArray, List.getElem_cons_zero, List.getElem_cons_succ, List.setIfInBounds_toArray, List.set_cons_zero, List.set_cons_succ]
            replace HBB := hide (HBB.out.alloc HBB.out.size (.cells #[.int .i64 0, .int .i64 0, .int .i64 0, .int .i64 0, .int .i64 0, .int .i64 0, .int .i64 0] 59))
            have hnew := XS.new (x5) #[.int .i64 0, .int .i64 0, .int .i64 0, .int .i64 0, .int .i64 0, .int .i64 0, .int .i64 0] 59
            generalize hW4 : (x5).alloc (.cells #[.int .i64 0, .int .i64 0, .int .i64 0, .int .i64 0, .int .i64 0, .int .i64 0, .int .i64 0] 59) = x4 at hHeld HBB hnew ⊢
            replace HQ := hide (show XS p5 #[.bool false, .bool false, .bool false, .bool false] 62 x4 by rw [← hW4]; exact HQ.out.alloc _)
            generalize hp4 : (x5).heap.size = p4 at hnew ⊢
            have HN := hide hnew
            have hlo4 : w.heap.size ≤ p4 := by rw [← hp4]; exact HLO.out
            clear hnew hW4 hp4
            replace HLO := hide HBB.out.size
            refine wpAnyH_ready (rs := [6]) (by kernel_rfl) (by simp) ?_
            refine AllReadyH.cons rfl (fun K hK => ?_) ?_
            · obtain ⟨fz0, fz1, fz2, fz3, fz4, fz5, fz6⟩ : (x4).frozen? ⟨p4, 0, none⟩ = false ∧ (x4).frozen? ⟨p4, 1, none⟩ = false ∧ (x4).frozen? ⟨p4, 2, none⟩ = false ∧ (x4).frozen? ⟨p4, 3, none⟩ = false ∧ (x4).frozen? ⟨p4, 4, none⟩ = false ∧ (x4).frozen? ⟨p4, 5, none⟩ = false ∧ (x4).frozen? ⟨p4, 6, none⟩ = false := ⟨HN.out.free 0, HN.out.free 1, HN.out.free 2, HN.out.free 3, HN.out.free 4, HN.out.free 5, HN.out.free 6⟩
              obtain ⟨yz0, yz1, yz2, yz3, yz4, yz5, yz6⟩ := xs7 HN.out
              rw [if_pos (by rfl)]
              go_simp
              obtain ⟨x6, hx6, hy6, hg6⟩ := sets7 HN.out (.int .i64 kd) (.int .i64 fr) (.int .i64 to) (.int .i64 tm) (.int .i64 ix) (.int .i64 lt) (.int .i64 cm)
              rw [hx6]
              clear fz0 yz0 fz1 yz1 fz2 yz2 fz3 yz3 fz4 yz4 fz5 yz5 fz6 yz6
              refine hK.out _ _ ?_ (fun hHeld => ?_)
              · exact XS.off hHeld HN.out (by decide) hg6
              clear hK K
              try simp only [Act.put, List.getElem_toArray, List.getElem_cons_zero, List.getElem_cons_succ, List.setIfInBounds_toArray, List.set_cons_zero, List.set_cons_succ]
              replace HBB := hide (HBB.out.grown hg6 HBB.out.size (fun q hq => by cases hq; assumption))
              replace HQ := hide (HQ.out.off HN.out (by decide) hg6)
              replace HN := hide hy6
              clear hx6 hy6 hg6
              refine wpAnyH_ready (rs := [7]) (by kernel_rfl) (by simp) ?_
              refine AllReadyH.cons rfl (fun K hK => ?_) ?_
              · obtain ⟨fz0, fz1, fz2, fz3⟩ : (x6).frozen? ⟨p5, 0, none⟩ = false ∧ (x6).frozen? ⟨p5, 1, none⟩ = false ∧ (x6).frozen? ⟨p5, 2, none⟩ = false ∧ (x6).frozen? ⟨p5, 3, none⟩ = false := ⟨HQ.out.free 0, HQ.out.free 1, HQ.out.free 2, HQ.out.free 3⟩
                obtain ⟨yz0, yz1, yz2, yz3⟩ := xs4 HQ.out
                rw [if_pos (by rfl)]
                go_simp
                obtain ⟨x7, hx7, hy7, hg7⟩ := sets4 HQ.out (.bool b0) (.bool b1) (.bool b2) (.bool la)
                rw [hx7]
                clear fz0 yz0 fz1 yz1 fz2 yz2 fz3 yz3
                refine hK.out _ _ ?_ (fun hHeld => ?_)
                · exact XS.off hHeld HQ.out (by decide) hg7
                clear hK K
                try simp only [Act.put, List.getElem_toArray, List.getElem_cons_zero, List.getElem_cons_succ, List.setIfInBounds_toArray, List.set_cons_zero, List.set_cons_succ]
                replace HBB := hide (HBB.out.grown hg7 HBB.out.size (fun q hq => by cases hq; assumption))
                replace HN := hide (HN.out.off HQ.out (by decide) hg7)
                replace HQ := hide hy7
                clear hx7 hy7 hg7
                refine wpAnyH_done (by kernel_rfl) ?_ _
                have HX := hide hHeld
                clear hHeld
                clear HLO
                clear hlo4 hlo5
                revert HX
                revert HQ
                revert HN
                revert HBB
                revert x7
                revert p5
                revert p4
                exact KEY.out
              exact AllReadyH.nil
            exact AllReadyH.nil
          exact AllReadyH.nil
        exact AllReadyH.nil
      refine AllReadyH.cons rfl (fun K hK => ?_) ?_
      · rw [if_pos (by rfl)]
        go_simp
        refine hK.out _ _ ?_ (fun hHeld => ?_)
        · exact XS.alloc hHeld _
        clear hK K
        try simp only [Act.put, List.getElem_toArray, List.getElem_cons_zero, List.getElem_cons_succ, List.setIfInBounds_toArray, List.set_cons_zero, List.set_cons_succ]
        replace HBB := hide (HBB.out.alloc HBB.out.size (.cells #[.int .i64 0, .int .i64 0, .int .i64 0, .int .i64 0, .int .i64 0, .int .i64 0, .int .i64 0] 59))
        have hnew := XS.new (x1) #[.int .i64 0, .int .i64 0, .int .i64 0, .int .i64 0, .int .i64 0, .int .i64 0, .int .i64 0] 59
        generalize hW4 : (x1).alloc (.cells #[.int .i64 0, .int .i64 0, .int .i64 0, .int .i64 0, .int .i64 0, .int .i64 0, .int .i64 0] 59) = x4 at hHeld HBB hnew ⊢
        generalize hp4 : (x1).heap.size = p4 at hnew ⊢
        have HN := hide hnew
        have hlo4 : w.heap.size ≤ p4 := by rw [← hp4]; exact HLO.out
        clear hnew hW4 hp4
        replace HLO := hide HBB.out.size
        refine wpAnyH_ready (rs := [3, 5]) (by kernel_rfl) (by simp) ?_
        refine AllReadyH.cons rfl (fun K hK => ?_) ?_
        · rw [if_pos (by rfl)]
          go_simp
          go_at_call 23
          refine (HPA.out _).mono ?_
          rintro r x3 ⟨rfl, hb3⟩
          try go_simp
          refine hK.out _ _ ?_ (fun hHeld => ?_)
          · exact hHeld.on hb3
          clear hK K
          try simp only [Act.put, List.getElem_toArray, List.getElem_cons_zero, List.getElem_cons_succ, List.setIfInBounds_toArray, List.set_cons_zero, List.set_cons_succ]
          replace HBB := hide (HBB.out.trans (hb3.mono HBB.out.size))
          replace HLO := hide HBB.out.size
          replace HN := hide (HN.out.on hb3)
          clear hb3
          refine wpAnyH_ready (rs := [5]) (by kernel_rfl) (by simp) ?_
          refine AllReadyH.cons rfl (fun K hK => ?_) ?_
          · rw [if_pos (by rfl)]
            go_simp
            refine hK.out _ _ ?_ (fun hHeld => ?_)
            · exact XS.alloc hHeld _
            clear hK K
            try simp only [Act.put, List.getElem_toArray, List.getElem_cons_zero, List.getElem_cons_succ, List.setIfInBounds_toArray, List.set_cons_zero, List.set_cons_succ]
            replace HBB := hide (HBB.out.alloc HBB.out.size (.cells #[.bool false, .bool false, .bool false, .bool false] 62))
            have hnew := XS.new (x3) #[.bool false, .bool false, .bool false, .bool false] 62
            generalize hW5 : (x3).alloc (.cells #[.bool false, .bool false, .bool false, .bool false] 62) = x5 at hHeld HBB hnew ⊢
            replace HN := hide (show XS p4 #[.int .i64 0, .int .i64 0, .int .i64 0, .int .i64 0, .int .i64 0, .int .i64 0, .int .i64 0] 59 x5 by rw [← hW5]; exact HN.out.alloc _)
            generalize hp5 : (x3).heap.size = p5 at hnew ⊢
            have HQ := hide hnew
            have hlo5 : w.heap.size ≤ p5 := by rw [← hp5]; exact HLO.out
            clear hnew hW5 hp5
            replace HLO := hide HBB.out.size
            refine wpAnyH_ready (rs := [6]) (by kernel_rfl) (by simp) ?_
            refine AllReadyH.cons rfl (fun K hK => ?_) ?_
            · obtain ⟨fz0, fz1, fz2, fz3, fz4, fz5, fz6⟩ : (x5).frozen? ⟨p4, 0, none⟩ = false ∧ (x5).frozen? ⟨p4, 1, none⟩ = false ∧ (x5).frozen? ⟨p4, 2, none⟩ = false ∧ (x5).frozen? ⟨p4, 3, none⟩ = false ∧ (x5).frozen? ⟨p4, 4, none⟩ = false ∧ (x5).frozen? ⟨p4, 5, none⟩ = false ∧ (x5).frozen? ⟨p4, 6, none⟩ = false := ⟨HN.out.free 0, HN.out.free 1, HN.out.free 2, HN.out.free 3, HN.out.free 4, HN.out.free 5, HN.out.free 6⟩
              obtain ⟨yz0, yz1, yz2, yz3, yz4, yz5, yz6⟩ := xs7 HN.out
              rw [if_pos (by rfl)]
              go_simp
              obtain ⟨x6, hx6, hy6, hg6⟩ := sets7 HN.out (.int .i64 kd) (.int .i64 fr) (.int .i64 to) (.int .i64 tm) (.int .i64 ix) (.int .i64 lt) (.int .i64 cm)
              rw [hx6]
              clear fz0 yz0 fz1 yz1 fz2 yz2 fz3 yz3 fz4 yz4 fz5 yz5 fz6 yz6
              refine hK.out _ _ ?_ (fun hHeld => ?_)
              · exact XS.off hHeld HN.out (by decide) hg6
              clear hK K
              try simp only [Act.put, List.getElem_toArray, List.getElem_cons_zero, List.getElem_cons_succ, List.setIfInBounds_toArray, List.set_cons_zero, List.set_cons_succ]
              replace HBB := hide (HBB.out.grown hg6 HBB.out.size (fun q hq => by cases hq; assumption))
              replace HQ := hide (HQ.out.off HN.out (by decide) hg6)
              replace HN := hide hy6
              clear hx6 hy6 hg6
              refine wpAnyH_ready (rs := [7]) (by kernel_rfl) (by simp) ?_
              refine AllReadyH.cons rfl (fun K hK => ?_) ?_
              · obtain ⟨fz0, fz1, fz2, fz3⟩ : (x6).frozen? ⟨p5, 0, none⟩ = false ∧ (x6).frozen? ⟨p5, 1, none⟩ = false ∧ (x6).frozen? ⟨p5, 2, none⟩ = false ∧ (x6).frozen? ⟨p5, 3, none⟩ = false := ⟨HQ.out.free 0, HQ.out.free 1, HQ.out.free 2, HQ.out.free 3⟩
                obtain ⟨yz0, yz1, yz2, yz3⟩ := xs4 HQ.out
                rw [if_pos (by rfl)]
                go_simp
                obtain ⟨x7, hx7, hy7, hg7⟩ := sets4 HQ.out (.bool b0) (.bool b1) (.bool b2) (.bool la)
                rw [hx7]
                clear fz0 yz0 fz1 yz1 fz2 yz2 fz3 yz3
                refine hK.out _ _ ?_ (fun hHeld => ?_)
                · exact XS.off hHeld HQ.out (by decide) hg7
                clear hK K
                try simp only [Act.put, List.getElem_toArray, List.getElem_cons_zero, List.getElem_cons_succ, List.setIfInBounds_toArray, List.set_cons_zero, List.set_cons_succ]
                replace HBB := hide (HBB.out.grown hg7 HBB.out.size (fun q hq => by cases hq; assumption))
                replace HN := hide (HN.out.off HQ.out (by decide) hg7)
                replace HQ := hide hy7
                clear hx7 hy7 hg7
                refine wpAnyH_done (by kernel_rfl) ?_ _
                have HX := hide hHeld
                clear hHeld
                clear HLO
                clear hlo4 hlo5
                revert HX
                revert HQ
                revert HN
                revert HBB
                revert x7
                revert p5
                revert p4
                exact KEY.out
              exact AllReadyH.nil
            exact AllReadyH.nil
          exact AllReadyH.nil
        refine AllReadyH.cons rfl (fun K hK => ?_) ?_
        · rw [if_pos (by rfl)]
          go_simp
          refine hK.out _ _ ?_ (fun hHeld => ?_)
          · exact XS.alloc hHeld _
          clear hK K
          try simp only [Act.put, List.getElem_toArray, List.getElem_cons_zero, List.getElem_cons_succ, List.setIfInBounds_toArray, List.set_cons_zero, List.set_cons_succ]
          replace HBB := hide (HBB.out.alloc HBB.out.size (.cells #[.bool false, .bool false, .bool false, .bool false] 62))
          have hnew := XS.new (x4) #[.bool false, .bool false, .bool false, .bool false] 62
          generalize hW5 : (x4).alloc (.cells #[.bool false, .bool false, .bool false, .bool false] 62) = x5 at hHeld HBB hnew ⊢
          replace HN := hide (show XS p4 #[.int .i64 0, .int .i64 0, .int .i64 0, .int .i64 0, .int .i64 0, .int .i64 0, .int .i64 0] 59 x5 by rw [← hW5]; exact HN.out.alloc _)
          generalize hp5 : (x4).heap.size = p5 at hnew ⊢
          have HQ := hide hnew
          have hlo5 : w.heap.size ≤ p5 := by rw [← hp5]; exact HLO.out
          clear hnew hW5 hp5
          replace HLO := hide HBB.out.size
          refine wpAnyH_ready (rs := [3]) (by kernel_rfl) (by simp) ?_
          refine AllReadyH.cons rfl (fun K hK => ?_) ?_
          · rw [if_pos (by rfl)]
            go_simp
            go_at_call 23
            refine (HPA.out _).mono ?_
            rintro r x3 ⟨rfl, hb3⟩
            try go_simp
            refine hK.out _ _ ?_ (fun hHeld => ?_)
            · exact hHeld.on hb3
            clear hK K
            try simp only [Act.put, List.getElem_toArray, List.getElem_cons_zero, List.getElem_cons_succ, List.setIfInBounds_toArray, List.set_cons_zero, List.set_cons_succ]
            replace HBB := hide (HBB.out.trans (hb3.mono HBB.out.size))
            replace HLO := hide HBB.out.size
            replace HN := hide (HN.out.on hb3)
            replace HQ := hide (HQ.out.on hb3)
            clear hb3
            refine wpAnyH_ready (rs := [6]) (by kernel_rfl) (by simp) ?_
            refine AllReadyH.cons rfl (fun K hK => ?_) ?_
            · obtain ⟨fz0, fz1, fz2, fz3, fz4, fz5, fz6⟩ : (x3).frozen? ⟨p4, 0, none⟩ = false ∧ (x3).frozen? ⟨p4, 1, none⟩ = false ∧ (x3).frozen? ⟨p4, 2, none⟩ = false ∧ (x3).frozen? ⟨p4, 3, none⟩ = false ∧ (x3).frozen? ⟨p4, 4, none⟩ = false ∧ (x3).frozen? ⟨p4, 5, none⟩ = false ∧ (x3).frozen? ⟨p4, 6, none⟩ = false := ⟨HN.out.free 0, HN.out.free 1, HN.out.free 2, HN.out.free 3, HN.out.free 4, HN.out.free 5, HN.out.free 6⟩
              obtain ⟨yz0, yz1, yz2, yz3, yz4, yz5, yz6⟩ := xs7 HN.out
              rw [if_pos (by rfl)]
              go_simp
              obtain ⟨x6, hx6, hy6, hg6⟩ := sets7 HN.out (.int .i64 kd) (.int .i64 fr) (.int .i64 to) (.int .i64 tm) (.int .i64 ix) (.int .i64 lt) (.int .i64 cm)
              rw [hx6]
              clear fz0 yz0 fz1 yz1 fz2 yz2 fz3 yz3 fz4 yz4 fz5 yz5 fz6 yz6
              refine hK.out _ _ ?_ (fun hHeld => ?_)
              · exact XS.off hHeld HN.out (by decide) hg6
              clear hK K
              try simp only [Act.put, List.getElem_toArray, List.getElem_cons_zero, List.getElem_cons_succ, List.setIfInBounds_toArray, List.set_cons_zero, List.set_cons_succ]
              replace HBB := hide (HBB.out.grown hg6 HBB.out.size (fun q hq => by cases hq; assumption))
              replace HQ := hide (HQ.out.off HN.out (by decide) hg6)
              replace HN := hide hy6
              clear hx6 hy6 hg6
              refine wpAnyH_ready (rs := [7]) (by kernel_rfl) (by simp) ?_
              refine AllReadyH.cons rfl (fun K hK => ?_) ?_
              · obtain ⟨fz0, fz1, fz2, fz3⟩ : (x6).frozen? ⟨p5, 0, none⟩ = false ∧ (x6).frozen? ⟨p5, 1, none⟩ = false ∧ (x6).frozen? ⟨p5, 2, none⟩ = false ∧ (x6).frozen? ⟨p5, 3, none⟩ = false := ⟨HQ.out.free 0, HQ.out.free 1, HQ.out.free 2, HQ.out.free 3⟩
                obtain ⟨yz0, yz1, yz2, yz3⟩ := xs4 HQ.out
                rw [if_pos (by rfl)]
                go_simp
                obtain ⟨x7, hx7, hy7, hg7⟩ := sets4 HQ.out (.bool b0) (.bool b1) (.bool b2) (.bool la)
                rw [hx7]
                clear fz0 yz0 fz1 yz1 fz2 yz2 fz3 yz3
                refine hK.out _ _ ?_ (fun hHeld => ?_)
                · exact XS.off hHeld HQ.out (by decide) hg7
                clear hK K
                try simp only [Act.put, List.getElem_toArray, List.getElem_cons_zero, List.getElem_cons_succ, List.setIfInBounds_toArray, List.set_cons_zero, List.set_cons_succ]
                replace HBB := hide (HBB.out.grown hg7 HBB.out.size (fun q hq => by cases hq; assumption))
                replace HN := hide (HN.out.off HQ.out (by decide) hg7)
                replace HQ := hide hy7
                clear hx7 hy7 hg7
                refine wpAnyH_done (by kernel_rfl) ?_ _
                have HX := hide hHeld
                clear hHeld
                clear HLO
                clear hlo4 hlo5
                revert HX
                revert HQ
                revert HN
                revert HBB
                revert x7
                revert p5
                revert p4
                exact KEY.out
              exact AllReadyH.nil
            exact AllReadyH.nil
          exact AllReadyH.nil
        exact AllReadyH.nil
      refine AllReadyH.cons rfl (fun K hK => ?_) ?_
      · rw [if_pos (by rfl)]
        go_simp
        refine hK.out _ _ ?_ (fun hHeld => ?_)
        · exact XS.alloc hHeld _
        clear hK K
        try simp only [Act.put, List.getElem_toArray, List.getElem_cons_zero, List.getElem_cons_succ, List.setIfInBounds_toArray, List.set_cons_zero, List.set_cons_succ]
        replace HBB := hide (HBB.out.alloc HBB.out.size (.cells #[.bool false, .bool false, .bool false, .bool false] 62))
        have hnew := XS.new (x1) #[.bool false, .bool false, .bool false, .bool false] 62
        generalize hW5 : (x1).alloc (.cells #[.bool false, .bool false, .bool false, .bool false] 62) = x5 at hHeld HBB hnew ⊢
        generalize hp5 : (x1).heap.size = p5 at hnew ⊢
        have HQ := hide hnew
        have hlo5 : w.heap.size ≤ p5 := by rw [← hp5]; exact HLO.out
        clear hnew hW5 hp5
        replace HLO := hide HBB.out.size
        refine wpAnyH_ready (rs := [3, 4]) (by kernel_rfl) (by simp) ?_
        refine AllReadyH.cons rfl (fun K hK => ?_) ?_
        · rw [if_pos (by rfl)]
          go_simp
          go_at_call 23
          refine (HPA.out _).mono ?_
          rintro r x3 ⟨rfl, hb3⟩
          try go_simp
          refine hK.out _ _ ?_ (fun hHeld => ?_)
          · exact hHeld.on hb3
          clear hK K
          try simp only [Act.put, List.getElem_toArray, List.getElem_cons_zero, List.getElem_cons_succ, List.setIfInBounds_toArray, List.set_cons_zero, List.set_cons_succ]
          replace HBB := hide (HBB.out.trans (hb3.mono HBB.out.size))
          replace HLO := hide HBB.out.size
          replace HQ := hide (HQ.out.on hb3)
          clear hb3
          refine wpAnyH_ready (rs := [4]) (by kernel_rfl) (by simp) ?_
          refine AllReadyH.cons rfl (fun K hK => ?_) ?_
          · rw [if_pos (by rfl)]
            go_simp
            refine hK.out _ _ ?_ (fun hHeld => ?_)
            · exact XS.alloc hHeld _
            clear hK K
            try simp only [Act.put, List.getElem_toArray, List.getElem_cons_zero, List.getElem_cons_succ, List.setIfInBounds_toArray, List.set_cons_zero, List.set_cons_succ]
            replace HBB := hide (HBB.out.alloc HBB.out.size (.cells #[.int .i64 0, .int .i64 0, .int .i64 0, .int .i64 0, .int .i64 0, .int .i64 0, .int .i64 0] 59))
            have hnew := XS.new (x3) #[.int .i64 0, .int .i64 0, .int .i64 0, .int .i64 0, .int .i64 0, .int .i64 0, .int .i64 0] 59
            generalize hW4 : (x3).alloc (.cells #[.int .i64 0, .int .i64 0, .int .i64 0, .int .i64 0, .int .i64 0, .int .i64 0, .int .i64 0] 59) = x4 at hHeld HBB hnew ⊢
            replace HQ := hide (show XS p5 #[.bool false, .bool false, .bool false, .bool false] 62 x4 by rw [← hW4]; exact HQ.out.alloc _)
            generalize hp4 : (x3).heap.size = p4 at hnew ⊢
            have HN := hide hnew
            have hlo4 : w.heap.size ≤ p4 := by rw [← hp4]; exact HLO.out
            clear hnew hW4 hp4
            replace HLO := hide HBB.out.size
            refine wpAnyH_ready (rs := [6]) (by kernel_rfl) (by simp) ?_
            refine AllReadyH.cons rfl (fun K hK => ?_) ?_
            · obtain ⟨fz0, fz1, fz2, fz3, fz4, fz5, fz6⟩ : (x4).frozen? ⟨p4, 0, none⟩ = false ∧ (x4).frozen? ⟨p4, 1, none⟩ = false ∧ (x4).frozen? ⟨p4, 2, none⟩ = false ∧ (x4).frozen? ⟨p4, 3, none⟩ = false ∧ (x4).frozen? ⟨p4, 4, none⟩ = false ∧ (x4).frozen? ⟨p4, 5, none⟩ = false ∧ (x4).frozen? ⟨p4, 6, none⟩ = false := ⟨HN.out.free 0, HN.out.free 1, HN.out.free 2, HN.out.free 3, HN.out.free 4, HN.out.free 5, HN.out.free 6⟩
              obtain ⟨yz0, yz1, yz2, yz3, yz4, yz5, yz6⟩ := xs7 HN.out
              rw [if_pos (by rfl)]
              go_simp
              obtain ⟨x6, hx6, hy6, hg6⟩ := sets7 HN.out (.int .i64 kd) (.int .i64 fr) (.int .i64 to) (.int .i64 tm) (.int .i64 ix) (.int .i64 lt) (.int .i64 cm)
              rw [hx6]
              clear fz0 yz0 fz1 yz1 fz2 yz2 fz3 yz3 fz4 yz4 fz5 yz5 fz6 yz6
              refine hK.out _ _ ?_ (fun hHeld => ?_)
              · exact XS.off hHeld HN.out (by decide) hg6
              clear hK K
              try simp only [Act.put, List.getElem_toArray, List.getElem_cons_zero, List.getElem_cons_succ, List.setIfInBounds_toArray, List.set_cons_zero, List.set_cons_succ]
              replace HBB := hide (HBB.out.grown hg6 HBB.out.size (fun q hq => by cases hq; assumption))
              replace HQ := hide (HQ.out.off HN.out (by decide) hg6)
              replace HN := hide hy6
              clear hx6 hy6 hg6
              refine wpAnyH_ready (rs := [7]) (by kernel_rfl) (by simp) ?_
              refine AllReadyH.cons rfl (fun K hK => ?_) ?_
              · obtain ⟨fz0, fz1, fz2, fz3⟩ : (x6).frozen? ⟨p5, 0, none⟩ = false ∧ (x6).frozen? ⟨p5, 1, none⟩ = false ∧ (x6).frozen? ⟨p5, 2, none⟩ = false ∧ (x6).frozen? ⟨p5, 3, none⟩ = false := ⟨HQ.out.free 0, HQ.out.free 1, HQ.out.free 2, HQ.out.free 3⟩
                obtain ⟨yz0, yz1, yz2, yz3⟩ := xs4 HQ.out
                rw [if_pos (by rfl)]
                go_simp
                obtain ⟨x7, hx7, hy7, hg7⟩ := sets4 HQ.out (.bool b0) (.bool b1) (.bool b2) (.bool la)
                rw [hx7]
                clear fz0 yz0 fz1 yz1 fz2 yz2 fz3 yz3
                refine hK.out _ _ ?_ (fun hHeld => ?_)
                · exact XS.off hHeld HQ.out (by decide) hg7
                clear hK K
                try simp only [Act.put, List.getElem_toArray, List.getElem_cons_zero, List.getElem_cons_succ, List.setIfInBounds_toArray, List.set_cons_zero, List.set_cons_succ]
                replace HBB := hide (HBB.out.grown hg7 HBB.out.size (fun q hq => by cases hq; assumption))
                replace HN := hide (HN.out.off HQ.out (by decide) hg7)
                replace HQ := hide hy7
                clear hx7 hy7 hg7
                refine wpAnyH_done (by kernel_rfl) ?_ _
                have HX := hide hHeld
                clear hHeld
                clear HLO
                clear hlo4 hlo5
                revert HX
                revert HQ
                revert HN
                revert HBB
                revert x7
                revert p5
                revert p4
                exact KEY.out
              exact AllReadyH.nil
            exact AllReadyH.nil
          exact AllReadyH.nil
        refine AllReadyH.cons rfl (fun K hK => ?_) ?_
        · rw [if_pos (by rfl)]
          go_simp
          refine hK.out _ _ ?_ (fun hHeld => ?_)
          · exact XS.alloc hHeld _
          clear hK K
          try simp only [Act.put, List.getElem_toArray, List.getElem_cons_zero, List.getElem_cons_succ, List.setIfInBounds_toArray, List.set_cons_zero, List.set_cons_succ]
          replace HBB := hide (HBB.out.alloc HBB.out.size (.cells #[.int .i64 0, .int .i64 0, .int .i64 0, .int .i64 0, .int .i64 0, .int .i64 0, .int .i64 0] 59))
          have hnew := XS.new (x5) #[.int .i64 0, .int .i64 0, .int .i64 0, .int .i64 0, .int .i64 0, .int .i64 0, .int .i64 0] 59
          generalize hW4 : (x5).alloc (.cells #[.int .i64 0, .int .i64 0, .int .i64 0, .int .i64 0, .int .i64 0, .int .i64 0, .int .i64 0] 59) = x4 at hHeld HBB hnew ⊢
          replace HQ := hide (show XS p5 #[.bool false, .bool false, .bool false, .bool false] 62 x4 by rw [← hW4]; exact HQ.out.alloc _)
          generalize hp4 : (x5).heap.size = p4 at hnew ⊢
          have HN := hide hnew
          have hlo4 : w.heap.size ≤ p4 := by rw [← hp4]; exact HLO.out
          clear hnew hW4 hp4
          replace HLO := hide HBB.out.size
          refine wpAnyH_ready (rs := [3]) (by kernel_rfl) (by simp) ?_
          refine AllReadyH.cons rfl (fun K hK => ?_) ?_
          · rw [if_pos (by rfl)]
            go_simp
            go_at_call 23
            refine (HPA.out _).mono ?_
            rintro r x3 ⟨rfl, hb3⟩
            try go_simp
            refine hK.out _ _ ?_ (fun hHeld => ?_)
            · exact hHeld.on hb3
            clear hK K
            try simp only [Act.put, List.getElem_toArray, List.getElem_cons_zero, List.getElem_cons_succ, List.setIfInBounds_toArray, List.set_cons_zero, List.set_cons_succ]
            replace HBB := hide (HBB.out.trans (hb3.mono HBB.out.size))
            replace HLO := hide HBB.out.size
            replace HN := hide (HN.out.on hb3)
            replace HQ := hide (HQ.out.on hb3)
            clear hb3
            refine wpAnyH_ready (rs := [6]) (by kernel_rfl) (by simp) ?_
            refine AllReadyH.cons rfl (fun K hK => ?_) ?_
            · obtain ⟨fz0, fz1, fz2, fz3, fz4, fz5, fz6⟩ : (x3).frozen? ⟨p4, 0, none⟩ = false ∧ (x3).frozen? ⟨p4, 1, none⟩ = false ∧ (x3).frozen? ⟨p4, 2, none⟩ = false ∧ (x3).frozen? ⟨p4, 3, none⟩ = false ∧ (x3).frozen? ⟨p4, 4, none⟩ = false ∧ (x3).frozen? ⟨p4, 5, none⟩ = false ∧ (x3).frozen? ⟨p4, 6, none⟩ = false := ⟨HN.out.free 0, HN.out.free 1, HN.out.free 2, HN.out.free 3, HN.out.free 4, HN.out.free 5, HN.out.free 6⟩
              obtain ⟨yz0, yz1, yz2, yz3, yz4, yz5, yz6⟩ := xs7 HN.out
              rw [if_pos (by rfl)]
              go_simp
              obtain ⟨x6, hx6, hy6, hg6⟩ := sets7 HN.out (.int .i64 kd) (.int .i64 fr) (.int .i64 to) (.int .i64 tm) (.int .i64 ix) (.int .i64 lt) (.int .i64 cm)
              rw [hx6]
              clear fz0 yz0 fz1 yz1 fz2 yz2 fz3 yz3 fz4 yz4 fz5 yz5 fz6 yz6
              refine hK.out _ _ ?_ (fun hHeld => ?_)
              · exact XS.off hHeld HN.out (by decide) hg6
              clear hK K
              try simp only [Act.put, List.getElem_toArray, List.getElem_cons_zero, List.getElem_cons_succ, List.setIfInBounds_toArray, List.set_cons_zero, List.set_cons_succ]
              replace HBB := hide (HBB.out.grown hg6 HBB.out.size (fun q hq => by cases hq; assumption))
              replace HQ := hide (HQ.out.off HN.out (by decide) hg6)
              replace HN := hide hy6
              clear hx6 hy6 hg6
              refine wpAnyH_ready (rs := [7]) (by kernel_rfl) (by simp) ?_
              refine AllReadyH.cons rfl (fun K hK => ?_) ?_
              · obtain ⟨fz0, fz1, fz2, fz3⟩ : (x6).frozen? ⟨p5, 0, none⟩ = false ∧ (x6).frozen? ⟨p5, 1, none⟩ = false ∧ (x6).frozen? ⟨p5, 2, none⟩ = false ∧ (x6).frozen? ⟨p5, 3, none⟩ = false := ⟨HQ.out.free 0, HQ.out.free 1, HQ.out.free 2, HQ.out.free 3⟩
                obtain ⟨yz0, yz1, yz2, yz3⟩ := xs4 HQ.out
                rw [if_pos (by rfl)]
                go_simp
                obtain ⟨x7, hx7, hy7, hg7⟩ := sets4 HQ.out (.bool b0) (.bool b1) (.bool b2) (.bool la)
                rw [hx7]
                clear fz0 yz0 fz1 yz1 fz2 yz2 fz3 yz3
                refine hK.out _ _ ?_ (fun hHeld => ?_)
                · exact XS.off hHeld HQ.out (by decide) hg7
                clear hK K
                try simp only [Act.put, List.getElem_toArray, List.getElem_cons_zero, List.getElem_cons_succ, List.setIfInBounds_toArray, List.set_cons_zero, List.set_cons_succ]
                replace HBB := hide (HBB.out.grown hg7 HBB.out.size (fun q hq => by cases hq; assumption))
                replace HN := hide (HN.out.off HQ.out (by decide) hg7)
                replace HQ := hide hy7
                clear hx7 hy7 hg7
                refine wpAnyH_done (by kernel_rfl) ?_ _
                have HX := hide hHeld
                clear hHeld
                clear HLO
                clear hlo4 hlo5
                revert HX
                revert HQ
                revert HN
                revert HBB
                revert x7
                revert p5
                revert p4
                exact KEY.out
              exact AllReadyH.nil
            exact AllReadyH.nil
          exact AllReadyH.nil
        exact AllReadyH.nil
      exact AllReadyH.nil
    refine AllReadyH.cons rfl (fun K hK => ?_) ?_
    · rw [if_pos (by rfl)]
      go_simp
      refine hK.out _ _ ?_ (fun hHeld => ?_)
      · exact XS.alloc hHeld _
      clear hK K
      try simp only [Act.put, List.getElem_toArray, List.getElem_cons_zero, List.getElem_cons_succ, List.setIfInBounds_toArray, List.set_cons_zero, List.set_cons_succ]
      replace HBB := hide (HBB.out.alloc HBB.out.size (.cells #[.int .i64 0, .int .i64 0, .int .i64 0, .int .i64 0, .int .i64 0, .int .i64 0, .int .i64 0] 59))
      have hnew := XS.new (xd) #[.int .i64 0, .int .i64 0, .int .i64 0, .int .i64 0, .int .i64 0, .int .i64 0, .int .i64 0] 59
      generalize hW4 : (xd).alloc (.cells #[.int .i64 0, .int .i64 0, .int .i64 0, .int .i64 0, .int .i64 0, .int .i64 0, .int .i64 0] 59) = x4 at hHeld HBB hnew ⊢
      generalize hp4 : (xd).heap.size = p4 at hnew ⊢
      have HN := hide hnew
      have hlo4 : w.heap.size ≤ p4 := by rw [← hp4]; exact HLO.out
      clear hnew hW4 hp4
      replace HLO := hide HBB.out.size
      refine wpAnyH_ready (rs := [1, 5]) (by kernel_rfl) (by simp) ?_
      refine AllReadyH.cons rfl (fun K hK => ?_) ?_
      · rw [if_pos (by rfl)]
        go_simp
        go_at_call 22
        refine (HNU.out _).mono ?_
        rintro r x1 ⟨rfl, hb1⟩
        try go_simp
        refine hK.out _ _ ?_ (fun hHeld => ?_)
        · exact hHeld.on hb1
        clear hK K
        try simp only [Act.put, List.getElem_toArray, List.getElem_cons_zero, List.getElem_cons_succ, List.setIfInBounds_toArray, List.set_cons_zero, List.set_cons_succ]
        replace HBB := hide (HBB.out.trans (hb1.mono HBB.out.size))
        replace HLO := hide HBB.out.size
        replace HN := hide (HN.out.on hb1)
        clear hb1
        refine wpAnyH_ready (rs := [3, 5]) (by kernel_rfl) (by simp) ?_
        refine AllReadyH.cons rfl (fun K hK => ?_) ?_
        · rw [if_pos (by rfl)]
          go_simp
          go_at_call 23
          refine (HPA.out _).mono ?_
          rintro r x3 ⟨rfl, hb3⟩
          try go_simp
          refine hK.out _ _ ?_ (fun hHeld => ?_)
          · exact hHeld.on hb3
          clear hK K
          try simp only [Act.put, List.getElem_toArray, List.getElem_cons_zero, List.getElem_cons_succ, List.setIfInBounds_toArray, List.set_cons_zero, List.set_cons_succ]
          replace HBB := hide (HBB.out.trans (hb3.mono HBB.out.size))
          replace HLO := hide HBB.out.size
          replace HN := hide (HN.out.on hb3)
          clear hb3
          refine wpAnyH_ready (rs := [5]) (by kernel_rfl) (by simp) ?_
          refine AllReadyH.cons rfl (fun K hK => ?_) ?_
          · rw [if_pos (by rfl)]
            go_simp
            refine hK.out _ _ ?_ (fun hHeld => ?_)
            · exact XS.alloc hHeld _
            clear hK K
            try simp only [Act.put, List.getElem_toArray, List.getElem_cons_zero, List.getElem_cons_succ, List.setIfInBounds_toArray, List.set_cons_zero, List.set_cons_succ]
            replace HBB := hide (HBB.out.alloc HBB.out.size (.cells #[.bool false, .bool false, .bool false, .bool false] 62))
            have hnew := XS.new (x3) #[.bool false, .bool false, .bool false, .bool false] 62
            generalize hW5 : (x3).alloc (.cells #[.bool false, .bool false, .bool false, .bool false] 62) = x5 at hHeld HBB hnew ⊢
            replace HN := hide (show XS p4 #[.int .i64 0, .int .i64 0, .int .i64 0, .int .i64 0, .int .i64 0, .int .i64 0, .int .i64 0] 59 x5 by rw [← hW5]; exact HN.out.alloc _)
            generalize hp5 : (x3).heap.size = p5 at hnew ⊢
            have HQ := hide hnew
            have hlo5 : w.heap.size ≤ p5 := by rw [← hp5]; exact HLO.out
            clear hnew hW5 hp5
            replace HLO := hide HBB.out.size
            refine wpAnyH_ready (rs := [6]) (by kernel_rfl) (by simp) ?_
            refine AllReadyH.cons rfl (fun K hK => ?_) ?_
            · obtain ⟨fz0, fz1, fz2, fz3, fz4, fz5, fz6⟩ : (x5).frozen? ⟨p4, 0, none⟩ = false ∧ (x5).frozen? ⟨p4, 1, none⟩ = false ∧ (x5).frozen? ⟨p4, 2, none⟩ = false ∧ (x5).frozen? ⟨p4, 3, none⟩ = false ∧ (x5).frozen? ⟨p4, 4, none⟩ = false ∧ (x5).frozen? ⟨p4, 5, none⟩ = false ∧ (x5).frozen? ⟨p4, 6, none⟩ = false := ⟨HN.out.free 0, HN.out.free 1, HN.out.free 2, HN.out.free 3, HN.out.free 4, HN.out.free 5, HN.out.free 6⟩
              obtain ⟨yz0, yz1, yz2, yz3, yz4, yz5, yz6⟩ := xs7 HN.out
              rw [if_pos (by rfl)]
              go_simp
              obtain ⟨x6, hx6, hy6, hg6⟩ := sets7 HN.out (.int .i64 kd) (.int .i64 fr) (.int .i64 to) (.int .i64 tm) (.int .i64 ix) (.int .i64 lt) (.int .i64 cm)
              rw [hx6]
              clear fz0 yz0 fz1 yz1 fz2 yz2 fz3 yz3 fz4 yz4 fz5 yz5 fz6 yz6
              refine hK.out _ _ ?_ (fun hHeld => ?_)
              · exact XS.off hHeld HN.out (by decide) hg6
              clear hK K
              try simp only [Act.put, List.getElem_toArray, List.getElem_cons_zero, List.getElem_cons_succ, List.setIfInBounds_toArray, List.set_cons_zero, List.set_cons_succ]
              replace HBB := hide (HBB.out.grown hg6 HBB.out.size (fun q hq => by cases hq; assumption))
              replace HQ := hide (HQ.out.off HN.out (by decide) hg6)
              replace HN := hide hy6
              clear hx6 hy6 hg6
              refine wpAnyH_ready (rs := [7]) (by kernel_rfl) (by simp) ?_
              refine AllReadyH.cons rfl (fun K hK => ?_) ?_
              · obtain ⟨fz0, fz1, fz2, fz3⟩ : (x6).frozen? ⟨p5, 0, none⟩ = false ∧ (x6).frozen? ⟨p5, 1, none⟩ = false ∧ (x6).frozen? ⟨p5, 2, none⟩ = false ∧ (x6).frozen? ⟨p5, 3, none⟩ = false := ⟨HQ.out.free 0, HQ.out.free 1, HQ.out.free 2, HQ.out.free 3⟩
                obtain ⟨yz0, yz1, yz2, yz3⟩ := xs4 HQ.out
                rw [if_pos (by rfl)]
                go_simp
                obtain ⟨x7, hx7, hy7, hg7⟩ := sets4 HQ.out (.bool b0) (.bool b1) (.bool b2) (.bool la)
                rw [hx7]
                clear fz0 yz0 fz1 yz1 fz2 yz2 fz3 yz3
                refine hK.out _ _ ?_ (fun hHeld => ?_)
                · exact XS.off hHeld HQ.out (by decide) hg7
                clear hK K
                try simp only [Act.put, List.getElem_toArray, List.getElem_cons_zero, List.getElem_cons_succ, List.setIfInBounds_toArray, List.set_cons_zero, List.set_cons_succ]
                replace HBB := hide (HBB.out.grown hg7 HBB.out.size (fun q hq => by cases hq; assumption))
                replace HN := hide (HN.out.off HQ.out (by decide) hg7)
                replace HQ := hide hy7
                clear hx7 hy7 hg7
                refine wpAnyH_done (by kernel_rfl) ?_ _
                have HX := hide hHeld
                clear hHeld
                clear HLO
                clear hlo4 hlo5
                revert HX
                revert HQ
                revert HN
                revert HBB
                revert x7
                revert p5
                revert p4
                exact KEY.out
              exact AllReadyH.nil
            exact AllReadyH.nil
          exact AllReadyH.nil
        refine AllReadyH.cons rfl (fun K hK => ?_) ?_
        · rw [if_pos (by rfl)]
          go_simp
          refine hK.out _ _ ?_ (fun hHeld => ?_)
          · exact XS.alloc hHeld _
          clear hK K
          try simp only [Act.put, List.getElem_toArray, List.getElem_cons_zero, List.getElem_cons_succ, List.setIfInBounds_toArray, List.set_cons_zero, List.set_cons_succ]
          replace HBB := hide (HBB.out.alloc HBB.out.size (.cells #[.bool false, .bool false, .bool false, .bool false] 62))
          have hnew := XS.new (x1) #[.bool false, .bool false, .bool false, .bool false] 62
          generalize hW5 : (x1).alloc (.cells #[.bool false, .bool false, .bool false, .bool false] 62) = x5 at hHeld HBB hnew ⊢
          replace HN := hide (show XS p4 #[.int .i64 0, .int .i64 0, .int .i64 0, .int .i64 0, .int .i64 0, .int .i64 0, .int .i64 0] 59 x5 by rw [← hW5]; exact HN.out.alloc _)
          generalize hp5 : (x1).heap.size = p5 at hnew ⊢
          have HQ := hide hnew
          have hlo5 : w.heap.size ≤ p5 := by rw [← hp5]; exact HLO.out
          clear hnew hW5 hp5
          replace HLO := hide HBB.out.size
          refine wpAnyH_ready (rs := [3]) (by kernel_rfl) (by simp) ?_
          refine AllReadyH.cons rfl (fun K hK => ?_) ?_
          · rw [if_pos (by rfl)]
            go_simp
            go_at_call 23
            refine (HPA.out _).mono ?_
            rintro r x3 ⟨rfl, hb3⟩
            try go_simp
            refine hK.out _ _ ?_ (fun hHeld => ?_)
            · exact hHeld.on hb3
            clear hK K
            try simp only [Act.put, List.getElem_toArray, List.getElem_cons_zero, List.getElem_cons_succ, List.setIfInBounds_toArray, List.set_cons_zero, List.set_cons_succ]
            replace HBB := hide (HBB.out.trans (hb3.mono HBB.out.size))
            replace HLO := hide HBB.out.size
            replace HN := hide (HN.out.on hb3)
            replace HQ := hide (HQ.out.on hb3)
            clear hb3
            refine wpAnyH_ready (rs := [6]) (by kernel_rfl) (by simp) ?_
            refine AllReadyH.cons rfl (fun K hK => ?_) ?_
            · obtain ⟨fz0, fz1, fz2, fz3, fz4, fz5, fz6⟩ : (x3).frozen? ⟨p4, 0, none⟩ = false ∧ (x3).frozen? ⟨p4, 1, none⟩ = false ∧ (x3).frozen? ⟨p4, 2, none⟩ = false ∧ (x3).frozen? ⟨p4, 3, none⟩ = false ∧ (x3).frozen? ⟨p4, 4, none⟩ = false ∧ (x3).frozen? ⟨p4, 5, none⟩ = false ∧ (x3).frozen? ⟨p4, 6, none⟩ = false := ⟨HN.out.free 0, HN.out.free 1, HN.out.free 2, HN.out.free 3, HN.out.free 4, HN.out.free 5, HN.out.free 6⟩
              obtain ⟨yz0, yz1, yz2, yz3, yz4, yz5, yz6⟩ := xs7 HN.out
              rw [if_pos (by rfl)]
              go_simp
              obtain ⟨x6, hx6, hy6, hg6⟩ := sets7 HN.out (.int .i64 kd) (.int .i64 fr) (.int .i64 to) (.int .i64 tm) (.int .i64 ix) (.int .i64 lt) (.int .i64 cm)
              rw [hx6]
              clear fz0 yz0 fz1 yz1 fz2 yz2 fz3 yz3 fz4 yz4 fz5 yz5 fz6 yz6
              refine hK.out _ _ ?_ (fun hHeld => ?_)
              · exact XS.off hHeld HN.out (by decide) hg6
              clear hK K
              try simp only [Act.put, List.getElem_toArray, List.getElem_cons_zero, List.getElem_cons_succ, List.setIfInBounds_toArray, List.set_cons_zero, List.set_cons_succ]
              replace HBB := hide (HBB.out.grown hg6 HBB.out.size (fun q hq => by cases hq; assumption))
              replace HQ := hide (HQ.out.off HN.out (by decide) hg6)
              replace HN := hide hy6
              clear hx6 hy6 hg6
              refine wpAnyH_ready (rs := [7]) (by kernel_rfl) (by simp) ?_
              refine AllReadyH.cons rfl (fun K hK => ?_) ?_
              · obtain ⟨fz0, fz1, fz2, fz3⟩ : (x6).frozen? ⟨p5, 0, none⟩ = false ∧ (x6).frozen? ⟨p5, 1, none⟩ = false ∧ (x6).frozen? ⟨p5, 2, none⟩ = false ∧ (x6).frozen? ⟨p5, 3, none⟩ = false := ⟨HQ.out.free 0, HQ.out.free 1, HQ.out.free 2, HQ.out.free 3⟩
                obtain ⟨yz0, yz1, yz2, yz3⟩ := xs4 HQ.out
                rw [if_pos (by rfl)]
                go_simp
                obtain ⟨x7, hx7, hy7, hg7⟩ := sets4 HQ.out (.bool b0) (.bool b1) (.bool b2) (.bool la)
                rw [hx7]
                clear fz0 yz0 fz1 yz1 fz2 yz2 fz3 yz3
                refine hK.out _ _ ?_ (fun hHeld => ?_)
                · exact XS.off hHeld HQ.out (by decide) hg7
                clear hK K
                try simp only [Act.put, List.getElem_toArray, List.getElem_cons_zero, List.getElem_cons_succ, List.setIfInBounds_toArray, List.set_cons_zero, List.set_cons_succ]
                replace HBB := hide (HBB.out.grown hg7 HBB.out.size (fun q hq => by cases hq; assumption))
                replace HN := hide (HN.out.off HQ.out (by decide) hg7)
                replace HQ := hide hy7
                clear hx7 hy7 hg7
                refine wpAnyH_done (by kernel_rfl) ?_ _
                have HX := hide hHeld
                clear hHeld
                clear HLO
                clear hlo4 hlo5
                revert HX
                revert HQ
                revert HN
                revert HBB
                revert x7
                revert p5
                revert p4
                exact KEY.out
              exact AllReadyH.nil
            exact AllReadyH.nil
          exact AllReadyH.nil
        exact AllReadyH.nil
      refine AllReadyH.cons rfl (fun K hK => ?_) ?_
      · rw [if_pos (by rfl)]
        go_simp
        refine hK.out _ _ ?_ (fun hHeld => ?_)
        · exact XS.alloc hHeld _
        clear hK K
        try simp only [Act.put, List.getElem_toArray, List.getElem_cons_zero, List.getElem_cons_succ, List.setIfInBounds_toArray, List.set_cons_zero, List.set_cons_succ]
        replace HBB := hide (HBB.out.alloc HBB.out.size (.cells #[.bool false, .bool false, .bool false, .bool false] 62))
        have hnew := XS.new (x4) #[.bool false, .bool false, .bool false, .bool false] 62
        generalize hW5 : (x4).alloc (.cells #[.bool false, .bool false, .bool false, .bool false] 62) = x5 at hHeld HBB hnew ⊢
        replace HN := hide (show XS p4 #[.int .i64 0, .int .i64 0, .int .i64 0, .int .i64 0, .int .i64 0, .int .i64 0, .int .i64 0] 59 x5 by rw [← hW5]; exact HN.out.alloc _)
        generalize hp5 : (x4).heap.size = p5 at hnew ⊢
        have HQ := hide hnew
        have hlo5 : w.heap.size ≤ p5 := by rw [← hp5]; exact HLO.out
        clear hnew hW5 hp5
        replace HLO := hide HBB.out.size
        refine wpAnyH_ready (rs := [1]) (by kernel_rfl) (by simp) ?_
        refine AllReadyH.cons rfl (fun K hK => ?_) ?_
        · rw [if_pos (by rfl)]
          go_simp
          go_at_call 22
          refine (HNU.out _).mono ?_
          rintro r x1 ⟨rfl, hb1⟩
          try go_simp
          refine hK.out _ _ ?_ (fun hHeld => ?_)
          · exact hHeld.on hb1
          clear hK K
          try simp only [Act.put, List.getElem_toArray, List.getElem_cons_zero, List.getElem_cons_succ, List.setIfInBounds_toArray, List.set_cons_zero, List.set_cons_succ]
          replace HBB := hide (HBB.out.trans (hb1.mono HBB.out.size))
          replace HLO := hide HBB.out.size
          replace HN := hide (HN.out.on hb1)
          replace HQ := hide (HQ.out.on hb1)
          clear hb1
          refine wpAnyH_ready (rs := [3]) (by kernel_rfl) (by simp) ?_
          refine AllReadyH.cons rfl (fun K hK => ?_) ?_
          · rw [if_pos (by rfl)]
            go_simp
            go_at_call 23
            refine (HPA.out _).mono ?_
            rintro r x3 ⟨rfl, hb3⟩
            try go_simp
            refine hK.out _ _ ?_ (fun hHeld => ?_)
            · exact hHeld.on hb3
            clear hK K
            try simp only [Act.put, List.getElem_toArray, List.getElem_cons_zero, List.getElem_cons_succ, List.setIfInBounds_toArray, List.set_cons_zero, List.set_cons_succ]
            replace HBB := hide (HBB.out.trans (hb3.mono HBB.out.size))
            replace HLO := hide HBB.out.size
            replace HN := hide (HN.out.on hb3)
            replace HQ := hide (HQ.out.on hb3)
            clear hb3
            refine wpAnyH_ready (rs := [6]) (by kernel_rfl) (by simp) ?_
            refine AllReadyH.cons rfl (fun K hK => ?_) ?_
            · obtain ⟨fz0, fz1, fz2, fz3, fz4, fz5, fz6⟩ : (x3).frozen? ⟨p4, 0, none⟩ = false ∧ (x3).frozen? ⟨p4, 1, none⟩ = false ∧ (x3).frozen? ⟨p4, 2, none⟩ = false ∧ (x3).frozen? ⟨p4, 3, none⟩ = false ∧ (x3).frozen? ⟨p4, 4, none⟩ = false ∧ (x3).frozen? ⟨p4, 5, none⟩ = false ∧ (x3).frozen? ⟨p4, 6, none⟩ = false := ⟨HN.out.free 0, HN.out.free 1, HN.out.free 2, HN.out.free 3, HN.out.free 4, HN.out.free 5, HN.out.free 6⟩
              obtain ⟨yz0, yz1, yz2, yz3, yz4, yz5, yz6⟩ := xs7 HN.out
              rw [if_pos (by rfl)]
              go_simp
              obtain ⟨x6, hx6, hy6, hg6⟩ := sets7 HN.out (.int .i64 kd) (.int .i64 fr) (.int .i64 to) (.int .i64 tm) (.int .i64 ix) (.int .i64 lt) (.int .i64 cm)
              rw [hx6]
              clear fz0 yz0 fz1 yz1 fz2 yz2 fz3 yz3 fz4 yz4 fz5 yz5 fz6 yz6
              refine hK.out _ _ ?_ (fun hHeld => ?_)
              · exact XS.off hHeld HN.out (by decide) hg6
              clear hK K
              try simp only [Act.put, List.getElem_toArray, List.getElem_cons_zero, List.getElem_cons_succ, List.setIfInBounds_toArray, List.set_cons_zero, List.set_cons_succ]
              replace HBB := hide (HBB.out.grown hg6 HBB.out.size (fun q hq => by cases hq; assumption))
              replace HQ := hide (HQ.out.off HN.out (by decide) hg6)
              replace HN := hide hy6
              clear hx6 hy6 hg6
              refine wpAnyH_ready (rs := [7]) (by kernel_rfl) (by simp) ?_
              refine AllReadyH.cons rfl (fun K hK => ?_) ?_
              · obtain ⟨fz0, fz1, fz2, fz3⟩ : (x6).frozen? ⟨p5, 0, none⟩ = false ∧ (x6).frozen? ⟨p5, 1, none⟩ = false ∧ (x6).frozen? ⟨p5, 2, none⟩ = false ∧ (x6).frozen? ⟨p5, 3, none⟩ = false := ⟨HQ.out.free 0, HQ.out.free 1, HQ.out.free 2, HQ.out.free 3⟩
                obtain ⟨yz0, yz1, yz2, yz3⟩ := xs4 HQ.out
                rw [if_pos (by rfl)]
                go_simp
                obtain ⟨x7, hx7, hy7, hg7⟩ := sets4 HQ.out (.bool b0) (.bool b1) (.bool b2) (.bool la)
                rw [hx7]
                clear fz0 yz0 fz1 yz1 fz2 yz2 fz3 yz3
                refine hK.out _ _ ?_ (fun hHeld => ?_)
                · exact XS.off hHeld HQ.out (by decide) hg7
                clear hK K
                try simp only [Act.put, List.getElem_toArray, List.getElem_cons_zero, List.getElem_cons_succ, List.setIfInBounds_toArray, List.set_cons_zero, List.set_cons_succ]
                replace HBB := hide (HBB.out.grown hg7 HBB.out.size (fun q hq => by cases hq; assumption))
                replace HN := hide (HN.out.off HQ.out (by decide) hg7)
                replace HQ := hide hy7
                clear hx7 hy7 hg7
                refine wpAnyH_done (by kernel_rfl) ?_ _
                have HX := hide hHeld
                clear hHeld
                clear HLO
                clear hlo4 hlo5
                revert HX
                revert HQ
                revert HN
                revert HBB
                revert x7
                revert p5
                revert p4
                exact KEY.out
              exact AllReadyH.nil
            exact AllReadyH.nil
          exact AllReadyH.nil
        exact AllReadyH.nil
      exact AllReadyH.nil
    refine AllReadyH.cons rfl (fun K hK => ?_) ?_
    · rw [if_pos (by rfl)]
      go_simp
      refine hK.out _ _ ?_ (fun hHeld => ?_)
      · exact XS.alloc hHeld _
      clear hK K
      try simp only [Act.put, List.getElem_toArray, List.getElem_cons_zero, List.getElem_cons_succ, List.setIfInBounds_toArray, List.set_cons_zero, List.set_cons_succ]
      replace HBB := hide (HBB.out.alloc HBB.out.size (.cells #[.bool false, .bool false, .bool false, .bool false] 62))
      have hnew := XS.new (xd) #[.bool false, .bool false, .bool false, .bool false] 62
      generalize hW5 : (xd).alloc (.cells #[.bool false, .bool false, .bool false, .bool false] 62) = x5 at hHeld HBB hnew ⊢
      generalize hp5 : (xd).heap.size = p5 at hnew ⊢
      have HQ := hide hnew
      have hlo5 : w.heap.size ≤ p5 := by rw [← hp5]; exact HLO.out
      clear hnew hW5 hp5
      replace HLO := hide HBB.out.size
      refine wpAnyH_ready (rs := [1, 4]) (by kernel_rfl) (by simp) ?_
      refine AllReadyH.cons rfl (fun K hK => ?_) ?_
      · rw [if_pos (by rfl)]
        go_simp
        go_at_call 22
        refine (HNU.out _).mono ?_
        rintro r x1 ⟨rfl, hb1⟩
        try go_simp
        refine hK.out _ _ ?_ (fun hHeld => ?_)
        · exact hHeld.on hb1
        clear hK K
        try simp only [Act.put, List.getElem_toArray, List.getElem_cons_zero, List.getElem_cons_succ, List.setIfInBounds_toArray, List.set_cons_zero, List.set_cons_succ]
        replace HBB := hide (HBB.out.trans (hb1.mono HBB.out.size))
        replace HLO := hide HBB.out.size
        replace HQ := hide (HQ.out.on hb1)
        clear hb1
        refine wpAnyH_ready (rs := [3, 4]) (by kernel_rfl) (by simp) ?_
        refine AllReadyH.cons rfl (fun K hK => ?_) ?_
        · rw [if_pos (by rfl)]
          go_simp
          go_at_call 23
          refine (HPA.out _).mono ?_
          rintro r x3 ⟨rfl, hb3⟩
          try go_simp
          refine hK.out _ _ ?_ (fun hHeld => ?_)
          · exact hHeld.on hb3
          clear hK K
          try simp only [Act.put, List.getElem_toArray, List.getElem_cons_zero, List.getElem_cons_succ, List.setIfInBounds_toArray, List.set_cons_zero, List.set_cons_succ]
          replace HBB := hide (HBB.out.trans (hb3.mono HBB.out.size))
          replace HLO := hide HBB.out.size
          replace HQ := hide (HQ.out.on hb3)
          clear hb3
          refine wpAnyH_ready (rs := [4]) (by kernel_rfl) (by simp) ?_
          refine AllReadyH.cons rfl (fun K hK => ?_) ?_
          · rw [if_pos (by rfl)]
            go_simp
            refine hK.out _ _ ?_ (fun hHeld => ?_)
            · exact XS.alloc hHeld _
            clear hK K
            try simp only [Act.put, List.getElem_toArray, List.getElem_cons_zero, List.getElem_cons_succ, List.setIfInBounds_toArray, List.set_cons_zero, List.set_cons_succ]
            replace HBB := hide (HBB.out.alloc HBB.out.size (.cells #[.int .i64 0, .int .i64 0, .int .i64 0, .int .i64 0, .int .i64 0, .int .i64 0, .int .i64 0] 59))
            have hnew := XS.new (x3) #[.int .i64 0, .int .i64 0, .int .i64 0, .int .i64 0, .int .i64 0, .int .i64 0, .int .i64 0] 59
            generalize hW4 : (x3).alloc (.cells #[.int .i64 0, .int .i64 0, .int .i64 0, .int .i64 0, .int .i64 0, .int .i64 0, .int .i64 0] 59) = x4 at hHeld HBB hnew ⊢
            replace HQ := hide (show XS p5 #[.bool false, .bool false, .bool false, .bool false] 62 x4 by rw [← hW4]; exact HQ.out.alloc _)
            generalize hp4 : (x3).heap.size = p4 at hnew ⊢
            have HN := hide hnew
            have hlo4 : w.heap.size ≤ p4 := by rw [← hp4]; exact HLO.out
            clear hnew hW4 hp4
            replace HLO := hide HBB.out.size
            refine wpAnyH_ready (rs := [6]) (by kernel_rfl) (by simp) ?_
            refine AllReadyH.cons rfl (fun K hK => ?_) ?_
            · obtain ⟨fz0, fz1, fz2, fz3, fz4, fz5, fz6⟩ : (x4).frozen? ⟨p4, 0, none⟩ = false ∧ (x4).frozen? ⟨p4, 1, none⟩ = false ∧ (x4).frozen? ⟨p4, 2, none⟩ = false ∧ (x4).frozen? ⟨p4, 3, none⟩ = false ∧ (x4).frozen? ⟨p4, 4, none⟩ = false ∧ (x4).frozen? ⟨p4, 5, none⟩ = false ∧ (x4).frozen? ⟨p4, 6, none⟩ = false := ⟨HN.out.free 0, HN.out.free 1, HN.out.free 2, HN.out.free 3, HN.out.free 4, HN.out.free 5, HN.out.free 6⟩
              obtain ⟨yz0, yz1, yz2, yz3, yz4, yz5, yz6⟩ := xs7 HN.out
              rw [if_pos (by rfl)]
              go_simp
              obtain ⟨x6, hx6, hy6, hg6⟩ := sets7 HN.out (.int .i64 kd) (.int .i64 fr) (.int .i64 to) (.int .i64 tm) (.int .i64 ix) (.int .i64 lt) (.int .i64 cm)
              rw [hx6]
              clear fz0 yz0 fz1 yz1 fz2 yz2 fz3 yz3 fz4 yz4 fz5 yz5 fz6 yz6
              refine hK.out _ _ ?_ (fun hHeld => ?_)
              · exact XS.off hHeld HN.out (by decide) hg6
              clear hK K
              try simp only [Act.put, List.getElem_toArray, List.getElem_cons_zero, List.getElem_cons_succ, List.setIfInBounds_toArray, List.set_cons_zero, List.set_cons_succ]
              replace HBB := hide (HBB.out.grown hg6 HBB.out.size (fun q hq => by cases hq; assumption))
              replace HQ := hide (HQ.out.off HN.out (by decide) hg6)
              replace HN := hide hy6
              clear hx6 hy6 hg6
              refine wpAnyH_ready (rs := [7]) (by kernel_rfl) (by simp) ?_
              refine AllReadyH.cons rfl (fun K hK => ?_) ?_
              · obtain ⟨fz0, fz1, fz2, fz3⟩ : (x6).frozen? ⟨p5, 0, none⟩ = false ∧ (x6).frozen? ⟨p5, 1, none⟩ = false ∧ (x6).frozen? ⟨p5, 2, none⟩ = false ∧ (x6).frozen? ⟨p5, 3, none⟩ = false := ⟨HQ.out.free 0, HQ.out.free 1, HQ.out.free 2, HQ.out.free 3⟩
                obtain ⟨yz0, yz1, yz2, yz3⟩ := xs4 HQ.out
                rw [if_pos (by rfl)]
                go_simp
                obtain ⟨x7, hx7, hy7, hg7⟩ := sets4 HQ.out (.bool b0) (.bool b1) (.bool b2) (.bool la)
                rw [hx7]
                clear fz0 yz0 fz1 yz1 fz2 yz2 fz3 yz3
                refine hK.out _ _ ?_ (fun hHeld => ?_)
                · exact XS.off hHeld HQ.out (by decide) hg7
                clear hK K
                try simp only [Act.put, List.getElem_toArray, List.getElem_cons_zero, List.getElem_cons_succ, List.setIfInBounds_toArray, List.set_cons_zero, List.set_cons_succ]
                replace HBB := hide (HBB.out.grown hg7 HBB.out.size (fun q hq => by cases hq; assumption))
                replace HN := hide (HN.out.off HQ.out (by decide) hg7)
                replace HQ := hide hy7
                clear hx7 hy7 hg7
                refine wpAnyH_done (by kernel_rfl) ?_ _
                have HX := hide hHeld
                clear hHeld
                clear HLO
                clear hlo4 hlo5
                revert HX
                revert HQ
                revert HN
                revert HBB
                revert x7
                revert p5
                revert p4
                exact KEY.out
              exact AllReadyH.nil
            exact AllReadyH.nil
          exact AllReadyH.nil
        refine AllReadyH.cons rfl (fun K hK => ?_) ?_
        · rw [if_pos (by rfl)]
          go_simp
          refine hK.out _ _ ?_ (fun hHeld => ?_)
          · exact XS.alloc hHeld _
          clear hK K
          try simp only [Act.put, List.getElem_toArray, List.getElem_cons_zero, List.getElem_cons_succ, List.setIfInBounds_toArray, List.set_cons_zero, List.set_cons_succ]
          replace HBB := hide (HBB.out.alloc HBB.out.size (.cells #[.int .i64 0, .int .i64 0, .int .i64 0, .int .i64 0, .int .i64 0, .int .i64 0, .int .i64 0] 59))
          have hnew := XS.new (x1) #[.int .i64 0, .int .i64 0, .int .i64 0, .int .i64 0, .int .i64 0, .int .i64 0, .int .i64 0] 59
          generalize hW4 : (x1).alloc (.cells #[.int .i64 0, .int .i64 0, .int .i64 0, .int .i64 0, .int .i64 0, .int .i64 0, .int .i64 0] 59) = x4 at hHeld HBB hnew ⊢
          replace HQ := hide (show XS p5 #[.bool false, .bool false, .bool false, .bool false] 62 x4 by rw [← hW4]; exact HQ.out.alloc _)
          generalize hp4 : (x1).heap.size = p4 at hnew ⊢
          have HN := hide hnew
          have hlo4 : w.heap.size ≤ p4 := by rw [← hp4]; exact HLO.out
          clear hnew hW4 hp4
          replace HLO := hide HBB.out.size
          refine wpAnyH_ready (rs := [3]) (by kernel_rfl) (by simp) ?_
          refine AllReadyH.cons rfl (fun K hK => ?_) ?_
          · rw [if_pos (by rfl)]
            go_simp
            go_at_call 23
            refine (HPA.out _).mono ?_
            rintro r x3 ⟨rfl, hb3⟩
            try go_simp
            refine hK.out _ _ ?_ (fun hHeld => ?_)
            · exact hHeld.on hb3
            clear hK K
            try simp only [Act.put, List.getElem_toArray, List.getElem_cons_zero, List.getElem_cons_succ, List.setIfInBounds_toArray, List.set_cons_zero, List.set_cons_succ]
            replace HBB := hide (HBB.out.trans (hb3.mono HBB.out.size))
            replace HLO := hide HBB.out.size
            replace HN := hide (HN.out.on hb3)
            replace HQ := hide (HQ.out.on hb3)
            clear hb3
            refine wpAnyH_ready (rs := [6]) (by kernel_rfl) (by simp) ?_
            refine AllReadyH.cons rfl (fun K hK => ?_) ?_
            · obtain ⟨fz0, fz1, fz2, fz3, fz4, fz5, fz6⟩ : (x3).frozen? ⟨p4, 0, none⟩ = false ∧ (x3).frozen? ⟨p4, 1, none⟩ = false ∧ (x3).frozen? ⟨p4, 2, none⟩ = false ∧ (x3).frozen? ⟨p4, 3, none⟩ = false ∧ (x3).frozen? ⟨p4, 4, none⟩ = false ∧ (x3).frozen? ⟨p4, 5, none⟩ = false ∧ (x3).frozen? ⟨p4, 6, none⟩ = false := ⟨HN.out.free 0, HN.out.free 1, HN.out.free 2, HN.out.free 3, HN.out.free 4, HN.out.free 5, HN.out.free 6⟩
              obtain ⟨yz0, yz1, yz2, yz3, yz4, yz5, yz6⟩ := xs7 HN.out
              rw [if_pos (by rfl)]
              go_simp
              obtain ⟨x6, hx6, hy6, hg6⟩ := sets7 HN.out (.int .i64 kd) (.int .i64 fr) (.int .i64 to) (.int .i64 tm) (.int .i64 ix) (.int .i64 lt) (.int .i64 cm)
              rw [hx6]
              clear fz0 yz0 fz1 yz1 fz2 yz2 fz3 yz3 fz4 yz4 fz5 yz5 fz6 yz6
              refine hK.out _ _ ?_ (fun hHeld => ?_)
              · exact XS.off hHeld HN.out (by decide) hg6
              clear hK K
              try simp only [Act.put, List.getElem_toArray, List.getElem_cons_zero, List.getElem_cons_succ, List.setIfInBounds_toArray, List.set_cons_zero, List.set_cons_succ]
              replace HBB := hide (HBB.out.grown hg6 HBB.out.size (fun q hq => by cases hq; assumption))
              replace HQ := hide (HQ.out.off HN.out (by decide) hg6)
              replace HN := hide hy6
              clear hx6 hy6 hg6
              refine wpAnyH_ready (rs := [7]) (by kernel_rfl) (by simp) ?_
              refine AllReadyH.cons rfl (fun K hK => ?_) ?_
              · obtain ⟨fz0, fz1, fz2, fz3⟩ : (x6).frozen? ⟨p5, 0, none⟩ = false ∧ (x6).frozen? ⟨p5, 1, none⟩ = false ∧ (x6).frozen? ⟨p5, 2, none⟩ = false ∧ (x6).frozen? ⟨p5, 3, none⟩ = false := ⟨HQ.out.free 0, HQ.out.free 1, HQ.out.free 2, HQ.out.free 3⟩
                obtain ⟨yz0, yz1, yz2, yz3⟩ := xs4 HQ.out
                rw [if_pos (by rfl)]
                go_simp
                obtain ⟨x7, hx7, hy7, hg7⟩ := sets4 HQ.out (.bool b0) (.bool b1) (.bool b2) (.bool la)
                rw [hx7]
                clear fz0 yz0 fz1 yz1 fz2 yz2 fz3 yz3
                refine hK.out _ _ ?_ (fun hHeld => ?_)
                · exact XS.off hHeld HQ.out (by decide) hg7
                clear hK K
                try simp only [Act.put, List.getElem_toArray, List.getElem_cons_zero, List.getElem_cons_succ, List.setIfInBounds_toArray, List.set_cons_zero, List.set_cons_succ]
                replace HBB := hide (HBB.out.grown hg7 HBB.out.size (fun q hq => by cases hq; assumption))
                replace HN := hide (HN.out.off HQ.out (by decide) hg7)
                replace HQ := hide hy7
                clear hx7 hy7 hg7
                refine wpAnyH_done (by kernel_rfl) ?_ _
                have HX := hide hHeld
                clear hHeld
                clear HLO
                clear hlo4 hlo5
                revert HX
                revert HQ
                revert HN
                revert HBB
                revert x7
                revert p5
                revert p4
                exact KEY.out
              exact AllReadyH.nil
            exact AllReadyH.nil
          exact AllReadyH.nil
        exact AllReadyH.nil
      refine AllReadyH.cons rfl (fun K hK => ?_) ?_
      · rw [if_pos (by rfl)]
        go_simp
        refine hK.out _ _ ?_ (fun hHeld => ?_)
        · exact XS.alloc hHeld _
        clear hK K
        try simp only [Act.put, List.getElem_toArray, List.getElem_cons_zero, List.getElem_cons_succ, List.setIfInBounds_toArray, List.set_cons_zero, List.set_cons_succ]
        replace HBB := hide (HBB.out.alloc HBB.out.size (.cells #[.int .i64 0, .int .i64 0, .int .i64 0, .int .i64 0, .int .i64 0, .int .i64 0, .int .i64 0] 59))
        have hnew := XS.new (x5) #[.int .i64 0, .int .i64 0, .int .i64 0, .int .i64 0, .int .i64 0, .int .i64 0, .int .i64 0] 59
        generalize hW4 : (x5).alloc (.cells #[.int .i64 0, .int .i64 0, .int .i64 0, .int .i64 0, .int .i64 0, .int .i64 0, .int .i64 0] 59) = x4 at hHeld HBB hnew ⊢
        replace HQ := hide (show XS p5 #[.bool false, .bool false, .bool false, .bool false] 62 x4 by rw [← hW4]; exact HQ.out.alloc _)
        generalize hp4 : (x5).heap.size = p4 at hnew ⊢
        have HN := hide hnew
        have hlo4 : w.heap.size ≤ p4 := by rw [← hp4]; exact HLO.out
        clear hnew hW4 hp4
        replace HLO := hide HBB.out.size
        refine wpAnyH_ready (rs := [1]) (by kernel_rfl) (by simp) ?_
        refine AllReadyH.cons rfl (fun K hK => ?_) ?_
        · rw [if_pos (by rfl)]
          go_simp
          go_at_call 22
          refine (HNU.out _).mono ?_
          rintro r x1 ⟨rfl, hb1⟩
          try go_simp
          refine hK.out _ _ ?_ (fun hHeld => ?_)
          · exact hHeld.on hb1
          clear hK K
          try simp only [Act.put, List.getElem_toArray, List.getElem_cons_zero, List.getElem_cons_succ, List.setIfInBounds_toArray, List.set_cons_zero, List.set_cons_succ]
          replace HBB := hide (HBB.out.trans (hb1.mono HBB.out.size))
          replace HLO := hide HBB.out.size
          replace HN := hide (HN.out.on hb1)
          replace HQ := hide (HQ.out.on hb1)
          clear hb1
          refine wpAnyH_ready (rs := [3]) (by kernel_rfl) (by simp) ?_
          refine AllReadyH.cons rfl (fun K hK => ?_) ?_
          · rw [if_pos (by rfl)]
            go_simp
            go_at_call 23
            refine (HPA.out _).mono ?_
            rintro r x3 ⟨rfl, hb3⟩
            try go_simp
            refine hK.out _ _ ?_ (fun hHeld => ?_)
            · exact hHeld.on hb3
            clear hK K
            try simp only [Act.put, List.getElem_toArray, List.getElem_cons_zero, List.getElem_cons_succ, List.setIfInBounds_toArray, List.set_cons_zero, List.set_cons_succ]
            replace HBB := hide (HBB.out.trans (hb3.mono HBB.out.size))
            replace HLO := hide HBB.out.size
            replace HN := hide (HN.out.on hb3)
            replace HQ := hide (HQ.out.on hb3)
            clear hb3
            refine wpAnyH_ready (rs := [6]) (by kernel_rfl) (by simp) ?_
            refine AllReadyH.cons rfl (fun K hK => ?_) ?_
            · obtain ⟨fz0, fz1, fz2, fz3, fz4, fz5, fz6⟩ : (x3).frozen? ⟨p4, 0, none⟩ = false ∧ (x3).frozen? ⟨p4, 1, none⟩ = false ∧ (x3).frozen? ⟨p4, 2, none⟩ = false ∧ (x3).frozen? ⟨p4, 3, none⟩ = false ∧ (x3).frozen? ⟨p4, 4, none⟩ = false ∧ (x3).frozen? ⟨p4, 5, none⟩ = false ∧ (x3).frozen? ⟨p4, 6, none⟩ = false := ⟨HN.out.free 0, HN.out.free 1, HN.out.free 2, HN.out.free 3, HN.out.free 4, HN.out.free 5, HN.out.free 6⟩
              obtain ⟨yz0, yz1, yz2, yz3, yz4, yz5, yz6⟩ := xs7 HN.out
              rw [if_pos (by rfl)]
              go_simp
              obtain ⟨x6, hx6, hy6, hg6⟩ := sets7 HN.out (.int .i64 kd) (.int .i64 fr) (.int .i64 to) (.int .i64 tm) (.int .i64 ix) (.int .i64 lt) (.int .i64 cm)
              rw [hx6]
              clear fz0 yz0 fz1 yz1 fz2 yz2 fz3 yz3 fz4 yz4 fz5 yz5 fz6 yz6
              refine hK.out _ _ ?_ (fun hHeld => ?_)
              · exact XS.off hHeld HN.out (by decide) hg6
              clear hK K
              try simp only [Act.put, List.getElem_toArray, List.getElem_cons_zero, List.getElem_cons_succ, List.setIfInBounds_toArray, List.set_cons_zero, List.set_cons_succ]
              replace HBB := hide (HBB.out.grown hg6 HBB.out.size (fun q hq => by cases hq; assumption))
              replace HQ := hide (HQ.out.off HN.out (by decide) hg6)
              replace HN := hide hy6
              clear hx6 hy6 hg6
              refine wpAnyH_ready (rs := [7]) (by kernel_rfl) (by simp) ?_
              refine AllReadyH.cons rfl (fun K hK => ?_) ?_
              · obtain ⟨fz0, fz1, fz2, fz3⟩ : (x6).frozen? ⟨p5, 0, none⟩ = false ∧ (x6).frozen? ⟨p5, 1, none⟩ = false ∧ (x6).frozen? ⟨p5, 2, none⟩ = false ∧ (x6).frozen? ⟨p5, 3, none⟩ = false := ⟨HQ.out.free 0, HQ.out.free 1, HQ.out.free 2, HQ.out.free 3⟩
                obtain ⟨yz0, yz1, yz2, yz3⟩ := xs4 HQ.out
                rw [if_pos (by rfl)]
                go_simp
                obtain ⟨x7, hx7, hy7, hg7⟩ := sets4 HQ.out (.bool b0) (.bool b1) (.bool b2) (.bool la)
                rw [hx7]
                clear fz0 yz0 fz1 yz1 fz2 yz2 fz3 yz3
                refine hK.out _ _ ?_ (fun hHeld => ?_)
                · exact XS.off hHeld HQ.out (by decide) hg7
                clear hK K
                try simp only [Act.put, List.getElem_toArray, List.getElem_cons_zero, List.getElem_cons_succ, List.setIfInBounds_toArray, List.set_cons_zero, List.set_cons_succ]
                replace HBB := hide (HBB.out.grown hg7 HBB.out.size (fun q hq => by cases hq; assumption))
                replace HN := hide (HN.out.off HQ.out (by decide) hg7)
                replace HQ := hide hy7
                clear hx7 hy7 hg7
                refine wpAnyH_done (by kernel_rfl) ?_ _
                have HX := hide hHeld
                clear hHeld
                clear HLO
                clear hlo4 hlo5
                revert HX
                revert HQ
                revert HN
                revert HBB
                revert x7
                revert p5
                revert p4
                exact KEY.out
              exact AllReadyH.nil
            exact AllReadyH.nil
          exact AllReadyH.nil
        exact AllReadyH.nil
      exact AllReadyH.nil
    exact AllReadyH.nil
  case key =>
    intro p4 p5 W HBB HN HQ HX
    have HLI := hide (fun w ht => limited_any15 kd fr to tm ix lt cm w ht)
    have HOF := hide (fun w => of_any15 kd b0 b1 b2 la w)
    have HEN := hide (fun w hat => entriesOk_any15 kd fr to tm ix lt cm ok oa n cl ob m cp da la es w hat hw)
    have HCO := hide (fun w hbt => confOk_any15 kd fr to tm ix lt cm ok oa n cl ob m cp da la es zs w hbt)
    have hEq := nv_lim15 kd fr to tm ix lt cm ok la es zs da
    have hGd := nv_guard15 kd fr to tm ix lt cm
    have hPq := pv_parts15 kd fr to tm ix lt cm ok la es zs da
    have hPg := pv_guard15 kd b0 b1 b2 la
    rw [hn, hm, HP0.out, HP1.out, HP2.out] at hPq
    rw [HNB.out] at hEq
    rw [HPB.out] at hPq
    rw [HEB.out] at HEN
    rw [HCB.out] at HCO
    generalize lim7 kd fr to tm ix lt cm = LV at HLI hEq hGd
    generalize ofP kd b0 b1 b2 la = OV at HOF hPq hPg
    clear HNU HPA
    cases nb with
    | false =>
      go_wp2_with fail
      refine wp_region_in (F := fun w' => Below W.heap.size W w') (by kernel_rfl) (by kernel_rfl) (Below.refl _ _).drew ?_
      have hne : Nonempty (InW (fun w' => Below W.heap.size W w')) := ⟨⟨_, Below.refl _ _⟩⟩
      have hxx := fun m : InW (fun w' => Below W.heap.size W w') => xs12 (HX.out.on m.h)
      have hnn := fun m : InW (fun w' => Below W.heap.size W w') => xs7 (HN.out.on m.h)
      have hqq := fun m : InW (fun w' => Below W.heap.size W w') => xs4 (HQ.out.on m.h)
      have k0 := fun m => (hxx m).1
      have k1 := fun m => (hxx m).2.1
      have k2 := fun m => (hxx m).2.2.1
      have j0 := fun m => (hnn m).1
      have j1 := fun m => (hnn m).2.1
      have j2 := fun m => (hnn m).2.2.1
      have j3 := fun m => (hnn m).2.2.2.1
      have j4 := fun m => (hnn m).2.2.2.2.1
      have j5 := fun m => (hnn m).2.2.2.2.2.1
      have j6 := fun m => (hnn m).2.2.2.2.2.2
      have q0 := fun m => (hqq m).1
      have q1 := fun m => (hqq m).2.1
      have q2 := fun m => (hqq m).2.2.1
      have q3 := fun m => (hqq m).2.2.2
      clear hxx hnn hqq
      repeat (go_big_quiet_step (first
        | (go_at_call 24; refine (HLI.out _ (HT.out.on (below_from15 HBB.out _))).mono ?_; rintro e w3 ⟨rfl, hb3⟩; exact ⟨rfl, ⟨w3, inw_more15 _ hb3⟩, rfl⟩)
        | (go_at_call 25; refine (HOF.out _).mono ?_; rintro e w3 ⟨rfl, hb3⟩; exact ⟨rfl, ⟨w3, inw_more15 _ hb3⟩, rfl⟩)))
      refine wpQuiet_nil ?_
      intro _ hw'
      obtain ⟨nq, hw''⟩ := hw'
      subst hw''
      have hb4 := below_from15 HBB.out nq
      have HX4 := hide (HX.out.on nq.h)
      clear hne k0 k1 k2 j0 j1 j2 j3 j4 j5 j6 q0 q1 q2 q3
      generalize nq.w = w5 at hb4 HX4 ⊢
      go_wp2_with fail
      go_ret
      exact ⟨by simp, hb4⟩
    | true =>
      by_cases cf : fr = to
      · subst cf
        go_wp2_with fail
        refine wp_region_in (F := fun w' => Below W.heap.size W w') (by kernel_rfl) (by kernel_rfl) (Below.refl _ _).drew ?_
        have hne : Nonempty (InW (fun w' => Below W.heap.size W w')) := ⟨⟨_, Below.refl _ _⟩⟩
        have hxx := fun m : InW (fun w' => Below W.heap.size W w') => xs12 (HX.out.on m.h)
        have hnn := fun m : InW (fun w' => Below W.heap.size W w') => xs7 (HN.out.on m.h)
        have hqq := fun m : InW (fun w' => Below W.heap.size W w') => xs4 (HQ.out.on m.h)
        have k0 := fun m => (hxx m).1
        have k1 := fun m => (hxx m).2.1
        have k2 := fun m => (hxx m).2.2.1
        have j0 := fun m => (hnn m).1
        have j1 := fun m => (hnn m).2.1
        have j2 := fun m => (hnn m).2.2.1
        have j3 := fun m => (hnn m).2.2.2.1
        have j4 := fun m => (hnn m).2.2.2.2.1
        have j5 := fun m => (hnn m).2.2.2.2.2.1
        have j6 := fun m => (hnn m).2.2.2.2.2.2
        have q0 := fun m => (hqq m).1
        have q1 := fun m => (hqq m).2.1
        have q2 := fun m => (hqq m).2.2.1
        have q3 := fun m => (hqq m).2.2.2
        clear hxx hnn hqq
        repeat (go_big_quiet_step (first
          | (go_at_call 24; refine (HLI.out _ (HT.out.on (below_from15 HBB.out _))).mono ?_; rintro e w3 ⟨rfl, hb3⟩; exact ⟨rfl, ⟨w3, inw_more15 _ hb3⟩, rfl⟩)
          | (go_at_call 25; refine (HOF.out _).mono ?_; rintro e w3 ⟨rfl, hb3⟩; exact ⟨rfl, ⟨w3, inw_more15 _ hb3⟩, rfl⟩)))
        refine wpQuiet_nil ?_
        intro _ hw'
        obtain ⟨nq, hw''⟩ := hw'
        subst hw''
        have hb4 := below_from15 HBB.out nq
        have HX4 := hide (HX.out.on nq.h)
        clear hne k0 k1 k2 j0 j1 j2 j3 j4 j5 j6 q0 q1 q2 q3
        generalize nq.w = w5 at hb4 HX4 ⊢
        go_wp2_with fail
        go_ret
        exact ⟨by simp, hb4⟩
      · have gf : (fr == to) = false := by simpa using cf
        cases pb with
        | false =>
          go_wp2_with fail
          refine wp_region_in (F := fun w' => Below W.heap.size W w') (by kernel_rfl) (by kernel_rfl) (Below.refl _ _).drew ?_
          have hne : Nonempty (InW (fun w' => Below W.heap.size W w')) := ⟨⟨_, Below.refl _ _⟩⟩
          have hxx := fun m : InW (fun w' => Below W.heap.size W w') => xs12 (HX.out.on m.h)
          have hnn := fun m : InW (fun w' => Below W.heap.size W w') => xs7 (HN.out.on m.h)
          have hqq := fun m : InW (fun w' => Below W.heap.size W w') => xs4 (HQ.out.on m.h)
          have k0 := fun m => (hxx m).1
          have k1 := fun m => (hxx m).2.1
          have k2 := fun m => (hxx m).2.2.1
          have j0 := fun m => (hnn m).1
          have j1 := fun m => (hnn m).2.1
          have j2 := fun m => (hnn m).2.2.1
          have j3 := fun m => (hnn m).2.2.2.1
          have j4 := fun m => (hnn m).2.2.2.2.1
          have j5 := fun m => (hnn m).2.2.2.2.2.1
          have j6 := fun m => (hnn m).2.2.2.2.2.2
          have q0 := fun m => (hqq m).1
          have q1 := fun m => (hqq m).2.1
          have q2 := fun m => (hqq m).2.2.1
          have q3 := fun m => (hqq m).2.2.2
          clear hxx hnn hqq
          repeat (go_big_quiet_step (first
            | (go_at_call 24; refine (HLI.out _ (HT.out.on (below_from15 HBB.out _))).mono ?_; rintro e w3 ⟨rfl, hb3⟩; exact ⟨rfl, ⟨w3, inw_more15 _ hb3⟩, rfl⟩)
            | (go_at_call 25; refine (HOF.out _).mono ?_; rintro e w3 ⟨rfl, hb3⟩; exact ⟨rfl, ⟨w3, inw_more15 _ hb3⟩, rfl⟩)))
          refine wpQuiet_nil ?_
          intro _ hw'
          obtain ⟨nq, hw''⟩ := hw'
          subst hw''
          have hb4 := below_from15 HBB.out nq
          have HX4 := hide (HX.out.on nq.h)
          clear hne k0 k1 k2 j0 j1 j2 j3 j4 j5 j6 q0 q1 q2 q3
          generalize nq.w = w5 at hb4 HX4 ⊢
          go_wp2_with fail
          go_ret
          exact ⟨by simp, hb4⟩
        | true =>
          go_wp2_with fail
          refine wp_region_in (F := fun w' => Below W.heap.size W w') (by kernel_rfl) (by kernel_rfl) (Below.refl _ _).drew ?_
          have hne : Nonempty (InW (fun w' => Below W.heap.size W w')) := ⟨⟨_, Below.refl _ _⟩⟩
          have hxx := fun m : InW (fun w' => Below W.heap.size W w') => xs12 (HX.out.on m.h)
          have hnn := fun m : InW (fun w' => Below W.heap.size W w') => xs7 (HN.out.on m.h)
          have hqq := fun m : InW (fun w' => Below W.heap.size W w') => xs4 (HQ.out.on m.h)
          have k0 := fun m => (hxx m).1
          have k1 := fun m => (hxx m).2.1
          have k2 := fun m => (hxx m).2.2.1
          have j0 := fun m => (hnn m).1
          have j1 := fun m => (hnn m).2.1
          have j2 := fun m => (hnn m).2.2.1
          have j3 := fun m => (hnn m).2.2.2.1
          have j4 := fun m => (hnn m).2.2.2.2.1
          have j5 := fun m => (hnn m).2.2.2.2.2.1
          have j6 := fun m => (hnn m).2.2.2.2.2.2
          have q0 := fun m => (hqq m).1
          have q1 := fun m => (hqq m).2.1
          have q2 := fun m => (hqq m).2.2.1
          have q3 := fun m => (hqq m).2.2.2
          clear hxx hnn hqq
          repeat (go_big_quiet_step (first
            | (go_at_call 24; refine (HLI.out _ (HT.out.on (below_from15 HBB.out _))).mono ?_; rintro e w3 ⟨rfl, hb3⟩; exact ⟨rfl, ⟨w3, inw_more15 _ hb3⟩, rfl⟩)
            | (go_at_call 25; refine (HOF.out _).mono ?_; rintro e w3 ⟨rfl, hb3⟩; exact ⟨rfl, ⟨w3, inw_more15 _ hb3⟩, rfl⟩)))
          refine wpQuiet_nil ?_
          intro _ hw'
          obtain ⟨nq, hw''⟩ := hw'
          subst hw''
          have hb4 := below_from15 HBB.out nq
          have HX4 := hide (HX.out.on nq.h)
          clear hne k0 k1 k2 j0 j1 j2 j3 j4 j5 j6 q0 q1 q2 q3
          generalize nq.w = w5 at hb4 HX4 ⊢
          obtain ⟨k0, k1, k2, k3, k4, k5, k6, k7, k8, k9, k10, k11⟩ := xs12 HX4.out
          have gr : (!decide (fr = to)) = true := by simp [cf]
          cases eb with
          | false =>
            go_wp2_with fail
            refine (HEN.out _ (HAT.out.below hb4)).mono ?_
            rintro r w6 ⟨rfl, hb6⟩
            have hb7 := hb4.trans (hb6.mono hb4.size)
            clear k0 k1 k2 k3 k4 k5 k6 k7 k8 k9 k10 k11
            go_wp2_with fail
            go_ret
            exact ⟨by simp, hb7⟩
          | true =>
            go_wp2_with fail
            refine (HEN.out _ (HAT.out.below hb4)).mono ?_
            rintro r w6 ⟨rfl, hb6⟩
            have hb7 := hb4.trans (hb6.mono hb4.size)
            have HX6 := hide (HX4.out.on hb6)
            clear hb6 k0 k1 k2 k3 k4 k5 k6 k7 k8 k9 k10 k11
            obtain ⟨k0, k1, k2, k3, k4, k5, k6, k7, k8, k9, k10, k11⟩ := xs12 HX6.out
            cases cb with
            | false =>
              go_wp2_with fail
              refine (HCO.out _ (HBT.out.below hb7)).mono ?_
              rintro r w8 ⟨rfl, hb8⟩
              have hb9 := hb7.trans (hb8.mono hb7.size)
              clear k0 k1 k2 k3 k4 k5 k6 k7 k8 k9 k10 k11
              go_wp2_with fail
              go_ret
              exact ⟨by simp, hb9⟩
            | true =>
              go_wp2_with fail
              refine (HCO.out _ (HBT.out.below hb7)).mono ?_
              rintro r w8 ⟨rfl, hb8⟩
              have hb9 := hb7.trans (hb8.mono hb7.size)
              have HX8 := hide (HX6.out.on hb8)
              clear k0 k1 k2 k3 k4 k5 k6 k7 k8 k9 k10 k11
              obtain ⟨k0, k1, k2, k3, k4, k5, k6, k7, k8, k9, k10, k11⟩ := xs12 HX8.out
              go_wp2_with fail
              go_ret
              exact ⟨by simp [cf]; omega, hb9⟩

end Go.Proofs.YtmllcomppjkhhaaGreatDoor
