/-
  Walks of chapter 10 of the program: Allowed (made by wip/tools/gen10rc.py).
-/
import Derived.Test.YtbhpalmbbhgamaaPkWalk10x
import Derived.Test.YtbhpalmbbhgamaaPkWalk9b
namespace Go.Proofs.Ytbhpalmbbhgamaa
open Go.RowKit P1 P3 P5 P9 P11 P12 P14 P15 K
set_option linter.unusedVariables false
set_option linter.unusedSimpArgs false

theorem ruleF_one (es : List EvV) (s : St) (e : EvV) : ruleF es s e = 63 ∨ ruleF es s e = 64 ∨ ruleF es s e = 90 ∨ ruleF es s e = 91 ∨ ruleF es s e = 92 ∨ ruleF es s e = 93 ∨ ruleF es s e = 94 ∨ ruleF es s e = 67 ∨ ruleF es s e = 68 ∨ ruleF es s e = 69 := by
  unfold ruleF selfF otherF
  repeat' split
  all_goals simp

/-- The rule that an event is under, called. -/
theorem ruled_any (b : Nat) (oa : Option Addr) (n cap : Nat) (es : List EvV) (s : St) (e : EvV) (xa : Option Addr) (xc : Nat) (xp : Value) (hok : evOk e = true) (hl20 : e.levels.length ≤ 1048576) (w : World) (hS : Scn w b oa n cap es s) (hx : IntsAt w xa e.levels.length xc e.levels) :
    Calls Try.prog (ruleF es s e) #[trv b oa n cap e (.slice xa e.levels.length xc) xp] w fun r w' => r = .returned (.bool (ruleP es s e)) ∧ Below w.heap.size w w' := by
  have hse := evOk_sender hok
  have hus : -1000000 ≤ e.user ∧ e.user ≤ 1000000 := by have := evOk_user hok; omega
  unfold ruleF ruleP
  split
  · exact trMake_any b oa n cap es s e _ xp w hS
  · split
    · exact trNot_any b oa n cap e _ xp w
    · split
      · unfold selfF selfP
        split
        · exact trComeIn_any b oa n cap es s e _ xp hse w hS
        · split
          · exact trGo_any b oa n cap es s e _ xp hse w hS
          · exact trNot_any b oa n cap e _ xp w
      · split
        · unfold otherF otherP outP rulesP
          split
          · exact trInvite_any b oa n cap es s e _ xp hse hus w hS
          · split
            · exact trPutOut_any b oa n cap es s e _ xp hse hus w hS
            · split
              · exact trBan_any b oa n cap es s e _ xp hse hus w hS
              · exact trNot_any b oa n cap e _ xp w
        · split
          · exact trRank_any b oa n cap es s e xa xc xp hse hl20 w hS hx
          · split
            · exact trName_any b oa n cap es s e _ xp hse hus w hS
            · exact trSay_any b oa n cap es s e _ xp hse w hS

set_option maxHeartbeats 16000000 in
theorem implAllowed_any (oa : Option Addr) (n cap : Nat) (es : List EvV) (ob : Option Addr) (m cb : Nat) (s : St) (e : EvV) (xa : Option Addr) (xc : Nat) (ya : Option Addr) (yc : Nat) (hm20 : m ≤ 1048576) (hws : ∀ y ∈ s, WideI y) (htx : e.text.length ≤ 1048576) (hl20 : e.levels.length ≤ 1048576) (w : World) (hev : EvsAt w oa n cap es) (hit : ItemsAt w ob m cb s) (hx : IntsAt w xa e.levels.length xc e.levels) (hy : IntsAt w ya e.prev.length yc e.prev) :
    Calls Try.prog 9 #[.slice oa n cap, .slice ob m cb, evv e (.slice xa e.levels.length xc) (.slice ya e.prev.length yc)] w fun r w' => r = .returned (.bool (allowedP es s e)) ∧ Below w.heap.size w w' := by
  obtain ⟨W0, hW0⟩ : ∃ W0, w.alloc (.cells (evcells e.id e.kind e.sender e.user e.member e.depth (.slice xa e.levels.length xc) (.slice ya e.prev.length yc) e.text) 31) = W0 := ⟨_, rfl⟩
  have hb0 : Below w.heap.size w W0 := by rw [← hW0]; exact (Below.refl _ _).alloc (Nat.le_refl _) _
  have hE0 : EB W0 w.heap.size e.id e.kind e.sender e.user e.member e.depth (.slice xa e.levels.length xc) (.slice ya e.prev.length yc) e.text := by rw [← hW0]; exact EB.new _ _ _ _ _ _ _ _ _ _
  have HB0 := hide hb0
  have HE0 := hide hE0
  have HW0 := hide hW0
  have HOK := hide (implEventOk_any e.id e.kind e.sender e.user e.member e.depth xa e.levels.length xc e.text ya e.prev.length yc e.levels e.prev htx W0 (hx.below hb0) (hy.below hb0))
  have hev' : evOk (⟨e.id, e.kind, e.sender, e.user, e.member, e.levels, e.text, e.prev, e.depth⟩ : EvV) = evOk e := rfl
  rw [hev'] at HOK
  have HSC := hide (fun W (h : Below W0.heap.size W0 W) => sceneOf_any oa n cap es ob m cb s hm20 hws W ((hev.below hb0).below h) ((hit.below hb0).below h))
  have HRU := hide (fun b W (h : Scn W b oa n cap es s) => rule_any b oa n cap es s e (.slice xa e.levels.length xc) (.slice ya e.prev.length yc) W h)
  have HX0 := hide (hx.below hb0)
  have HRD := hide (fun (hok : evOk e = true) b W (h : Scn W b oa n cap es s) hx => ruled_any b oa n cap es s e xa xc (.slice ya e.prev.length yc) hok hl20 W h hx)
  have HF := hide (ruleF_one es s e)
  have hlr := hE0.lt
  clear hW0 hb0 hE0 hev hit hx hy hev' hws
  unfold allowedP
  cases hok : evOk e
  · rw [hok] at HOK
    clear HRD HRU HSC HF
    obtain ⟨a0, a1, a2, a3, a4, a5, a6, a7, a8⟩ := HE0.out.ev
    go_enter Try.func9, Try.ntmps9
    go_upto_region 1 with fail
    rw [HW0.out]
    clear HW0
    go_wp2_with (go_at_call 25; (with_reducible refine HOK.out.mono ?_); rintro r w1 ⟨rfl, hb1⟩)
    go_ret
    exact ⟨by first | rfl | simp, HB0.out.trans (hb1.mono HB0.out.size)⟩
  · have HRD1 := hide (HRD.out hok)
    rw [hok] at HOK
    rw [Bool.true_and]
    clear HRD hok
    generalize ruleF es s e = F at HRU HRD1 HF
    generalize ruleP es s e = q at HRD1 ⊢
    have hF := HF.out
    obtain ⟨a0, a1, a2, a3, a4, a5, a6, a7, a8⟩ := HE0.out.ev
    clear HF
    rcases hF with rfl | rfl | rfl | rfl | rfl | rfl | rfl | rfl | rfl | rfl
    · go_enter Try.func9, Try.ntmps9
      go_upto_region 1 with fail
      rw [HW0.out]
      clear HW0
      go_wp2_with (go_at_call 25; (with_reducible refine HOK.out.mono ?_); rintro r w1 ⟨rfl, hb1⟩; have HE1 := hide (HE0.out.on hb1 hlr); have hl1 : w.heap.size < w1.heap.size := Nat.lt_of_lt_of_le hlr hb1.size; clear a0 a1 a2 a3 a4 a5 a6 a7 a8; obtain ⟨a0, a1, a2, a3, a4, a5, a6, a7, a8⟩ := HE1.out.ev)
      go_region_law (first
        | (rw [if_pos (by rfl)]; go_simp; go_at_call 26; refine (HSC.out _ (hb1.trans ((Below.refl w1.heap.size w1).drew.mono hb1.size))).mono ?_; rintro r w2 ⟨bm, rfl, hS2, hb2'⟩; have hb2 : Below w1.heap.size w1 w2 := (Below.refl w1.heap.size w1).drew.trans hb2'; have HE2 := hide (HE1.out.on hb2 hl1); have HS2 := hide hS2; obtain ⟨d0, d1, d2, d3, d4, d5, d6, d7, d8⟩ := HE2.out.ev)
        | (rw [if_pos (by rfl)]; go_simp; go_at_call 27; refine (HRU.out bm w2 HS2.out).mono ?_; rintro r w3 ⟨rfl, hb3⟩))
      all_goals
        have hb13 := hb1.trans ((hb2.trans (hb3.mono hb2.size)).mono hb1.size)
        have HRX := hide (HRD1.out bm w3 (HS2.out.on hb3) (HX0.out.below hb13))
        go_wp2_with (go_at_call 63; (with_reducible refine HRX.out.mono ?_); rintro r w4 ⟨rfl, hb4⟩)
        go_ret
        exact ⟨by first | rfl | simp, HB0.out.trans ((hb13.trans (hb4.mono hb13.size)).mono HB0.out.size)⟩
    · go_enter Try.func9, Try.ntmps9
      go_upto_region 1 with fail
      rw [HW0.out]
      clear HW0
      go_wp2_with (go_at_call 25; (with_reducible refine HOK.out.mono ?_); rintro r w1 ⟨rfl, hb1⟩; have HE1 := hide (HE0.out.on hb1 hlr); have hl1 : w.heap.size < w1.heap.size := Nat.lt_of_lt_of_le hlr hb1.size; clear a0 a1 a2 a3 a4 a5 a6 a7 a8; obtain ⟨a0, a1, a2, a3, a4, a5, a6, a7, a8⟩ := HE1.out.ev)
      go_region_law (first
        | (rw [if_pos (by rfl)]; go_simp; go_at_call 26; refine (HSC.out _ (hb1.trans ((Below.refl w1.heap.size w1).drew.mono hb1.size))).mono ?_; rintro r w2 ⟨bm, rfl, hS2, hb2'⟩; have hb2 : Below w1.heap.size w1 w2 := (Below.refl w1.heap.size w1).drew.trans hb2'; have HE2 := hide (HE1.out.on hb2 hl1); have HS2 := hide hS2; obtain ⟨d0, d1, d2, d3, d4, d5, d6, d7, d8⟩ := HE2.out.ev)
        | (rw [if_pos (by rfl)]; go_simp; go_at_call 27; refine (HRU.out bm w2 HS2.out).mono ?_; rintro r w3 ⟨rfl, hb3⟩))
      all_goals
        have hb13 := hb1.trans ((hb2.trans (hb3.mono hb2.size)).mono hb1.size)
        have HRX := hide (HRD1.out bm w3 (HS2.out.on hb3) (HX0.out.below hb13))
        go_wp2_with (go_at_call 64; (with_reducible refine HRX.out.mono ?_); rintro r w4 ⟨rfl, hb4⟩)
        go_ret
        exact ⟨by first | rfl | simp, HB0.out.trans ((hb13.trans (hb4.mono hb13.size)).mono HB0.out.size)⟩
    · go_enter Try.func9, Try.ntmps9
      go_upto_region 1 with fail
      rw [HW0.out]
      clear HW0
      go_wp2_with (go_at_call 25; (with_reducible refine HOK.out.mono ?_); rintro r w1 ⟨rfl, hb1⟩; have HE1 := hide (HE0.out.on hb1 hlr); have hl1 : w.heap.size < w1.heap.size := Nat.lt_of_lt_of_le hlr hb1.size; clear a0 a1 a2 a3 a4 a5 a6 a7 a8; obtain ⟨a0, a1, a2, a3, a4, a5, a6, a7, a8⟩ := HE1.out.ev)
      go_region_law (first
        | (rw [if_pos (by rfl)]; go_simp; go_at_call 26; refine (HSC.out _ (hb1.trans ((Below.refl w1.heap.size w1).drew.mono hb1.size))).mono ?_; rintro r w2 ⟨bm, rfl, hS2, hb2'⟩; have hb2 : Below w1.heap.size w1 w2 := (Below.refl w1.heap.size w1).drew.trans hb2'; have HE2 := hide (HE1.out.on hb2 hl1); have HS2 := hide hS2; obtain ⟨d0, d1, d2, d3, d4, d5, d6, d7, d8⟩ := HE2.out.ev)
        | (rw [if_pos (by rfl)]; go_simp; go_at_call 27; refine (HRU.out bm w2 HS2.out).mono ?_; rintro r w3 ⟨rfl, hb3⟩))
      all_goals
        have hb13 := hb1.trans ((hb2.trans (hb3.mono hb2.size)).mono hb1.size)
        have HRX := hide (HRD1.out bm w3 (HS2.out.on hb3) (HX0.out.below hb13))
        go_wp2_with (go_at_call 90; (with_reducible refine HRX.out.mono ?_); rintro r w4 ⟨rfl, hb4⟩)
        go_ret
        exact ⟨by first | rfl | simp, HB0.out.trans ((hb13.trans (hb4.mono hb13.size)).mono HB0.out.size)⟩
    · go_enter Try.func9, Try.ntmps9
      go_upto_region 1 with fail
      rw [HW0.out]
      clear HW0
      go_wp2_with (go_at_call 25; (with_reducible refine HOK.out.mono ?_); rintro r w1 ⟨rfl, hb1⟩; have HE1 := hide (HE0.out.on hb1 hlr); have hl1 : w.heap.size < w1.heap.size := Nat.lt_of_lt_of_le hlr hb1.size; clear a0 a1 a2 a3 a4 a5 a6 a7 a8; obtain ⟨a0, a1, a2, a3, a4, a5, a6, a7, a8⟩ := HE1.out.ev)
      go_region_law (first
        | (rw [if_pos (by rfl)]; go_simp; go_at_call 26; refine (HSC.out _ (hb1.trans ((Below.refl w1.heap.size w1).drew.mono hb1.size))).mono ?_; rintro r w2 ⟨bm, rfl, hS2, hb2'⟩; have hb2 : Below w1.heap.size w1 w2 := (Below.refl w1.heap.size w1).drew.trans hb2'; have HE2 := hide (HE1.out.on hb2 hl1); have HS2 := hide hS2; obtain ⟨d0, d1, d2, d3, d4, d5, d6, d7, d8⟩ := HE2.out.ev)
        | (rw [if_pos (by rfl)]; go_simp; go_at_call 27; refine (HRU.out bm w2 HS2.out).mono ?_; rintro r w3 ⟨rfl, hb3⟩))
      all_goals
        have hb13 := hb1.trans ((hb2.trans (hb3.mono hb2.size)).mono hb1.size)
        have HRX := hide (HRD1.out bm w3 (HS2.out.on hb3) (HX0.out.below hb13))
        go_wp2_with (go_at_call 91; (with_reducible refine HRX.out.mono ?_); rintro r w4 ⟨rfl, hb4⟩)
        go_ret
        exact ⟨by first | rfl | simp, HB0.out.trans ((hb13.trans (hb4.mono hb13.size)).mono HB0.out.size)⟩
    · go_enter Try.func9, Try.ntmps9
      go_upto_region 1 with fail
      rw [HW0.out]
      clear HW0
      go_wp2_with (go_at_call 25; (with_reducible refine HOK.out.mono ?_); rintro r w1 ⟨rfl, hb1⟩; have HE1 := hide (HE0.out.on hb1 hlr); have hl1 : w.heap.size < w1.heap.size := Nat.lt_of_lt_of_le hlr hb1.size; clear a0 a1 a2 a3 a4 a5 a6 a7 a8; obtain ⟨a0, a1, a2, a3, a4, a5, a6, a7, a8⟩ := HE1.out.ev)
      go_region_law (first
        | (rw [if_pos (by rfl)]; go_simp; go_at_call 26; refine (HSC.out _ (hb1.trans ((Below.refl w1.heap.size w1).drew.mono hb1.size))).mono ?_; rintro r w2 ⟨bm, rfl, hS2, hb2'⟩; have hb2 : Below w1.heap.size w1 w2 := (Below.refl w1.heap.size w1).drew.trans hb2'; have HE2 := hide (HE1.out.on hb2 hl1); have HS2 := hide hS2; obtain ⟨d0, d1, d2, d3, d4, d5, d6, d7, d8⟩ := HE2.out.ev)
        | (rw [if_pos (by rfl)]; go_simp; go_at_call 27; refine (HRU.out bm w2 HS2.out).mono ?_; rintro r w3 ⟨rfl, hb3⟩))
      all_goals
        have hb13 := hb1.trans ((hb2.trans (hb3.mono hb2.size)).mono hb1.size)
        have HRX := hide (HRD1.out bm w3 (HS2.out.on hb3) (HX0.out.below hb13))
        go_wp2_with (go_at_call 92; (with_reducible refine HRX.out.mono ?_); rintro r w4 ⟨rfl, hb4⟩)
        go_ret
        exact ⟨by first | rfl | simp, HB0.out.trans ((hb13.trans (hb4.mono hb13.size)).mono HB0.out.size)⟩
    · go_enter Try.func9, Try.ntmps9
      go_upto_region 1 with fail
      rw [HW0.out]
      clear HW0
      go_wp2_with (go_at_call 25; (with_reducible refine HOK.out.mono ?_); rintro r w1 ⟨rfl, hb1⟩; have HE1 := hide (HE0.out.on hb1 hlr); have hl1 : w.heap.size < w1.heap.size := Nat.lt_of_lt_of_le hlr hb1.size; clear a0 a1 a2 a3 a4 a5 a6 a7 a8; obtain ⟨a0, a1, a2, a3, a4, a5, a6, a7, a8⟩ := HE1.out.ev)
      go_region_law (first
        | (rw [if_pos (by rfl)]; go_simp; go_at_call 26; refine (HSC.out _ (hb1.trans ((Below.refl w1.heap.size w1).drew.mono hb1.size))).mono ?_; rintro r w2 ⟨bm, rfl, hS2, hb2'⟩; have hb2 : Below w1.heap.size w1 w2 := (Below.refl w1.heap.size w1).drew.trans hb2'; have HE2 := hide (HE1.out.on hb2 hl1); have HS2 := hide hS2; obtain ⟨d0, d1, d2, d3, d4, d5, d6, d7, d8⟩ := HE2.out.ev)
        | (rw [if_pos (by rfl)]; go_simp; go_at_call 27; refine (HRU.out bm w2 HS2.out).mono ?_; rintro r w3 ⟨rfl, hb3⟩))
      all_goals
        have hb13 := hb1.trans ((hb2.trans (hb3.mono hb2.size)).mono hb1.size)
        have HRX := hide (HRD1.out bm w3 (HS2.out.on hb3) (HX0.out.below hb13))
        go_wp2_with (go_at_call 93; (with_reducible refine HRX.out.mono ?_); rintro r w4 ⟨rfl, hb4⟩)
        go_ret
        exact ⟨by first | rfl | simp, HB0.out.trans ((hb13.trans (hb4.mono hb13.size)).mono HB0.out.size)⟩
    · go_enter Try.func9, Try.ntmps9
      go_upto_region 1 with fail
      rw [HW0.out]
      clear HW0
      go_wp2_with (go_at_call 25; (with_reducible refine HOK.out.mono ?_); rintro r w1 ⟨rfl, hb1⟩; have HE1 := hide (HE0.out.on hb1 hlr); have hl1 : w.heap.size < w1.heap.size := Nat.lt_of_lt_of_le hlr hb1.size; clear a0 a1 a2 a3 a4 a5 a6 a7 a8; obtain ⟨a0, a1, a2, a3, a4, a5, a6, a7, a8⟩ := HE1.out.ev)
      go_region_law (first
        | (rw [if_pos (by rfl)]; go_simp; go_at_call 26; refine (HSC.out _ (hb1.trans ((Below.refl w1.heap.size w1).drew.mono hb1.size))).mono ?_; rintro r w2 ⟨bm, rfl, hS2, hb2'⟩; have hb2 : Below w1.heap.size w1 w2 := (Below.refl w1.heap.size w1).drew.trans hb2'; have HE2 := hide (HE1.out.on hb2 hl1); have HS2 := hide hS2; obtain ⟨d0, d1, d2, d3, d4, d5, d6, d7, d8⟩ := HE2.out.ev)
        | (rw [if_pos (by rfl)]; go_simp; go_at_call 27; refine (HRU.out bm w2 HS2.out).mono ?_; rintro r w3 ⟨rfl, hb3⟩))
      all_goals
        have hb13 := hb1.trans ((hb2.trans (hb3.mono hb2.size)).mono hb1.size)
        have HRX := hide (HRD1.out bm w3 (HS2.out.on hb3) (HX0.out.below hb13))
        go_wp2_with (go_at_call 94; (with_reducible refine HRX.out.mono ?_); rintro r w4 ⟨rfl, hb4⟩)
        go_ret
        exact ⟨by first | rfl | simp, HB0.out.trans ((hb13.trans (hb4.mono hb13.size)).mono HB0.out.size)⟩
    · go_enter Try.func9, Try.ntmps9
      go_upto_region 1 with fail
      rw [HW0.out]
      clear HW0
      go_wp2_with (go_at_call 25; (with_reducible refine HOK.out.mono ?_); rintro r w1 ⟨rfl, hb1⟩; have HE1 := hide (HE0.out.on hb1 hlr); have hl1 : w.heap.size < w1.heap.size := Nat.lt_of_lt_of_le hlr hb1.size; clear a0 a1 a2 a3 a4 a5 a6 a7 a8; obtain ⟨a0, a1, a2, a3, a4, a5, a6, a7, a8⟩ := HE1.out.ev)
      go_region_law (first
        | (rw [if_pos (by rfl)]; go_simp; go_at_call 26; refine (HSC.out _ (hb1.trans ((Below.refl w1.heap.size w1).drew.mono hb1.size))).mono ?_; rintro r w2 ⟨bm, rfl, hS2, hb2'⟩; have hb2 : Below w1.heap.size w1 w2 := (Below.refl w1.heap.size w1).drew.trans hb2'; have HE2 := hide (HE1.out.on hb2 hl1); have HS2 := hide hS2; obtain ⟨d0, d1, d2, d3, d4, d5, d6, d7, d8⟩ := HE2.out.ev)
        | (rw [if_pos (by rfl)]; go_simp; go_at_call 27; refine (HRU.out bm w2 HS2.out).mono ?_; rintro r w3 ⟨rfl, hb3⟩))
      all_goals
        have hb13 := hb1.trans ((hb2.trans (hb3.mono hb2.size)).mono hb1.size)
        have HRX := hide (HRD1.out bm w3 (HS2.out.on hb3) (HX0.out.below hb13))
        go_wp2_with (go_at_call 67; (with_reducible refine HRX.out.mono ?_); rintro r w4 ⟨rfl, hb4⟩)
        go_ret
        exact ⟨by first | rfl | simp, HB0.out.trans ((hb13.trans (hb4.mono hb13.size)).mono HB0.out.size)⟩
    · go_enter Try.func9, Try.ntmps9
      go_upto_region 1 with fail
      rw [HW0.out]
      clear HW0
      go_wp2_with (go_at_call 25; (with_reducible refine HOK.out.mono ?_); rintro r w1 ⟨rfl, hb1⟩; have HE1 := hide (HE0.out.on hb1 hlr); have hl1 : w.heap.size < w1.heap.size := Nat.lt_of_lt_of_le hlr hb1.size; clear a0 a1 a2 a3 a4 a5 a6 a7 a8; obtain ⟨a0, a1, a2, a3, a4, a5, a6, a7, a8⟩ := HE1.out.ev)
      go_region_law (first
        | (rw [if_pos (by rfl)]; go_simp; go_at_call 26; refine (HSC.out _ (hb1.trans ((Below.refl w1.heap.size w1).drew.mono hb1.size))).mono ?_; rintro r w2 ⟨bm, rfl, hS2, hb2'⟩; have hb2 : Below w1.heap.size w1 w2 := (Below.refl w1.heap.size w1).drew.trans hb2'; have HE2 := hide (HE1.out.on hb2 hl1); have HS2 := hide hS2; obtain ⟨d0, d1, d2, d3, d4, d5, d6, d7, d8⟩ := HE2.out.ev)
        | (rw [if_pos (by rfl)]; go_simp; go_at_call 27; refine (HRU.out bm w2 HS2.out).mono ?_; rintro r w3 ⟨rfl, hb3⟩))
      all_goals
        have hb13 := hb1.trans ((hb2.trans (hb3.mono hb2.size)).mono hb1.size)
        have HRX := hide (HRD1.out bm w3 (HS2.out.on hb3) (HX0.out.below hb13))
        go_wp2_with (go_at_call 68; (with_reducible refine HRX.out.mono ?_); rintro r w4 ⟨rfl, hb4⟩)
        go_ret
        exact ⟨by first | rfl | simp, HB0.out.trans ((hb13.trans (hb4.mono hb13.size)).mono HB0.out.size)⟩
    · go_enter Try.func9, Try.ntmps9
      go_upto_region 1 with fail
      rw [HW0.out]
      clear HW0
      go_wp2_with (go_at_call 25; (with_reducible refine HOK.out.mono ?_); rintro r w1 ⟨rfl, hb1⟩; have HE1 := hide (HE0.out.on hb1 hlr); have hl1 : w.heap.size < w1.heap.size := Nat.lt_of_lt_of_le hlr hb1.size; clear a0 a1 a2 a3 a4 a5 a6 a7 a8; obtain ⟨a0, a1, a2, a3, a4, a5, a6, a7, a8⟩ := HE1.out.ev)
      go_region_law (first
        | (rw [if_pos (by rfl)]; go_simp; go_at_call 26; refine (HSC.out _ (hb1.trans ((Below.refl w1.heap.size w1).drew.mono hb1.size))).mono ?_; rintro r w2 ⟨bm, rfl, hS2, hb2'⟩; have hb2 : Below w1.heap.size w1 w2 := (Below.refl w1.heap.size w1).drew.trans hb2'; have HE2 := hide (HE1.out.on hb2 hl1); have HS2 := hide hS2; obtain ⟨d0, d1, d2, d3, d4, d5, d6, d7, d8⟩ := HE2.out.ev)
        | (rw [if_pos (by rfl)]; go_simp; go_at_call 27; refine (HRU.out bm w2 HS2.out).mono ?_; rintro r w3 ⟨rfl, hb3⟩))
      all_goals
        have hb13 := hb1.trans ((hb2.trans (hb3.mono hb2.size)).mono hb1.size)
        have HRX := hide (HRD1.out bm w3 (HS2.out.on hb3) (HX0.out.below hb13))
        go_wp2_with (go_at_call 69; (with_reducible refine HRX.out.mono ?_); rintro r w4 ⟨rfl, hb4⟩)
        go_ret
        exact ⟨by first | rfl | simp, HB0.out.trans ((hb13.trans (hb4.mono hb13.size)).mono HB0.out.size)⟩

end Go.Proofs.Ytbhpalmbbhgamaa
