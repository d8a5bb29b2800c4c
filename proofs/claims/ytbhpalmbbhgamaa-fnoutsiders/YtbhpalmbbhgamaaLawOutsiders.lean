/-
  The law FnOutsiders: its walk.
-/
import Derived.Test.YtbhpalmbbhgamaaWalk10rd
namespace Go.Proofs.Ytbhpalmbbhgamaa
open Go.RowKit P1 P3 P5 P9 P11 P12 P14 P15 K
set_option linter.unusedVariables false
set_option linter.unusedSimpArgs false

/-- The events that an outsider tries. -/
abbrev sayE (u : Int) : EvV := ⟨91, 5, u, 0, 0, [], [], [1], 1⟩
abbrev nameE (u : Int) : EvV := ⟨91, 4, u, 0, 0, [], [], [1], 1⟩
abbrev otherE (u : Int) : EvV := ⟨91, 2, u, u % 5 + 1, 1, [], [], [1], 1⟩
abbrev joinE (u : Int) : EvV := ⟨91, 2, u, u, 2, [], [], [1], 1⟩
abbrev createE : EvV := ⟨91, 1, 1, 0, 0, [], [], [], 0⟩

theorem out_say {es : List EvV} {s : St} {u : Int} (h : (scMem es s u == 2) = false) : allowedP es s (sayE u) = false := by
  unfold allowedP ruleP
  simp [h]
theorem out_name {es : List EvV} {s : St} {u : Int} (h : (scMem es s u == 2) = false) : allowedP es s (nameE u) = false := by
  unfold allowedP ruleP rulesP
  simp [h]
theorem out_other {es : List EvV} {s : St} {u : Int} (h1 : 1 ≤ u) (h5 : u ≤ 5) (h : (scMem es s u == 2) = false) : allowedP es s (otherE u) = false := by
  have hne : (u == u % 5 + 1) = false := by
    rw [beq_eq_false_iff_ne]
    omega
  unfold allowedP ruleP otherP
  simp [h, hne]
theorem out_join {es : List EvV} {s : St} {u : Int} (hu : inR u 1 5 = true) (h3 : (scMem es s u == 3) = true) : allowedP es s (joinE u) = false := by
  have hm : scMem es s u = 3 := by simpa using h3
  have hany : (s.any fun x => inR x.1 11 15) = true := by
    unfold scMem scEv at hm
    cases hf : stFind s (10 + u) with
    | none => rw [hf] at hm; simp at hm
    | some i =>
      rw [List.any_eq_true]
      refine ⟨_, stFind_in hf, ?_⟩
      simp [inR] at hu ⊢
      omega
  unfold allowedP ruleP selfP
  simp [hany, hm]
theorem out_create {es : List EvV} {s : St} : allowedP es s createE = s.isEmpty := by
  unfold allowedP ruleP
  rw [show evOk createE = true from by decide]
  simp

theorem ev_made (w5 : World) (id kd sn us mb dp : Int) :
    Below w5.heap.size w5 ((w5.alloc (.cells #[.int .i64 1] 3)).alloc (.cells (evcells id kd sn us mb dp (.slice none 0 0) (.slice (some ⟨w5.heap.size, 0, none⟩) 1 1) []) 31)) ∧ EB ((w5.alloc (.cells #[.int .i64 1] 3)).alloc (.cells (evcells id kd sn us mb dp (.slice none 0 0) (.slice (some ⟨w5.heap.size, 0, none⟩) 1 1) []) 31)) (w5.heap.size + 1) id kd sn us mb dp (.slice none 0 0) (.slice (some ⟨w5.heap.size, 0, none⟩) 1 1) [] ∧ IntsAt ((w5.alloc (.cells #[.int .i64 1] 3)).alloc (.cells (evcells id kd sn us mb dp (.slice none 0 0) (.slice (some ⟨w5.heap.size, 0, none⟩) 1 1) []) 31)) (some ⟨w5.heap.size, 0, none⟩) 1 1 [1] := by
  refine ⟨((Below.refl w5.heap.size w5).alloc (Nat.le_refl _) _).alloc (by simp) _, ?_, ?_⟩
  · have := EB.new (w5.alloc (.cells #[.int .i64 1] 3)) id kd sn us mb dp (.slice none 0 0) (.slice (some ⟨w5.heap.size, 0, none⟩) 1 1) []
    rw [World.size_alloc] at this
    exact this
  · have hr : ((w5.alloc (.cells #[.int .i64 1] 3)).alloc (.cells (evcells id kd sn us mb dp (.slice none 0 0) (.slice (some ⟨w5.heap.size, 0, none⟩) 1 1) []) 31)).heap[w5.heap.size]? = some (.cells #[.int .i64 1] 3 (0, 0)) := (((Below.refl _ _).alloc (Nat.le_refl _) _ : Below (w5.alloc (.cells #[.int .i64 1] 3)).heap.size _ _).block w5.heap.size (by simp)).trans (heap_alloc_new w5 _)
    refine ⟨rfl, Nat.le_refl _, by unfold maxLen; omega, fun z hz => by simp at hz; subst hz; decide, fun i z hz => ?_⟩
    cases i with
    | zero => simp at hz; subst hz; exact ⟨_, _, rfl, blk_cell hr 0 rfl⟩
    | succ k => simp at hz

set_option maxRecDepth 100000 in
set_option maxHeartbeats 16000000 in
theorem FnOutsiders_walk (a0 : Option Addr) (len0 cap0 : Nat) (z0 : List Int) (w : World) (w0 : IsRow .u8 w a0 len0 cap0 z0) :
    Calls Try.prog 3 #[.slice a0 len0 cap0] w fun e w' => e = .returned (.bool true) ∧ Below w.heap.size w w' := by
  have HC := hide (codeAt_of_row w0)
  clear w0
  by_cases hbig : 1048576 < len0
  · go_enter Try.func3, Try.ntmps3
    go_wp2_with (go_at_call 6; refine (big_yes a0 len0 cap0 hbig _).mono ?_; rintro e w1 ⟨rfl, rfl⟩)
    go_ret
    exact ⟨rfl, Below.refl _ _⟩
  · have hlen : len0 ≤ 1048576 := by omega
    go_enter Try.func3, Try.ntmps3
    go_upto_region 4 with (first
      | (go_at_call 6; refine (big_no a0 len0 cap0 hlen _).mono ?_; rintro e w1 ⟨rfl, rfl⟩)
      | (go_at_call 7; refine (drawNext_any w.heap.size a0 len0 cap0 _ hlen (Nat.le_refl _) HC.out).mono ?_; rintro r w1 ⟨ve, vs, vg, es, sts, e, vl, vp, rfl, hrr, hD, hl, hq, fl, fp, hid, nl, np, tx, hb1⟩; obtain ⟨oa, ca, so, sc, og, cg, rfl, rfl, rfl, hev, hst⟩ := hrr.ats; obtain ⟨xa, xc, rfl, hx⟩ := ints_own hl fl; obtain ⟨ya, yc, rfl, hy⟩ := ints_own hq fp; clear hid hrr hl hq fl fp np))
    obtain ⟨W1, hW1⟩ : ∃ W1, (w1.alloc (.cells #[.slice oa es.length ca, .slice so sts.length sc, .slice og es.length cg] 28)).alloc (.cells (evcells e.id e.kind e.sender e.user e.member e.depth (.slice xa e.levels.length xc) (.slice ya e.prev.length yc) e.text) 31) = W1 := ⟨_, rfl⟩
    obtain ⟨hbv, hrm, heb⟩ := two_vars w1 _ _ _ _ _ _ _ _ _ _ _ _ W1 hW1
    rw [hW1]
    have r0 := blk_cell hrm 0 rfl
    have r1 := blk_cell hrm 1 rfl
    have r2 := blk_cell hrm 2 rfl
    have HSO := hide (specStateOf_any oa ca es so sc sts og es.length cg hD.inv W1 (hev.below hbv) (hst.below hbv))
    have hsane := drawn_sane hD
    obtain ⟨s, hs⟩ : ∃ s, stateOf es sts = s := ⟨_, rfl⟩
    rw [hs] at HSO hsane
    obtain ⟨hs8, hws⟩ := stOk_small hsane.ok
    have HK1 := hide (show ∀ W' ob cb, Below W1.heap.size W1 W' → ItemsAt W' ob s.length cb s → OutK w W' w1.heap.size (w1.heap.size + 1) oa ca es (.slice so sts.length sc) (.slice og es.length cg) ob cb s e xa xc ya yc from fun W' ob cb hb hi => ⟨(hb.block _ (blk_lt hrm)).trans hrm, heb.on hb heb.lt, (hev.below hbv).below hb, hi, (hx.below hbv).below hb, (hy.below hbv).below hb, (hb1.trans (hbv.mono hb1.size)).trans (hb.mono (Nat.le_trans hb1.size hbv.size))⟩)
    have HSA := hide hsane
    have HWS := hide hws
    clear hW1 hbv hrm heb hev hst hx hy hb1 hsane hws hs hD
    generalize w1.heap.size = br at *
    go_upto_region 5 with (go_at_call 8; (with_reducible refine HSO.out.mono ?_); rintro r w2 ⟨v2, rfl, ho2, hb2⟩; obtain ⟨ob, cb, rfl, hi2⟩ := itemsAt_of_own ho2)
    have HK := hide (HK1.out w2 ob cb hb2 hi2)
    clear HK1 HSO ho2 hb2 hi2 r0 r1 r2
    have HIA := hide (fun W (K : OutK w W br (br + 1) oa ca es (.slice so sts.length sc) (.slice og es.length cg) ob cb s e xa xc ya yc) => implAllowed_any oa es.length ca es ob s.length cb s e xa xc ya yc (by omega) HWS.out (by omega) (by omega) W K.ev K.it K.lx K.ly)
    have HSP := hide (fun W (K : OutK w W br (br + 1) oa ca es (.slice so sts.length sc) (.slice og es.length cg) ob cb s e xa xc ya yc) => specAllowed_any oa es.length ca es ob s.length cb s e xa xc ya yc (by omega) W ⟨K.ev, K.it⟩ K.lx K.ly)
    rw [HSA.out.allowed] at HSP
    generalize allowedP es s e = okb at HIA HSP
    have r0 := blk_cell HK.out.rm 0 rfl
    obtain ⟨k0, k1, k2, k3, k4, k5, k6, k7, k8⟩ := HK.out.eb.ev
    go_upto_region 6 with (go_at_call 9; (with_reducible refine (HIA.out w2 HK.out).mono ?_); rintro r w3 ⟨rfl, hb3⟩)
    have HK3 := hide (HK.out.on hb3)
    clear HK hb3 r0 k0 k1 k2 k3 k4 k5 k6 k7 k8
    have r0 := blk_cell HK3.out.rm 0 rfl
    obtain ⟨k0, k1, k2, k3, k4, k5, k6, k7, k8⟩ := HK3.out.eb.ev
    go_upto_region 8 with (go_at_call 10; (with_reducible refine (HSP.out w3 HK3.out).mono ?_); rintro r w4 ⟨rfl, hb4⟩)
    have HK4 := hide (HK3.out.on hb4)
    clear HK3 hb4 r0 k0 k1 k2 k3 k4 k5 k6 k7 k8 HIA HSP
    go_wp2_with fail
    go_loopw [7] (fun i wr => ∃ u : Int, i = .int .i64 u ∧ 1 ≤ u ∧ u ≤ 6 ∧ OutK w wr br (br + 1) oa ca es (.slice so sts.length sc) (.slice og es.length cg) ob cb s e xa xc ya yc) (fun i _ => (6 - intOf i).toNat)
    case atStart => exact ⟨1, rfl, by omega, by omega, HK4.out⟩
    case round =>
      obtain ⟨u, rfl, hu1, hu6, hK⟩ := hrel
      have HKR := hide hK
      clear hK
      by_cases hu5 : u ≤ 5
      · have r0 := blk_cell HKR.out.rm 0 rfl
        have HME := hide (implMemberOf_any oa es.length ca es ob s.length cb s u (by omega) (by omega) HWS.out wr HKR.out.ev HKR.out.it)
        generalize hme : scMem es s u = me at HME
        have HM := hide hme
        clear hme
        cases g2 : (me == 2)
        · go_upto_region 17 with (go_at_call 11; (with_reducible refine HME.out.mono ?_); rintro r w5 ⟨rfl, hb5⟩)
          obtain ⟨W6, hW6⟩ : ∃ W6, (w5.alloc (.cells #[.int .i64 1] 3)).alloc (.cells (evcells 91 5 u 0 0 1 (.slice none 0 0) (.slice (some ⟨w5.heap.size, 0, none⟩) 1 1) []) 31) = W6 := ⟨_, rfl⟩
          obtain ⟨c1, e1, i1⟩ := ev_made w5 91 5 u 0 0 1
          have z1 : W6.heap.size = w5.heap.size + 1 + 1 := by rw [← hW6]; simp
          rw [hW6] at c1 e1 i1 ⊢
          obtain ⟨W7, hW7⟩ : ∃ W7, (W6.alloc (.cells #[.int .i64 1] 3)).alloc (.cells (evcells 91 4 u 0 0 1 (.slice none 0 0) (.slice (some ⟨w5.heap.size + 1 + 1, 0, none⟩) 1 1) []) 31) = W7 := ⟨_, rfl⟩
          obtain ⟨c2, e2, i2⟩ := ev_made W6 91 4 u 0 0 1
          have z2 : W7.heap.size = w5.heap.size + 1 + 1 + 1 + 1 := by rw [← hW7]; simp [z1]
          rw [z1] at e2 i2
          rw [z1, hW7] at c2
          rw [hW7] at e2 i2 ⊢
          obtain ⟨W8, hW8⟩ : ∃ W8, (W7.alloc (.cells #[.int .i64 1] 3)).alloc (.cells (evcells 91 2 u (u % 5 + 1) 1 1 (.slice none 0 0) (.slice (some ⟨w5.heap.size + 1 + 1 + 1 + 1, 0, none⟩) 1 1) []) 31) = W8 := ⟨_, rfl⟩
          obtain ⟨c3, e3, i3⟩ := ev_made W7 91 2 u (u % 5 + 1) 1 1
          have z3 : W8.heap.size = w5.heap.size + 1 + 1 + 1 + 1 + 1 + 1 := by rw [← hW8]; simp [z2]
          rw [z2] at e3 i3
          rw [z2, hW8] at c3
          rw [hW8] at e3 i3 ⊢
          obtain ⟨W9, hW9⟩ : ∃ W9, (W8.alloc (.cells #[.int .i64 1] 3)).alloc (.cells (evcells 91 2 u u 2 1 (.slice none 0 0) (.slice (some ⟨w5.heap.size + 1 + 1 + 1 + 1 + 1 + 1, 0, none⟩) 1 1) []) 31) = W9 := ⟨_, rfl⟩
          obtain ⟨c4, e4, i4⟩ := ev_made W8 91 2 u u 2 1
          have z4 : W9.heap.size = w5.heap.size + 1 + 1 + 1 + 1 + 1 + 1 + 1 + 1 := by rw [← hW9]; simp [z3]
          rw [z3] at e4 i4
          rw [z3, hW9] at c4
          rw [hW9] at e4 i4 ⊢
          have b2 : Below W6.heap.size W6 W7 := by rw [z1]; exact c2
          have b3 : Below W7.heap.size W7 W8 := by rw [z2]; exact c3
          have b4 : Below W8.heap.size W8 W9 := by rw [z3]; exact c4
          have b34 := b3.trans (b4.mono b3.size)
          have b24 := b2.trans (b34.mono b2.size)
          have b14 := c1.trans (b24.mono c1.size)
          have HK9 := hide ((HKR.out.on hb5).on b14)
          have HE1 := hide (e1.on b24 e1.lt)
          have HI1 := hide (i1.below b24)
          have HE2 := hide (e2.on b34 e2.lt)
          have HI2 := hide (i2.below b34)
          have HE3 := hide (e3.on b4 e3.lt)
          have HI3 := hide (i3.below b4)
          have HE4 := hide e4
          have HI4 := hide i4
          have hg2 : (scMem es s u == 2) = false := by rw [HM.out]; exact g2
          have HA1 := hide (fun W (h : Below W9.heap.size W9 W) => implAllowed_any oa es.length ca es ob s.length cb s (sayE u) none 0 (some ⟨w5.heap.size, 0, none⟩) 1 (by omega) HWS.out (by simp) (by simp) W (HK9.out.on h).ev (HK9.out.on h).it (ints_nil _) (HI1.out.below h))
          have HA2 := hide (fun W (h : Below W9.heap.size W9 W) => implAllowed_any oa es.length ca es ob s.length cb s (nameE u) none 0 (some ⟨w5.heap.size + 1 + 1, 0, none⟩) 1 (by omega) HWS.out (by simp) (by simp) W (HK9.out.on h).ev (HK9.out.on h).it (ints_nil _) (HI2.out.below h))
          have HA3 := hide (fun W (h : Below W9.heap.size W9 W) => implAllowed_any oa es.length ca es ob s.length cb s (otherE u) none 0 (some ⟨w5.heap.size + 1 + 1 + 1 + 1, 0, none⟩) 1 (by omega) HWS.out (by simp) (by simp) W (HK9.out.on h).ev (HK9.out.on h).it (ints_nil _) (HI3.out.below h))
          have HA4 := hide (fun W (h : Below W9.heap.size W9 W) => implAllowed_any oa es.length ca es ob s.length cb s (joinE u) none 0 (some ⟨w5.heap.size + 1 + 1 + 1 + 1 + 1 + 1, 0, none⟩) 1 (by omega) HWS.out (by simp) (by simp) W (HK9.out.on h).ev (HK9.out.on h).it (ints_nil _) (HI4.out.below h))
          rw [out_say hg2] at HA1
          rw [out_name hg2] at HA2
          rw [out_other hu1 hu5 hg2] at HA3
          have hj3 : (me == 3) = true → allowedP es s (joinE u) = false := fun h3 => out_join (by simp [inR]; omega) (by rw [HM.out]; exact h3)
          have HJ := hide hj3
          generalize allowedP es s (joinE u) = jn at HA4 HJ
          clear hW6 hW7 hW8 hW9 c1 c2 c3 c4 e1 e2 e3 e4 i1 i2 i3 i4 z1 z2 z3 z4 b2 b3 b4 b34 b24 b14 hb5 hg2 hj3 r0 HME
          have r0 := blk_cell HK9.out.rm 0 rfl
          have hlR := blk_lt HK9.out.rm
          have hl1 := HE1.out.lt
          have hl2 := HE2.out.lt
          have hl3 := HE3.out.lt
          have hl4 := HE4.out.lt
          obtain ⟨p0, p1, p2, p3, p4, p5, p6, p7, p8⟩ := HE1.out.ev
          obtain ⟨q0, q1, q2, q3, q4, q5, q6, q7, q8⟩ := HE2.out.ev
          obtain ⟨t0, t1, t2, t3, t4, t5, t6, t7, t8⟩ := HE3.out.ev
          go_upto_region 19 with (first
            | (go_at_call 9; refine (HA1.out W9 (Below.refl _ _)).mono ?_; rintro r wa ⟨rfl, hba⟩; have ra := (hba.cell hlR).trans r0; have HEa := hide (HE2.out.on hba hl2); have HAa := hide (HA2.out wa hba); clear p0 p1 p2 p3 p4 p5 p6 p7 p8 q0 q1 q2 q3 q4 q5 q6 q7 q8; obtain ⟨p0, p1, p2, p3, p4, p5, p6, p7, p8⟩ := HEa.out.ev; clear HA1)
            | (go_at_call 9; refine (HAa.out).mono ?_; rintro r wb ⟨rfl, hbb'⟩; have hbb := hba.trans (hbb'.mono hba.size); have rb := (hbb.cell hlR).trans r0; have HEb := hide (HE3.out.on hbb hl3); have HAb := hide (HA3.out wb hbb); clear t0 t1 t2 t3 t4 t5 t6 t7 t8; obtain ⟨t0, t1, t2, t3, t4, t5, t6, t7, t8⟩ := HEb.out.ev; clear HAa)
            | (go_at_call 9; refine (HAb.out).mono ?_; rintro r wc ⟨rfl, hbc'⟩; have hbc := hbb.trans (hbc'.mono hbb.size); clear HAb))
          have HKc := hide (HK9.out.on hbc)
          have HEc := hide (HE4.out.on hbc hl4)
          have HAc := hide (HA4.out wc hbc)
          have rc := blk_cell HKc.out.rm 0 rfl
          obtain ⟨m0, m1, m2, m3, m4, m5, m6, m7, m8⟩ := HEc.out.ev
          cases jn
          · go_wp2_with (go_at_call 9; refine (HAc.out).mono ?_; rintro r wd ⟨rfl, hbd⟩)
            go_roundw
            case rel => exact ⟨u + 1, by go_num, by omega, by omega, HKc.out.on hbd⟩
            case measure => simp [intOf]; omega
          · have g3 : (me == 3) = false := by
              cases h3 : (me == 3)
              · rfl
              · have := HJ.out h3; cases this
            go_wp2_with (go_at_call 9; refine (HAc.out).mono ?_; rintro r wd ⟨rfl, hbd⟩)
            go_roundw
            case rel => exact ⟨u + 1, by go_num, by omega, by omega, HKc.out.on hbd⟩
            case measure => simp [intOf]; omega
        · go_wp2_with (go_at_call 11; (with_reducible refine HME.out.mono ?_); rintro r w5 ⟨rfl, hb5⟩)
          go_roundw
          case rel => exact ⟨u + 1, by go_num, by omega, by omega, HKR.out.on hb5⟩
          case measure => simp [intOf]; omega
      · go_upto_region 22 with fail
        have hb0 := (Below.refl wr.heap.size wr).alloc (Nat.le_refl _) (.cells (evcells 91 1 1 0 0 0 (.slice none 0 0) (.slice none 0 0) []) 31)
        have HE0 := hide (EB.new wr 91 1 1 0 0 0 (.slice none 0 0) (.slice none 0 0) [])
        have HK0 := hide (HKR.out.on hb0)
        have hs0 : (wr.alloc (.cells (evcells 91 1 1 0 0 0 (.slice none 0 0) (.slice none 0 0) []) 31)).heap.size = wr.heap.size + 1 := by simp
        generalize hW0 : wr.alloc (.cells (evcells 91 1 1 0 0 0 (.slice none 0 0) (.slice none 0 0) []) 31) = W0 at HE0 HK0 hs0 hb0
        try rw [hW0]
        obtain ⟨W1, hW1⟩ : ∃ W1, W0.alloc (.cells #[] 44) = W1 := ⟨_, rfl⟩
        have hb1 : Below W0.heap.size W0 W1 := by rw [← hW1]; exact (Below.refl _ _).alloc (Nat.le_refl _) _
        have hn1 : ItemsAt W1 (some ⟨W0.heap.size, 0, none⟩) 0 0 [] := ⟨rfl, Nat.le_refl _, by unfold maxLen; omega, fun i x hx => by simp at hx⟩
        have HK1 := hide (HK0.out.on hb1)
        have HE1 := hide (HE0.out.on hb1 HE0.out.lt)
        have HA1 := hide (implAllowed_any oa es.length ca es (some ⟨W0.heap.size, 0, none⟩) 0 0 [] createE none 0 none 0 (by omega) (fun y hy => by cases hy) (by simp) (by simp) W1 HK1.out.ev hn1 (ints_nil _) (ints_nil _))
        rw [out_create] at HA1
        have HA2 := hide (fun W (h : Below W1.heap.size W1 W) => implAllowed_any oa es.length ca es ob s.length cb s createE none 0 none 0 (by omega) HWS.out (by simp) (by simp) W (HK1.out.on h).ev (HK1.out.on h).it (ints_nil _) (ints_nil _))
        rw [out_create] at HA2
        have HW1 := hide hW1
        have hlR := blk_lt HK1.out.rm
        have hlE := HE1.out.lt
        have hlR0 := blk_lt HK0.out.rm
        have hlE0 := HE0.out.lt
        have r0 := blk_cell HK0.out.rm 0 rfl
        have r1 := blk_cell HK1.out.rm 0 rfl
        obtain ⟨k0, k1, k2, k3, k4, k5, k6, k7, k8⟩ := HE0.out.ev
        obtain ⟨j0, j1, j2, j3, j4, j5, j6, j7, j8⟩ := HE1.out.ev
        clear hW0 hW1 hb0 hb1 hn1 hs0
        cases hE : s.isEmpty
        · have hne : ((s.length : Int) == 0) = false := by
            cases s with
            | nil => cases hE
            | cons y r => simp; omega
          rw [hE] at HA2
          go_wp2_with (first
            | (go_at_call 9; rw [HW1.out]; refine (HA1.out).mono ?_; rintro r wa ⟨rfl, hba⟩; have ra := (hba.cell hlR).trans r1; have HEa := hide (HE1.out.on hba hlE); have HAa := hide (HA2.out wa hba); clear j0 j1 j2 j3 j4 j5 j6 j7 j8 k0 k1 k2 k3 k4 k5 k6 k7 k8; obtain ⟨j0, j1, j2, j3, j4, j5, j6, j7, j8⟩ := HEa.out.ev; clear HA1)
            | (go_at_call 9; refine (HAa.out).mono ?_; rintro r wb ⟨rfl, hbb⟩))
          go_ret
          exact ⟨by first | rfl | simp, ((HK1.out.on hba).on hbb).bl⟩
        · have hne : ((s.length : Int) == 0) = true := by
            cases s with
            | nil => rfl
            | cons y r => cases hE
          go_wp2_with (go_at_call 9; rw [HW1.out]; refine (HA1.out).mono ?_; rintro r wa ⟨rfl, hba⟩)
          go_ret
          exact ⟨by first | rfl | simp, (HK1.out.on hba).bl⟩

end Go.Proofs.Ytbhpalmbbhgamaa
