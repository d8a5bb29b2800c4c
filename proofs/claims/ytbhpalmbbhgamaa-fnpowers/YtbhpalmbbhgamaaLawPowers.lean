/-
  The law FnPowers: its walk.
-/
import Derived.Test.YtbhpalmbbhgamaaWalk10rd
namespace Go.Proofs.Ytbhpalmbbhgamaa
open Go.RowKit P1 P3 P5 P9 P11 P12 P14 P15 K
set_option linter.unusedVariables false
set_option linter.unusedSimpArgs false

theorem pw_ok {es : List EvV} {s : St} {e : EvV} (h : allowedP es s e = true) : evOk e = true ∧ ruleP es s e = true := by
  unfold allowedP at h
  simpa using h

theorem pw_out {es : List EvV} {s : St} {e : EvV} (h : allowedP es s e = true) (k : (e.kind == 2) = true) (hs : (e.sender == e.user) = false) (hm : (e.member == 1) = false) : 50 ≤ scLev es s e.sender ∧ scLev es s e.user < scLev es s e.sender := by
  have h2 := (pw_ok h).2
  have k1 : (e.kind == 1) = false := by
    have : e.kind = 2 := by simpa using k
    rw [this]; rfl
  unfold ruleP otherP outP rulesP at h2
  simp only [k1, k, hs, hm, Bool.false_eq_true, ↓reduceIte, Bool.and_false] at h2
  split at h2
  · cases h2
  · split at h2
    · simp only [Bool.and_eq_true, decide_eq_true_eq] at h2
      exact ⟨h2.1.1.2, h2.1.2⟩
    · split at h2
      · simp only [Bool.and_eq_true, decide_eq_true_eq] at h2
        exact ⟨h2.1.1.2, h2.1.2⟩
      · cases h2

theorem pw_name {es : List EvV} {s : St} {e : EvV} (h : allowedP es s e = true) (k : (e.kind == 4) = true) : 50 ≤ scLev es s e.sender := by
  have h2 := (pw_ok h).2
  have h4 : e.kind = 4 := by simpa using k
  unfold ruleP rulesP at h2
  simp only [h4, show ((4 : Int) == 1) = false from rfl, show ((4 : Int) == 2) = false from rfl, show ((4 : Int) == 3) = false from rfl, show ((4 : Int) == 4) = true from rfl, Bool.false_and, Bool.false_eq_true, ↓reduceIte] at h2
  split at h2
  · cases h2
  · simp only [Bool.and_eq_true, decide_eq_true_eq] at h2
    exact h2.2

theorem pw_rank {es : List EvV} {s : St} {e : EvV} (h : allowedP es s e = true) (k : (e.kind == 3) = true) : e.levels.length = 5 ∧ ∀ (i : Nat) (z : Int), e.levels[i]? = some z → z = scLev es s ((i : Int) + 1) ∨ (z ≤ scLev es s e.sender ∧ (scLev es s ((i : Int) + 1) < scLev es s e.sender ∨ (i : Int) + 1 = e.sender)) := by
  obtain ⟨h1, h2⟩ := pw_ok h
  have h3 : e.kind = 3 := by simpa using k
  refine ⟨power_five h1 h3, fun i z hz => ?_⟩
  unfold ruleP rankP at h2
  simp only [h3, show ((3 : Int) == 1) = false from rfl, show ((3 : Int) == 2) = false from rfl, show ((3 : Int) == 3) = true from rfl, Bool.false_and, Bool.false_eq_true, ↓reduceIte] at h2
  split at h2
  · cases h2
  · rw [Bool.and_eq_true, rankGo_all, List.all_eq_true] at h2
    have hi : i < e.levels.length := by
      rcases Nat.lt_or_ge i e.levels.length with q | q
      · exact q
      · rw [List.getElem?_eq_none q] at hz; cases hz
    have := h2.2 i (List.mem_range.2 hi)
    rw [show e.levels.getD i 0 = z from by rw [List.getD_eq_getElem?_getD, hz]; rfl, Nat.zero_add] at this
    simp only [Bool.or_eq_true, Bool.and_eq_true, beq_iff_eq, decide_eq_true_eq] at this
    exact this

set_option maxRecDepth 100000 in
set_option maxHeartbeats 16000000 in
theorem FnPowers_walk (a0 : Option Addr) (len0 cap0 : Nat) (z0 : List Int) (w : World) (w0 : IsRow .u8 w a0 len0 cap0 z0) :
    Calls Try.prog 4 #[.slice a0 len0 cap0] w fun e w' => e = .returned (.bool true) ∧ Below w.heap.size w w' := by
  have HC := hide (codeAt_of_row w0)
  clear w0
  by_cases hbig : 1048576 < len0
  · go_enter Try.func4, Try.ntmps4
    go_wp2_with (go_at_call 6; refine (big_yes a0 len0 cap0 hbig _).mono ?_; rintro e w1 ⟨rfl, rfl⟩)
    go_ret
    exact ⟨rfl, Below.refl _ _⟩
  · have hlen : len0 ≤ 1048576 := by omega
    go_enter Try.func4, Try.ntmps4
    go_upto_region 4 with (first
      | (go_at_call 6; refine (big_no a0 len0 cap0 hlen _).mono ?_; rintro e w1 ⟨rfl, rfl⟩)
      | (go_at_call 7; refine (drawNext_any w.heap.size a0 len0 cap0 _ hlen (Nat.le_refl _) HC.out).mono ?_; rintro r w1 ⟨ve, vs, vg, es, sts, e, vl, vp, rfl, hrr, hD, hl, hq, fl, fp, hid, nl, np, tx, hb1⟩; obtain ⟨oa, ca, so, sc, og, cg, rfl, rfl, rfl, hev, hst⟩ := hrr.ats; obtain ⟨xa, xc, rfl, hx⟩ := ints_own hl fl; obtain ⟨ya, yc, rfl, hy⟩ := ints_own hq fp; clear hid hrr hl hq fl fp np))
    obtain ⟨W1, hW1⟩ : ∃ W1, (w1.alloc (.cells #[.slice oa es.length ca, .slice so sts.length sc, .slice og es.length cg] 28)).alloc (.cells (evcells e.id e.kind e.sender e.user e.member e.depth (.slice xa e.levels.length xc) (.slice ya e.prev.length yc) e.text) 31) = W1 := ⟨_, rfl⟩
    obtain ⟨hbv, hrm, heb⟩ := two_vars w1 _ _ _ _ _ _ _ _ _ _ _ _ W1 hW1
    rw [hW1]
    have r0 := blk_cell hrm 0 rfl
    have r1 := blk_cell hrm 1 rfl
    have r2 := blk_cell hrm 2 rfl
    have HSO := hide (specStateOf_any oa ca es so sc sts og es.length cg hD.inv W1 (hev.below hbv) (hst.below hbv))
    have hsane := drawn_sane hD
    obtain ⟨s, hs⟩ : ∃ s, stateOf es sts = s := ⟨_, rfl⟩
    rw [hs] at HSO hsane
    obtain ⟨hs8, hws⟩ := stOk_small hsane.ok
    have HK1 := hide (show ∀ W' ob cb, Below W1.heap.size W1 W' → ItemsAt W' ob s.length cb s → OutK w W' w1.heap.size (w1.heap.size + 1) oa ca es (.slice so sts.length sc) (.slice og es.length cg) ob cb s e xa xc ya yc from fun W' ob cb hb hi => ⟨(hb.block _ (blk_lt hrm)).trans hrm, heb.on hb heb.lt, (hev.below hbv).below hb, hi, (hx.below hbv).below hb, (hy.below hbv).below hb, (hb1.trans (hbv.mono hb1.size)).trans (hb.mono (Nat.le_trans hb1.size hbv.size))⟩)
    have HSA := hide hsane
    have HWS := hide hws
    clear hW1 hbv hrm heb hev hst hx hy hb1 hsane hws hs hD
    generalize w1.heap.size = br at *
    go_upto_region 5 with (go_at_call 8; (with_reducible refine HSO.out.mono ?_); rintro r w2 ⟨v2, rfl, ho2, hb2⟩; obtain ⟨ob, cb, rfl, hi2⟩ := itemsAt_of_own ho2)
    have HK := hide (HK1.out w2 ob cb hb2 hi2)
    clear HK1 HSO ho2 hb2 hi2 r0 r1 r2
    have HIA := hide (fun W (K : OutK w W br (br + 1) oa ca es (.slice so sts.length sc) (.slice og es.length cg) ob cb s e xa xc ya yc) => implAllowed_any oa es.length ca es ob s.length cb s e xa xc ya yc (by omega) HWS.out (by omega) (by omega) W K.ev K.it K.lx K.ly)
    have HSP := hide (fun W (K : OutK w W br (br + 1) oa ca es (.slice so sts.length sc) (.slice og es.length cg) ob cb s e xa xc ya yc) => specAllowed_any oa es.length ca es ob s.length cb s e xa xc ya yc (by omega) W ⟨K.ev, K.it⟩ K.lx K.ly)
    rw [HSA.out.allowed] at HSP
    have HIL := hide (fun (u : Int) W (K : OutK w W br (br + 1) oa ca es (.slice so sts.length sc) (.slice og es.length cg) ob cb s e xa xc ya yc) => implLevelOf_any oa es.length ca es ob s.length cb s u (by omega) HWS.out W K.ev K.it)
    have HSL := hide (fun (u : Int) W (K : OutK w W br (br + 1) oa ca es (.slice so sts.length sc) (.slice og es.length cg) ob cb s e xa xc ya yc) => specLevelOf_any oa es.length ca es ob s.length cb s u W K.ev K.it)
    simp only [HSA.out.lev] at HSL
    have HP1 := hide (pw_out (es := es) (s := s) (e := e))
    have HP2 := hide (pw_name (es := es) (s := s) (e := e))
    have HP3 := hide (pw_rank (es := es) (s := s) (e := e))
    generalize allowedP es s e = okb at HIA HSP HP1 HP2 HP3
    have r0 := blk_cell HK.out.rm 0 rfl
    have hl0 := blk_lt HK.out.rm
    obtain ⟨k0, k1, k2, k3, k4, k5, k6, k7, k8⟩ := HK.out.eb.ev
    cases okb
    · clear HP1 HP2 HP3 HIL HSL
      go_wp2_with (first
        | (go_at_call 9; (with_reducible refine (HIA.out w2 HK.out).mono ?_); rintro r w3 ⟨rfl, hb3⟩; have HK3 := hide (HK.out.on hb3); clear r0 k0 k1 k2 k3 k4 k5 k6 k7 k8; have r0 := blk_cell HK3.out.rm 0 rfl; obtain ⟨k0, k1, k2, k3, k4, k5, k6, k7, k8⟩ := HK3.out.eb.ev)
        | (go_at_call 10; (with_reducible refine (HSP.out w3 HK3.out).mono ?_); rintro r w4 ⟨rfl, hb4⟩))
      go_ret
      exact ⟨by first | rfl | simp, (HK3.out.on hb4).bl⟩
    · have hp1 := hide (HP1.out rfl)
      have hp2 := hide (HP2.out rfl)
      have hp3 := hide (HP3.out rfl)
      clear HP1 HP2 HP3
      go_upto_region 7 with (go_at_call 9; (with_reducible refine (HIA.out w2 HK.out).mono ?_); rintro r w3 ⟨rfl, hb3⟩)
      have HK3 := hide (HK.out.on hb3)
      clear HK hb3 r0 k0 k1 k2 k3 k4 k5 k6 k7 k8 HIA HSP
      have r0 := blk_cell HK3.out.rm 0 rfl
      obtain ⟨k0, k1, k2, k3, k4, k5, k6, k7, k8⟩ := HK3.out.eb.ev
      have HL3 := hide (HIL.out e.sender w3 HK3.out)
      go_upto_region 8 with (go_at_call 12; (with_reducible refine HL3.out.mono ?_); rintro r w4 ⟨rfl, hb4⟩)
      have HK4 := hide (HK3.out.on hb4)
      clear HK3 HL3 hb4 r0 k0 k1 k2 k3 k4 k5 k6 k7 k8 HIL
      have r0 := blk_cell HK4.out.rm 0 rfl
      obtain ⟨k0, k1, k2, k3, k4, k5, k6, k7, k8⟩ := HK4.out.eb.ev
      have HL4 := hide (HSL.out e.sender w4 HK4.out)
      obtain ⟨mine, hmine⟩ : ∃ mine, scLev es s e.sender = mine := ⟨_, rfl⟩
      rw [hmine] at HL4 hp1 hp2 hp3 ⊢
      have hmm : (mine != mine) = false := by simp
      go_upto_region 10 with (go_at_call 13; (with_reducible refine HL4.out.mono ?_); rintro r w5 ⟨rfl, hb5⟩)
      have HK5 := hide (HK4.out.on hb5)
      clear HK4 HL4 hb5 r0 k0 k1 k2 k3 k4 k5 k6 k7 k8 hmm hmine
      have r0 := blk_cell HK5.out.rm 0 rfl
      obtain ⟨k0, k1, k2, k3, k4, k5, k6, k7, k8⟩ := HK5.out.eb.ev
      have HLU := hide (HSL.out e.user w5 HK5.out)
      cases g2 : (e.kind == 2)
      · clear HLU hp1
        cases g3 : (e.kind == 3)
        · have g3' : (e.kind != 3) = true := ne_beq g3
          cases g4 : (e.kind == 4)
          · have g4' : (e.kind != 4) = true := ne_beq g4
            go_wp2_with fail
            go_ret
            exact ⟨by first | rfl | simp, HK5.out.bl⟩
          · have g4' : (e.kind != 4) = false := ne_beq g4
            have h50 := hp2.out g4
            go_wp2_with fail
            go_ret
            exact ⟨by first | rfl | (simp; done) | (simp; omega), HK5.out.bl⟩
        · have g3' : (e.kind != 3) = false := ne_beq g3
          obtain ⟨h5, hall⟩ := hp3.out g3
          have HALL := hide hall
          have H5 := hide h5
          clear hp2 hp3 hall
          go_upto_region 14 with fail
          clear h5
          go_wp2_with fail
          go_loopw [7] (fun i wr => ∃ j : Nat, i = .int .i64 ((j : Int) + 1) ∧ j ≤ 5 ∧ OutK w wr br (br + 1) oa ca es (.slice so sts.length sc) (.slice og es.length cg) ob cb s e xa xc ya yc) (fun i _ => (6 - intOf i).toNat)
          case atStart => exact ⟨0, rfl, by omega, HK5.out⟩
          case round =>
            obtain ⟨j, rfl, hj, hK⟩ := hrel
            have HKR := hide hK
            clear hK HK5 r0 k0 k1 k2 k3 k4 k5 k6 k7 k8
            by_cases hlt : j < 5
            · have r0 := blk_cell HKR.out.rm 0 rfl
              have HLR := hide (HSL.out ((j : Int) + 1) wr HKR.out)
              obtain ⟨old, hold⟩ : ∃ old, scLev es s ((j : Int) + 1) = old := ⟨_, rfl⟩
              rw [hold] at HLR
              have j5 : (j : Int) + 1 ≤ 5 := by omega
              go_upto_region 18 with (go_at_call 13; (with_reducible refine HLR.out.mono ?_); rintro r w6 ⟨rfl, hb6⟩)
              have HK6 := hide (HKR.out.on hb6)
              obtain ⟨z, bz, q, hz, hidx, hbz, c0, hwf⟩ := HK6.out.lx.get Try.underlying29 infoI j (by rw [H5.out]; exact hlt)
              have hcase := HALL.out j z hz
              rw [hold] at hcase
              have HCS := hide hcase
              clear hcase hz r0 HKR hb6 hold HLR
              obtain ⟨k0, k1, k2, k3, k4, k5, k6, k7, k8⟩ := HK6.out.eb.ev
              have hjj : (j : Int) + 1 - 1 = (j : Int) := by omega
              by_cases g1 : old < z
              · have g2' : ¬ mine < z := by rcases HCS.out with h | h <;> omega
                have g3'' : ¬ z < old := by omega
                clear HCS
                go_wp2_with fail
                go_roundw
                case rel => exact ⟨j + 1, by go_num, by omega, HK6.out⟩
                case measure => simp [intOf]; omega
              · by_cases g6 : z < old
                · by_cases g7 : mine ≤ old
                  · have hsn : (j : Int) + 1 = e.sender := by rcases HCS.out with h | ⟨h, h' | h'⟩ <;> omega
                    have g8 : ((j : Int) + 1 != e.sender) = false := by rw [hsn]; simp
                    clear HCS hsn
                    go_wp2_with fail
                    go_roundw
                    case rel => exact ⟨j + 1, by go_num, by omega, HK6.out⟩
                    case measure => simp [intOf]; omega
                  · clear HCS
                    go_wp2_with fail
                    go_roundw
                    case rel => exact ⟨j + 1, by go_num, by omega, HK6.out⟩
                    case measure => simp [intOf]; omega
                · clear HCS
                  go_wp2_with fail
                  go_roundw
                  case rel => exact ⟨j + 1, by go_num, by omega, HK6.out⟩
                  case measure => simp [intOf]; omega
            · have j5 : ¬ (j : Int) + 1 ≤ 5 := by omega
              go_wp2_with fail
              go_ret
              exact ⟨by first | rfl | simp, HKR.out.bl⟩
      · cases gs : (e.sender == e.user)
        · have gs' : (e.sender != e.user) = true := ne_beq gs
          cases gm : (e.member == 1)
          · have gm' : (e.member != 1) = true := ne_beq gm
            obtain ⟨h50, hlu⟩ := hp1.out g2 gs gm
            obtain ⟨lu, hluE⟩ : ∃ lu, scLev es s e.user = lu := ⟨_, rfl⟩
            rw [hluE] at HLU hlu
            clear hluE hp1 hp2 hp3
            go_wp2_with (go_at_call 13; (with_reducible refine HLU.out.mono ?_); rintro r w6 ⟨rfl, hb6⟩)
            go_ret
            exact ⟨by first | rfl | (simp; done) | (simp; omega), (HK5.out.on hb6).bl⟩
          · have gm' : (e.member != 1) = false := ne_beq gm
            have e2 : e.kind = 2 := by simpa using g2
            have g3' : (e.kind != 3) = true := by rw [e2]; rfl
            have g4' : (e.kind != 4) = true := by rw [e2]; rfl
            clear e2 hp1 hp2 hp3
            go_wp2_with fail
            go_ret
            exact ⟨by first | rfl | simp, HK5.out.bl⟩
        · have gs' : (e.sender != e.user) = false := ne_beq gs
          have e2 : e.kind = 2 := by simpa using g2
          have g3' : (e.kind != 3) = true := by rw [e2]; rfl
          have g4' : (e.kind != 4) = true := by rw [e2]; rfl
          clear e2 hp1 hp2 hp3
          go_wp2_with fail
          go_ret
          exact ⟨by first | rfl | simp, HK5.out.bl⟩

end Go.Proofs.Ytbhpalmbbhgamaa
