/-
  Walks of chapter 8: NewestSnap of the specification (made by wip/tools/gen8j.py).
-/
import Derived.Test.YtpenpbopehbncaaDoorWalk8i
import Derived.Test.YtpenpbopehbncaaDoorWalk8g
namespace Go.Proofs.YtpenpbopehbncaaDoor
open Go.RowKit P1 P3 P5 P9 P11 K
attribute [local go_sem ↓] Go.wp_at_zero Go.wp_at_succ
set_option linter.unusedVariables false
set_option linter.unusedSimpArgs false

theorem nw_start (oa : Option Addr) (n cap : Nat) (w : World) :
    NwS w (((w.alloc (.cells #[.slice oa n cap] 47)).alloc (.cells (sncells 0 0 (.slice none 0 0) []) 30)).alloc (.cells (sncells (-1) 0 (.slice none 0 0) []) 30)) (w.heap.size + 1 + 1) (.slice oa n cap) (nwV (-1) none) (.slice none 0 0) := by
  have hb1 := (Below.refl w.heap.size w).alloc (Nat.le_refl _) (.cells #[.slice oa n cap] 47)
  have hb2 := hb1.alloc (by simp) (.cells (sncells 0 0 (.slice none 0 0) []) 30)
  have hb3 := hb2.alloc (by simp; omega) (.cells (sncells (-1) 0 (.slice none 0 0) []) 30)
  have k2 := (Below.refl (w.alloc (.cells #[.slice oa n cap] 47)).heap.size (w.alloc (.cells #[.slice oa n cap] 47))).alloc (Nat.le_refl _) (.cells (sncells 0 0 (.slice none 0 0) []) 30)
  have k3 := (Below.refl ((w.alloc (.cells #[.slice oa n cap] 47)).alloc (.cells (sncells 0 0 (.slice none 0 0) []) 30)).heap.size ((w.alloc (.cells #[.slice oa n cap] 47)).alloc (.cells (sncells 0 0 (.slice none 0 0) []) 30))).alloc (Nat.le_refl _) (.cells (sncells (-1) 0 (.slice none 0 0) []) 30)
  refine ⟨?_, ?_, ?_, World.ownsRow_nil _ _ _ _, hb3, by omega⟩
  · exact ((show DV8 (w.alloc (.cells #[.slice oa n cap] 47)) w.heap.size (.slice oa n cap) from heap_alloc_new _ _).on k2 (by simp)).on k3 (by simp; omega)
  · have := SB.new (w.alloc (.cells #[.slice oa n cap] 47)) 0 0 (.slice none 0 0) []
    refine SB.on (B := ((w.alloc (.cells #[.slice oa n cap] 47)).alloc (.cells (sncells 0 0 (.slice none 0 0) []) 30)).heap.size) ?_ k3 (by simp)
    simpa using this
  · have := SB.new ((w.alloc (.cells #[.slice oa n cap] 47)).alloc (.cells (sncells 0 0 (.slice none 0 0) []) 30)) (-1) 0 (.slice none 0 0) []
    simpa [nwV] using this

theorem nwR_none {fs : List FileV} (h : snNewest fs = none ∨ diskOk fs = false) : nwR fs = (0, 0, [], [], false) := by
  unfold nwR
  rcases h with h | h
  · rw [h]; split <;> rfl
  · rw [h]; rfl

set_option maxHeartbeats 8000000 in
theorem specNewestSnap_any (oa : Option Addr) (n cap : Nat) (fs : List FileV) (w : World) (hat : FilesAt w oa n cap fs) (hw : ∀ f ∈ fs, Fine f) :
    Calls Tryd.prog 29 #[.agg #[.slice oa n cap]] w fun e w' => RsPost (nwR fs) w e w' := by
  have hlen := hat.len
  have HDO := hide (fun w hat => specDiskOk_any oa n cap fs w hat hw)
  have HAT := hide hat
  have HST := hide (nw_start oa n cap w)
  clear hat hw
  cases hd : diskOk fs with
  | false =>
    have HNR := hide (nwR_none (Or.inr hd))
    rw [hd] at HDO
    clear hd
    go_enter Tryd.func29, Tryd.ntmps29
    go_wp2_with fail
    go_loopw [5] (fun i wr => i = .int .i64 0 ∧ NwS w wr (w.heap.size + 1 + 1) (.slice oa n cap) (nwV (-1) none) (.slice none 0 0)) (fun i _ => 0)
    case atStart => exact ⟨rfl, HST.out⟩
    case round =>
      obtain ⟨rfl, hst⟩ := hrel
      have HS := hide hst
      have d0 := hst.d.cell
      obtain ⟨e0, e1, e2, e3⟩ := hst.e.sv
      obtain ⟨s0, s1, s2, s3⟩ := hst.r.sv
      have y0 := hst.r.free 0
      have y1 := hst.r.free 1
      have y2 := hst.r.free 2
      have y3 := hst.r.free 3
      clear hst
      have e0' : wr.cell? ⟨w.heap.size + 1 + 1, 0, none⟩ = some (.int .i64 (-1)) := e0
      clear e0
      by_cases hn : 0 < n
      · have g0 : (0 : Int) < (n : Int) := by omega
        go_wp2_with fail
        refine (HDO.out _ (HAT.out.below HS.out.below)).mono ?_
        rintro e w1 ⟨rfl, hb1⟩
        have HS1 := hide (HS.out.on hb1)
        clear hb1 d0 e0' e1 e2 e3 s0 s1 s2 s3 y0 y1 y2 y3
        obtain ⟨e0, e1, e2, e3⟩ := HS1.out.e.sv
        have e0' : w1.cell? ⟨w.heap.size + 1 + 1, 0, none⟩ = some (.int .i64 (-1)) := e0
        clear e0
        obtain ⟨s0, s1, s2, s3⟩ := HS1.out.r.sv
        have y0 := HS1.out.r.free 0
        have y1 := HS1.out.r.free 1
        have y2 := HS1.out.r.free 2
        have y3 := HS1.out.r.free 3
        go_wp2_with fail
        obtain ⟨w9, hw9, hS9, hb9, ho9⟩ := HS1.out.give 0 0 (.slice none 0 0) []
        rw [hw9]
        obtain ⟨c0, c1, c2, c3⟩ := hS9
        refine bodyPost_ret (v := .tuple #[snval 0 0 (.slice none 0 0) [], .bool false]) (by simp [results, Tryd.results29, go_sem, c0, c1, c2, c3]) rfl ?_
        exact RsPost.nw0 HNR.out hb9
      · obtain rfl : n = 0 := by omega
        go_wp2_with fail
        obtain ⟨w9, hw9, hS9, hb9, ho9⟩ := HS.out.give 0 0 (.slice none 0 0) []
        rw [hw9]
        obtain ⟨c0, c1, c2, c3⟩ := hS9
        refine bodyPost_ret (v := .tuple #[snval 0 0 (.slice none 0 0) [], .bool false]) (by simp [results, Tryd.results29, go_sem, c0, c1, c2, c3]) rfl ?_
        exact RsPost.nw0 HNR.out hb9
  | true =>
    obtain ⟨hn30, hnm, htx, hasc⟩ := disk_names8 hd
    have HNM := hide hnm
    have HTX := hide htx
    have HNR := hide (show nwR fs = match snNewest fs with | none => (0, 0, [], [], false) | some s => (s.index, s.term, s.conf, s.body, true) by unfold nwR; rw [if_pos hd]; cases snNewest fs <;> rfl)
    rw [hd] at HDO
    clear hd hnm htx hasc
    go_enter Tryd.func29, Tryd.ntmps29
    go_wp2_with fail
    go_loopw [5] (fun i wr => ∃ (k : Nat) (v : Value), i = .int .i64 (k : Int) ∧ k ≤ n ∧ NwS w wr (w.heap.size + 1 + 1) (.slice oa n cap) (nwV (-1) ((fs.take k).foldl snBest none)) v) (fun i _ => n - (intOf i).toNat)
    case atStart => exact ⟨0, _, rfl, Nat.zero_le _, HST.out⟩
    case round =>
      obtain ⟨k, v, rfl, hk, hst⟩ := hrel
      have HS := hide hst
      have hcf := (show ∀ y, (fs.take k).foldl snBest none = some y → y.index ≤ 1000000 ∧ 0 ≤ y.index from fun y hy => by
        obtain ⟨j, g, -, -, hs⟩ := best_from k hy
        exact (snOf_conf hs).2)
      by_cases hlt : k < n
      · have k0 : (k : Int) < (n : Int) := by omega
        have k9 : (0 : Int) ≤ (k : Int) := by omega
        obtain ⟨f, b, q, hf, hidx, hbk, c0, c1, c2⟩ := (HAT.out.below hst.below).get Tryd.underlying45 infoIF8 k hlt
        have HNX := hide (foldl_next snBest none hf)
        have hmf := List.mem_of_getElem? hf
        have hnl := HNM.out f hmf
        have htl := HTX.out f hmf
        clear hf hst hmf
        generalize (fs.take k).foldl snBest none = M at HNX HS hcf
        have HIX := hide (fun w => l08Index_any f.name (by omega) w)
        have HRS := hide (fun w => specReadSnap_any ⟨f.text.toArray⟩ (by rw [size_mk8]; omega) w)
        rw [bl_mk8] at HRS
        have hr2 := snNumber_range f.name
        have HOFN := hide (fun (h : rdSnap f.text = none) => snOf_none h)
        have HOFS := hide (fun (i t : Nat) (z : List Int) (b : List UInt8) (h : rdSnap f.text = some (i, t, z, b)) => snOf_some h)
        have HNEG := hide (fun (h : snNumber f.name < 0) => snOf_neg h)
        generalize snNumber f.name = y at HIX hr2 HOFS HNEG
        have d0 := HS.out.d.cell
        go_wp2_with fail
        refine (HDO.out _ (HAT.out.below HS.out.below)).mono ?_
        rintro e w1 ⟨rfl, hb1⟩
        have HS1 := hide (HS.out.on hb1)
        have c01 := (hb1.cell (p := ⟨b, q, none⟩) hbk).trans c0
        have c11 := (hb1.cell (p := ⟨b, q + 1, none⟩) hbk).trans c1
        have hbk1 : b < w1.heap.size := Nat.lt_of_lt_of_le hbk hb1.size
        clear hb1 HS d0 c0 c1 c2
        have d0 := HS1.out.d.cell
        go_wp2_with fail
        refine (HIX.out _).mono ?_
        rintro e w2 ⟨rfl, hb2⟩
        have HS2 := hide (HS1.out.on hb2)
        have c12 := (hb2.cell (p := ⟨b, q + 1, none⟩) hbk1).trans c11
        clear hb2 HS1 d0 c01 c11 hbk1
        have d0 := HS2.out.d.cell
        go_wp2_with fail
        refine (HRS.out _).mono ?_
        cases hrd : rdSnap f.text with
        | none =>
          have HSAME := hide (HNX.out.trans (snBest_none (HOFN.out hrd)))
          rw [rs_no hrd]
          clear hrd
          rintro e w6 ⟨v6, rfl, ho6, hb6⟩
          obtain ⟨ov, cv, rfl⟩ := own_slice ho6
          have HS6 := hide ((HS2.out.on hb6).on ((Below.refl w6.heap.size w6).alloc (Nat.le_refl _) (.cells (sncells 0 0 (.slice ov 0 cv) []) 30)))
          clear ho6 hb6
          by_cases hy : 0 ≤ y
          · go_wp2_with fail
            go_roundw
            case rel => exact ⟨k + 1, v, by go_num, by omega, by rw [HSAME.out]; exact HS6.out⟩
            case measure => simp [intOf]; omega
          · go_wp2_with fail
            go_roundw
            case rel => exact ⟨k + 1, v, by go_num, by omega, by rw [HSAME.out]; exact HS6.out⟩
            case measure => simp [intOf]; omega
        | some p =>
          obtain ⟨i, t, z, bd⟩ := p
          rw [rs_yes hrd]
          have hof := HOFS.out i t z bd hrd
          have hib := (rdSnap_bounds hrd).1
          clear hrd
          rintro e w6 ⟨v6, rfl, ho6, hb6⟩
          simp only at ho6
          obtain ⟨ov, cv, rfl⟩ := own_slice ho6
          have hsz6 := hb6.size
          have hz5 := HS2.out.sz
          have hb67 := (Below.refl w6.heap.size w6).alloc (Nat.le_refl _) (.cells (sncells (i : Int) (t : Int) (.slice ov z.length cv) bd) 30)
          have HSX := hide (HS2.out.on hb6)
          have HS6 := hide ((HS2.out.on hb6).on hb67)
          have HO6 := hide (own_base ho6 (show w.heap.size ≤ w2.heap.size by omega))
          clear ho6 hb6 hb67 HS2 d0 c12
          obtain ⟨NZ, hNZ⟩ : ∃ NZ, z.length = NZ := ⟨_, rfl⟩
          rw [hNZ] at HS6 HO6
          rw [hNZ]
          have HNZ := hide hNZ
          clear hNZ
          by_cases hy : 0 ≤ y
          · by_cases hix : y = (i : Int)
            · subst hix
              have hof2 : snOf f = some ⟨i, t, z, bd⟩ := by rw [hof, if_pos rfl]
              clear hof hy
              obtain ⟨e0, e1, e2, e3⟩ := HSX.out.e.sv
              have f0 := HSX.out.e.free 0
              have f1 := HSX.out.e.free 1
              have f2 := HSX.out.e.free 2
              have f3 := HSX.out.e.free 3
              have hbl := HSX.out.e.lt
              cases M with
              | none =>
                have e0' : w6.cell? ⟨w.heap.size + 1 + 1, 0, none⟩ = some (.int .i64 (-1)) := e0
                have g1 : ¬ (i : Int) ≤ -1 := by omega
                have g2 : (-1 : Int) < (i : Int) := by omega
                clear e0
                have HNEW := hide (HNX.out.trans (snBest_first hof2))
                clear hof2
                go_wp2_with fail
                obtain ⟨w8, hw8, hS8⟩ := HSX.out.take ⟨i, t, z, bd⟩ (.slice ov NZ cv) (by simp only; rw [HNZ.out]; exact HO6.out)
                simp only at hw8
                rw [hw8]
                go_roundw
                case rel => exact ⟨k + 1, _, by go_num, by omega, by rw [HNEW.out]; exact hS8.on ((Below.refl _ _).alloc (Nat.le_refl _) _)⟩
                case measure => simp [intOf]; omega
              | some yy =>
                have e0' : w6.cell? ⟨w.heap.size + 1 + 1, 0, none⟩ = some (.int .i64 yy.index) := e0
                clear e0
                by_cases hgt : yy.index < (i : Int)
                · have HNEW := hide (HNX.out.trans (show snBest (some yy) f = some ⟨i, t, z, bd⟩ by rw [snBest_some hof2, if_pos hgt]))
                  clear hof2
                  go_wp2_with fail
                  obtain ⟨w8, hw8, hS8⟩ := HSX.out.take ⟨i, t, z, bd⟩ (.slice ov NZ cv) (by simp only; rw [HNZ.out]; exact HO6.out)
                  simp only at hw8
                  rw [hw8]
                  go_roundw
                  case rel => exact ⟨k + 1, _, by go_num, by omega, by rw [HNEW.out]; exact hS8.on ((Below.refl _ _).alloc (Nat.le_refl _) _)⟩
                  case measure => simp [intOf]; omega
                · have HSAME := hide (HNX.out.trans (show snBest (some yy) f = some yy by rw [snBest_some hof2, if_neg hgt]))
                  clear hof2
                  go_wp2_with fail
                  go_roundw
                  case rel => exact ⟨k + 1, v, by go_num, by omega, by rw [HSAME.out]; exact HS6.out⟩
                  case measure => simp [intOf]; omega
            · have q1 : decide ((i : Int) = y) = false := by simp; omega
              have q2 : ((i : Int) == y) = false := by simp; omega
              have HSAME := hide (HNX.out.trans (snBest_none (by rw [hof, if_neg hix])))
              clear hof hix
              go_wp2_with fail
              go_roundw
              case rel => exact ⟨k + 1, v, by go_num, by omega, by rw [HSAME.out]; exact HS6.out⟩
              case measure => simp [intOf]; omega
          · have HSAME := hide (HNX.out.trans (snBest_none (HNEG.out (by omega))))
            clear hof
            go_wp2_with fail
            go_roundw
            case rel => exact ⟨k + 1, v, by go_num, by omega, by rw [HSAME.out]; exact HS6.out⟩
            case measure => simp [intOf]; omega
      · obtain rfl : k = n := by omega
        have k1 : decide ((k : Int) < (k : Int)) = false := by simp
        have RD := hide (show snNewest fs = (fs.take k).foldl snBest none by rw [List.take_of_length_le (by omega)]; rfl)
        clear hst
        generalize (fs.take k).foldl snBest none = M at RD HS hcf
        have d0 := HS.out.d.cell
        obtain ⟨e0, e1, e2, e3⟩ := HS.out.e.sv
        obtain ⟨s0, s1, s2, s3⟩ := HS.out.r.sv
        have y0 := HS.out.r.free 0
        have y1 := HS.out.r.free 1
        have y2 := HS.out.r.free 2
        have y3 := HS.out.r.free 3
        cases M with
        | none =>
          have HNR2 := hide (nwR_none (Or.inl RD.out))
          have e0' : wr.cell? ⟨w.heap.size + 1 + 1, 0, none⟩ = some (.int .i64 (-1)) := e0
          clear e0
          go_wp2_with fail
          obtain ⟨w9, hw9, hS9, hb9, ho9⟩ := HS.out.give 0 0 (.slice none 0 0) []
          rw [hw9]
          obtain ⟨c0, c1, c2, c3⟩ := hS9
          refine bodyPost_ret (v := .tuple #[snval 0 0 (.slice none 0 0) [], .bool false]) (by simp [results, Tryd.results29, go_sem, c0, c1, c2, c3]) rfl ?_
          exact RsPost.nw0 HNR2.out hb9
        | some m =>
          have HNR2 := hide (show nwR fs = (m.index, m.term, m.conf, m.body, true) by rw [HNR.out, RD.out])
          obtain ⟨hm1, hm0⟩ := hcf m rfl
          have e0' : wr.cell? ⟨w.heap.size + 1 + 1, 0, none⟩ = some (.int .i64 m.index) := e0
          have e1' : wr.cell? ⟨w.heap.size + 1 + 1, 1, none⟩ = some (.int .i64 m.term) := e1
          have e3' : wr.cell? ⟨w.heap.size + 1 + 1, 3, none⟩ = some (.string ⟨m.body.toArray⟩) := e3
          have ho : wr.ownsRow w.heap.size 3 1 v m.conf.length (m.conf.map icell) := HS.out.own
          obtain ⟨ov, cv, rfl⟩ := own_slice ho
          obtain ⟨N, hN⟩ : ∃ N, m.conf.length = N := ⟨_, rfl⟩
          rw [hN] at HS e2
          have HN := hide hN
          clear hN ho e0 e1 e3
          have g0 : ¬ m.index < 0 := by omega
          go_wp2_with fail
          obtain ⟨w9, hw9, hS9, hb9, ho9⟩ := HS.out.give m.index m.term (.slice ov N cv) m.body
          rw [hw9]
          obtain ⟨c0, c1, c2, c3⟩ := hS9
          refine bodyPost_ret (v := .tuple #[snval m.index m.term (.slice ov N cv) m.body, .bool true]) (by simp [results, Tryd.results29, go_sem, c0, c1, c2, c3]) rfl ?_
          exact RsPost.nw HNR2.out ho9 hb9

end Go.Proofs.YtpenpbopehbncaaDoor
