/-
  Walks of chapter 3: DoActs of the specification.
-/
import Derived.Test.YtdcdlfkbdeogeaaWalk3y
import Derived.Test.YtdcdlfkbdeogeaaWalk3z
import Derived.Test.YtdcdlfkbdeogeaaKept
import Derived.Deep.RegionLaw
import Derived.Deep.CutRange
import Derived.Deep.Cut
import Derived.Deep.DeepCutAuto
namespace Go.Proofs.Ytdcdlfkbdeogeaa
open Go.RowKit P5 K Kp
set_option linter.unusedVariables false
set_option linter.unusedSimpArgs false

theorem news_files {w : World} {g o n cap : Nat} {fs : List FileV} (h : FilesAt w (some ⟨g, o, none⟩) n cap fs) : ∀ (j : Nat) u, (fs.flatMap fcells)[j]? = some u → w.cell? ((⟨g, o, none⟩ : Addr).add j) = some u := by
  intro j u hu
  have hj : j < fs.length * 3 := by
    have := (List.getElem?_eq_some_iff.1 hu).1
    rwa [flat_length fcells 3 fcells_length] at this
  have h1 : j / 3 < fs.length := by omega
  have e1 : j / 3 * 3 + j % 3 = j := by omega
  have h3 := flat_get fcells 3 fcells_length fs (j / 3) (j % 3) h1 (by omega)
  rw [e1, hu] at h3
  obtain ⟨b, o', e, hc⟩ := h.at_ (j / 3) fs[j / 3] (List.getElem?_eq_getElem h1)
  cases e
  have := hc (j % 3) u h3.symm
  rw [Addr.add_mid]
  rw [Nat.add_assoc, e1] at this
  exact this

theorem fcells_one (fs : List FileV) : ∀ u ∈ fs.flatMap fcells, u.oneCell' = true := by
  intro u hu
  obtain ⟨f, _, hf⟩ := List.mem_flatMap.1 hu
  simp [fcells] at hf
  rcases hf with rfl | rfl | rfl <;> simp [Value.oneCell']

/-- The variable out, in the loop. -/
structure OutAt (w : World) (K : Nat) (wr : World) (gs : List FileV) (ov : Option Addr) (cv : Nat) : Prop where
  bel : Below w.heap.size w wr
  res : Boxed wr (w.heap.size + 1) 26 (.slice none 0 0)
  out : Boxed wr K 26 (.slice ov gs.length cv)
  own : wr.ownsRow (w.heap.size + 2) 49 3 (.slice ov gs.length cv) gs.length (gs.flatMap fcells)
  ne : ∀ r, (Value.slice ov gs.length cv).ownBlock = some r → r ≠ K
  low : w.heap.size + 2 ≤ K
  lt : K < wr.heap.size

theorem OutAt.on {w : World} {K : Nat} {wr wy : World} {gs : List FileV} {ov : Option Addr} {cv : Nat} (h : OutAt w K wr gs ov cv) (hb : Below wr.heap.size wr wy) : OutAt w K wy gs ov cv :=
  ⟨h.bel.trans (hb.mono h.bel.size), (hb.block _ (by have := h.low; have := h.lt; omega)).trans h.res, (hb.block _ h.lt).trans h.out, own_below h.own hb, h.ne, h.low, Nat.lt_of_lt_of_le h.lt hb.size⟩

theorem OutAt.put {w : World} {K k : Nat} {wr wx : World} {gs hs : List FileV} {ov ov' : Option Addr} {cv cv' : Nat} (h : OutAt w K wr gs ov cv) (hk : Kept1 wr wx hs.length hs k ov' cv') : OutAt w K (wx.setCell ⟨K, 0, none⟩ (.slice ov' hs.length cv')) hs ov' cv' := by
  have h2 := h.on hk.bel
  have hl := h.low
  have hl2 := h.lt
  have hg := grownBy_set wx K 0 (.slice ov' hs.length cv')
  refine ⟨h2.bel.setCell (by simp; omega) _, ?_, ?_, ?_, fun r hr => by have := (hk.row r hr).1; omega, hl, by simpa using h2.lt⟩
  · exact (Below.heap_setCell _ _ _ _ (by simp; omega)).trans h2.res
  · exact heap_setCell_same _ K 0 #[.slice ov gs.length cv] _ _ h2.out
  · refine own_base (own_kept hk.own hg (fun r hr e => ?_)) (by omega)
    have := (hk.row r hr).1
    cases e
    omega

set_option maxRecDepth 100000 in
set_option maxHeartbeats 2000000 in
theorem specDoActs_any (g o n cap : Nat) (fs : List FileV) (ob : Option Addr) (m cap' : Nat) (acs : List ActV) (w : World) (hat : FilesAt w (some ⟨g, o, none⟩) n cap fs) (hw : ∀ f ∈ fs, Fine f) (hbt : ActsAt w ob m cap' acs) (ha : ∀ a ∈ acs, ActFine a) (hn20 : n ≤ 1048576) (hm20 : m ≤ 1048576) :
    Calls Try.prog 7 #[.agg #[.slice (some ⟨g, o, none⟩) n cap], .slice ob m cap'] w fun e w' => DiskNum w (doActsL fs acs).1 (doActsL fs acs).2 e w' := by
  have hb0 := ((Below.refl w.heap.size w).alloc (Nat.le_refl _) (.cells #[.slice (some ⟨g, o, none⟩) n cap] 26)).alloc (by simp) (.cells #[.slice none 0 0] 26)
  have hn := hat.len
  have HN := hide hn
  have HAT := hide hat
  have HBT := hide hbt
  have HB0 := hide hb0
  have HW := hide hw
  have HA := hide ha
  clear hn hat hbt hb0 hw ha
  have hb3 : Below w.heap.size w (((w.alloc (.cells #[.slice (some ⟨g, o, none⟩) n cap] 26)).alloc (.cells #[.slice none 0 0] 26)).alloc (.cells #[] 49)) := HB0.out.alloc (by simp; omega) _
  have hown3 : (((w.alloc (.cells #[.slice (some ⟨g, o, none⟩) n cap] 26)).alloc (.cells #[.slice none 0 0] 26)).alloc (.cells #[] 49)).ownsRow (w.heap.size + 2) 49 3 (.slice (some ⟨w.heap.size + 1 + 1, 0, none⟩) 0 0) 0 [] := by
    have := World.ownsRow_lit (base := w.heap.size + 2) (size := 3) (e := 49) ((w.alloc (.cells #[.slice (some ⟨g, o, none⟩) n cap] 26)).alloc (.cells #[.slice none 0 0] 26)) #[] 0 (by simp) (by unfold maxLen; omega) rfl
    simpa using this
  have hr3 : Boxed (((w.alloc (.cells #[.slice (some ⟨g, o, none⟩) n cap] 26)).alloc (.cells #[.slice none 0 0] 26)).alloc (.cells #[] 49)) (w.heap.size + 1) 26 (.slice none 0 0) := by
    have := Boxed.new (w.alloc (.cells #[.slice (some ⟨g, o, none⟩) n cap] 26)) 26 (.slice none 0 0)
    rw [World.size_alloc] at this
    exact this.alloc _
  have hs3 : (((w.alloc (.cells #[.slice (some ⟨g, o, none⟩) n cap] 26)).alloc (.cells #[.slice none 0 0] 26)).alloc (.cells #[] 49)).heap.size = w.heap.size + 3 := by simp
  obtain ⟨i0, hi, hz0, hz1, hz2⟩ := info_parts infoIFz
  have HOWN3 := hide hown3
  have HNEWS := hide (news_files (HAT.out.below hb3))
  have HL := hide (show (fs.flatMap fcells).length = n * 3 by rw [flat_length fcells 3 fcells_length, HN.out])
  have HBASE := hide (show w.heap.size + 2 ≤ (((w.alloc (.cells #[.slice (some ⟨g, o, none⟩) n cap] 26)).alloc (.cells #[.slice none 0 0] 26)).alloc (.cells #[] 49)).heap.size by rw [hs3]; omega)
  have HB3 := hide hb3
  have HR3 := hide hr3
  have HS3 := hide hs3
  have HI := hide hi
  have HZ0 := hide hz0
  have HZ1 := hide hz1
  have HZ2 := hide hz2
  clear hb3 hown3 hr3 hs3 hi hz0 hz1 hz2
  go_enter Try.func7, Try.ntmps7
  go_wp2_with (at_builtin; refine wpList_append_own _ rfl _ _ 24 rfl (w.heap.size + 2) 49 i0 _ 3 40 Try.underlying24 HI.out HZ0.out HZ1.out HZ2.out rfl (by decide) _ 0 [] rfl HOWN3.out ⟨g, o, none⟩ n cap (fs.flatMap fcells) rfl HL.out HNEWS.out (fcells_one fs) (by unfold maxLen; omega) (by omega) HBASE.out ?_; intro v4 w4 ho4 hg4 _; rw [Nat.zero_add, List.nil_append] at ho4; obtain ⟨ov4, cv4, rfl⟩ := own_form ho4)
  have hg4' : World.grownBy _ w4 (some (w.heap.size + 1 + 1)) := hg4
  have hr4 : Boxed w4 (w.heap.size + 1) 26 (.slice none 0 0) := HR3.out.kept hg4' (fun e => by have := Option.some.inj e; omega)
  have hb4 : Below w.heap.size w w4 := HB3.out.grown hg4' (by rw [HS3.out]; omega) (fun k hk => by cases hk; omega)
  have hs4 : w.heap.size + 3 ≤ w4.heap.size := by have := hg4'.size; rw [HS3.out] at this; exact this
  have hO : OutAt w w4.heap.size (w4.alloc (.cells #[.slice ov4 n cv4] 26)) fs ov4 cv4 := by
    have e := HN.out
    subst e
    exact ⟨hb4.alloc hb4.size _, hr4.alloc _, Boxed.new _ _ _, ho4.alloc _, fun r hr => by have := (ho4.lt r hr).2; omega, by omega, by simp⟩
  have HO0 := hide hO
  clear ho4 hg4 hg4' hr4 hb4 hO
  obtain ⟨K1, hK1⟩ : ∃ K1, w4.heap.size = K1 := ⟨_, rfl⟩
  rw [hK1] at HO0 ⊢
  go_loopw [7] (fun i wr => ∃ (j : Nat) (gs : List FileV) (ov : Option Addr) (cv : Nat), i = .int .i64 (j : Int) ∧ j ≤ m ∧ SoFar fs acs j gs ∧ (∀ f ∈ gs, Fine f) ∧ OutAt w K1 wr gs ov cv) (fun i _ => m - (intOf i).toNat)
  case atStart => exact ⟨0, fs, ov4, cv4, rfl, Nat.zero_le _, soFar_zero _ _, HW.out, HO0.out⟩
  case round =>
    obtain ⟨j, gs, ov, cv, rfl, hj, hso, hgf, hO⟩ := hrel
    have HSO := hide hso
    have HGF := hide hgf
    have HO := hide hO
    have x0 := hO.out.cell
    have lK := hO.lt
    clear hso hgf hO HO0
    by_cases hlt : j < m
    · have j0 : (j : Int) < (m : Int) := by omega
      have j1 : decide ((j : Int) < (m : Int)) = true := by simpa using j0
      obtain ⟨a, bq, q, hf, hidx, hb, c0, c1', c2, c3⟩ := (HBT.out.below HO.out.bel).get Try.underlying27 infoIA j hlt
      have HF := hide hf
      obtain ⟨_, _, he, hatO⟩ := filesAt_of_own HO.out.own
      cases he
      have HATO := hide hatO
      have hSD := hide (fun (wx : World) hat => specDoAct_any ov gs.length cv gs a wx hat HGF.out (HA.out a (List.mem_of_getElem? hf)))
      unfold aval at hSD
      obtain ⟨D, hD⟩ : ∃ D, (actL gs a).getD [] = D := ⟨_, rfl⟩
      obtain ⟨ok, hok⟩ : ∃ ok, (actL gs a).isSome = ok := ⟨_, rfl⟩
      rw [hD, hok] at hSD
      have HDD := hide hD
      have HOK := hide hok
      clear hf hatO hD hok
      obtain ⟨NG, hNG⟩ : ∃ NG, gs.length = NG := ⟨_, rfl⟩
      rw [hNG] at hSD HATO x0
      obtain ⟨N, hN⟩ : ∃ N, D.length = N := ⟨_, rfl⟩
      have HN2 := hide hN
      have HNG := hide hNG
      clear hN hNG
      go_upto_region 5 with fail
      go_cut [8, 9] (fun p b wx => ∃ k ov cv, p = .pointer (some ⟨k, 0, none⟩) ∧ b = .bool ok ∧ Kept1 wr wx N D k ov cv)
      case first =>
        go_region_law (first
          | (rw [if_pos (by rfl)]; go_simp; go_at_call 23; refine (hSD.out wr.drew (HATO.out.below (Below.refl _ _).drew)).mono ?_; rintro e u1 ⟨v1, rfl, ho1, hq1⟩; rw [HN2.out] at ho1; obtain ⟨ov1, cv1, rfl⟩ := own_form ho1; have hb1 : Below wr.heap.size wr u1 := below_undrew hq1)
          | (rw [if_pos (by rfl)]; go_simp; go_at_call 23; have hz1 : Below wr.heap.size wr (wr.drew.alloc (.cells #[.slice none 0 0] 26)) := (Below.refl _ _).drew.alloc (Nat.le_refl _) _; refine (hSD.out (wr.drew.alloc (.cells #[.slice none 0 0] 26)) (HATO.out.below hz1)).mono ?_; rintro e u1 ⟨v1, rfl, ho1, hq1⟩; rw [HN2.out] at ho1; obtain ⟨ov1, cv1, rfl⟩ := own_form ho1; have hb1 := hz1.trans (hq1.mono hz1.size); have PN : Pend wr u1 wr.heap.size := (pend_new (w1 := wr) (wq := wr.drew) ((Below.refl _ _).drew)).on hq1; have hk1 : wr.heap.size < (wr.drew.alloc (.cells #[.slice none 0 0] 26)).heap.size := (by simp); have y0 := PN.cell; have y1 := PN.free))
        all_goals
          clear x0 c0 c1' c2 c3
          go_wp2_with fail
          go_meet
          first
            | exact ⟨_, _, _, rfl, rfl, kept1_set PN hk1 ho1 hb1⟩
            | exact ⟨_, _, _, rfl, rfl, kept1_mk ho1 hb1⟩
      case rest =>
        obtain ⟨k, ov1, cv1, rfl, rfl, hK⟩ := hcut
        rename World => wx
        clear x0 c0 c1' c2 c3 hidx
        cases ok with
        | false =>
          have hal : actL gs a = none := by simpa using HOK.out
          have RD := hide (HSO.out.stop HF.out hal)
          have hO2 := HO.out.on hK.bel
          have x0 := hO2.out.cell
          rw [HNG.out] at x0
          have r0 := hO2.res.cell
          have r1 := hO2.res.frozen
          have HO2 := hide hO2
          clear hal hK hO2
          go_wp2_with fail
          refine bodyPost_ret (v := .tuple #[.agg #[.slice ov NG cv], .int .i64 (j : Int)]) (by simp [results, Try.results7, go_sem, r0, r1]) rfl ?_
          show DiskNum w (doActsL fs acs).1 (doActsL fs acs).2 _ _
          rw [RD.out, ← HNG.out]
          exact ⟨_, rfl, own_base (own_setCell HO2.out.own (by simp) _) (by omega), HO2.out.bel.setCell (by simp) _⟩
        | true =>
          obtain ⟨hs, hal⟩ := Option.isSome_iff_exists.1 HOK.out
          have hDs : D = hs := by rw [← HDD.out, hal]; rfl
          subst hDs
          have hN3 := HN2.out
          subst hN3
          have RD := hide (HSO.out.next HF.out hal)
          have hgf : ∀ f ∈ D, Fine f := by
            have h1 : doL gs a = some D := by
              unfold actL at hal
              split at hal
              · exact hal
              · cases hal
            intro f hf
            exact fine_ok (((diskOk_iff D).1 (doL_ok h1)).2.1 f hf)
          have HGF2 := hide hgf
          have HO2 := hide (HO.out.put hK)
          have x1 := (HO.out.on hK.bel).out.cell
          have x2 := (HO.out.on hK.bel).out.frozen
          have y0 := hK.cell
          clear hal hgf hK
          go_wp2_with fail
          go_roundw
          case rel => exact ⟨j + 1, D, ov1, cv1, by go_num, by omega, RD.out, HGF2.out, HO2.out⟩
          case measure => simp [intOf]; omega
    · obtain rfl : j = m := by omega
      have j1 : decide ((j : Int) < (j : Int)) = false := by simp
      have RD := hide (HSO.out.all HBT.out.len)
      have r0 := HO.out.res.cell
      have r1 := HO.out.res.frozen
      go_wp2_with fail
      refine bodyPost_ret (v := .tuple #[.agg #[.slice ov gs.length cv], .int .i64 (j : Int)]) (by simp [results, Try.results7, go_sem, r0, r1]) rfl ?_
      show DiskNum w (doActsL fs acs).1 (doActsL fs acs).2 _ _
      rw [RD.out]
      exact ⟨_, rfl, own_base (own_setCell HO.out.own (by simp) _) (by omega), HO.out.bel.setCell (by simp) _⟩

end Go.Proofs.Ytdcdlfkbdeogeaa
