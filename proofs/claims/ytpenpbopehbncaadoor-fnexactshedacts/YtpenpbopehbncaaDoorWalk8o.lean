/-
  Walks of chapter 8: ShedActs, of the program and of the specification (made by wip/tools/gen8o.py).
-/
import Derived.Test.YtpenpbopehbncaaDoorWalk8m
import Derived.Test.YtpenpbopehbncaaDoorWalk8j
import Derived.Test.YtpenpbopehbncaaDoorPack15
namespace Go.Proofs.YtpenpbopehbncaaDoor
open Go.RowKit P1 P3 P5 P9 P11 K
attribute [local go_sem ↓] Go.wp_at_zero Go.wp_at_succ
set_option linter.unusedVariables false
set_option linter.unusedSimpArgs false

/-- What ShedActs hand back. -/
def shR (fs : List FileV) : List ActV := if (nwR fs).2.2.2.2 = true then newDropS fs ++ othersS (nwR fs).1 fs else []

theorem nw_true {fs : List FileV} (h : (nwR fs).2.2.2.2 = true) : diskOk fs = true ∧ 0 ≤ (nwR fs).1 ∧ (nwR fs).1 ≤ 1000000 := by
  unfold nwR at h ⊢
  split at h
  · rename_i hd
    rw [if_pos hd]
    cases hs : snNewest fs with
    | none => rw [hs] at h; cases h
    | some s =>
      have := newest_conf hs
      exact ⟨hd, this.2.2, this.2.1⟩
  · cases h

theorem made_acts {w w1 : World} (hb : Below w.heap.size w w1) : ActR w [] (.returned (.slice (some ⟨w1.heap.size, 0, none⟩) 0 0)) (w1.alloc (.cells #[] 79)) :=
  ⟨_, rfl, own_base (World.ownsRow_made (w := w1) (e := 79) (base := w1.heap.size) (size := 4) #[] 0 (Nat.le_refl _) (by decide) rfl) hb.size, hb.alloc hb.size _⟩

set_option maxHeartbeats 8000000 in
theorem implShedActs_any (oa : Option Addr) (n cap : Nat) (fs : List FileV) (w : World) (hat : FilesAt w oa n cap fs) (hw : ∀ f ∈ fs, Fine f) (htb : SumTabIs w) (hpw : Pow8 w) :
    Calls Tryd.prog 32 #[.agg #[.slice oa n cap]] w fun e w' => ActR w (shR fs) e w' := by
  have hb1 := (Below.refl w.heap.size w).alloc (Nat.le_refl _) (.cells #[.slice oa n cap] 47)
  have HNW := hide (implNewestSnap_any oa n cap fs _ (hat.below hb1) hw (tab_below htb hb1) (tab_below hpw hb1))
  have HD1 := hide (show DV8 (w.alloc (.cells #[.slice oa n cap] 47)) w.heap.size (.slice oa n cap) from heap_alloc_new _ _)
  have HB1 := hide hb1
  have HAT := hide hat
  have HFI := hide hw
  have hln := hat.len
  have HPW := hide hpw
  have HNT := hide (nw_true (fs := fs))
  have HSH1 := hide (show (nwR fs).2.2.2.2 = true → shR fs = newDropS fs ++ othersS (nwR fs).1 fs from fun h => by unfold shR; rw [if_pos h])
  have HSH0 := hide (show (nwR fs).2.2.2.2 = false → shR fs = [] from fun h => by unfold shR; rw [h]; rfl)
  unfold RsPost at HNW
  obtain ⟨i, t, zs, b, ok, hjr⟩ : ∃ i t zs b ok, nwR fs = (i, t, zs, b, ok) := ⟨_, _, _, _, _, rfl⟩
  rw [hjr] at HNW HNT HSH1 HSH0
  simp only at HNW HNT HSH1 HSH0
  clear hat hw hb1 hjr htb hpw
  go_enter Tryd.func32, Tryd.ntmps32
  go_wp2_with fail
  refine HNW.out.mono ?_
  rintro e w3 ⟨v3, rfl, ho3, hb3⟩
  obtain ⟨ov3, cv3, hv3⟩ := own_slice ho3
  subst hv3
  have HB3 := hide (HB1.out.trans (hb3.mono HB1.out.size))
  have HD3 := hide (HD1.out.on hb3 HD1.out.lt)
  clear ho3 hb3
  have hb4 := (Below.refl w3.heap.size w3).alloc (Nat.le_refl _) (.cells (sncells i t (.slice ov3 zs.length cv3) b) 30)
  have HB4 := hide (HB3.out.alloc HB3.out.size (.cells (sncells i t (.slice ov3 zs.length cv3) b) 30))
  have HD4 := hide (HD3.out.on hb4 HD3.out.lt)
  have HS4 := hide (SB.new w3 i t (.slice ov3 zs.length cv3) b)
  clear hb4
  obtain ⟨NZ, hNZ⟩ : ∃ NZ, zs.length = NZ := ⟨_, rfl⟩
  rw [hNZ] at HB4 HD4 HS4
  rw [hNZ]
  clear hNZ
  cases ok with
  | false =>
    have HE := hide (HSH0.out rfl)
    go_wp2_with fail
    refine bodyPost_ret (v := .slice (some ⟨w3.heap.size + 1, 0, none⟩) 0 0) (by simp [results, Tryd.results32, go_sem]) rfl ?_
    rw [HE.out]
    have hm := made_acts HB4.out
    rw [World.size_alloc] at hm
    exact hm
  | true =>
    obtain ⟨hdk, hi0, hi1⟩ := HNT.out rfl
    have HE := hide (HSH1.out rfl)
    obtain ⟨hn30, hnm, -, -⟩ := disk_names8 hdk
    have HNM := hide (fun f hf => Nat.le_trans (hnm f hf) (show 8 ≤ 1048576 by omega))
    clear hdk hnm
    have hxr := newDrop_room fs
    have hor := othersS_room i fs
    have HSN := hide (fun w ht => implSnapName_any i (by omega) (by omega) w ht)
    have HDS := hide (fun w hat ht => dropSnaps_any oa n cap fs i ⟨hi0, hi1⟩ w hat (by omega) HNM.out ht)
    have HDN := hide (fun w hat => dropSnapNew_any oa n cap fs w hat HFI.out)
    obtain ⟨X, hX⟩ : ∃ X, newDropS fs = X := ⟨_, rfl⟩
    obtain ⟨Z, hZ⟩ : ∃ Z, othersS i fs = Z := ⟨_, rfl⟩
    rw [hX] at HDN HE hxr
    rw [hZ] at HDS HE hor
    obtain ⟨SN, hSN⟩ : ∃ SN, snName i = SN := ⟨_, rfl⟩
    rw [hSN] at HSN HDS
    clear hSN
    clear hX hZ
    go_wp2_with fail
    generalize w3.alloc (.cells #[.int .i64 i, .int .i64 t, .slice ov3 NZ cv3, .string ⟨b.toArray⟩] 30) = w4 at HB4 HD4 HS4 ⊢
    have d4 := HD4.out.cell
    have s4 := HS4.out.sv.c0
    have hl4 := HD4.out.lt
    have hm4 := HS4.out.lt
    refine wp_region_held_drew (S := fun w' => Below w4.heap.size w4 w') (by kernel_rfl) (Below.refl _ _).drew (fun hHeld => ?_)
    refine wpAnyH_take (i := 0) (v := ?_) rfl (by kernel_rfl) (by kernel_rfl) (by kernel_rfl) (fun _ _ _ h => h) (Or.inl ⟨by rfl, ?_⟩) (by assumption) ?_; rotate_left
    · (intro wz hSw; have zd := (hSw.cell (p := ⟨w.heap.size, 0, none⟩) hl4).trans d4; have zs := (hSw.cell (p := ⟨w3.heap.size, 0, none⟩) hm4).trans s4; go_simp; first | done | with_reducible rfl)
    try simp only [Act.put, List.getElem_toArray, List.getElem_cons_zero, List.getElem_cons_succ, List.setIfInBounds_toArray, List.set_cons_zero, List.set_cons_succ]
    refine wpAnyH_take (i := 2) (v := ?_) rfl (by kernel_rfl) (by kernel_rfl) (by kernel_rfl) (fun _ _ _ h => h) (Or.inl ⟨by rfl, ?_⟩) (by assumption) ?_; rotate_left
    · (intro wz hSw; have zd := (hSw.cell (p := ⟨w.heap.size, 0, none⟩) hl4).trans d4; have zs := (hSw.cell (p := ⟨w3.heap.size, 0, none⟩) hm4).trans s4; go_simp; first | done | with_reducible rfl)
    try simp only [Act.put, List.getElem_toArray, List.getElem_cons_zero, List.getElem_cons_succ, List.setIfInBounds_toArray, List.set_cons_zero, List.set_cons_succ]
    refine wpAnyH_take (i := 3) (v := ?_) rfl (by kernel_rfl) (by kernel_rfl) (by kernel_rfl) (fun _ _ _ h => h) (Or.inl ⟨by rfl, ?_⟩) (by assumption) ?_; rotate_left
    · (intro wz hSw; have zd := (hSw.cell (p := ⟨w.heap.size, 0, none⟩) hl4).trans d4; have zs := (hSw.cell (p := ⟨w3.heap.size, 0, none⟩) hm4).trans s4; go_simp; first | done | with_reducible rfl)
    try simp only [Act.put, List.getElem_toArray, List.getElem_cons_zero, List.getElem_cons_succ, List.setIfInBounds_toArray, List.set_cons_zero, List.set_cons_succ]
    refine wpAnyH_take (i := 4) (v := ?_) rfl (by kernel_rfl) (by kernel_rfl) (by kernel_rfl) (fun _ _ _ h => h) (Or.inl ⟨by rfl, ?_⟩) (by assumption) ?_; rotate_left
    · (intro wz hSw; have zd := (hSw.cell (p := ⟨w.heap.size, 0, none⟩) hl4).trans d4; have zs := (hSw.cell (p := ⟨w3.heap.size, 0, none⟩) hm4).trans s4; go_simp; first | done | with_reducible rfl)
    try simp only [Act.put, List.getElem_toArray, List.getElem_cons_zero, List.getElem_cons_succ, List.setIfInBounds_toArray, List.set_cons_zero, List.set_cons_succ]
    refine wpAnyH_ready (rs := [1]) (by kernel_rfl) (by simp) ?_
    refine AllReadyH.cons rfl (fun K hK => ?_) AllReadyH.nil
    rw [if_pos (by rfl)]
    go_simp
    go_at_call 62
    refine (HDN.out _ (HAT.out.below (HB4.out.trans (hHeld.mono HB4.out.size)))).mono ?_
    rintro e w6 ⟨v6, rfl, ho6, hb6⟩
    obtain ⟨ov6, cv6, hv6⟩ := own_slice ho6
    subst hv6
    have HO6 := hide ho6
    have K6 := hide (hHeld.trans (hb6.mono hHeld.size))
    have hz6 : w4.heap.size ≤ w4.drew.heap.size := Nat.le_refl _
    clear ho6
    try go_simp
    refine hK.out _ _ ?_ (fun hHeld => ?_)
    · exact hHeld.trans (hb6.mono hHeld.size)
    clear hK K
    try simp only [Act.put, List.getElem_toArray, List.getElem_cons_zero, List.getElem_cons_succ, List.setIfInBounds_toArray, List.set_cons_zero, List.set_cons_succ]
    clear hb6
    refine wpAnyH_ready (rs := [5]) (by kernel_rfl) (by simp) ?_
    refine AllReadyH.cons rfl (fun K hK => ?_) AllReadyH.nil
    rw [if_pos (by rfl)]
    go_simp
    go_at_call 10
    refine (HSN.out _ (tab_below HPW.out (HB4.out.trans (K6.out.mono HB4.out.size)))).mono ?_
    rintro e w7 ⟨rfl, hb7⟩
    have HO7 := hide (own_below HO6.out hb7)
    have K7 := hide (K6.out.trans (hb7.mono K6.out.size))
    try go_simp
    refine hK.out _ _ ?_ (fun hHeld => ?_)
    · exact hHeld.trans (hb7.mono hHeld.size)
    clear hK K
    try simp only [Act.put, List.getElem_toArray, List.getElem_cons_zero, List.getElem_cons_succ, List.setIfInBounds_toArray, List.set_cons_zero, List.set_cons_succ]
    clear hb7
    refine wpAnyH_ready (rs := [6]) (by kernel_rfl) (by simp) ?_
    refine AllReadyH.cons rfl (fun K hK => ?_) AllReadyH.nil
    rw [if_pos (by rfl)]
    go_simp
    go_at_call 64
    refine (HDS.out _ (HAT.out.below (HB4.out.trans (K7.out.mono HB4.out.size))) (tab_below HPW.out (HB4.out.trans (K7.out.mono HB4.out.size)))).mono ?_
    rintro e w8 ⟨v8, rfl, ho8, hb8⟩
    obtain ⟨ov8, cv8, hv8⟩ := own_slice ho8
    subst hv8
    have HO8 := hide ho8
    have HO78 := hide (own_below HO7.out hb8)
    have K8 := hide (K7.out.trans (hb8.mono K7.out.size))
    clear ho8
    try go_simp
    refine hK.out _ _ ?_ (fun hHeld => ?_)
    · exact hHeld.trans (hb8.mono hHeld.size)
    clear hK K
    try simp only [Act.put, List.getElem_toArray, List.getElem_cons_zero, List.getElem_cons_succ, List.setIfInBounds_toArray, List.set_cons_zero, List.set_cons_succ]
    clear hb8
    have hs8 : w4.heap.size ≤ w8.heap.size := K8.out.size
    refine wpAnyH_ready (rs := [7]) (by kernel_rfl) (by simp) ?_
    refine AllReadyH.cons rfl (fun K hK => ?_) AllReadyH.nil
    rw [if_pos (by rfl)]
    refine wp_append_row8 _ _ 42 rfl (by decide) Tryd.underlying42 infoKAz rfl rfl HO78.out rfl HO8.out (acts_one Z) (by simpa using hs8) (by unfold maxLen; omega) (by omega) ?_
    intro v9 w9 ho9 hg9
    have HO9 := hide (cat_own rfl rfl ho9)
    have K9 := hide (K8.out.grown hg9 hs8 (fun q hq => by have := (HO78.out.lt q hq).1; simpa using this))
    obtain ⟨ov9, cv9, hv9⟩ := own_slice HO9.out
    subst hv9
    clear ho9 hg9
    refine hK.out _ _ ?_ (fun hHeld => ?_)
    · exact K9.out
    clear hK K
    try simp only [Act.put, List.getElem_toArray, List.getElem_cons_zero, List.getElem_cons_succ, List.setIfInBounds_toArray, List.set_cons_zero, List.set_cons_succ]
    refine wpAnyH_take (i := 8) (v := ?_) rfl (by kernel_rfl) (by kernel_rfl) (by kernel_rfl) (fun _ _ _ h => h) (Or.inl ⟨by rfl, ?_⟩) (by assumption) ?_; rotate_left
    · (intro wz hSw; have zd := (hSw.cell (p := ⟨w.heap.size, 0, none⟩) hl4).trans d4; have zs := (hSw.cell (p := ⟨w3.heap.size, 0, none⟩) hm4).trans s4; go_simp; first | done | with_reducible rfl)
    try simp only [Act.put, List.getElem_toArray, List.getElem_cons_zero, List.getElem_cons_succ, List.setIfInBounds_toArray, List.set_cons_zero, List.set_cons_succ]
    refine wpAnyH_done (by kernel_rfl) ?_ _
    go_wp2_with fail
    refine bodyPost_ret (v := .slice ov9 (X ++ Z).length cv9) (by simp [results, Tryd.results32, go_sem]) rfl ?_
    rw [HE.out]
    exact ⟨_, rfl, own_base HO9.out (by simpa using HB4.out.size), HB4.out.trans (K9.out.mono HB4.out.size)⟩

set_option maxHeartbeats 8000000 in
theorem specShedActs_any (oa : Option Addr) (n cap : Nat) (fs : List FileV) (w : World) (hat : FilesAt w oa n cap fs) (hw : ∀ f ∈ fs, Fine f) :
    Calls Tryd.prog 31 #[.agg #[.slice oa n cap]] w fun e w' => ActR w (shR fs) e w' := by
  have hb1 := (Below.refl w.heap.size w).alloc (Nat.le_refl _) (.cells #[.slice oa n cap] 47)
  have HNW := hide (specNewestSnap_any oa n cap fs _ (hat.below hb1) hw)
  have HD1 := hide (show DV8 (w.alloc (.cells #[.slice oa n cap] 47)) w.heap.size (.slice oa n cap) from heap_alloc_new _ _)
  have HB1 := hide hb1
  have HAT := hide hat
  have HFI := hide hw
  have hln := hat.len
  have HXX := hide hln
  have HNT := hide (nw_true (fs := fs))
  have HSH1 := hide (show (nwR fs).2.2.2.2 = true → shR fs = newDropS fs ++ othersS (nwR fs).1 fs from fun h => by unfold shR; rw [if_pos h])
  have HSH0 := hide (show (nwR fs).2.2.2.2 = false → shR fs = [] from fun h => by unfold shR; rw [h]; rfl)
  unfold RsPost at HNW
  obtain ⟨i, t, zs, b, ok, hjr⟩ : ∃ i t zs b ok, nwR fs = (i, t, zs, b, ok) := ⟨_, _, _, _, _, rfl⟩
  rw [hjr] at HNW HNT HSH1 HSH0
  simp only at HNW HNT HSH1 HSH0
  clear hat hw hb1 hjr 
  go_enter Tryd.func31, Tryd.ntmps31
  go_wp2_with fail
  refine HNW.out.mono ?_
  rintro e w3 ⟨v3, rfl, ho3, hb3⟩
  obtain ⟨ov3, cv3, hv3⟩ := own_slice ho3
  subst hv3
  have HB3 := hide (HB1.out.trans (hb3.mono HB1.out.size))
  have HD3 := hide (HD1.out.on hb3 HD1.out.lt)
  clear ho3 hb3
  have hb4 := (Below.refl w3.heap.size w3).alloc (Nat.le_refl _) (.cells (sncells i t (.slice ov3 zs.length cv3) b) 30)
  have HB4 := hide (HB3.out.alloc HB3.out.size (.cells (sncells i t (.slice ov3 zs.length cv3) b) 30))
  have HD4 := hide (HD3.out.on hb4 HD3.out.lt)
  have HS4 := hide (SB.new w3 i t (.slice ov3 zs.length cv3) b)
  clear hb4
  obtain ⟨NZ, hNZ⟩ : ∃ NZ, zs.length = NZ := ⟨_, rfl⟩
  rw [hNZ] at HB4 HD4 HS4
  rw [hNZ]
  clear hNZ
  cases ok with
  | false =>
    have HE := hide (HSH0.out rfl)
    go_wp2_with fail
    refine bodyPost_ret (v := .slice (some ⟨w3.heap.size + 1, 0, none⟩) 0 0) (by simp [results, Tryd.results31, go_sem]) rfl ?_
    rw [HE.out]
    have hm := made_acts HB4.out
    rw [World.size_alloc] at hm
    exact hm
  | true =>
    obtain ⟨hdk, hi0, hi1⟩ := HNT.out rfl
    have HE := hide (HSH1.out rfl)
    obtain ⟨hn30, hnm, -, -⟩ := disk_names8 hdk
    have HNM := hide (fun f hf => Nat.le_trans (hnm f hf) (show 8 ≤ 1048576 by omega))
    clear hdk hnm
    have hxr := newDrop_room fs
    have hor := othersS_room i fs
    have HDS := hide (fun w hat => l08Drops_any oa n cap fs i ⟨hi0, hi1⟩ w hat (by omega) HNM.out)
    have HDN := hide (fun w hat => l08New_any oa n cap fs w hat)
    obtain ⟨X, hX⟩ : ∃ X, newDropS fs = X := ⟨_, rfl⟩
    obtain ⟨Z, hZ⟩ : ∃ Z, othersS i fs = Z := ⟨_, rfl⟩
    rw [hX] at HDN HE hxr
    rw [hZ] at HDS HE hor
    clear hX hZ
    go_wp2_with fail
    generalize w3.alloc (.cells #[.int .i64 i, .int .i64 t, .slice ov3 NZ cv3, .string ⟨b.toArray⟩] 30) = w4 at HB4 HD4 HS4 ⊢
    have d4 := HD4.out.cell
    have s4 := HS4.out.sv.c0
    have hl4 := HD4.out.lt
    have hm4 := HS4.out.lt
    refine wp_region_held_drew (S := fun w' => Below w4.heap.size w4 w') (by kernel_rfl) (Below.refl _ _).drew (fun hHeld => ?_)
    refine wpAnyH_take (i := 0) (v := ?_) rfl (by kernel_rfl) (by kernel_rfl) (by kernel_rfl) (fun _ _ _ h => h) (Or.inl ⟨by rfl, ?_⟩) (by assumption) ?_; rotate_left
    · (intro wz hSw; have zd := (hSw.cell (p := ⟨w.heap.size, 0, none⟩) hl4).trans d4; have zs := (hSw.cell (p := ⟨w3.heap.size, 0, none⟩) hm4).trans s4; go_simp; first | done | with_reducible rfl)
    try simp only [Act.put, List.getElem_toArray, List.getElem_cons_zero, List.getElem_cons_succ, List.setIfInBounds_toArray, List.set_cons_zero, List.set_cons_succ]
    refine wpAnyH_take (i := 2) (v := ?_) rfl (by kernel_rfl) (by kernel_rfl) (by kernel_rfl) (fun _ _ _ h => h) (Or.inl ⟨by rfl, ?_⟩) (by assumption) ?_; rotate_left
    · (intro wz hSw; have zd := (hSw.cell (p := ⟨w.heap.size, 0, none⟩) hl4).trans d4; have zs := (hSw.cell (p := ⟨w3.heap.size, 0, none⟩) hm4).trans s4; go_simp; first | done | with_reducible rfl)
    try simp only [Act.put, List.getElem_toArray, List.getElem_cons_zero, List.getElem_cons_succ, List.setIfInBounds_toArray, List.set_cons_zero, List.set_cons_succ]
    refine wpAnyH_take (i := 3) (v := ?_) rfl (by kernel_rfl) (by kernel_rfl) (by kernel_rfl) (fun _ _ _ h => h) (Or.inl ⟨by rfl, ?_⟩) (by assumption) ?_; rotate_left
    · (intro wz hSw; have zd := (hSw.cell (p := ⟨w.heap.size, 0, none⟩) hl4).trans d4; have zs := (hSw.cell (p := ⟨w3.heap.size, 0, none⟩) hm4).trans s4; go_simp; first | done | with_reducible rfl)
    try simp only [Act.put, List.getElem_toArray, List.getElem_cons_zero, List.getElem_cons_succ, List.setIfInBounds_toArray, List.set_cons_zero, List.set_cons_succ]
    refine wpAnyH_take (i := 4) (v := ?_) rfl (by kernel_rfl) (by kernel_rfl) (by kernel_rfl) (fun _ _ _ h => h) (Or.inl ⟨by rfl, ?_⟩) (by assumption) ?_; rotate_left
    · (intro wz hSw; have zd := (hSw.cell (p := ⟨w.heap.size, 0, none⟩) hl4).trans d4; have zs := (hSw.cell (p := ⟨w3.heap.size, 0, none⟩) hm4).trans s4; go_simp; first | done | with_reducible rfl)
    try simp only [Act.put, List.getElem_toArray, List.getElem_cons_zero, List.getElem_cons_succ, List.setIfInBounds_toArray, List.set_cons_zero, List.set_cons_succ]
    refine wpAnyH_ready (rs := [1]) (by kernel_rfl) (by simp) ?_
    refine AllReadyH.cons rfl (fun K hK => ?_) AllReadyH.nil
    rw [if_pos (by rfl)]
    go_simp
    go_at_call 58
    refine (HDN.out _ (HAT.out.below (HB4.out.trans (hHeld.mono HB4.out.size)))).mono ?_
    rintro e w6 ⟨v6, rfl, ho6, hb6⟩
    obtain ⟨ov6, cv6, hv6⟩ := own_slice ho6
    subst hv6
    have HO6 := hide ho6
    have K6 := hide (hHeld.trans (hb6.mono hHeld.size))
    have hz6 : w4.heap.size ≤ w4.drew.heap.size := Nat.le_refl _
    clear ho6
    try go_simp
    refine hK.out _ _ ?_ (fun hHeld => ?_)
    · exact hHeld.trans (hb6.mono hHeld.size)
    clear hK K
    try simp only [Act.put, List.getElem_toArray, List.getElem_cons_zero, List.getElem_cons_succ, List.setIfInBounds_toArray, List.set_cons_zero, List.set_cons_succ]
    clear hb6
    refine wpAnyH_ready (rs := [5]) (by kernel_rfl) (by simp) ?_
    refine AllReadyH.cons rfl (fun K hK => ?_) AllReadyH.nil
    rw [if_pos (by rfl)]
    go_simp
    go_at_call 59
    refine (HDS.out _ (HAT.out.below (HB4.out.trans (K6.out.mono HB4.out.size)))).mono ?_
    rintro e w8 ⟨v8, rfl, ho8, hb8⟩
    obtain ⟨ov8, cv8, hv8⟩ := own_slice ho8
    subst hv8
    have HO8 := hide ho8
    have HO78 := hide (own_below HO6.out hb8)
    have K8 := hide (K6.out.trans (hb8.mono K6.out.size))
    clear ho8
    try go_simp
    refine hK.out _ _ ?_ (fun hHeld => ?_)
    · exact hHeld.trans (hb8.mono hHeld.size)
    clear hK K
    try simp only [Act.put, List.getElem_toArray, List.getElem_cons_zero, List.getElem_cons_succ, List.setIfInBounds_toArray, List.set_cons_zero, List.set_cons_succ]
    clear hb8
    have hs8 : w4.heap.size ≤ w8.heap.size := K8.out.size
    refine wpAnyH_ready (rs := [6]) (by kernel_rfl) (by simp) ?_
    refine AllReadyH.cons rfl (fun K hK => ?_) AllReadyH.nil
    rw [if_pos (by rfl)]
    refine wp_append_row8 _ _ 42 rfl (by decide) Tryd.underlying42 infoKAz rfl rfl HO78.out rfl HO8.out (acts_one Z) (by simpa using hs8) (by unfold maxLen; omega) (by omega) ?_
    intro v9 w9 ho9 hg9
    have HO9 := hide (cat_own rfl rfl ho9)
    have K9 := hide (K8.out.grown hg9 hs8 (fun q hq => by have := (HO78.out.lt q hq).1; simpa using this))
    obtain ⟨ov9, cv9, hv9⟩ := own_slice HO9.out
    subst hv9
    clear ho9 hg9
    refine hK.out _ _ ?_ (fun hHeld => ?_)
    · exact K9.out
    clear hK K
    try simp only [Act.put, List.getElem_toArray, List.getElem_cons_zero, List.getElem_cons_succ, List.setIfInBounds_toArray, List.set_cons_zero, List.set_cons_succ]
    refine wpAnyH_take (i := 7) (v := ?_) rfl (by kernel_rfl) (by kernel_rfl) (by kernel_rfl) (fun _ _ _ h => h) (Or.inl ⟨by rfl, ?_⟩) (by assumption) ?_; rotate_left
    · (intro wz hSw; have zd := (hSw.cell (p := ⟨w.heap.size, 0, none⟩) hl4).trans d4; have zs := (hSw.cell (p := ⟨w3.heap.size, 0, none⟩) hm4).trans s4; go_simp; first | done | with_reducible rfl)
    try simp only [Act.put, List.getElem_toArray, List.getElem_cons_zero, List.getElem_cons_succ, List.setIfInBounds_toArray, List.set_cons_zero, List.set_cons_succ]
    refine wpAnyH_done (by kernel_rfl) ?_ _
    go_wp2_with fail
    refine bodyPost_ret (v := .slice ov9 (X ++ Z).length cv9) (by simp [results, Tryd.results31, go_sem]) rfl ?_
    rw [HE.out]
    exact ⟨_, rfl, own_base HO9.out (by simpa using HB4.out.size), HB4.out.trans (K9.out.mono HB4.out.size)⟩

end Go.Proofs.YtpenpbopehbncaaDoor
