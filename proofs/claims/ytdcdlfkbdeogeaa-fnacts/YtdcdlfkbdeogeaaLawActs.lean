/-
  The law FnActs: its walk (made by wip/tools/gen19.py).
-/
import Derived.Test.YtdcdlfkbdeogeaaDraw18
import Derived.Test.YtdcdlfkbdeogeaaWalkCutb
import Derived.Test.YtdcdlfkbdeogeaaPack44
import Derived.Test.YtdcdlfkbdeogeaaPack8
namespace Go.Proofs.Ytdcdlfkbdeogeaa
open Go.RowKit P1 P5 K
attribute [local go_sem ↓] Go.wp_at_zero Go.wp_at_succ
set_option linter.unusedVariables false
set_option linter.unusedSimpArgs false

/-- A variable that holds a disk, its row. -/
structure KD (w : World) (b base : Nat) (v : Value) (gs : List FileV) : Prop where
  blk : w.heap[b]? = some (.cells #[v] 26 (0, 0))
  own : w.ownsRow base 49 3 v gs.length (gs.flatMap fcells)

section
variable {w w' : World} {b base : Nat} {v : Value} {gs : List FileV}
theorem KD.new (ho : w.ownsRow base 49 3 v gs.length (gs.flatMap fcells)) : KD (w.alloc (.cells #[v] 26)) w.heap.size base v gs := ⟨heap_alloc_new _ _, ho.alloc _⟩
theorem KD.on (h : KD w b base v gs) (hb : Below w.heap.size w w') : KD w' b base v gs := ⟨(hb.block b (blk_lt h.blk)).trans h.blk, own_below h.own hb⟩
theorem KD.lt (h : KD w b base v gs) : b < w.heap.size := blk_lt h.blk
theorem KD.cell (h : KD w b base v gs) : w.cell? ⟨b, 0, none⟩ = some v := blk_cell h.blk 0 rfl
theorem KD.free (h : KD w b base v gs) : w.frozen? ⟨b, 0, none⟩ = false := blk_free h.blk 0
theorem KD.files {ov : Option Addr} {cv : Nat} (h : KD w b base (.slice ov gs.length cv) gs) : FilesAt w ov gs.length cv gs := by
  obtain ⟨_, _, he, hat⟩ := filesAt_of_own h.own
  cases he
  exact hat
/-- Another disk put into it. -/
theorem KD.set {v' : Value} {hs : List FileV} {base2 : Nat} (h : KD w b base v gs) (ho : w.ownsRow base2 49 3 v' hs.length (hs.flatMap fcells)) : KD (w.setCell ⟨b, 0, none⟩ v') b base2 v' hs := by
  refine ⟨?_, own_setFar ho (fun g hg e1 => row_ne_blk ho h.blk (by decide) (by rw [hg, e1]))⟩
  have k := blk_set (k := 0) v' h.blk
  simpa using k
end

/-- The next disk in the making: its row, its variable. -/
structure NxSt (W : World) (D : List FileV) (o5 : Option Value) (o9 : Option Nat) (w : World) : Prop where
  bel : Below W.heap.size W w
  h5 : ∀ v, o5 = some v → w.ownsRow W.heap.size 49 3 v D.length (D.flatMap fcells)
  h9 : ∀ b, o9 = some b → W.heap.size ≤ b ∧ w.heap[b]? = some (.cells #[.slice none 0 0] 26 (0, 0))

section
variable {W w w' : World} {D : List FileV} {o5 : Option Value} {o9 : Option Nat}
theorem NxSt.start (W : World) (D : List FileV) : NxSt W D none none W.drew := ⟨(Below.refl _ _).drew, (fun _ h => by cases h), (fun _ h => by cases h)⟩
theorem NxSt.on (h : NxSt W D o5 o9 w) (hb : Below w.heap.size w w') : NxSt W D o5 o9 w' :=
  ⟨h.bel.trans (hb.mono h.bel.size), fun v hv => own_below (h.h5 v hv) hb, fun b hb' => ⟨(h.h9 b hb').1, (hb.block b (blk_lt (h.h9 b hb').2)).trans (h.h9 b hb').2⟩⟩
theorem NxSt.give {v : Value} (h : NxSt W D none o9 w) (ho : w.ownsRow W.heap.size 49 3 v D.length (D.flatMap fcells)) : NxSt W D (some v) o9 w := ⟨h.bel, fun v' hv => by cases hv; exact ho, h.h9⟩
theorem NxSt.alloc9 (h : NxSt W D o5 none w) : NxSt W D o5 (some w.heap.size) (w.alloc (.cells #[.slice none 0 0] 26)) := by
  have k := h.on ((Below.refl w.heap.size w).alloc (Nat.le_refl _) (.cells #[.slice none 0 0] 26))
  exact ⟨k.bel, k.h5, fun b hb => by cases hb; exact ⟨h.bel.size, heap_alloc_new _ _⟩⟩
theorem NxSt.fin {v : Value} {b : Nat} (h : NxSt W D (some v) (some b) w) : Below W.heap.size W (w.setCell ⟨b, 0, none⟩ v) ∧ KD (w.setCell ⟨b, 0, none⟩ v) b W.heap.size v D ∧ W.heap.size ≤ b := by
  have h9 := h.h9 b rfl
  have h5 := h.h5 v rfl
  exact ⟨h.bel.setCell (by simpa using h9.1) _, KD.set (gs := []) ⟨h9.2, World.ownsRow_nil _ 0 _ _⟩ h5, h9.1⟩
end

theorem cat_two (x y : List UInt8) : (⟨x.toArray⟩ : ByteArray) ++ ⟨y.toArray⟩ = ⟨(x ++ y).toArray⟩ := by
  apply ByteArray.ext
  simp

set_option maxRecDepth 100000 in
set_option maxHeartbeats 16000000 in
theorem FnActs_walk (a0 : Option Addr) (len0 cap0 : Nat) (z0 : List Int) (w : World) (w0 : IsRow .u8 w a0 len0 cap0 z0) :
    Calls Try.prog 3 #[.slice a0 len0 cap0] w fun e w' => e = .returned (.bool true) ∧ Below w.heap.size w w' := by
  have HC := hide (codeAt_of_row w0)
  clear w0
  by_cases hbig : 1048576 < len0
  · go_enter Try.func3, Try.ntmps3
    go_wp2_with (go_at_call 4; refine (big_yes a0 len0 cap0 hbig _).mono ?_; rintro e w1 ⟨rfl, rfl⟩)
    go_ret
    exact ⟨rfl, Below.refl _ _⟩
  · have hlen : len0 ≤ 1048576 := by omega
    go_enter Try.func3, Try.ntmps3
    go_wp2_with fail
    refine (big_no a0 len0 cap0 hlen _).mono ?_
    rintro r w1 ⟨rfl, rfl⟩
    go_wp2_with fail
    refine (drawCutActs_any w.heap.size a0 len0 cap0 _ hlen (Nat.le_refl _) HC.out).mono ?_
    rintro r w1 ⟨v, fs, gB, cB, acs, ix, vl, l, hfl, hff, hal, haf, hl5, hlz, rfl, hod, hoa, hol, hb1⟩
    obtain ⟨od, cd, rfl⟩ := own_form hod
    obtain ⟨ol, cl, rfl, hatl⟩ := intsAt_of_own hol (fun z hz => leftL_wf z (hlz z hz))
    obtain ⟨_, _, heq, hata⟩ := actsAt_of_own hoa
    cases heq
    have HFF := hide hff
    have HAF := hide haf
    have hal1 := (Below.refl w1.heap.size w1).alloc (Nat.le_refl _) (.cells #[.slice od fs.length cd] 26)
    have D2 := hide (KD.new hod)
    have A2 := hide (hata.below hal1)
    have L2 := hide (hatl.below hal1)
    have B2 := hide (hb1.trans (hal1.mono hb1.size))
    obtain ⟨F, hF⟩ : ∃ F, (doActsL fs acs).1 = F := ⟨_, rfl⟩
    obtain ⟨n, hn⟩ : ∃ n, (doActsL fs acs).2 = n := ⟨_, rfl⟩
    have hnl : n ≤ acs.length := by rw [← hn]; exact acts_len acs fs
    have hFl : F.length ≤ 1048576 := by
      have h := actsL_len acs fs
      rw [hF] at h
      omega
    have HIM := hide (fun w hat hbt => implDoActs_any od fs.length cd fs (some ⟨gB, 0, none⟩) acs.length cB acs w hat HFF.out hbt HAF.out (by omega) (by omega))
    have HSP := hide (fun w hat hbt => specDoActs_opt od fs.length cd fs (some ⟨gB, 0, none⟩) acs.length cB acs w hat HFF.out hbt HAF.out (by omega) (by omega))
    unfold DiskNum at HIM HSP
    rw [hF, hn] at HIM HSP
    have HFE := hide hF
    have HNE := hide hn
    clear hff haf hod hoa hol hb1 hal1 hata hatl hlz HC hF hn
    go_wp2_with fail
    generalize w1.alloc (Obj.cells #[Value.slice od fs.length cd] 26) = w2 at D2 A2 L2 B2 ⊢
    obtain ⟨b3, hb3⟩ : ∃ b3, b3 = w1.heap.size := ⟨_, rfl⟩
    rw [← hb3] at D2 ⊢
    clear hb3
    refine (HIM.out _ D2.out.files A2.out).mono ?_
    rintro r w3 ⟨vN, rfl, hoN, hb3⟩
    obtain ⟨oN, cN, rfl⟩ := own_form hoN
    have D3 := hide (D2.out.on hb3)
    have A3 := hide (A2.out.below hb3)
    have L3 := hide (L2.out.below hb3)
    have B3 := hide (B2.out.trans (hb3.mono B2.out.size))
    have HON := hide (own_base hoN (base' := w.heap.size) B2.out.size)
    have c3 := D3.out.cell
    have l3 := D3.out.lt
    clear hb3 hoN D2 A2 L2
    go_wp2_with fail
    have hal4 := (Below.refl w3.heap.size w3).alloc (Nat.le_refl _) (.cells #[.slice oN F.length cN] 26)
    have D4 := hide (D3.out.on hal4)
    have A4 := hide (A3.out.below hal4)
    have L4 := hide (L3.out.below hal4)
    have B4 := hide (B3.out.trans (hal4.mono B3.out.size))
    have N4 := hide (KD.new HON.out)
    clear hal4 D3 A3 L3 HON c3 l3
    refine (HSP.out _ D4.out.files A4.out).mono ?_
    rintro r w5 ⟨vW, rfl, hoW, hb5⟩
    obtain ⟨oW, cW, rfl⟩ := own_form hoW
    have D5 := hide (D4.out.on hb5)
    have A5 := hide (A4.out.below hb5)
    have L5 := hide (L4.out.below hb5)
    have B5 := hide (B4.out.trans (hb5.mono B4.out.size))
    have N5 := hide (N4.out.on hb5)
    have HOW := hide (own_base hoW (base' := w.heap.size) B4.out.size)
    have c5 := N5.out.cell
    have l5 := N5.out.lt
    clear hb5 hoW D4 A4 L4 N4
    go_wp2_with fail
    have hal6 := (Below.refl w5.heap.size w5).alloc (Nat.le_refl _) (.cells #[.slice oW F.length cW] 26)
    have D6 := hide (D5.out.on hal6)
    have A6 := hide (A5.out.below hal6)
    have L6 := hide (L5.out.below hal6)
    have B6 := hide (B5.out.trans (hal6.mono B5.out.size))
    have N6 := hide (N5.out.on hal6)
    have W6 := hide (KD.new HOW.out)
    clear hal6 D5 A5 L5 N5 HOW c5 l5
    refine (sameDisk_same oN F.length cN oW cW F hFl _ N6.out.files W6.out.files).mono ?_
    rintro r w7 ⟨rfl, hb7⟩
    have D7 := hide (D6.out.on hb7)
    have A7 := hide (A6.out.below hb7)
    have L7 := hide (L6.out.below hb7)
    have B7 := hide (B6.out.trans (hb7.mono B6.out.size))
    have N7 := hide (N6.out.on hb7)
    have c7 := D7.out.cell
    clear hb7 D6 A6 L6 N6 W6
    obtain ⟨b7, hb7⟩ : ∃ b7, b7 = w3.heap.size := ⟨_, rfl⟩
    rw [← hb7] at N7 ⊢
    clear hb7
    go_wp2_with fail
    obtain ⟨W0, hW0e⟩ : ∃ W0, W0 = w7 := ⟨_, rfl⟩
    have hW0 : w.heap.size ≤ W0.heap.size := by rw [hW0e]; exact B7.out.size
    subst hW0e
    have O0 : Hid (KD (W0.alloc (.cells #[.slice od fs.length cd] 26)) W0.heap.size w.heap.size (.slice od fs.length cd) fs) := hide (KD.new D7.out.own)
    have hal8 := (Below.refl W0.heap.size W0).alloc (Nat.le_refl _) (.cells #[.slice od fs.length cd] 26)
    have BO := hide hal8
    clear hal8 c7
    go_loopw [12] (fun i wr => ∃ (j : Nat) (gs : List FileV) (ov : Option Addr) (cv : Nat), i = .int .i64 (j : Int) ∧ j ≤ n ∧ SoFar fs acs j gs ∧ (∀ f ∈ gs, Fine f) ∧ Below W0.heap.size W0 wr ∧ KD wr W0.heap.size w.heap.size (.slice ov gs.length cv) gs) (fun i _ => n - (intOf i).toNat)
    case atStart => exact ⟨0, fs, od, cd, rfl, Nat.zero_le _, soFar_zero _ _, HFF.out, BO.out, O0.out⟩
    case round =>
      clear BO O0
      obtain ⟨j, gs, ov, cv, rfl, hj, hso, hgf, hbr, hkd⟩ := hrel
      have HSO := hide hso
      have HGF := hide hgf
      have BWr := hide hbr
      have ONEr := hide hkd
      clear hso hgf hbr hkd
      by_cases hlt : j < n
      · have j0 : (j : Int) < (n : Int) := by omega
        obtain ⟨a, bq, q, ha, hidx, hbq, a0, a1, a2, a3⟩ := (A7.out.below BWr.out).get Try.underlying27 infoIA j (by omega)
        obtain ⟨D, hD, hso2⟩ := acts_step HSO.out ha (by rw [HNE.out]; exact hlt)
        have HAX := hide (HAF.out a (List.mem_of_getElem? ha))
        have HDO0 := fun w hat => implDoAct_any ov gs.length cv gs a w hat HGF.out HAX.out
        unfold aval DiskRes at HDO0
        rw [hD] at HDO0
        simp only [Option.getD_some, Option.isSome_some] at HDO0
        have HDO := hide HDO0
        have HSO2 := hide hso2
        have HAL := hide hD
        have HDF := hide (show ∀ f ∈ D, Fine f from by have h := actL_fine (fs := gs) a HGF.out; rw [hD] at h; exact h)
        have HTL := hide (textAt_len HGF.out a.name)
        have HONE := ONEr
        clear HDO0 hso2 hD ha
        go_wp2_with fail
        have SH : Hid (∀ w', Below wr.heap.size wr w' → (fun w' => w'.cell? ⟨W0.heap.size, 0, none⟩ = some (.slice ov gs.length cv) ∧ w'.cell? ⟨bq, q, none⟩ = some (.int .i64 a.kind) ∧ w'.cell? ⟨bq, q + 1, none⟩ = some (.string ⟨a.name.toArray⟩) ∧ w'.cell? ⟨bq, q + 2, none⟩ = some (.string ⟨a.text.toArray⟩) ∧ w'.cell? ⟨bq, q + 3, none⟩ = some (.string ⟨a.to.toArray⟩)) w') := hide (fun w' hb => ⟨(HONE.out.on hb).cell, (hb.cell (p := ⟨bq, q, none⟩) hbq).trans a0, (hb.cell (p := ⟨bq, q + 1, none⟩) hbq).trans a1, (hb.cell (p := ⟨bq, q + 2, none⟩) hbq).trans a2, (hb.cell (p := ⟨bq, q + 3, none⟩) hbq).trans a3⟩)
        have HSs := hide (NxSt.start wr D)
        refine wp_region_held_drew (S := (fun w' => w'.cell? ⟨W0.heap.size, 0, none⟩ = some (.slice ov gs.length cv) ∧ w'.cell? ⟨bq, q, none⟩ = some (.int .i64 a.kind) ∧ w'.cell? ⟨bq, q + 1, none⟩ = some (.string ⟨a.name.toArray⟩) ∧ w'.cell? ⟨bq, q + 2, none⟩ = some (.string ⟨a.text.toArray⟩) ∧ w'.cell? ⟨bq, q + 3, none⟩ = some (.string ⟨a.to.toArray⟩))) (by kernel_rfl) (SH.out _ (Below.refl _ _).drew) (fun hHeld => ?_)
        generalize wr.drew = xs at HSs hHeld ⊢
        refine wpAnyH_take (i := 0) (v := ?_) rfl (by kernel_rfl) (by kernel_rfl) (by kernel_rfl) (fun _ _ _ h => h) (Or.inl ⟨by rfl, ?_⟩) (by assumption) ?_; rotate_left
        · (intro wz hSw; obtain ⟨s0, s1, s2, s3, s4⟩ := hSw; go_simp; first | done | with_reducible rfl)
        try simp only [Act.put, List.getElem_toArray, List.getElem_cons_zero, List.getElem_cons_succ, List.setIfInBounds_toArray, List.set_cons_zero, List.set_cons_succ]
        refine wpAnyH_take (i := 1) (v := ?_) rfl (by kernel_rfl) (by kernel_rfl) (by kernel_rfl) (fun _ _ _ h => h) (Or.inl ⟨by rfl, ?_⟩) (by assumption) ?_; rotate_left
        · (intro wz hSw; obtain ⟨s0, s1, s2, s3, s4⟩ := hSw; go_simp; first | done | with_reducible rfl)
        try simp only [Act.put, List.getElem_toArray, List.getElem_cons_zero, List.getElem_cons_succ, List.setIfInBounds_toArray, List.set_cons_zero, List.set_cons_succ]
        refine wpAnyH_take (i := 2) (v := ?_) rfl (by kernel_rfl) (by kernel_rfl) (by kernel_rfl) (fun _ _ _ h => h) (Or.inl ⟨by rfl, ?_⟩) (by assumption) ?_; rotate_left
        · (intro wz hSw; obtain ⟨s0, s1, s2, s3, s4⟩ := hSw; go_simp; first | done | with_reducible rfl)
        try simp only [Act.put, List.getElem_toArray, List.getElem_cons_zero, List.getElem_cons_succ, List.setIfInBounds_toArray, List.set_cons_zero, List.set_cons_succ]
        refine wpAnyH_take (i := 3) (v := ?_) rfl (by kernel_rfl) (by kernel_rfl) (by kernel_rfl) (fun _ _ _ h => h) (Or.inl ⟨by rfl, ?_⟩) (by assumption) ?_; rotate_left
        · (intro wz hSw; obtain ⟨s0, s1, s2, s3, s4⟩ := hSw; go_simp; first | done | with_reducible rfl)
        try simp only [Act.put, List.getElem_toArray, List.getElem_cons_zero, List.getElem_cons_succ, List.setIfInBounds_toArray, List.set_cons_zero, List.set_cons_succ]
        refine wpAnyH_take (i := 4) (v := ?_) rfl (by kernel_rfl) (by kernel_rfl) (by kernel_rfl) (fun _ _ _ h => h) (Or.inl ⟨by rfl, ?_⟩) (by assumption) ?_; rotate_left
        · (intro wz hSw; obtain ⟨s0, s1, s2, s3, s4⟩ := hSw; go_simp; first | done | with_reducible rfl)
        try simp only [Act.put, List.getElem_toArray, List.getElem_cons_zero, List.getElem_cons_succ, List.setIfInBounds_toArray, List.set_cons_zero, List.set_cons_succ]
        refine wpAnyH_ready (rs := [5, 9]) (by kernel_rfl) (by simp) ?_
        refine AllReadyH.cons rfl (fun K hK => ?_) ?_
        · rw [if_pos (by rfl)]
          go_simp
          go_at_call 9
          refine (HDO.out _ (HONE.out.on HSs.out.bel).files).mono ?_
          rintro r x5 ⟨v5, rfl, ho5, hb5⟩
          obtain ⟨on, cn, rfl⟩ := own_form ho5
          have HS5 := hide ((HSs.out.on hb5).give (own_base ho5 HSs.out.bel.size))
          clear ho5 hb5
          try go_simp
          refine hK.out _ _ ?_ (fun hHeld => ?_)
          · exact SH.out _ HS5.out.bel
          clear hK K
          try simp only [Act.put, List.getElem_toArray, List.getElem_cons_zero, List.getElem_cons_succ, List.setIfInBounds_toArray, List.set_cons_zero, List.set_cons_succ]
          refine wpAnyH_take (i := 6) (v := ?_) rfl (by kernel_rfl) (by kernel_rfl) (by kernel_rfl) (fun _ _ _ h => h) (Or.inl ⟨by rfl, ?_⟩) (by assumption) ?_; rotate_left
          · (intro wz hSw; obtain ⟨s0, s1, s2, s3, s4⟩ := hSw; go_simp; first | done | with_reducible rfl)
          try simp only [Act.put, List.getElem_toArray, List.getElem_cons_zero, List.getElem_cons_succ, List.setIfInBounds_toArray, List.set_cons_zero, List.set_cons_succ]
          refine wpAnyH_take (i := 7) (v := ?_) rfl (by kernel_rfl) (by kernel_rfl) (by kernel_rfl) (fun _ _ _ h => h) (Or.inl ⟨by rfl, ?_⟩) (by assumption) ?_; rotate_left
          · (intro wz hSw; obtain ⟨s0, s1, s2, s3, s4⟩ := hSw; go_simp; first | done | with_reducible rfl)
          try simp only [Act.put, List.getElem_toArray, List.getElem_cons_zero, List.getElem_cons_succ, List.setIfInBounds_toArray, List.set_cons_zero, List.set_cons_succ]
          refine wpAnyH_take (i := 8) (v := ?_) rfl (by kernel_rfl) (by kernel_rfl) (by kernel_rfl) (fun _ _ _ h => h) (Or.inl ⟨by rfl, ?_⟩) (by assumption) ?_; rotate_left
          · (intro wz hSw; obtain ⟨s0, s1, s2, s3, s4⟩ := hSw; go_simp; first | done | with_reducible rfl)
          try simp only [Act.put, List.getElem_toArray, List.getElem_cons_zero, List.getElem_cons_succ, List.setIfInBounds_toArray, List.set_cons_zero, List.set_cons_succ]
          refine wpAnyH_ready (rs := [9]) (by kernel_rfl) (by simp) ?_
          refine AllReadyH.cons rfl (fun K hK => ?_) ?_
          · have HS9 := hide HS5.out.alloc9
            rw [if_pos (by rfl)]
            go_simp
            refine hK.out _ _ ?_ (fun hHeld => ?_)
            · exact SH.out _ HS9.out.bel
            clear hK K
            try simp only [Act.put, List.getElem_toArray, List.getElem_cons_zero, List.getElem_cons_succ, List.setIfInBounds_toArray, List.set_cons_zero, List.set_cons_succ]
            generalize x5.alloc (Obj.cells #[Value.slice none 0 0] 26) = x9 at HS9 hHeld ⊢
            refine wpAnyH_ready (rs := [10]) (by kernel_rfl) (by simp) ?_
            refine AllReadyH.cons rfl (fun K hK => ?_) ?_
            · have hq := (HS9.out.h9 _ rfl).2
              have q0 := blk_cell hq 0 rfl
              have f0 := blk_free hq 0
              simp only [List.getElem_toArray, List.getElem_cons_zero] at q0
              have HFN := hide HS9.out.fin
              rw [if_pos (by rfl)]
              go_simp
              refine hK.out _ _ ?_ (fun hHeld => ?_)
              · exact SH.out _ HFN.out.1
              clear hK K
              try simp only [Act.put, List.getElem_toArray, List.getElem_cons_zero, List.getElem_cons_succ, List.setIfInBounds_toArray, List.set_cons_zero, List.set_cons_succ]
              clear hq q0 f0
              refine wpAnyH_ready (rs := [11]) (by kernel_rfl) (by simp) ?_
              refine AllReadyH.cons rfl (fun K hK => ?_) ?_
              · rw [if_pos (by rfl)]
                go_simp
                refine hK.out _ _ ?_ (fun hHeld => ?_)
                · exact hHeld
                clear hK K
                try simp only [Act.put, List.getElem_toArray, List.getElem_cons_zero, List.getElem_cons_succ, List.setIfInBounds_toArray, List.set_cons_zero, List.set_cons_succ]
                refine wpAnyH_done (by kernel_rfl) ?_ _
                clear hHeld SH
                generalize x9.setCell ⟨x5.heap.size, 0, none⟩ (Value.slice on D.length cn) = x10 at HFN ⊢
                generalize x5.heap.size = bn at HFN ⊢
                have hbqx10 := HFN.out.1
                have NX10 : Hid (KD x10 bn wr.heap.size (.slice on D.length cn) D) := hide HFN.out.2.1
                have hbn := HFN.out.2.2
                clear HFN
                have ONEx10 := hide (ONEr.out.on hbqx10)
                have a0 := (hbqx10.cell (p := ⟨bq, q, none⟩) hbq).trans a0
                have a1 := (hbqx10.cell (p := ⟨bq, q + 1, none⟩) hbq).trans a1
                have a2 := (hbqx10.cell (p := ⟨bq, q + 2, none⟩) hbq).trans a2
                have hbq := Nat.lt_of_lt_of_le hbq hbqx10.size
                have BWx10 := hide (BWr.out.trans (hbqx10.mono BWr.out.size))
                clear hbqx10
                go_wp2_with fail
                refine wp_region_in (F := (fun w' => Below x10.heap.size x10 w')) (by kernel_rfl) (by kernel_rfl) (Below.refl _ _).drew ?_
                have hne : Nonempty (InW (fun w' => Below x10.heap.size x10 w')) := ⟨⟨_, Below.refl _ _⟩⟩
                have k0 : ∀ m : InW (fun w' => Below x10.heap.size x10 w'), m.w.cell? ⟨W0.heap.size, 0, none⟩ = some (.slice ov gs.length cv) := fun m => (m.h.cell (by simpa using ONEx10.out.lt)).trans ONEx10.out.cell
                have k1 : ∀ m : InW (fun w' => Below x10.heap.size x10 w'), m.w.cell? ⟨bq, q + 1, none⟩ = some (.string ⟨a.name.toArray⟩) := fun m => (m.h.cell (p := ⟨bq, q + 1, none⟩) hbq).trans a1
                have HATW := hide (show ∀ m : InW (fun w' => Below x10.heap.size x10 w'), FilesAt m.w ov gs.length cv gs from fun m => (ONEx10.out.on m.h).files)
                repeat (go_big_quiet_step (first | (go_at_call 10; refine (implFileAt_any ov gs.length cv gs a.name _ (HATW.out _) HGF.out).mono ?_; rintro r w9 ⟨rfl, hb9⟩; exact ⟨rfl, ⟨w9, Below.trans (InW.h _) (hb9.mono (Below.size (InW.h (F := (fun w' => Below x10.heap.size x10 w')) ‹_›)))⟩, rfl⟩)))
                refine wpQuiet_nil ?_
                intro _ hw'
                obtain ⟨nq, hw''⟩ := hw'
                subst hw''
                have hbqx15 := nq.h
                generalize nq.w = x15 at hbqx15 ⊢
                clear hne k0 k1 HATW
                have NXx15 := hide (NX10.out.on hbqx15)
                have ONEx15 := hide (ONEx10.out.on hbqx15)
                have a0 := (hbqx15.cell (p := ⟨bq, q, none⟩) hbq).trans a0
                have a1 := (hbqx15.cell (p := ⟨bq, q + 1, none⟩) hbq).trans a1
                have a2 := (hbqx15.cell (p := ⟨bq, q + 2, none⟩) hbq).trans a2
                have hbq := Nat.lt_of_lt_of_le hbq hbqx15.size
                have BWx15 := hide (BWx10.out.trans (hbqx15.mono BWx10.out.size))
                clear hbqx15
                go_wp2_with fail
                refine wp_region_in (F := (fun w' => Below x15.heap.size x15 w')) (by kernel_rfl) (by kernel_rfl) (Below.refl _ _).drew ?_
                have hne : Nonempty (InW (fun w' => Below x15.heap.size x15 w')) := ⟨⟨_, Below.refl _ _⟩⟩
                have k0 : ∀ m : InW (fun w' => Below x15.heap.size x15 w'), m.w.cell? ⟨bn, 0, none⟩ = some (.slice on D.length cn) := fun m => (m.h.cell (by simpa using NXx15.out.lt)).trans NXx15.out.cell
                have k1 : ∀ m : InW (fun w' => Below x15.heap.size x15 w'), m.w.cell? ⟨bq, q + 1, none⟩ = some (.string ⟨a.name.toArray⟩) := fun m => (m.h.cell (p := ⟨bq, q + 1, none⟩) hbq).trans a1
                have HATW := hide (show ∀ m : InW (fun w' => Below x15.heap.size x15 w'), FilesAt m.w on D.length cn D from fun m => (NXx15.out.on m.h).files)
                repeat (go_big_quiet_step (first | (go_at_call 10; refine (implFileAt_any on D.length cn D a.name _ (HATW.out _) HDF.out).mono ?_; rintro r w9 ⟨rfl, hb9⟩; exact ⟨rfl, ⟨w9, Below.trans (InW.h _) (hb9.mono (Below.size (InW.h (F := (fun w' => Below x15.heap.size x15 w')) ‹_›)))⟩, rfl⟩)))
                refine wpQuiet_nil ?_
                intro _ hw'
                obtain ⟨nq, hw''⟩ := hw'
                subst hw''
                have hbqx16 := nq.h
                generalize nq.w = x16 at hbqx16 ⊢
                clear hne k0 k1 HATW
                have NXx16 := hide (NXx15.out.on hbqx16)
                have ONEx16 := hide (ONEx15.out.on hbqx16)
                have a0 := (hbqx16.cell (p := ⟨bq, q, none⟩) hbq).trans a0
                have a1 := (hbqx16.cell (p := ⟨bq, q + 1, none⟩) hbq).trans a1
                have a2 := (hbqx16.cell (p := ⟨bq, q + 2, none⟩) hbq).trans a2
                have hbq := Nat.lt_of_lt_of_le hbq hbqx16.size
                have BWx16 := hide (BWx15.out.trans (hbqx16.mono BWx15.out.size))
                clear hbqx16
                have nx := NXx16.out.cell
                have n1 := ONEx16.out.cell
                have n2 := ONEx16.out.free
                have HSET := hide (ONEx16.out.set NXx16.out.own)
                have bset := BWx16.out.setCell (p := ⟨W0.heap.size, 0, none⟩) (by simp) (Value.slice on D.length cn)
                have HBS := hide bset
                clear bset
                by_cases hk1 : a.kind = 1
                · obtain ⟨hh1, hh2⟩ := act_add HAL.out hk1
                  have HH2 := hide hh2
                  have g1 : (a.kind == 1) = true := by simpa using hk1
                  have g2 : (a.kind == 4) = false := by rw [beq_eq_false_iff_ne]; omega
                  have hsum : ¬ (9223372036854775807 < (textAt gs a.name).length + a.text.length) := by have := HTL.out; have := HAX.out.2.1; omega
                  have hcat : (⟨(textAt gs a.name).toArray⟩ : ByteArray) ++ ⟨a.text.toArray⟩ = ⟨(textAt D a.name).toArray⟩ := by rw [HH2.out]; exact cat_two _ _
                  rw [hh1]
                  clear hh1 hh2 hk1
                  go_wp2_with fail
                  go_roundw
                  case rel => exact ⟨j + 1, D, on, cn, by go_num, by omega, HSO2.out, HDF.out, HBS.out, ⟨HSET.out.blk, own_base HSET.out.own (by have := BWr.out.size; have := hW0; omega)⟩⟩
                  case measure => simp [intOf]; omega
                · have g1 : (a.kind == 1) = false := by rw [beq_eq_false_iff_ne]; exact hk1
                  by_cases hk4 : a.kind = 4
                  · have hh4 := act_drop HAL.out hk4
                    have g2 : (a.kind == 4) = true := by simpa using hk4
                    rw [hh4]
                    clear hh4 hk4 hk1
                    go_wp2_with fail
                    go_roundw
                    case rel => exact ⟨j + 1, D, on, cn, by go_num, by omega, HSO2.out, HDF.out, HBS.out, ⟨HSET.out.blk, own_base HSET.out.own (by have := BWr.out.size; have := hW0; omega)⟩⟩
                    case measure => simp [intOf]; omega
                  · have g2 : (a.kind == 4) = false := by rw [beq_eq_false_iff_ne]; exact hk4
                    clear hk4 hk1
                    go_wp2_with fail
                    go_roundw
                    case rel => exact ⟨j + 1, D, on, cn, by go_num, by omega, HSO2.out, HDF.out, HBS.out, ⟨HSET.out.blk, own_base HSET.out.own (by have := BWr.out.size; have := hW0; omega)⟩⟩
                    case measure => simp [intOf]; omega
              exact AllReadyH.nil
            exact AllReadyH.nil
          exact AllReadyH.nil
        refine AllReadyH.cons rfl (fun K hK => ?_) ?_
        · have HS9 := hide HSs.out.alloc9
          rw [if_pos (by rfl)]
          go_simp
          refine hK.out _ _ ?_ (fun hHeld => ?_)
          · exact SH.out _ HS9.out.bel
          clear hK K
          try simp only [Act.put, List.getElem_toArray, List.getElem_cons_zero, List.getElem_cons_succ, List.setIfInBounds_toArray, List.set_cons_zero, List.set_cons_succ]
          generalize xs.alloc (Obj.cells #[Value.slice none 0 0] 26) = x9 at HS9 hHeld ⊢
          refine wpAnyH_ready (rs := [5]) (by kernel_rfl) (by simp) ?_
          refine AllReadyH.cons rfl (fun K hK => ?_) ?_
          · rw [if_pos (by rfl)]
            go_simp
            go_at_call 9
            refine (HDO.out _ (HONE.out.on HS9.out.bel).files).mono ?_
            rintro r x5 ⟨v5, rfl, ho5, hb5⟩
            obtain ⟨on, cn, rfl⟩ := own_form ho5
            have HS5 := hide ((HS9.out.on hb5).give (own_base ho5 HS9.out.bel.size))
            clear ho5 hb5
            try go_simp
            refine hK.out _ _ ?_ (fun hHeld => ?_)
            · exact SH.out _ HS5.out.bel
            clear hK K
            try simp only [Act.put, List.getElem_toArray, List.getElem_cons_zero, List.getElem_cons_succ, List.setIfInBounds_toArray, List.set_cons_zero, List.set_cons_succ]
            refine wpAnyH_take (i := 6) (v := ?_) rfl (by kernel_rfl) (by kernel_rfl) (by kernel_rfl) (fun _ _ _ h => h) (Or.inl ⟨by rfl, ?_⟩) (by assumption) ?_; rotate_left
            · (intro wz hSw; obtain ⟨s0, s1, s2, s3, s4⟩ := hSw; go_simp; first | done | with_reducible rfl)
            try simp only [Act.put, List.getElem_toArray, List.getElem_cons_zero, List.getElem_cons_succ, List.setIfInBounds_toArray, List.set_cons_zero, List.set_cons_succ]
            refine wpAnyH_take (i := 7) (v := ?_) rfl (by kernel_rfl) (by kernel_rfl) (by kernel_rfl) (fun _ _ _ h => h) (Or.inl ⟨by rfl, ?_⟩) (by assumption) ?_; rotate_left
            · (intro wz hSw; obtain ⟨s0, s1, s2, s3, s4⟩ := hSw; go_simp; first | done | with_reducible rfl)
            try simp only [Act.put, List.getElem_toArray, List.getElem_cons_zero, List.getElem_cons_succ, List.setIfInBounds_toArray, List.set_cons_zero, List.set_cons_succ]
            refine wpAnyH_take (i := 8) (v := ?_) rfl (by kernel_rfl) (by kernel_rfl) (by kernel_rfl) (fun _ _ _ h => h) (Or.inl ⟨by rfl, ?_⟩) (by assumption) ?_; rotate_left
            · (intro wz hSw; obtain ⟨s0, s1, s2, s3, s4⟩ := hSw; go_simp; first | done | with_reducible rfl)
            try simp only [Act.put, List.getElem_toArray, List.getElem_cons_zero, List.getElem_cons_succ, List.setIfInBounds_toArray, List.set_cons_zero, List.set_cons_succ]
            refine wpAnyH_ready (rs := [10]) (by kernel_rfl) (by simp) ?_
            refine AllReadyH.cons rfl (fun K hK => ?_) ?_
            · have hq := (HS5.out.h9 _ rfl).2
              have q0 := blk_cell hq 0 rfl
              have f0 := blk_free hq 0
              simp only [List.getElem_toArray, List.getElem_cons_zero] at q0
              have HFN := hide HS5.out.fin
              rw [if_pos (by rfl)]
              go_simp
              refine hK.out _ _ ?_ (fun hHeld => ?_)
              · exact SH.out _ HFN.out.1
              clear hK K
              try simp only [Act.put, List.getElem_toArray, List.getElem_cons_zero, List.getElem_cons_succ, List.setIfInBounds_toArray, List.set_cons_zero, List.set_cons_succ]
              clear hq q0 f0
              refine wpAnyH_ready (rs := [11]) (by kernel_rfl) (by simp) ?_
              refine AllReadyH.cons rfl (fun K hK => ?_) ?_
              · rw [if_pos (by rfl)]
                go_simp
                refine hK.out _ _ ?_ (fun hHeld => ?_)
                · exact hHeld
                clear hK K
                try simp only [Act.put, List.getElem_toArray, List.getElem_cons_zero, List.getElem_cons_succ, List.setIfInBounds_toArray, List.set_cons_zero, List.set_cons_succ]
                refine wpAnyH_done (by kernel_rfl) ?_ _
                clear hHeld SH
                generalize x5.setCell ⟨xs.heap.size, 0, none⟩ (Value.slice on D.length cn) = x10 at HFN ⊢
                generalize xs.heap.size = bn at HFN ⊢
                have hbqx10 := HFN.out.1
                have NX10 : Hid (KD x10 bn wr.heap.size (.slice on D.length cn) D) := hide HFN.out.2.1
                have hbn := HFN.out.2.2
                clear HFN
                have ONEx10 := hide (ONEr.out.on hbqx10)
                have a0 := (hbqx10.cell (p := ⟨bq, q, none⟩) hbq).trans a0
                have a1 := (hbqx10.cell (p := ⟨bq, q + 1, none⟩) hbq).trans a1
                have a2 := (hbqx10.cell (p := ⟨bq, q + 2, none⟩) hbq).trans a2
                have hbq := Nat.lt_of_lt_of_le hbq hbqx10.size
                have BWx10 := hide (BWr.out.trans (hbqx10.mono BWr.out.size))
                clear hbqx10
                go_wp2_with fail
                refine wp_region_in (F := (fun w' => Below x10.heap.size x10 w')) (by kernel_rfl) (by kernel_rfl) (Below.refl _ _).drew ?_
                have hne : Nonempty (InW (fun w' => Below x10.heap.size x10 w')) := ⟨⟨_, Below.refl _ _⟩⟩
                have k0 : ∀ m : InW (fun w' => Below x10.heap.size x10 w'), m.w.cell? ⟨W0.heap.size, 0, none⟩ = some (.slice ov gs.length cv) := fun m => (m.h.cell (by simpa using ONEx10.out.lt)).trans ONEx10.out.cell
                have k1 : ∀ m : InW (fun w' => Below x10.heap.size x10 w'), m.w.cell? ⟨bq, q + 1, none⟩ = some (.string ⟨a.name.toArray⟩) := fun m => (m.h.cell (p := ⟨bq, q + 1, none⟩) hbq).trans a1
                have HATW := hide (show ∀ m : InW (fun w' => Below x10.heap.size x10 w'), FilesAt m.w ov gs.length cv gs from fun m => (ONEx10.out.on m.h).files)
                repeat (go_big_quiet_step (first | (go_at_call 10; refine (implFileAt_any ov gs.length cv gs a.name _ (HATW.out _) HGF.out).mono ?_; rintro r w9 ⟨rfl, hb9⟩; exact ⟨rfl, ⟨w9, Below.trans (InW.h _) (hb9.mono (Below.size (InW.h (F := (fun w' => Below x10.heap.size x10 w')) ‹_›)))⟩, rfl⟩)))
                refine wpQuiet_nil ?_
                intro _ hw'
                obtain ⟨nq, hw''⟩ := hw'
                subst hw''
                have hbqx15 := nq.h
                generalize nq.w = x15 at hbqx15 ⊢
                clear hne k0 k1 HATW
                have NXx15 := hide (NX10.out.on hbqx15)
                have ONEx15 := hide (ONEx10.out.on hbqx15)
                have a0 := (hbqx15.cell (p := ⟨bq, q, none⟩) hbq).trans a0
                have a1 := (hbqx15.cell (p := ⟨bq, q + 1, none⟩) hbq).trans a1
                have a2 := (hbqx15.cell (p := ⟨bq, q + 2, none⟩) hbq).trans a2
                have hbq := Nat.lt_of_lt_of_le hbq hbqx15.size
                have BWx15 := hide (BWx10.out.trans (hbqx15.mono BWx10.out.size))
                clear hbqx15
                go_wp2_with fail
                refine wp_region_in (F := (fun w' => Below x15.heap.size x15 w')) (by kernel_rfl) (by kernel_rfl) (Below.refl _ _).drew ?_
                have hne : Nonempty (InW (fun w' => Below x15.heap.size x15 w')) := ⟨⟨_, Below.refl _ _⟩⟩
                have k0 : ∀ m : InW (fun w' => Below x15.heap.size x15 w'), m.w.cell? ⟨bn, 0, none⟩ = some (.slice on D.length cn) := fun m => (m.h.cell (by simpa using NXx15.out.lt)).trans NXx15.out.cell
                have k1 : ∀ m : InW (fun w' => Below x15.heap.size x15 w'), m.w.cell? ⟨bq, q + 1, none⟩ = some (.string ⟨a.name.toArray⟩) := fun m => (m.h.cell (p := ⟨bq, q + 1, none⟩) hbq).trans a1
                have HATW := hide (show ∀ m : InW (fun w' => Below x15.heap.size x15 w'), FilesAt m.w on D.length cn D from fun m => (NXx15.out.on m.h).files)
                repeat (go_big_quiet_step (first | (go_at_call 10; refine (implFileAt_any on D.length cn D a.name _ (HATW.out _) HDF.out).mono ?_; rintro r w9 ⟨rfl, hb9⟩; exact ⟨rfl, ⟨w9, Below.trans (InW.h _) (hb9.mono (Below.size (InW.h (F := (fun w' => Below x15.heap.size x15 w')) ‹_›)))⟩, rfl⟩)))
                refine wpQuiet_nil ?_
                intro _ hw'
                obtain ⟨nq, hw''⟩ := hw'
                subst hw''
                have hbqx16 := nq.h
                generalize nq.w = x16 at hbqx16 ⊢
                clear hne k0 k1 HATW
                have NXx16 := hide (NXx15.out.on hbqx16)
                have ONEx16 := hide (ONEx15.out.on hbqx16)
                have a0 := (hbqx16.cell (p := ⟨bq, q, none⟩) hbq).trans a0
                have a1 := (hbqx16.cell (p := ⟨bq, q + 1, none⟩) hbq).trans a1
                have a2 := (hbqx16.cell (p := ⟨bq, q + 2, none⟩) hbq).trans a2
                have hbq := Nat.lt_of_lt_of_le hbq hbqx16.size
                have BWx16 := hide (BWx15.out.trans (hbqx16.mono BWx15.out.size))
                clear hbqx16
                have nx := NXx16.out.cell
                have n1 := ONEx16.out.cell
                have n2 := ONEx16.out.free
                have HSET := hide (ONEx16.out.set NXx16.out.own)
                have bset := BWx16.out.setCell (p := ⟨W0.heap.size, 0, none⟩) (by simp) (Value.slice on D.length cn)
                have HBS := hide bset
                clear bset
                by_cases hk1 : a.kind = 1
                · obtain ⟨hh1, hh2⟩ := act_add HAL.out hk1
                  have HH2 := hide hh2
                  have g1 : (a.kind == 1) = true := by simpa using hk1
                  have g2 : (a.kind == 4) = false := by rw [beq_eq_false_iff_ne]; omega
                  have hsum : ¬ (9223372036854775807 < (textAt gs a.name).length + a.text.length) := by have := HTL.out; have := HAX.out.2.1; omega
                  have hcat : (⟨(textAt gs a.name).toArray⟩ : ByteArray) ++ ⟨a.text.toArray⟩ = ⟨(textAt D a.name).toArray⟩ := by rw [HH2.out]; exact cat_two _ _
                  rw [hh1]
                  clear hh1 hh2 hk1
                  go_wp2_with fail
                  go_roundw
                  case rel => exact ⟨j + 1, D, on, cn, by go_num, by omega, HSO2.out, HDF.out, HBS.out, ⟨HSET.out.blk, own_base HSET.out.own (by have := BWr.out.size; have := hW0; omega)⟩⟩
                  case measure => simp [intOf]; omega
                · have g1 : (a.kind == 1) = false := by rw [beq_eq_false_iff_ne]; exact hk1
                  by_cases hk4 : a.kind = 4
                  · have hh4 := act_drop HAL.out hk4
                    have g2 : (a.kind == 4) = true := by simpa using hk4
                    rw [hh4]
                    clear hh4 hk4 hk1
                    go_wp2_with fail
                    go_roundw
                    case rel => exact ⟨j + 1, D, on, cn, by go_num, by omega, HSO2.out, HDF.out, HBS.out, ⟨HSET.out.blk, own_base HSET.out.own (by have := BWr.out.size; have := hW0; omega)⟩⟩
                    case measure => simp [intOf]; omega
                  · have g2 : (a.kind == 4) = false := by rw [beq_eq_false_iff_ne]; exact hk4
                    clear hk4 hk1
                    go_wp2_with fail
                    go_roundw
                    case rel => exact ⟨j + 1, D, on, cn, by go_num, by omega, HSO2.out, HDF.out, HBS.out, ⟨HSET.out.blk, own_base HSET.out.own (by have := BWr.out.size; have := hW0; omega)⟩⟩
                    case measure => simp [intOf]; omega
              exact AllReadyH.nil
            exact AllReadyH.nil
          exact AllReadyH.nil
        exact AllReadyH.nil
      · obtain rfl : j = n := by omega
        have hge : gs = F := (acts_end HSO.out HNE.out).trans HFE.out
        subst hge
        have j1 : decide ((j : Int) < (j : Int)) = false := by simp
        have Dr := hide (D7.out.on BWr.out)
        have Ar := hide (A7.out.below BWr.out)
        have Lr := hide (L7.out.below BWr.out)
        have Nr := hide (N7.out.on BWr.out)
        have Br := hide (B7.out.trans (BWr.out.mono B7.out.size))
        have dr := Dr.out.cell
        obtain ⟨C, hC⟩ : ∃ C, (cutD fs acs ix l).1 = C := ⟨_, rfl⟩
        obtain ⟨may, hmay⟩ : ∃ may, (cutD fs acs ix l).2 = may := ⟨_, rfl⟩
        have hCl : C.length ≤ 1048576 := by
          have h := cutD_size fs acs ix l
          rw [hC] at h
          omega
        have HCI0 := fun w hat hbt hct => implCutActs_opt od fs.length cd fs gB acs.length cB acs ix ol l.length cl l w hat HFF.out hbt HAF.out hct (by omega) (by omega) (by omega)
        have HCS0 := fun w hat hbt hct => specCutActs_opt od fs.length cd fs gB acs.length cB acs ix ol l.length cl l w hat HFF.out hbt HAF.out hct (by omega) (by omega) (by omega)
        unfold DiskRes at HCI0 HCS0
        rw [hC, hmay] at HCI0 HCS0
        have HCI := hide HCI0
        have HCS := hide HCS0
        clear HCI0 HCS0 hC hmay D7 A7 L7 N7 HIM HSP
        go_wp2_with fail
        refine (HCI.out _ Dr.out.files Ar.out Lr.out).mono ?_
        rintro r y1 ⟨vC, rfl, hoC, hb1⟩
        obtain ⟨oC, cC, rfl⟩ := own_form hoC
        have D1 := hide (Dr.out.on hb1)
        have A1 := hide (Ar.out.below hb1)
        have L1 := hide (Lr.out.below hb1)
        have N1 := hide (Nr.out.on hb1)
        have O1 := hide (ONEr.out.on hb1)
        have B1 := hide (Br.out.trans (hb1.mono Br.out.size))
        have HOC := hide (own_base hoC (base' := w.heap.size) Br.out.size)
        have c1 := D1.out.cell
        have l1 := D1.out.lt
        clear hb1 hoC Dr Ar Lr Nr Br dr ONEr HCI
        go_wp2_with fail
        have hal2 := (Below.refl y1.heap.size y1).alloc (Nat.le_refl _) (.cells #[.slice oC C.length cC] 26)
        have D2 := hide (D1.out.on hal2)
        have A2 := hide (A1.out.below hal2)
        have L2 := hide (L1.out.below hal2)
        have N2 := hide (N1.out.on hal2)
        have O2 := hide (O1.out.on hal2)
        have B2' := hide (B1.out.trans (hal2.mono B1.out.size))
        have C2 := hide (KD.new HOC.out)
        clear hal2 D1 A1 L1 N1 O1 HOC c1 l1
        refine (HCS.out _ D2.out.files A2.out L2.out).mono ?_
        rintro r y3 ⟨vE, rfl, hoE, hb3⟩
        obtain ⟨oE, cE, rfl⟩ := own_form hoE
        have N3 := hide (N2.out.on hb3)
        have O3 := hide (O2.out.on hb3)
        have B3' := hide (B2'.out.trans (hb3.mono B2'.out.size))
        have C3 := hide (C2.out.on hb3)
        have HOE := hide (own_base hoE (base' := w.heap.size) B2'.out.size)
        have c3 := C3.out.cell
        have l3 := C3.out.lt
        clear hb3 hoE D2 A2 L2 N2 O2 C2 HCS
        go_wp2_with fail
        have hal4 := (Below.refl y3.heap.size y3).alloc (Nat.le_refl _) (.cells #[.slice oE C.length cE] 26)
        have N4 := hide (N3.out.on hal4)
        have O4 := hide (O3.out.on hal4)
        have B4' := hide (B3'.out.trans (hal4.mono B3'.out.size))
        have C4 := hide (C3.out.on hal4)
        have E4 := hide (KD.new HOE.out)
        clear hal4 N3 O3 C3 HOE c3 l3
        refine (sameDisk_same oC C.length cC oE cE C hCl _ C4.out.files E4.out.files).mono ?_
        rintro r y5 ⟨rfl, hb5⟩
        have N5 := hide (N4.out.on hb5)
        have O5 := hide (O4.out.on hb5)
        have B5' := hide (B4'.out.trans (hb5.mono B4'.out.size))
        have n5 := N5.out.cell
        have o5 := O5.out.cell
        clear hb5 N4 O4 C4 E4
        by_cases hj0 : j = 0
        · have z0 : ((j : Int) == 0) = true := by simpa using hj0
          go_wp2_with fail
          go_ret
          exact ⟨rfl, B5'.out⟩
        · have z0 : ((j : Int) == 0) = false := by rw [beq_eq_false_iff_ne]; omega
          go_wp2_with fail
          refine (sameDisk_same ov gs.length cv oN cN gs hFl _ O5.out.files N5.out.files).mono ?_
          rintro r y6 ⟨rfl, hb6⟩
          have B6' := hide (B5'.out.trans (hb6.mono B5'.out.size))
          go_wp2_with fail
          go_ret
          exact ⟨rfl, B6'.out⟩

end Go.Proofs.Ytdcdlfkbdeogeaa
