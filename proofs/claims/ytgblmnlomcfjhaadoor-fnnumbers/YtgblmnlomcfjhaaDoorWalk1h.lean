/-
  Walks of chapter 1: Unhex of the program.
-/
import Derived.Test.YtgblmnlomcfjhaaDoorWalk1g
namespace Go.Proofs.YtgblmnlomcfjhaaDoor
open Go.RowKit P1 K
set_option linter.unusedVariables false

/-- What the loops of Unhex carry. -/
def UhRel (s : ByteArray) (w : World) (k : Nat) (wr : World) : Prop :=
  k ≤ s.size ∧ hexTo (bl s) k ∧ wr.ownsRow w.heap.size 5 1 (.slice (some ⟨w.heap.size, 0, none⟩) (s.size / 2) (s.size / 2)) (s.size / 2) (B8 (uhRow (bl s) k (s.size / 2))) ∧ Below w.heap.size w wr

theorem UhRel.drewN {s : ByteArray} {w : World} {k : Nat} {wr : World} (h : UhRel s w k wr) (q : Nat) : UhRel s w k (wr.drewN q) :=
  ⟨h.1, h.2.1, h.2.2.1, below_drewN h.2.2.2 q⟩

theorem UhRel.cell {s : ByteArray} {w : World} {k : Nat} {wr : World} (h : UhRel s w k wr) (hk : k < s.size) (he : s.size % 2 = 0) :
    wr.cell? ⟨w.heap.size, k / 2, none⟩ = some (.int .u8 ((uhCell (bl s) k (k / 2)).toNat : Int)) ∧ wr.frozen? ⟨w.heap.size, k / 2, none⟩ = false := by
  obtain ⟨_, _, hown, _⟩ := h
  refine ⟨?_, hown.frozenAt _⟩
  rw [hown.cellAt (k / 2) (by omega)]
  have : k / 2 < s.size / 2 := by omega
  simp [B8, uhRow, this]

theorem UhRel.step {s : ByteArray} {w : World} {k : Nat} {wr : World} (h : UhRel s w k wr) (hk : k < s.size) (he : s.size % 2 = 0) (v : Nat) (hv : hexV s[k].toNat = some v) (x : Int) (hx : x = ((uhCell (bl s) k (k / 2)).toNat : Int) * 16 + (v : Int)) :
    UhRel s w (k + 1) (wr.setCell ⟨w.heap.size, k / 2, none⟩ (.int .u8 x)) := by
  obtain ⟨h1, h2, hown, hbel⟩ := h
  have hg := bl_getD s k hk
  have hu : uhv (bl s) k = v := uhv_eq (by rw [hg]; exact hv)
  have hc := uhCell_toNat_at (bl s) k
  rw [hu] at hc
  refine ⟨by omega, hexTo_succ h2 (by rw [hg, hv]; simp), ?_, hbel.setCell (Nat.le_refl _) _⟩
  have hst := hown.stored (k / 2) (.int .u8 x)
  rw [← uhRow_step (bl s) k (s.size / 2) _ rfl]
  have e : (B8 (uhRow (bl s) k (s.size / 2))).set (k / 2) (.int .u8 x) = B8 ((uhRow (bl s) k (s.size / 2)).set (k / 2) (uhCell (bl s) (k + 1) (k / 2))) := by
    unfold B8
    rw [List.map_set]
    congr 2
    rw [hx]; omega
  rw [← e]
  exact hst.1

set_option maxRecDepth 10000 in
set_option maxHeartbeats 1000000 in
theorem implUnhex_yes (s : ByteArray) (hs : s.size ≤ 40000) (he : s.size % 2 = 0) (w : World) :
    Calls Tryd.prog 19 #[.string s] w fun e w' => (∃ v, e = .returned v ∧ uhVal (bl s) v) ∧ Below w.heap.size w w' := by
  have g2 : ((s.size : Int) % 2 != 0) = false := by simp; omega
  have g1 : ¬ ((40000 : Int) < (s.size : Int)) := by omega
  have E := hide he
  clear he
  obtain ⟨i0, hi, hz0, hz1, hz2⟩ := info_parts infoByte
  go_enter Tryd.func19, Tryd.ntmps19
  go_wp2_with fail
  go_step3
  go_wp2_with (at_make; refine wpList_make_full _ rfl _ _ 22 rfl w.heap.size 5 i0 (.int .u8 0) 1 Tryd.underlying22 hi hz0 hz1 _ _ _ _ (s.size / 2) rfl rfl (by omega) (by omega) (by rw [hz2]; omega) (by unfold maxLen; omega) (Nat.le_refl _) ?_)
  intro w1 hown0 hgrow0
  have hbel0 : Below w.heap.size w w1 := (Below.refl _ _).grown hgrow0 (Nat.le_refl _) (by intro k hk; cases hk)
  have R0 : UhRel s w 0 w1 := by
    refine ⟨Nat.zero_le _, fun j hj => by omega, ?_, hbel0⟩
    have hz : (madeCells #[Value.int .u8 0] (s.size / 2)).toList = B8 (uhRow (bl s) 0 (s.size / 2)) := by
      rw [toList_madeCells_one, uhRow_zero]; simp [B8]
    rw [← hz]; exact hown0
  clear hgrow0 hown0 hbel0
  go_wp2_with fail
  go_step3
  go_wp2_with fail
  go_loopw [22] (fun i wr => ∃ k : Nat, i = .int .i64 k ∧ UhRel s w k wr) (fun i _ => s.size - (intOf i).toNat)
  case atStart => exact ⟨0, rfl, R0⟩
  case round =>
    obtain ⟨k, rfl, hr⟩ := hrel
    clear R0
    have hk0 := hr.1
    by_cases hlt : k < s.size
    · have hb := s[k].toNat_lt
      go_wp2_with fail
      go_loopw [25] (fun j wx => ∃ u : Nat, j = .int .i64 u ∧ u ≤ 16 ∧ (∀ t, t < u → s[k].toNat ≠ (figB t).toNat) ∧ UhRel s w k wx) (fun j _ => 16 - (intOf j).toNat)
      case atStart => exact ⟨0, rfl, Nat.zero_le _, fun t ht => by omega, hr⟩
      case round =>
        obtain ⟨u, rfl, hu, hmiss, hrx⟩ := hrel
        have HM := hide hmiss
        clear hmiss hr
        by_cases hu16 : u < 16
        · have hx1 := idx_any s .i64 k hlt
          have hx2 := idx_hex .i64 u hu16
          by_cases hit : s[k].toNat = (figB u).toNat
          · have hv := hide ((hexV_fig (b := s[k]) hu16).1 hit)
            have q : (((s[k].toNat : Nat) : Int) == (((figB u).toNat : Nat) : Int)) = true := by rw [hit]; simp
            clear hit
            go_wp2_with fail
            go_quiet (fail)
            have hc := hrx.cell hlt E.out
            obtain ⟨hc1, hc2⟩ := hc
            have hcc := (uhCell_toNat_at (bl s) k).1
            have hstep := (hrx.drewN nq).step hlt E.out u hv.out _ rfl
            have kh : (k : Int) / 2 < (s.size : Int) / 2 := by have := E.out; omega
            have hcb : ((uhCell (bl s) k (k / 2)).toNat : Int) * 16 + (u : Int) < 256 := by rw [uhv_eq (l := bl s) (j := k) (v := u) (by rw [bl_getD s k hlt]; exact hv.out)] at hcc; omega
            clear hcc hrx
            go_wp2_with fail
            exact ⟨⟨k + 1, by go_num, hstep⟩, by simp [intOf]; omega⟩
          · have q : (((s[k].toNat : Nat) : Int) == (((figB u).toNat : Nat) : Int)) = false := by rw [beq_eq_false_iff_ne]; omega
            have hm2 : ∀ t, t < u + 1 → s[k].toNat ≠ (figB t).toNat := by
              intro t ht
              by_cases e : t = u
              · subst e; exact hit
              · exact HM.out t (by omega)
            have HM2 := hide hm2
            clear hit hm2
            go_wp2_with fail
            go_quiet (fail)
            have hry := hrx.drewN nq
            clear hrx
            go_wp2_with fail
            go_roundw
            case rel => exact ⟨u + 1, by go_num, by omega, HM2.out, hry⟩
            case measure => simp [intOf]; omega
        · have hn : Hid (¬ hexTo (bl s) (bl s).length) := by
            intro h
            have h1 := h k (by rw [bl_length]; exact hlt)
            rw [bl_getD s k hlt] at h1
            cases h2 : hexV s[k].toNat with
            | none => exact h1 h2
            | some v =>
              have hv := hexV_lt h2
              exact HM.out v (by omega) ((hexV_fig (b := s[k]) hv).2 h2)
          have hbel := hrx.2.2.2
          clear hrx
          go_wp2_with fail
          rw [Exit.noGoto_ret]
          go_ret2
          exact ⟨⟨_, rfl, .inr ⟨hn.out, rfl⟩⟩, hbel⟩
    · obtain ⟨h1, h2, hown, hbel⟩ := hr
      have ek : k = s.size := by omega
      subst ek
      rw [uhRow_full (bl s) s.size (s.size / 2) (by omega)] at hown
      have H2 := hide h2
      have hconv := run_string_own (P := Tryd.prog) (src := 22) (dst := 9) Tryd.underlying22 Tryd.underlying5 Tryd.underlying9 hown
      clear hown h2 h1
      go_wp2_with fail
      rw [Exit.noGoto_ret]
      go_ret2
      exact ⟨⟨_, rfl, .inl ⟨by rw [bl_length]; exact H2.out, by rw [bl_length]; rfl⟩⟩, hbel⟩

end Go.Proofs.YtgblmnlomcfjhaaDoor
