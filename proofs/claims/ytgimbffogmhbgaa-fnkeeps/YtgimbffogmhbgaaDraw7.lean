/-
  Draws of chapter 3: a right disk, drawn.
-/
import Derived.Test.YtgimbffogmhbgaaDraw6
import Derived.Test.YtgimbffogmhbgaaHeldMore
namespace Go.Proofs.Ytgimbffogmhbgaa
open Go.RowKit P5 K
attribute [local go_sem ↓] Go.wp_at_zero Go.wp_at_succ
set_option linter.unusedVariables false
set_option linter.unusedSimpArgs false

theorem boxed_cell {w : World} {b : Nat} {t : TypeId} {v : Value} (h : Boxed w b t v) : w.cell? ⟨b, 0, none⟩ = some v ∧ w.frozen? ⟨b, 0, none⟩ = false :=
  ⟨by rw [cell_of_row w b 0 _ _ _ h]; rfl, by unfold Boxed at h; simp [World.frozen?, h]⟩

theorem RDisk.size {B p Kd : Nat} {a : Option Addr} {len cap : Nat} {w : World} {gs : List FileV} {ov : Option Addr} {cv : Nat} {w1 : World} (h : RDisk B p Kd a len cap w gs ov cv w1) : B ≤ w1.heap.size := Nat.le_trans h.hB h.bel.size

theorem RDisk.files {B p Kd : Nat} {a : Option Addr} {len cap : Nat} {w : World} {gs : List FileV} {ov : Option Addr} {cv : Nat} {w1 : World} (h : RDisk B p Kd a len cap w gs ov cv w1) : FilesAt w1 ov gs.length cv gs := by
  obtain ⟨_, _, he, hat⟩ := filesAt_of_own h.own
  cases he
  exact hat

theorem l03Put_flat (oa : Option Addr) (n cap : Nat) (fs : List FileV) (nm tx : List UInt8) (kp : Int) (w : World) (hat : FilesAt w oa n cap fs) (hn20 : n ≤ 1048576) :
    Calls Try.prog 33 #[.agg #[.slice oa n cap], .agg #[.string ⟨nm.toArray⟩, .string ⟨tx.toArray⟩, .int .i64 kp]] w fun e w' => DiskOne w (put fs ⟨nm, tx, kp⟩) e w' :=
  l03Put_any oa n cap fs ⟨nm, tx, kp⟩ w hat hn20

/-- All texts are short. -/
def Short30 (gs : List FileV) : Prop := ∀ f ∈ gs, f.text.length ≤ 30

theorem put_text {gs : List FileV} {nm tx : List UInt8} {k : Int} (h : Short30 gs) (ht : tx.length ≤ 30) : Short30 (put gs ⟨nm, tx, k⟩) := by
  intro f hf
  rcases mem_put hf with rfl | hf
  · exact ht
  · exact h f hf

set_option maxHeartbeats 4000000 in
theorem drawRightDisk_any (a : Option Addr) (len cap : Nat) (hlen : len ≤ 1048576) (w : World) (hcode : CodeAt w.heap.size w a len) :
    Calls Try.prog 11 #[.slice a len cap] w fun e w' => ∃ gs : List FileV, diskOk gs = true ∧ gs.length ≤ 6 ∧ Short30 gs ∧ DiskOne w gs e w' := by
  obtain ⟨B, hBd⟩ : ∃ B, w.heap.size = B := ⟨_, rfl⟩
  have hB0 : B ≤ w.heap.size := by omega
  have HC := hide (show CodeAt B (w.alloc (.cells #[.slice none 0 0] 29)) a len by rw [← hBd]; exact hcode.below ((Below.refl _ _).alloc (Nat.le_refl _) _))
  have HBd := hide hBd
  clear hcode hBd
  go_enter Try.func11, Try.ntmps11
  go_wp2_with fail
  refine (l01New_any B a len cap _ hlen (by simp; omega) HC.out).mono ?_
  rintro e w1 ⟨rfl, hc1, hb1⟩
  have hres1 : Boxed w1 w.heap.size 29 (.slice none 0 0) := (hb1.block _ (by simp)).trans (Boxed.new w _ _)
  have hbel1 : Below w.heap.size w w1 := ((Below.refl _ _).alloc (Nat.le_refl _) _).trans (hb1.mono (by simp))
  have s1 : w.heap.size + 1 < w1.heap.size := by have := hc1.lt; simpa using this
  have HC1 := hide hc1
  have HRES1 := hide hres1
  have HBEL1 := hide hbel1
  clear hc1 hb1 hres1 hbel1
  go_wp2_with fail
  have K1 := (Below.refl w1.heap.size w1).alloc (Nat.le_refl _) (.cells #[.slice none 0 0] 29)
  obtain ⟨p, hp⟩ : ∃ p, w.heap.size + 1 = p := ⟨_, rfl⟩
  obtain ⟨Kd, hKd⟩ : ∃ Kd, w1.heap.size = Kd := ⟨_, rfl⟩
  have HR0 : RDisk B p Kd a len cap w [] none 0 (w1.alloc (.cells #[.slice none 0 0] 29)) := by
    refine ⟨?_, HBEL1.out.alloc (by omega) _, (K1.block _ (by omega)).trans HRES1.out, ?_, World.ownsRow_nil _ _ _ _, by omega, by omega, hB0⟩
    · have := HC1.out.kept (K1.mono (by omega)) (K1.block _ (by simp; omega))
      rw [← hp]
      simpa using this
    · rw [← hKd]; exact Boxed.new w1 _ _
  have HR := hide HR0
  clear HR0 K1
  simp only [hp, hKd]
  have HKd := hide hKd
  have HPp := hide hp
  have hKp : p < Kd := by omega
  clear hp hKd
  go_loopw [5] (fun i wr => ∃ (j : Nat) (gs : List FileV) (ov : Option Addr) (cv : Nat), i = .int .i64 (j : Int) ∧ diskOk gs = true ∧ gs.length ≤ j ∧ j ≤ 6 ∧ Short30 gs ∧ RDisk B p Kd a len cap w gs ov cv wr) (fun i _ => 6 - (intOf i).toNat)
  case atStart => exact ⟨0, [], none, 0, rfl, rfl, Nat.le_refl _, by omega, fun f hf => by simp at hf, HR.out⟩
  case round =>
    obtain ⟨j, gs, ov, cv, rfl, hgs, hgl, hj66, htl, hR⟩ := hrel
    have HGS := hide hgs
    have HTL := hide htl
    have HRr := hide hR
    clear hgs htl hR
    go_wp2_with fail
    refine (l01Below_any B p a len cap 6 (by omega) (by omega) _ HRr.out.cur).mono ?_
    rintro e w2 ⟨x, hx, rfl, hc2, hg2⟩
    have HR2 := hide (HRr.out.drawn hc2 hg2)
    clear hc2 hg2 HRr
    by_cases hjx : j < x
    · have gjx : (j : Int) < (x : Int) := by omega
      have hj6 : j < 6 := by omega
      go_wp2_with fail
      refine (l01Below_any B p a len cap 30 (by omega) (by omega) _ HR2.out.cur).mono ?_
      rintro e w3 ⟨tl, htl30, rfl, hc3, hg3⟩
      have HR3 := hide (HR2.out.drawn hc3 hg3)
      clear hc3 hg3 HR2
      go_wp2_with fail
      refine (l01Text_any B p a len cap tl (by omega) _ HR3.out.size HR3.out.cur).mono ?_
      rintro e w4 ⟨tx, htx, rfl, hc4, hg4⟩
      have HD0 := hide ((HR3.out.drawn hc4 hg4).undrew)
      have HTX := hide (show tx.length ≤ 30 by omega)
      have hbl := fun w hc => l01Below_any B p a len cap (tx.length + 1) (by omega) (by omega) w hc
      have e1 : ((tx.length + 1 : Nat) : Int) = (tx.length : Int) + 1 := by omega
      rw [e1] at hbl
      have HBL := hide hbl
      have hwr : IntKind.i64.wrap ((tx.length : Int) + 1) = (tx.length : Int) + 1 := by rw [IntKind.wrap_i64]; omega
      clear hc4 hg4 HR3 htx e1 hbl
      go_wp2_with fail
      refine wp_region_held_drew (S := fun _ => True) (by kernel_rfl) trivial (fun hHeld => ?_)
      refine wpAnyH_take (i := 1) (v := ?_) rfl (by kernel_rfl) (by kernel_rfl) (by kernel_rfl) (fun _ _ _ h => h) (Or.inl ⟨by rfl, ?_⟩) (by assumption) ?_; rotate_left
      · (intro w hSw; (try dsimp only at hSw); go_simp; first | done | with_reducible rfl)
      try simp only [Act.put, List.setIfInBounds_toArray, List.set_cons_zero, List.set_cons_succ]
      refine wpAnyH_take (i := 3) (v := ?_) rfl (by kernel_rfl) (by kernel_rfl) (by kernel_rfl) (fun _ _ _ h => h) (Or.inl ⟨by rfl, ?_⟩) (by assumption) ?_; rotate_left
      · (intro w hSw; (try dsimp only at hSw); go_simp; first | done | with_reducible rfl)
      try simp only [Act.put, List.setIfInBounds_toArray, List.set_cons_zero, List.set_cons_succ]
      refine wpAnyH_take (i := 4) (v := ?_) rfl (by kernel_rfl) (by kernel_rfl) (by kernel_rfl) (fun _ _ _ h => h) (Or.inl ⟨by rfl, ?_⟩) (by assumption) ?_; rotate_left
      · (intro w hSw; (try dsimp only at hSw); go_simp; first | done | with_reducible rfl)
      try simp only [Act.put, List.setIfInBounds_toArray, List.set_cons_zero, List.set_cons_succ]
      refine wpAnyH_take (i := 5) (v := ?_) rfl (by kernel_rfl) (by kernel_rfl) (by kernel_rfl) (fun _ _ _ h => h) (Or.inl ⟨by rfl, ?_⟩) (by assumption) ?_; rotate_left
      · (intro w hSw; (try dsimp only at hSw); go_simp; first | done | with_reducible rfl)
      try simp only [Act.put, List.setIfInBounds_toArray, List.set_cons_zero, List.set_cons_succ]
      refine wpAnyH_take (i := 6) (v := ?_) rfl (by kernel_rfl) (by kernel_rfl) (by kernel_rfl) (fun _ _ _ h => h) (Or.inl ⟨by rfl, ?_⟩) (by assumption) ?_; rotate_left
      · (intro w hSw; (try dsimp only at hSw); go_simp; first | done | with_reducible rfl)
      try simp only [Act.put, List.setIfInBounds_toArray, List.set_cons_zero, List.set_cons_succ]
      refine wpAnyH_take (i := 7) (v := ?_) rfl (by kernel_rfl) (by kernel_rfl) (by kernel_rfl) (fun _ _ _ h => h) (Or.inl ⟨by rfl, ?_⟩) (by assumption) ?_; rotate_left
      · (intro w hSw; (try dsimp only at hSw); go_simp; first | done | with_reducible rfl)
      try simp only [Act.put, List.setIfInBounds_toArray, List.set_cons_zero, List.set_cons_succ]
      refine wpAnyH_ready (rs := [0, 2]) (by kernel_rfl) (by simp) ?_
      refine AllReadyH.cons rfl (fun K hK => ?_) ?_
      · have hcd := (boxed_cell HD0.out.out).1
        rw [if_pos (by rfl)]
        go_simp
        refine hK.out _ _ ?_ (fun hHeld => ?_)
        · trivial
        clear hK K
        try simp only [Act.put, List.setIfInBounds_toArray, List.set_cons_zero, List.set_cons_succ]
        clear hcd
        refine wpAnyH_ready (rs := [2]) (by kernel_rfl) (by simp) ?_
        refine AllReadyH.cons rfl (fun K hK => ?_) ?_
        · rw [if_pos (by rfl)]
          go_simp
          go_at_call 34
          refine (l03Named_any B p a len cap _ HD0.out.size HD0.out.cur).mono ?_
          rintro r w12 ⟨nm, hnm, rfl, hc12, hg12⟩
          have HD2 := hide (HD0.out.drawn hc12 hg12)
          have HNM := hide hnm
          clear hc12 hg12 hnm
          try go_simp
          refine hK.out _ _ ?_ (fun hHeld => ?_)
          · trivial
          clear hK K
          try simp only [Act.put, List.setIfInBounds_toArray, List.set_cons_zero, List.set_cons_succ]
          refine wpAnyH_ready (rs := [8]) (by kernel_rfl) (by simp) ?_
          refine AllReadyH.cons rfl (fun K hK => ?_) ?_
          · rw [if_pos (by rfl)]
            go_simp
            go_at_call 31
            refine (HBL.out _ HD2.out.cur).mono ?_
            rintro r w18 ⟨kp, hkp, rfl, hc18, hg18⟩
            have HD8 := hide (HD2.out.drawn hc18 hg18)
            have HKP := hide hkp
            clear hc18 hg18 hkp
            try go_simp
            refine hK.out _ _ ?_ (fun hHeld => ?_)
            · trivial
            clear hK K
            try simp only [Act.put, List.setIfInBounds_toArray, List.set_cons_zero, List.set_cons_succ]
            refine wpAnyH_take (i := 9) (v := ?_) rfl (by kernel_rfl) (by kernel_rfl) (by kernel_rfl) (fun _ _ _ h => h) (Or.inl ⟨by rfl, ?_⟩) (by assumption) ?_; rotate_left
            · (intro w hSw; (try dsimp only at hSw); go_simp; first | done | with_reducible rfl)
            try simp only [Act.put, List.setIfInBounds_toArray, List.set_cons_zero, List.set_cons_succ]
            refine wpAnyH_ready (rs := [10]) (by kernel_rfl) (by simp) ?_
            refine AllReadyH.cons rfl (fun K hK => ?_) ?_
            · rw [if_pos (by rfl)]
              go_simp
              go_at_call 33
              have hput := l03Put_flat ov gs.length cv gs nm tx (kp : Int) _ HD8.out.files (by omega)
              refine hput.mono ?_
              clear hput
              rintro r w20 ⟨v20, rfl, ho20, hb20⟩
              obtain ⟨ov2, cv2, rfl⟩ := own_form ho20
              have HO20 := hide ho20
              have HDP := hide (HD8.out.put hb20 ho20)
              have HD20 := hide (HD8.out.on hb20)
              clear ho20 hb20
              try go_simp
              refine hK.out _ _ ?_ (fun hHeld => ?_)
              · trivial
              clear hK K
              try simp only [Act.put, List.setIfInBounds_toArray, List.set_cons_zero, List.set_cons_succ]
              refine wpAnyH_ready (rs := [11]) (by kernel_rfl) (by simp) ?_
              refine AllReadyH.cons rfl (fun K hK => ?_) ?_
              · have hcd := (boxed_cell HD20.out.out).1
                have hfz := (boxed_cell HD20.out.out).2
                rw [if_pos (by rfl)]
                go_simp
                refine hK.out _ _ ?_ (fun hHeld => ?_)
                · trivial
                clear hK K
                try simp only [Act.put, List.setIfInBounds_toArray, List.set_cons_zero, List.set_cons_succ]
                clear hcd hfz
                refine wpAnyH_done (by kernel_rfl) ?_ _
                have R := put_right HGS.out (file_right HNM.out HTX.out HKP.out) hgl hj6
                go_wp2_with fail
                go_roundw
                case rel => exact ⟨j + 1, put gs ⟨nm, tx, (kp : Int)⟩, ov2, cv2, by go_num, R.1, R.2, by omega, put_text HTL.out HTX.out, HDP.out⟩
                case measure => simp [intOf]; omega
              exact AllReadyH.nil
            exact AllReadyH.nil
          exact AllReadyH.nil
        exact AllReadyH.nil
      refine AllReadyH.cons rfl (fun K hK => ?_) ?_
      · rw [if_pos (by rfl)]
        go_simp
        go_at_call 34
        refine (l03Named_any B p a len cap _ HD0.out.size HD0.out.cur).mono ?_
        rintro r w12 ⟨nm, hnm, rfl, hc12, hg12⟩
        have HD2 := hide (HD0.out.drawn hc12 hg12)
        have HNM := hide hnm
        clear hc12 hg12 hnm
        try go_simp
        refine hK.out _ _ ?_ (fun hHeld => ?_)
        · trivial
        clear hK K
        try simp only [Act.put, List.setIfInBounds_toArray, List.set_cons_zero, List.set_cons_succ]
        refine wpAnyH_ready (rs := [0, 8]) (by kernel_rfl) (by simp) ?_
        refine AllReadyH.cons rfl (fun K hK => ?_) ?_
        · have hcd := (boxed_cell HD2.out.out).1
          rw [if_pos (by rfl)]
          go_simp
          refine hK.out _ _ ?_ (fun hHeld => ?_)
          · trivial
          clear hK K
          try simp only [Act.put, List.setIfInBounds_toArray, List.set_cons_zero, List.set_cons_succ]
          clear hcd
          refine wpAnyH_ready (rs := [8]) (by kernel_rfl) (by simp) ?_
          refine AllReadyH.cons rfl (fun K hK => ?_) ?_
          · rw [if_pos (by rfl)]
            go_simp
            go_at_call 31
            refine (HBL.out _ HD2.out.cur).mono ?_
            rintro r w18 ⟨kp, hkp, rfl, hc18, hg18⟩
            have HD8 := hide (HD2.out.drawn hc18 hg18)
            have HKP := hide hkp
            clear hc18 hg18 hkp
            try go_simp
            refine hK.out _ _ ?_ (fun hHeld => ?_)
            · trivial
            clear hK K
            try simp only [Act.put, List.setIfInBounds_toArray, List.set_cons_zero, List.set_cons_succ]
            refine wpAnyH_take (i := 9) (v := ?_) rfl (by kernel_rfl) (by kernel_rfl) (by kernel_rfl) (fun _ _ _ h => h) (Or.inl ⟨by rfl, ?_⟩) (by assumption) ?_; rotate_left
            · (intro w hSw; (try dsimp only at hSw); go_simp; first | done | with_reducible rfl)
            try simp only [Act.put, List.setIfInBounds_toArray, List.set_cons_zero, List.set_cons_succ]
            refine wpAnyH_ready (rs := [10]) (by kernel_rfl) (by simp) ?_
            refine AllReadyH.cons rfl (fun K hK => ?_) ?_
            · rw [if_pos (by rfl)]
              go_simp
              go_at_call 33
              have hput := l03Put_flat ov gs.length cv gs nm tx (kp : Int) _ HD8.out.files (by omega)
              refine hput.mono ?_
              clear hput
              rintro r w20 ⟨v20, rfl, ho20, hb20⟩
              obtain ⟨ov2, cv2, rfl⟩ := own_form ho20
              have HO20 := hide ho20
              have HDP := hide (HD8.out.put hb20 ho20)
              have HD20 := hide (HD8.out.on hb20)
              clear ho20 hb20
              try go_simp
              refine hK.out _ _ ?_ (fun hHeld => ?_)
              · trivial
              clear hK K
              try simp only [Act.put, List.setIfInBounds_toArray, List.set_cons_zero, List.set_cons_succ]
              refine wpAnyH_ready (rs := [11]) (by kernel_rfl) (by simp) ?_
              refine AllReadyH.cons rfl (fun K hK => ?_) ?_
              · have hcd := (boxed_cell HD20.out.out).1
                have hfz := (boxed_cell HD20.out.out).2
                rw [if_pos (by rfl)]
                go_simp
                refine hK.out _ _ ?_ (fun hHeld => ?_)
                · trivial
                clear hK K
                try simp only [Act.put, List.setIfInBounds_toArray, List.set_cons_zero, List.set_cons_succ]
                clear hcd hfz
                refine wpAnyH_done (by kernel_rfl) ?_ _
                have R := put_right HGS.out (file_right HNM.out HTX.out HKP.out) hgl hj6
                go_wp2_with fail
                go_roundw
                case rel => exact ⟨j + 1, put gs ⟨nm, tx, (kp : Int)⟩, ov2, cv2, by go_num, R.1, R.2, by omega, put_text HTL.out HTX.out, HDP.out⟩
                case measure => simp [intOf]; omega
              exact AllReadyH.nil
            exact AllReadyH.nil
          exact AllReadyH.nil
        refine AllReadyH.cons rfl (fun K hK => ?_) ?_
        · rw [if_pos (by rfl)]
          go_simp
          go_at_call 31
          refine (HBL.out _ HD2.out.cur).mono ?_
          rintro r w18 ⟨kp, hkp, rfl, hc18, hg18⟩
          have HD8 := hide (HD2.out.drawn hc18 hg18)
          have HKP := hide hkp
          clear hc18 hg18 hkp
          try go_simp
          refine hK.out _ _ ?_ (fun hHeld => ?_)
          · trivial
          clear hK K
          try simp only [Act.put, List.setIfInBounds_toArray, List.set_cons_zero, List.set_cons_succ]
          refine wpAnyH_take (i := 9) (v := ?_) rfl (by kernel_rfl) (by kernel_rfl) (by kernel_rfl) (fun _ _ _ h => h) (Or.inl ⟨by rfl, ?_⟩) (by assumption) ?_; rotate_left
          · (intro w hSw; (try dsimp only at hSw); go_simp; first | done | with_reducible rfl)
          try simp only [Act.put, List.setIfInBounds_toArray, List.set_cons_zero, List.set_cons_succ]
          refine wpAnyH_ready (rs := [0]) (by kernel_rfl) (by simp) ?_
          refine AllReadyH.cons rfl (fun K hK => ?_) ?_
          · have hcd := (boxed_cell HD8.out.out).1
            rw [if_pos (by rfl)]
            go_simp
            refine hK.out _ _ ?_ (fun hHeld => ?_)
            · trivial
            clear hK K
            try simp only [Act.put, List.setIfInBounds_toArray, List.set_cons_zero, List.set_cons_succ]
            clear hcd
            refine wpAnyH_ready (rs := [10]) (by kernel_rfl) (by simp) ?_
            refine AllReadyH.cons rfl (fun K hK => ?_) ?_
            · rw [if_pos (by rfl)]
              go_simp
              go_at_call 33
              have hput := l03Put_flat ov gs.length cv gs nm tx (kp : Int) _ HD8.out.files (by omega)
              refine hput.mono ?_
              clear hput
              rintro r w20 ⟨v20, rfl, ho20, hb20⟩
              obtain ⟨ov2, cv2, rfl⟩ := own_form ho20
              have HO20 := hide ho20
              have HDP := hide (HD8.out.put hb20 ho20)
              have HD20 := hide (HD8.out.on hb20)
              clear ho20 hb20
              try go_simp
              refine hK.out _ _ ?_ (fun hHeld => ?_)
              · trivial
              clear hK K
              try simp only [Act.put, List.setIfInBounds_toArray, List.set_cons_zero, List.set_cons_succ]
              refine wpAnyH_ready (rs := [11]) (by kernel_rfl) (by simp) ?_
              refine AllReadyH.cons rfl (fun K hK => ?_) ?_
              · have hcd := (boxed_cell HD20.out.out).1
                have hfz := (boxed_cell HD20.out.out).2
                rw [if_pos (by rfl)]
                go_simp
                refine hK.out _ _ ?_ (fun hHeld => ?_)
                · trivial
                clear hK K
                try simp only [Act.put, List.setIfInBounds_toArray, List.set_cons_zero, List.set_cons_succ]
                clear hcd hfz
                refine wpAnyH_done (by kernel_rfl) ?_ _
                have R := put_right HGS.out (file_right HNM.out HTX.out HKP.out) hgl hj6
                go_wp2_with fail
                go_roundw
                case rel => exact ⟨j + 1, put gs ⟨nm, tx, (kp : Int)⟩, ov2, cv2, by go_num, R.1, R.2, by omega, put_text HTL.out HTX.out, HDP.out⟩
                case measure => simp [intOf]; omega
              exact AllReadyH.nil
            exact AllReadyH.nil
          exact AllReadyH.nil
        exact AllReadyH.nil
      exact AllReadyH.nil
    · have gjx : ¬ (j : Int) < (x : Int) := by omega
      have q0 := (boxed_cell HR2.out.out).1
      have y0 := (boxed_cell HR2.out.res).1
      have y1 := (boxed_cell HR2.out.res).2
      have hlK : w.heap.size < Kd + 1 := by have := HR2.out.lp; have := HR2.out.lk; omega
      go_wp2_with fail
      have hbx : Boxed (w2.setCell ⟨w.heap.size, 0, none⟩ (.slice ov gs.length cv)) w.heap.size 29 (.slice ov gs.length cv) := HR2.out.res.set _
      have q9 := (boxed_cell hbx).1
      refine bodyPost_ret (v := .agg #[.slice ov gs.length cv]) (by simp [results, Try.results11, go_sem, q9]) rfl ⟨gs, HGS.out, by omega, HTL.out, _, rfl, ?_, HR2.out.bel.setCell (by simp) _⟩
      exact own_base (own_setCell HR2.out.own hlK _) (by omega)

end Go.Proofs.Ytgimbffogmhbgaa
