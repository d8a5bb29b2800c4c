/-
  Walks and mathematics of Comm6.
-/
import Derived.Test.YtckkfjmjcknjdaaGreatDoorRCComm5
import Derived.Test.YtckkfjmjcknjdaaGreatDoorRCSame1
import Derived.Test.YtckkfjmjcknjdaaGreatDoorRCWalk9e
namespace Go.Proofs.YtckkfjmjcknjdaaGreatDoor.P3
end Go.Proofs.YtckkfjmjcknjdaaGreatDoor.P3
namespace Go.Proofs.YtckkfjmjcknjdaaGreatDoor
open Go.RowKit P1 P3 P9 P11 P12 P18 K
set_option linter.unusedVariables false
set_option linter.unusedSimpArgs false

set_option maxHeartbeats 4000000 in
theorem implCommandOk_1 (tk sq id kd sn us mb dp : Int) (oa : Option Addr) (n cl : Nat) (tx : List UInt8) (ob : Option Addr) (m cp : Nat) (ds up : Int) (zl zp : List Int) (hx : tx.length ≤ 1048576) (w : World) (hat : IntsAt w oa n cl zl) (hbt : IntsAt w ob m cp zp) :
    Calls Tryz.prog 9 #[cmval 1 tk sq id kd sn us mb dp (.slice oa n cl) (.slice ob m cp) tx ds up] w fun e w' => e = .returned (.bool (cmdOk (⟨1, tk, sq, ⟨id, kd, sn, us, mb, zl, tx, zp, dp⟩, ds, up⟩ : CmdV))) ∧ Below w.heap.size w w' := by
  have HB0 := hide ((Below.refl w.heap.size w).alloc (Nat.le_refl _) (.cells #[.int .i64 1, .int .i64 tk, .int .i64 sq, .int .i64 id, .int .i64 kd, .int .i64 sn, .int .i64 us, .int .i64 mb, .slice oa n cl, .string ⟨tx.toArray⟩, .slice ob m cp, .int .i64 dp, .int .i64 ds, .int .i64 up] 31))
  have HQ0 := hide (CB.new w 1 tk sq id kd sn us mb dp oa n cl tx ob m cp ds up)
  have HAT := hide hat
  have HBT := hide hbt
  have HDO := hide (fun w => doingOf_1 w)
  have HR := hide (fun w hat hbt => openOk_any 1 tk sq id kd sn us mb dp oa n cl tx ob m cp ds up zl zp hx w hat hbt)
  have HW1 := hide (fun w => within_bel tk 0 1000000 w)
  have HW2 := hide (fun w => within_bel sq 0 1000000 w)
  have e0 : cmdOk (⟨1, tk, sq, ⟨id, kd, sn, us, mb, zl, tx, zp, dp⟩, ds, up⟩ : CmdV) = (inR tk 0 1000000 && (inR sq 0 1000000 && openOk (⟨1, tk, sq, ⟨id, kd, sn, us, mb, zl, tx, zp, dp⟩, ds, up⟩ : CmdV))) := by
    unfold cmdOk rightOf
    simp [inR]
  rw [e0]
  clear e0 hat hbt
  generalize inR tk 0 1000000 = b1 at HW1 ⊢
  generalize inR sq 0 1000000 = b2 at HW2 ⊢
  generalize openOk (⟨1, tk, sq, ⟨id, kd, sn, us, mb, zl, tx, zp, dp⟩, ds, up⟩ : CmdV) = b3 at HR ⊢
  cases b1 with
  | false =>
    go_enter Tryz.func9, Tryz.ntmps9
    go_wp2_with fail
    refine (HDO.out _).mono ?_
    rintro e w1 ⟨rfl, hb1⟩
    have HB1 := hide (HB0.out.trans (hb1.mono HB0.out.size))
    have HQ1 := hide (HQ0.out.on hb1 HQ0.out.lt)
    clear hb1
    have t0 := store_newF (P := Tryz.prog) w1 #[.nilFunc, .nilFunc] 47 0 46 (by simp)
    have t1 := store_newF (P := Tryz.prog) w1 #[.func (.func 46) #[] #[], .nilFunc] 47 1 47 (by simp)
    simp only [List.setIfInBounds_toArray, List.set] at t0 t1
    have hbA := (Below.refl w1.heap.size w1).alloc (Nat.le_refl _) (.cells #[.func (.func 46) #[] #[], .func (.func 47) #[] #[]] 47)
    have HB2 := hide (HB1.out.trans (hbA.mono HB1.out.size))
    have HQ2 := hide (HQ1.out.on hbA HQ1.out.lt)
    have HD2 := hide (heap_alloc_new w1 (.cells #[.func (.func 46) #[] #[], .func (.func 47) #[] #[]] 47))
    clear hbA
    obtain ⟨k0, k1, k2, k3, k4, k5, k6, k7, k8, k9, k10, k11, k12, k13⟩ := HQ2.out.cc
    go_wp2_with fail
    refine (HW1.out _).mono ?_
    rintro e w3 ⟨rfl, hb3⟩
    have HB3 := hide (HB2.out.trans (hb3.mono HB2.out.size))
    have HQ3 := hide (HQ2.out.on hb3 HQ2.out.lt)
    have HD3 := hide ((hb3.block _ (blk_lt HD2.out)).trans HD2.out)
    clear k0 k1 k2 k3 k4 k5 k6 k7 k8 k9 k10 k11 k12 k13
    obtain ⟨k0, k1, k2, k3, k4, k5, k6, k7, k8, k9, k10, k11, k12, k13⟩ := HQ3.out.cc
    have d0 := blk_cell HD3.out 0 rfl
    have d1 := blk_cell HD3.out 1 rfl
    clear hb3
    go_wp2_with fail
    go_ret
    exact ⟨rfl, HB3.out⟩
  | true =>
    cases b2 with
    | false =>
      go_enter Tryz.func9, Tryz.ntmps9
      go_wp2_with fail
      refine (HDO.out _).mono ?_
      rintro e w1 ⟨rfl, hb1⟩
      have HB1 := hide (HB0.out.trans (hb1.mono HB0.out.size))
      have HQ1 := hide (HQ0.out.on hb1 HQ0.out.lt)
      clear hb1
      have t0 := store_newF (P := Tryz.prog) w1 #[.nilFunc, .nilFunc] 47 0 46 (by simp)
      have t1 := store_newF (P := Tryz.prog) w1 #[.func (.func 46) #[] #[], .nilFunc] 47 1 47 (by simp)
      simp only [List.setIfInBounds_toArray, List.set] at t0 t1
      have hbA := (Below.refl w1.heap.size w1).alloc (Nat.le_refl _) (.cells #[.func (.func 46) #[] #[], .func (.func 47) #[] #[]] 47)
      have HB2 := hide (HB1.out.trans (hbA.mono HB1.out.size))
      have HQ2 := hide (HQ1.out.on hbA HQ1.out.lt)
      have HD2 := hide (heap_alloc_new w1 (.cells #[.func (.func 46) #[] #[], .func (.func 47) #[] #[]] 47))
      clear hbA
      obtain ⟨k0, k1, k2, k3, k4, k5, k6, k7, k8, k9, k10, k11, k12, k13⟩ := HQ2.out.cc
      go_wp2_with fail
      refine (HW1.out _).mono ?_
      rintro e w3 ⟨rfl, hb3⟩
      have HB3 := hide (HB2.out.trans (hb3.mono HB2.out.size))
      have HQ3 := hide (HQ2.out.on hb3 HQ2.out.lt)
      have HD3 := hide ((hb3.block _ (blk_lt HD2.out)).trans HD2.out)
      clear k0 k1 k2 k3 k4 k5 k6 k7 k8 k9 k10 k11 k12 k13
      obtain ⟨k0, k1, k2, k3, k4, k5, k6, k7, k8, k9, k10, k11, k12, k13⟩ := HQ3.out.cc
      have d0 := blk_cell HD3.out 0 rfl
      have d1 := blk_cell HD3.out 1 rfl
      clear hb3
      go_wp2_with fail
      refine (HW2.out _).mono ?_
      rintro e w4 ⟨rfl, hb4⟩
      have HB4 := hide (HB3.out.trans (hb4.mono HB3.out.size))
      have HQ4 := hide (HQ3.out.on hb4 HQ3.out.lt)
      have HD4 := hide ((hb4.block _ (blk_lt HD3.out)).trans HD3.out)
      clear k0 k1 k2 k3 k4 k5 k6 k7 k8 k9 k10 k11 k12 k13
      obtain ⟨k0, k1, k2, k3, k4, k5, k6, k7, k8, k9, k10, k11, k12, k13⟩ := HQ4.out.cc
      clear d0 d1
      have d0 := blk_cell HD4.out 0 rfl
      have d1 := blk_cell HD4.out 1 rfl
      clear hb4
      go_wp2_with fail
      go_ret
      exact ⟨rfl, HB4.out⟩
    | true =>
      cases b3 with
      | false =>
        go_enter Tryz.func9, Tryz.ntmps9
        go_wp2_with fail
        refine (HDO.out _).mono ?_
        rintro e w1 ⟨rfl, hb1⟩
        have HB1 := hide (HB0.out.trans (hb1.mono HB0.out.size))
        have HQ1 := hide (HQ0.out.on hb1 HQ0.out.lt)
        clear hb1
        have t0 := store_newF (P := Tryz.prog) w1 #[.nilFunc, .nilFunc] 47 0 46 (by simp)
        have t1 := store_newF (P := Tryz.prog) w1 #[.func (.func 46) #[] #[], .nilFunc] 47 1 47 (by simp)
        simp only [List.setIfInBounds_toArray, List.set] at t0 t1
        have hbA := (Below.refl w1.heap.size w1).alloc (Nat.le_refl _) (.cells #[.func (.func 46) #[] #[], .func (.func 47) #[] #[]] 47)
        have HB2 := hide (HB1.out.trans (hbA.mono HB1.out.size))
        have HQ2 := hide (HQ1.out.on hbA HQ1.out.lt)
        have HD2 := hide (heap_alloc_new w1 (.cells #[.func (.func 46) #[] #[], .func (.func 47) #[] #[]] 47))
        clear hbA
        obtain ⟨k0, k1, k2, k3, k4, k5, k6, k7, k8, k9, k10, k11, k12, k13⟩ := HQ2.out.cc
        go_wp2_with fail
        refine (HW1.out _).mono ?_
        rintro e w3 ⟨rfl, hb3⟩
        have HB3 := hide (HB2.out.trans (hb3.mono HB2.out.size))
        have HQ3 := hide (HQ2.out.on hb3 HQ2.out.lt)
        have HD3 := hide ((hb3.block _ (blk_lt HD2.out)).trans HD2.out)
        clear k0 k1 k2 k3 k4 k5 k6 k7 k8 k9 k10 k11 k12 k13
        obtain ⟨k0, k1, k2, k3, k4, k5, k6, k7, k8, k9, k10, k11, k12, k13⟩ := HQ3.out.cc
        have d0 := blk_cell HD3.out 0 rfl
        have d1 := blk_cell HD3.out 1 rfl
        clear hb3
        go_wp2_with fail
        refine (HW2.out _).mono ?_
        rintro e w4 ⟨rfl, hb4⟩
        have HB4 := hide (HB3.out.trans (hb4.mono HB3.out.size))
        have HQ4 := hide (HQ3.out.on hb4 HQ3.out.lt)
        have HD4 := hide ((hb4.block _ (blk_lt HD3.out)).trans HD3.out)
        clear k0 k1 k2 k3 k4 k5 k6 k7 k8 k9 k10 k11 k12 k13
        obtain ⟨k0, k1, k2, k3, k4, k5, k6, k7, k8, k9, k10, k11, k12, k13⟩ := HQ4.out.cc
        clear d0 d1
        have d0 := blk_cell HD4.out 0 rfl
        have d1 := blk_cell HD4.out 1 rfl
        clear hb4
        go_wp2_with fail
        refine (HR.out _ (HAT.out.below HB4.out) (HBT.out.below HB4.out)).mono ?_
        rintro e w5 ⟨rfl, hb5⟩
        have HB5 := hide (HB4.out.trans (hb5.mono HB4.out.size))
        have HQ5 := hide (HQ4.out.on hb5 HQ4.out.lt)
        have HD5 := hide ((hb5.block _ (blk_lt HD4.out)).trans HD4.out)
        clear k0 k1 k2 k3 k4 k5 k6 k7 k8 k9 k10 k11 k12 k13
        obtain ⟨k0, k1, k2, k3, k4, k5, k6, k7, k8, k9, k10, k11, k12, k13⟩ := HQ5.out.cc
        clear d0 d1
        have d0 := blk_cell HD5.out 0 rfl
        have d1 := blk_cell HD5.out 1 rfl
        clear hb5
        go_wp2_with fail
        go_ret
        exact ⟨rfl, HB5.out⟩
      | true =>
        go_enter Tryz.func9, Tryz.ntmps9
        go_wp2_with fail
        refine (HDO.out _).mono ?_
        rintro e w1 ⟨rfl, hb1⟩
        have HB1 := hide (HB0.out.trans (hb1.mono HB0.out.size))
        have HQ1 := hide (HQ0.out.on hb1 HQ0.out.lt)
        clear hb1
        have t0 := store_newF (P := Tryz.prog) w1 #[.nilFunc, .nilFunc] 47 0 46 (by simp)
        have t1 := store_newF (P := Tryz.prog) w1 #[.func (.func 46) #[] #[], .nilFunc] 47 1 47 (by simp)
        simp only [List.setIfInBounds_toArray, List.set] at t0 t1
        have hbA := (Below.refl w1.heap.size w1).alloc (Nat.le_refl _) (.cells #[.func (.func 46) #[] #[], .func (.func 47) #[] #[]] 47)
        have HB2 := hide (HB1.out.trans (hbA.mono HB1.out.size))
        have HQ2 := hide (HQ1.out.on hbA HQ1.out.lt)
        have HD2 := hide (heap_alloc_new w1 (.cells #[.func (.func 46) #[] #[], .func (.func 47) #[] #[]] 47))
        clear hbA
        obtain ⟨k0, k1, k2, k3, k4, k5, k6, k7, k8, k9, k10, k11, k12, k13⟩ := HQ2.out.cc
        go_wp2_with fail
        refine (HW1.out _).mono ?_
        rintro e w3 ⟨rfl, hb3⟩
        have HB3 := hide (HB2.out.trans (hb3.mono HB2.out.size))
        have HQ3 := hide (HQ2.out.on hb3 HQ2.out.lt)
        have HD3 := hide ((hb3.block _ (blk_lt HD2.out)).trans HD2.out)
        clear k0 k1 k2 k3 k4 k5 k6 k7 k8 k9 k10 k11 k12 k13
        obtain ⟨k0, k1, k2, k3, k4, k5, k6, k7, k8, k9, k10, k11, k12, k13⟩ := HQ3.out.cc
        have d0 := blk_cell HD3.out 0 rfl
        have d1 := blk_cell HD3.out 1 rfl
        clear hb3
        go_wp2_with fail
        refine (HW2.out _).mono ?_
        rintro e w4 ⟨rfl, hb4⟩
        have HB4 := hide (HB3.out.trans (hb4.mono HB3.out.size))
        have HQ4 := hide (HQ3.out.on hb4 HQ3.out.lt)
        have HD4 := hide ((hb4.block _ (blk_lt HD3.out)).trans HD3.out)
        clear k0 k1 k2 k3 k4 k5 k6 k7 k8 k9 k10 k11 k12 k13
        obtain ⟨k0, k1, k2, k3, k4, k5, k6, k7, k8, k9, k10, k11, k12, k13⟩ := HQ4.out.cc
        clear d0 d1
        have d0 := blk_cell HD4.out 0 rfl
        have d1 := blk_cell HD4.out 1 rfl
        clear hb4
        go_wp2_with fail
        refine (HR.out _ (HAT.out.below HB4.out) (HBT.out.below HB4.out)).mono ?_
        rintro e w5 ⟨rfl, hb5⟩
        have HB5 := hide (HB4.out.trans (hb5.mono HB4.out.size))
        have HQ5 := hide (HQ4.out.on hb5 HQ4.out.lt)
        have HD5 := hide ((hb5.block _ (blk_lt HD4.out)).trans HD4.out)
        clear k0 k1 k2 k3 k4 k5 k6 k7 k8 k9 k10 k11 k12 k13
        obtain ⟨k0, k1, k2, k3, k4, k5, k6, k7, k8, k9, k10, k11, k12, k13⟩ := HQ5.out.cc
        clear d0 d1
        have d0 := blk_cell HD5.out 0 rfl
        have d1 := blk_cell HD5.out 1 rfl
        clear hb5
        go_wp2_with fail
        go_ret
        exact ⟨rfl, HB5.out⟩

set_option maxHeartbeats 4000000 in
theorem implCommandOk_2 (tk sq id kd sn us mb dp : Int) (oa : Option Addr) (n cl : Nat) (tx : List UInt8) (ob : Option Addr) (m cp : Nat) (ds up : Int) (zl zp : List Int) (hx : tx.length ≤ 1048576) (w : World) (hat : IntsAt w oa n cl zl) (hbt : IntsAt w ob m cp zp) :
    Calls Tryz.prog 9 #[cmval 2 tk sq id kd sn us mb dp (.slice oa n cl) (.slice ob m cp) tx ds up] w fun e w' => e = .returned (.bool (cmdOk (⟨2, tk, sq, ⟨id, kd, sn, us, mb, zl, tx, zp, dp⟩, ds, up⟩ : CmdV))) ∧ Below w.heap.size w w' := by
  have HB0 := hide ((Below.refl w.heap.size w).alloc (Nat.le_refl _) (.cells #[.int .i64 2, .int .i64 tk, .int .i64 sq, .int .i64 id, .int .i64 kd, .int .i64 sn, .int .i64 us, .int .i64 mb, .slice oa n cl, .string ⟨tx.toArray⟩, .slice ob m cp, .int .i64 dp, .int .i64 ds, .int .i64 up] 31))
  have HQ0 := hide (CB.new w 2 tk sq id kd sn us mb dp oa n cl tx ob m cp ds up)
  have HAT := hide hat
  have HBT := hide hbt
  have HDO := hide (fun w => doingOf_2 w)
  have HR := hide (fun w hat hbt => sendOk_any 2 tk sq id kd sn us mb dp oa n cl tx ob m cp ds up zl zp hx w hat hbt)
  have HW1 := hide (fun w => within_bel tk 0 1000000 w)
  have HW2 := hide (fun w => within_bel sq 0 1000000 w)
  have e0 : cmdOk (⟨2, tk, sq, ⟨id, kd, sn, us, mb, zl, tx, zp, dp⟩, ds, up⟩ : CmdV) = (inR tk 0 1000000 && (inR sq 0 1000000 && sendOk (⟨2, tk, sq, ⟨id, kd, sn, us, mb, zl, tx, zp, dp⟩, ds, up⟩ : CmdV))) := by
    unfold cmdOk rightOf
    simp [inR]
  rw [e0]
  clear e0 hat hbt
  generalize inR tk 0 1000000 = b1 at HW1 ⊢
  generalize inR sq 0 1000000 = b2 at HW2 ⊢
  generalize sendOk (⟨2, tk, sq, ⟨id, kd, sn, us, mb, zl, tx, zp, dp⟩, ds, up⟩ : CmdV) = b3 at HR ⊢
  cases b1 with
  | false =>
    go_enter Tryz.func9, Tryz.ntmps9
    go_wp2_with fail
    refine (HDO.out _).mono ?_
    rintro e w1 ⟨rfl, hb1⟩
    have HB1 := hide (HB0.out.trans (hb1.mono HB0.out.size))
    have HQ1 := hide (HQ0.out.on hb1 HQ0.out.lt)
    clear hb1
    have t0 := store_newF (P := Tryz.prog) w1 #[.nilFunc, .nilFunc] 47 0 48 (by simp)
    have t1 := store_newF (P := Tryz.prog) w1 #[.func (.func 48) #[] #[], .nilFunc] 47 1 49 (by simp)
    simp only [List.setIfInBounds_toArray, List.set] at t0 t1
    have hbA := (Below.refl w1.heap.size w1).alloc (Nat.le_refl _) (.cells #[.func (.func 48) #[] #[], .func (.func 49) #[] #[]] 47)
    have HB2 := hide (HB1.out.trans (hbA.mono HB1.out.size))
    have HQ2 := hide (HQ1.out.on hbA HQ1.out.lt)
    have HD2 := hide (heap_alloc_new w1 (.cells #[.func (.func 48) #[] #[], .func (.func 49) #[] #[]] 47))
    clear hbA
    obtain ⟨k0, k1, k2, k3, k4, k5, k6, k7, k8, k9, k10, k11, k12, k13⟩ := HQ2.out.cc
    go_wp2_with fail
    refine (HW1.out _).mono ?_
    rintro e w3 ⟨rfl, hb3⟩
    have HB3 := hide (HB2.out.trans (hb3.mono HB2.out.size))
    have HQ3 := hide (HQ2.out.on hb3 HQ2.out.lt)
    have HD3 := hide ((hb3.block _ (blk_lt HD2.out)).trans HD2.out)
    clear k0 k1 k2 k3 k4 k5 k6 k7 k8 k9 k10 k11 k12 k13
    obtain ⟨k0, k1, k2, k3, k4, k5, k6, k7, k8, k9, k10, k11, k12, k13⟩ := HQ3.out.cc
    have d0 := blk_cell HD3.out 0 rfl
    have d1 := blk_cell HD3.out 1 rfl
    clear hb3
    go_wp2_with fail
    go_ret
    exact ⟨rfl, HB3.out⟩
  | true =>
    cases b2 with
    | false =>
      go_enter Tryz.func9, Tryz.ntmps9
      go_wp2_with fail
      refine (HDO.out _).mono ?_
      rintro e w1 ⟨rfl, hb1⟩
      have HB1 := hide (HB0.out.trans (hb1.mono HB0.out.size))
      have HQ1 := hide (HQ0.out.on hb1 HQ0.out.lt)
      clear hb1
      have t0 := store_newF (P := Tryz.prog) w1 #[.nilFunc, .nilFunc] 47 0 48 (by simp)
      have t1 := store_newF (P := Tryz.prog) w1 #[.func (.func 48) #[] #[], .nilFunc] 47 1 49 (by simp)
      simp only [List.setIfInBounds_toArray, List.set] at t0 t1
      have hbA := (Below.refl w1.heap.size w1).alloc (Nat.le_refl _) (.cells #[.func (.func 48) #[] #[], .func (.func 49) #[] #[]] 47)
      have HB2 := hide (HB1.out.trans (hbA.mono HB1.out.size))
      have HQ2 := hide (HQ1.out.on hbA HQ1.out.lt)
      have HD2 := hide (heap_alloc_new w1 (.cells #[.func (.func 48) #[] #[], .func (.func 49) #[] #[]] 47))
      clear hbA
      obtain ⟨k0, k1, k2, k3, k4, k5, k6, k7, k8, k9, k10, k11, k12, k13⟩ := HQ2.out.cc
      go_wp2_with fail
      refine (HW1.out _).mono ?_
      rintro e w3 ⟨rfl, hb3⟩
      have HB3 := hide (HB2.out.trans (hb3.mono HB2.out.size))
      have HQ3 := hide (HQ2.out.on hb3 HQ2.out.lt)
      have HD3 := hide ((hb3.block _ (blk_lt HD2.out)).trans HD2.out)
      clear k0 k1 k2 k3 k4 k5 k6 k7 k8 k9 k10 k11 k12 k13
      obtain ⟨k0, k1, k2, k3, k4, k5, k6, k7, k8, k9, k10, k11, k12, k13⟩ := HQ3.out.cc
      have d0 := blk_cell HD3.out 0 rfl
      have d1 := blk_cell HD3.out 1 rfl
      clear hb3
      go_wp2_with fail
      refine (HW2.out _).mono ?_
      rintro e w4 ⟨rfl, hb4⟩
      have HB4 := hide (HB3.out.trans (hb4.mono HB3.out.size))
      have HQ4 := hide (HQ3.out.on hb4 HQ3.out.lt)
      have HD4 := hide ((hb4.block _ (blk_lt HD3.out)).trans HD3.out)
      clear k0 k1 k2 k3 k4 k5 k6 k7 k8 k9 k10 k11 k12 k13
      obtain ⟨k0, k1, k2, k3, k4, k5, k6, k7, k8, k9, k10, k11, k12, k13⟩ := HQ4.out.cc
      clear d0 d1
      have d0 := blk_cell HD4.out 0 rfl
      have d1 := blk_cell HD4.out 1 rfl
      clear hb4
      go_wp2_with fail
      go_ret
      exact ⟨rfl, HB4.out⟩
    | true =>
      cases b3 with
      | false =>
        go_enter Tryz.func9, Tryz.ntmps9
        go_wp2_with fail
        refine (HDO.out _).mono ?_
        rintro e w1 ⟨rfl, hb1⟩
        have HB1 := hide (HB0.out.trans (hb1.mono HB0.out.size))
        have HQ1 := hide (HQ0.out.on hb1 HQ0.out.lt)
        clear hb1
        have t0 := store_newF (P := Tryz.prog) w1 #[.nilFunc, .nilFunc] 47 0 48 (by simp)
        have t1 := store_newF (P := Tryz.prog) w1 #[.func (.func 48) #[] #[], .nilFunc] 47 1 49 (by simp)
        simp only [List.setIfInBounds_toArray, List.set] at t0 t1
        have hbA := (Below.refl w1.heap.size w1).alloc (Nat.le_refl _) (.cells #[.func (.func 48) #[] #[], .func (.func 49) #[] #[]] 47)
        have HB2 := hide (HB1.out.trans (hbA.mono HB1.out.size))
        have HQ2 := hide (HQ1.out.on hbA HQ1.out.lt)
        have HD2 := hide (heap_alloc_new w1 (.cells #[.func (.func 48) #[] #[], .func (.func 49) #[] #[]] 47))
        clear hbA
        obtain ⟨k0, k1, k2, k3, k4, k5, k6, k7, k8, k9, k10, k11, k12, k13⟩ := HQ2.out.cc
        go_wp2_with fail
        refine (HW1.out _).mono ?_
        rintro e w3 ⟨rfl, hb3⟩
        have HB3 := hide (HB2.out.trans (hb3.mono HB2.out.size))
        have HQ3 := hide (HQ2.out.on hb3 HQ2.out.lt)
        have HD3 := hide ((hb3.block _ (blk_lt HD2.out)).trans HD2.out)
        clear k0 k1 k2 k3 k4 k5 k6 k7 k8 k9 k10 k11 k12 k13
        obtain ⟨k0, k1, k2, k3, k4, k5, k6, k7, k8, k9, k10, k11, k12, k13⟩ := HQ3.out.cc
        have d0 := blk_cell HD3.out 0 rfl
        have d1 := blk_cell HD3.out 1 rfl
        clear hb3
        go_wp2_with fail
        refine (HW2.out _).mono ?_
        rintro e w4 ⟨rfl, hb4⟩
        have HB4 := hide (HB3.out.trans (hb4.mono HB3.out.size))
        have HQ4 := hide (HQ3.out.on hb4 HQ3.out.lt)
        have HD4 := hide ((hb4.block _ (blk_lt HD3.out)).trans HD3.out)
        clear k0 k1 k2 k3 k4 k5 k6 k7 k8 k9 k10 k11 k12 k13
        obtain ⟨k0, k1, k2, k3, k4, k5, k6, k7, k8, k9, k10, k11, k12, k13⟩ := HQ4.out.cc
        clear d0 d1
        have d0 := blk_cell HD4.out 0 rfl
        have d1 := blk_cell HD4.out 1 rfl
        clear hb4
        go_wp2_with fail
        refine (HR.out _ (HAT.out.below HB4.out) (HBT.out.below HB4.out)).mono ?_
        rintro e w5 ⟨rfl, hb5⟩
        have HB5 := hide (HB4.out.trans (hb5.mono HB4.out.size))
        have HQ5 := hide (HQ4.out.on hb5 HQ4.out.lt)
        have HD5 := hide ((hb5.block _ (blk_lt HD4.out)).trans HD4.out)
        clear k0 k1 k2 k3 k4 k5 k6 k7 k8 k9 k10 k11 k12 k13
        obtain ⟨k0, k1, k2, k3, k4, k5, k6, k7, k8, k9, k10, k11, k12, k13⟩ := HQ5.out.cc
        clear d0 d1
        have d0 := blk_cell HD5.out 0 rfl
        have d1 := blk_cell HD5.out 1 rfl
        clear hb5
        go_wp2_with fail
        go_ret
        exact ⟨rfl, HB5.out⟩
      | true =>
        go_enter Tryz.func9, Tryz.ntmps9
        go_wp2_with fail
        refine (HDO.out _).mono ?_
        rintro e w1 ⟨rfl, hb1⟩
        have HB1 := hide (HB0.out.trans (hb1.mono HB0.out.size))
        have HQ1 := hide (HQ0.out.on hb1 HQ0.out.lt)
        clear hb1
        have t0 := store_newF (P := Tryz.prog) w1 #[.nilFunc, .nilFunc] 47 0 48 (by simp)
        have t1 := store_newF (P := Tryz.prog) w1 #[.func (.func 48) #[] #[], .nilFunc] 47 1 49 (by simp)
        simp only [List.setIfInBounds_toArray, List.set] at t0 t1
        have hbA := (Below.refl w1.heap.size w1).alloc (Nat.le_refl _) (.cells #[.func (.func 48) #[] #[], .func (.func 49) #[] #[]] 47)
        have HB2 := hide (HB1.out.trans (hbA.mono HB1.out.size))
        have HQ2 := hide (HQ1.out.on hbA HQ1.out.lt)
        have HD2 := hide (heap_alloc_new w1 (.cells #[.func (.func 48) #[] #[], .func (.func 49) #[] #[]] 47))
        clear hbA
        obtain ⟨k0, k1, k2, k3, k4, k5, k6, k7, k8, k9, k10, k11, k12, k13⟩ := HQ2.out.cc
        go_wp2_with fail
        refine (HW1.out _).mono ?_
        rintro e w3 ⟨rfl, hb3⟩
        have HB3 := hide (HB2.out.trans (hb3.mono HB2.out.size))
        have HQ3 := hide (HQ2.out.on hb3 HQ2.out.lt)
        have HD3 := hide ((hb3.block _ (blk_lt HD2.out)).trans HD2.out)
        clear k0 k1 k2 k3 k4 k5 k6 k7 k8 k9 k10 k11 k12 k13
        obtain ⟨k0, k1, k2, k3, k4, k5, k6, k7, k8, k9, k10, k11, k12, k13⟩ := HQ3.out.cc
        have d0 := blk_cell HD3.out 0 rfl
        have d1 := blk_cell HD3.out 1 rfl
        clear hb3
        go_wp2_with fail
        refine (HW2.out _).mono ?_
        rintro e w4 ⟨rfl, hb4⟩
        have HB4 := hide (HB3.out.trans (hb4.mono HB3.out.size))
        have HQ4 := hide (HQ3.out.on hb4 HQ3.out.lt)
        have HD4 := hide ((hb4.block _ (blk_lt HD3.out)).trans HD3.out)
        clear k0 k1 k2 k3 k4 k5 k6 k7 k8 k9 k10 k11 k12 k13
        obtain ⟨k0, k1, k2, k3, k4, k5, k6, k7, k8, k9, k10, k11, k12, k13⟩ := HQ4.out.cc
        clear d0 d1
        have d0 := blk_cell HD4.out 0 rfl
        have d1 := blk_cell HD4.out 1 rfl
        clear hb4
        go_wp2_with fail
        refine (HR.out _ (HAT.out.below HB4.out) (HBT.out.below HB4.out)).mono ?_
        rintro e w5 ⟨rfl, hb5⟩
        have HB5 := hide (HB4.out.trans (hb5.mono HB4.out.size))
        have HQ5 := hide (HQ4.out.on hb5 HQ4.out.lt)
        have HD5 := hide ((hb5.block _ (blk_lt HD4.out)).trans HD4.out)
        clear k0 k1 k2 k3 k4 k5 k6 k7 k8 k9 k10 k11 k12 k13
        obtain ⟨k0, k1, k2, k3, k4, k5, k6, k7, k8, k9, k10, k11, k12, k13⟩ := HQ5.out.cc
        clear d0 d1
        have d0 := blk_cell HD5.out 0 rfl
        have d1 := blk_cell HD5.out 1 rfl
        clear hb5
        go_wp2_with fail
        go_ret
        exact ⟨rfl, HB5.out⟩

set_option maxHeartbeats 4000000 in
theorem implCommandOk_3 (tk sq id kd sn us mb dp : Int) (oa : Option Addr) (n cl : Nat) (tx : List UInt8) (ob : Option Addr) (m cp : Nat) (ds up : Int) (zl zp : List Int) (hx : tx.length ≤ 1048576) (w : World) (hat : IntsAt w oa n cl zl) (hbt : IntsAt w ob m cp zp) :
    Calls Tryz.prog 9 #[cmval 3 tk sq id kd sn us mb dp (.slice oa n cl) (.slice ob m cp) tx ds up] w fun e w' => e = .returned (.bool (cmdOk (⟨3, tk, sq, ⟨id, kd, sn, us, mb, zl, tx, zp, dp⟩, ds, up⟩ : CmdV))) ∧ Below w.heap.size w w' := by
  have HB0 := hide ((Below.refl w.heap.size w).alloc (Nat.le_refl _) (.cells #[.int .i64 3, .int .i64 tk, .int .i64 sq, .int .i64 id, .int .i64 kd, .int .i64 sn, .int .i64 us, .int .i64 mb, .slice oa n cl, .string ⟨tx.toArray⟩, .slice ob m cp, .int .i64 dp, .int .i64 ds, .int .i64 up] 31))
  have HQ0 := hide (CB.new w 3 tk sq id kd sn us mb dp oa n cl tx ob m cp ds up)
  have HAT := hide hat
  have HBT := hide hbt
  have HDO := hide (fun w => doingOf_3 w)
  have HR := hide (fun w hat hbt => receiveOk_any 3 tk sq id kd sn us mb dp oa n cl tx ob m cp ds up zl zp hx w hat hbt)
  have HW1 := hide (fun w => within_bel tk 0 1000000 w)
  have HW2 := hide (fun w => within_bel sq 0 1000000 w)
  have e0 : cmdOk (⟨3, tk, sq, ⟨id, kd, sn, us, mb, zl, tx, zp, dp⟩, ds, up⟩ : CmdV) = (inR tk 0 1000000 && (inR sq 0 1000000 && recvOk (⟨3, tk, sq, ⟨id, kd, sn, us, mb, zl, tx, zp, dp⟩, ds, up⟩ : CmdV))) := by
    unfold cmdOk rightOf
    simp [inR]
  rw [e0]
  clear e0 hat hbt
  generalize inR tk 0 1000000 = b1 at HW1 ⊢
  generalize inR sq 0 1000000 = b2 at HW2 ⊢
  generalize recvOk (⟨3, tk, sq, ⟨id, kd, sn, us, mb, zl, tx, zp, dp⟩, ds, up⟩ : CmdV) = b3 at HR ⊢
  cases b1 with
  | false =>
    go_enter Tryz.func9, Tryz.ntmps9
    go_wp2_with fail
    refine (HDO.out _).mono ?_
    rintro e w1 ⟨rfl, hb1⟩
    have HB1 := hide (HB0.out.trans (hb1.mono HB0.out.size))
    have HQ1 := hide (HQ0.out.on hb1 HQ0.out.lt)
    clear hb1
    have t0 := store_newF (P := Tryz.prog) w1 #[.nilFunc, .nilFunc] 47 0 50 (by simp)
    have t1 := store_newF (P := Tryz.prog) w1 #[.func (.func 50) #[] #[], .nilFunc] 47 1 51 (by simp)
    simp only [List.setIfInBounds_toArray, List.set] at t0 t1
    have hbA := (Below.refl w1.heap.size w1).alloc (Nat.le_refl _) (.cells #[.func (.func 50) #[] #[], .func (.func 51) #[] #[]] 47)
    have HB2 := hide (HB1.out.trans (hbA.mono HB1.out.size))
    have HQ2 := hide (HQ1.out.on hbA HQ1.out.lt)
    have HD2 := hide (heap_alloc_new w1 (.cells #[.func (.func 50) #[] #[], .func (.func 51) #[] #[]] 47))
    clear hbA
    obtain ⟨k0, k1, k2, k3, k4, k5, k6, k7, k8, k9, k10, k11, k12, k13⟩ := HQ2.out.cc
    go_wp2_with fail
    refine (HW1.out _).mono ?_
    rintro e w3 ⟨rfl, hb3⟩
    have HB3 := hide (HB2.out.trans (hb3.mono HB2.out.size))
    have HQ3 := hide (HQ2.out.on hb3 HQ2.out.lt)
    have HD3 := hide ((hb3.block _ (blk_lt HD2.out)).trans HD2.out)
    clear k0 k1 k2 k3 k4 k5 k6 k7 k8 k9 k10 k11 k12 k13
    obtain ⟨k0, k1, k2, k3, k4, k5, k6, k7, k8, k9, k10, k11, k12, k13⟩ := HQ3.out.cc
    have d0 := blk_cell HD3.out 0 rfl
    have d1 := blk_cell HD3.out 1 rfl
    clear hb3
    go_wp2_with fail
    go_ret
    exact ⟨rfl, HB3.out⟩
  | true =>
    cases b2 with
    | false =>
      go_enter Tryz.func9, Tryz.ntmps9
      go_wp2_with fail
      refine (HDO.out _).mono ?_
      rintro e w1 ⟨rfl, hb1⟩
      have HB1 := hide (HB0.out.trans (hb1.mono HB0.out.size))
      have HQ1 := hide (HQ0.out.on hb1 HQ0.out.lt)
      clear hb1
      have t0 := store_newF (P := Tryz.prog) w1 #[.nilFunc, .nilFunc] 47 0 50 (by simp)
      have t1 := store_newF (P := Tryz.prog) w1 #[.func (.func 50) #[] #[], .nilFunc] 47 1 51 (by simp)
      simp only [List.setIfInBounds_toArray, List.set] at t0 t1
      have hbA := (Below.refl w1.heap.size w1).alloc (Nat.le_refl _) (.cells #[.func (.func 50) #[] #[], .func (.func 51) #[] #[]] 47)
      have HB2 := hide (HB1.out.trans (hbA.mono HB1.out.size))
      have HQ2 := hide (HQ1.out.on hbA HQ1.out.lt)
      have HD2 := hide (heap_alloc_new w1 (.cells #[.func (.func 50) #[] #[], .func (.func 51) #[] #[]] 47))
      clear hbA
      obtain ⟨k0, k1, k2, k3, k4, k5, k6, k7, k8, k9, k10, k11, k12, k13⟩ := HQ2.out.cc
      go_wp2_with fail
      refine (HW1.out _).mono ?_
      rintro e w3 ⟨rfl, hb3⟩
      have HB3 := hide (HB2.out.trans (hb3.mono HB2.out.size))
      have HQ3 := hide (HQ2.out.on hb3 HQ2.out.lt)
      have HD3 := hide ((hb3.block _ (blk_lt HD2.out)).trans HD2.out)
      clear k0 k1 k2 k3 k4 k5 k6 k7 k8 k9 k10 k11 k12 k13
      obtain ⟨k0, k1, k2, k3, k4, k5, k6, k7, k8, k9, k10, k11, k12, k13⟩ := HQ3.out.cc
      have d0 := blk_cell HD3.out 0 rfl
      have d1 := blk_cell HD3.out 1 rfl
      clear hb3
      go_wp2_with fail
      refine (HW2.out _).mono ?_
      rintro e w4 ⟨rfl, hb4⟩
      have HB4 := hide (HB3.out.trans (hb4.mono HB3.out.size))
      have HQ4 := hide (HQ3.out.on hb4 HQ3.out.lt)
      have HD4 := hide ((hb4.block _ (blk_lt HD3.out)).trans HD3.out)
      clear k0 k1 k2 k3 k4 k5 k6 k7 k8 k9 k10 k11 k12 k13
      obtain ⟨k0, k1, k2, k3, k4, k5, k6, k7, k8, k9, k10, k11, k12, k13⟩ := HQ4.out.cc
      clear d0 d1
      have d0 := blk_cell HD4.out 0 rfl
      have d1 := blk_cell HD4.out 1 rfl
      clear hb4
      go_wp2_with fail
      go_ret
      exact ⟨rfl, HB4.out⟩
    | true =>
      cases b3 with
      | false =>
        go_enter Tryz.func9, Tryz.ntmps9
        go_wp2_with fail
        refine (HDO.out _).mono ?_
        rintro e w1 ⟨rfl, hb1⟩
        have HB1 := hide (HB0.out.trans (hb1.mono HB0.out.size))
        have HQ1 := hide (HQ0.out.on hb1 HQ0.out.lt)
        clear hb1
        have t0 := store_newF (P := Tryz.prog) w1 #[.nilFunc, .nilFunc] 47 0 50 (by simp)
        have t1 := store_newF (P := Tryz.prog) w1 #[.func (.func 50) #[] #[], .nilFunc] 47 1 51 (by simp)
        simp only [List.setIfInBounds_toArray, List.set] at t0 t1
        have hbA := (Below.refl w1.heap.size w1).alloc (Nat.le_refl _) (.cells #[.func (.func 50) #[] #[], .func (.func 51) #[] #[]] 47)
        have HB2 := hide (HB1.out.trans (hbA.mono HB1.out.size))
        have HQ2 := hide (HQ1.out.on hbA HQ1.out.lt)
        have HD2 := hide (heap_alloc_new w1 (.cells #[.func (.func 50) #[] #[], .func (.func 51) #[] #[]] 47))
        clear hbA
        obtain ⟨k0, k1, k2, k3, k4, k5, k6, k7, k8, k9, k10, k11, k12, k13⟩ := HQ2.out.cc
        go_wp2_with fail
        refine (HW1.out _).mono ?_
        rintro e w3 ⟨rfl, hb3⟩
        have HB3 := hide (HB2.out.trans (hb3.mono HB2.out.size))
        have HQ3 := hide (HQ2.out.on hb3 HQ2.out.lt)
        have HD3 := hide ((hb3.block _ (blk_lt HD2.out)).trans HD2.out)
        clear k0 k1 k2 k3 k4 k5 k6 k7 k8 k9 k10 k11 k12 k13
        obtain ⟨k0, k1, k2, k3, k4, k5, k6, k7, k8, k9, k10, k11, k12, k13⟩ := HQ3.out.cc
        have d0 := blk_cell HD3.out 0 rfl
        have d1 := blk_cell HD3.out 1 rfl
        clear hb3
        go_wp2_with fail
        refine (HW2.out _).mono ?_
        rintro e w4 ⟨rfl, hb4⟩
        have HB4 := hide (HB3.out.trans (hb4.mono HB3.out.size))
        have HQ4 := hide (HQ3.out.on hb4 HQ3.out.lt)
        have HD4 := hide ((hb4.block _ (blk_lt HD3.out)).trans HD3.out)
        clear k0 k1 k2 k3 k4 k5 k6 k7 k8 k9 k10 k11 k12 k13
        obtain ⟨k0, k1, k2, k3, k4, k5, k6, k7, k8, k9, k10, k11, k12, k13⟩ := HQ4.out.cc
        clear d0 d1
        have d0 := blk_cell HD4.out 0 rfl
        have d1 := blk_cell HD4.out 1 rfl
        clear hb4
        go_wp2_with fail
        refine (HR.out _ (HAT.out.below HB4.out) (HBT.out.below HB4.out)).mono ?_
        rintro e w5 ⟨rfl, hb5⟩
        have HB5 := hide (HB4.out.trans (hb5.mono HB4.out.size))
        have HQ5 := hide (HQ4.out.on hb5 HQ4.out.lt)
        have HD5 := hide ((hb5.block _ (blk_lt HD4.out)).trans HD4.out)
        clear k0 k1 k2 k3 k4 k5 k6 k7 k8 k9 k10 k11 k12 k13
        obtain ⟨k0, k1, k2, k3, k4, k5, k6, k7, k8, k9, k10, k11, k12, k13⟩ := HQ5.out.cc
        clear d0 d1
        have d0 := blk_cell HD5.out 0 rfl
        have d1 := blk_cell HD5.out 1 rfl
        clear hb5
        go_wp2_with fail
        go_ret
        exact ⟨rfl, HB5.out⟩
      | true =>
        go_enter Tryz.func9, Tryz.ntmps9
        go_wp2_with fail
        refine (HDO.out _).mono ?_
        rintro e w1 ⟨rfl, hb1⟩
        have HB1 := hide (HB0.out.trans (hb1.mono HB0.out.size))
        have HQ1 := hide (HQ0.out.on hb1 HQ0.out.lt)
        clear hb1
        have t0 := store_newF (P := Tryz.prog) w1 #[.nilFunc, .nilFunc] 47 0 50 (by simp)
        have t1 := store_newF (P := Tryz.prog) w1 #[.func (.func 50) #[] #[], .nilFunc] 47 1 51 (by simp)
        simp only [List.setIfInBounds_toArray, List.set] at t0 t1
        have hbA := (Below.refl w1.heap.size w1).alloc (Nat.le_refl _) (.cells #[.func (.func 50) #[] #[], .func (.func 51) #[] #[]] 47)
        have HB2 := hide (HB1.out.trans (hbA.mono HB1.out.size))
        have HQ2 := hide (HQ1.out.on hbA HQ1.out.lt)
        have HD2 := hide (heap_alloc_new w1 (.cells #[.func (.func 50) #[] #[], .func (.func 51) #[] #[]] 47))
        clear hbA
        obtain ⟨k0, k1, k2, k3, k4, k5, k6, k7, k8, k9, k10, k11, k12, k13⟩ := HQ2.out.cc
        go_wp2_with fail
        refine (HW1.out _).mono ?_
        rintro e w3 ⟨rfl, hb3⟩
        have HB3 := hide (HB2.out.trans (hb3.mono HB2.out.size))
        have HQ3 := hide (HQ2.out.on hb3 HQ2.out.lt)
        have HD3 := hide ((hb3.block _ (blk_lt HD2.out)).trans HD2.out)
        clear k0 k1 k2 k3 k4 k5 k6 k7 k8 k9 k10 k11 k12 k13
        obtain ⟨k0, k1, k2, k3, k4, k5, k6, k7, k8, k9, k10, k11, k12, k13⟩ := HQ3.out.cc
        have d0 := blk_cell HD3.out 0 rfl
        have d1 := blk_cell HD3.out 1 rfl
        clear hb3
        go_wp2_with fail
        refine (HW2.out _).mono ?_
        rintro e w4 ⟨rfl, hb4⟩
        have HB4 := hide (HB3.out.trans (hb4.mono HB3.out.size))
        have HQ4 := hide (HQ3.out.on hb4 HQ3.out.lt)
        have HD4 := hide ((hb4.block _ (blk_lt HD3.out)).trans HD3.out)
        clear k0 k1 k2 k3 k4 k5 k6 k7 k8 k9 k10 k11 k12 k13
        obtain ⟨k0, k1, k2, k3, k4, k5, k6, k7, k8, k9, k10, k11, k12, k13⟩ := HQ4.out.cc
        clear d0 d1
        have d0 := blk_cell HD4.out 0 rfl
        have d1 := blk_cell HD4.out 1 rfl
        clear hb4
        go_wp2_with fail
        refine (HR.out _ (HAT.out.below HB4.out) (HBT.out.below HB4.out)).mono ?_
        rintro e w5 ⟨rfl, hb5⟩
        have HB5 := hide (HB4.out.trans (hb5.mono HB4.out.size))
        have HQ5 := hide (HQ4.out.on hb5 HQ4.out.lt)
        have HD5 := hide ((hb5.block _ (blk_lt HD4.out)).trans HD4.out)
        clear k0 k1 k2 k3 k4 k5 k6 k7 k8 k9 k10 k11 k12 k13
        obtain ⟨k0, k1, k2, k3, k4, k5, k6, k7, k8, k9, k10, k11, k12, k13⟩ := HQ5.out.cc
        clear d0 d1
        have d0 := blk_cell HD5.out 0 rfl
        have d1 := blk_cell HD5.out 1 rfl
        clear hb5
        go_wp2_with fail
        go_ret
        exact ⟨rfl, HB5.out⟩

set_option maxHeartbeats 4000000 in
theorem implCommandOk_4 (tk sq id kd sn us mb dp : Int) (oa : Option Addr) (n cl : Nat) (tx : List UInt8) (ob : Option Addr) (m cp : Nat) (ds up : Int) (zl zp : List Int) (hx : tx.length ≤ 1048576) (w : World) (hat : IntsAt w oa n cl zl) (hbt : IntsAt w ob m cp zp) :
    Calls Tryz.prog 9 #[cmval 4 tk sq id kd sn us mb dp (.slice oa n cl) (.slice ob m cp) tx ds up] w fun e w' => e = .returned (.bool (cmdOk (⟨4, tk, sq, ⟨id, kd, sn, us, mb, zl, tx, zp, dp⟩, ds, up⟩ : CmdV))) ∧ Below w.heap.size w w' := by
  have HB0 := hide ((Below.refl w.heap.size w).alloc (Nat.le_refl _) (.cells #[.int .i64 4, .int .i64 tk, .int .i64 sq, .int .i64 id, .int .i64 kd, .int .i64 sn, .int .i64 us, .int .i64 mb, .slice oa n cl, .string ⟨tx.toArray⟩, .slice ob m cp, .int .i64 dp, .int .i64 ds, .int .i64 up] 31))
  have HQ0 := hide (CB.new w 4 tk sq id kd sn us mb dp oa n cl tx ob m cp ds up)
  have HAT := hide hat
  have HBT := hide hbt
  have HDO := hide (fun w => doingOf_4 w)
  have HR := hide (fun w hat hbt => ackedOk_any 4 tk sq id kd sn us mb dp oa n cl tx ob m cp ds up zl zp hx w hat hbt)
  have HW1 := hide (fun w => within_bel tk 0 1000000 w)
  have HW2 := hide (fun w => within_bel sq 0 1000000 w)
  have e0 : cmdOk (⟨4, tk, sq, ⟨id, kd, sn, us, mb, zl, tx, zp, dp⟩, ds, up⟩ : CmdV) = (inR tk 0 1000000 && (inR sq 0 1000000 && ackdOk (⟨4, tk, sq, ⟨id, kd, sn, us, mb, zl, tx, zp, dp⟩, ds, up⟩ : CmdV))) := by
    unfold cmdOk rightOf
    simp [inR]
  rw [e0]
  clear e0 hat hbt
  generalize inR tk 0 1000000 = b1 at HW1 ⊢
  generalize inR sq 0 1000000 = b2 at HW2 ⊢
  generalize ackdOk (⟨4, tk, sq, ⟨id, kd, sn, us, mb, zl, tx, zp, dp⟩, ds, up⟩ : CmdV) = b3 at HR ⊢
  cases b1 with
  | false =>
    go_enter Tryz.func9, Tryz.ntmps9
    go_wp2_with fail
    refine (HDO.out _).mono ?_
    rintro e w1 ⟨rfl, hb1⟩
    have HB1 := hide (HB0.out.trans (hb1.mono HB0.out.size))
    have HQ1 := hide (HQ0.out.on hb1 HQ0.out.lt)
    clear hb1
    have t0 := store_newF (P := Tryz.prog) w1 #[.nilFunc, .nilFunc] 47 0 52 (by simp)
    have t1 := store_newF (P := Tryz.prog) w1 #[.func (.func 52) #[] #[], .nilFunc] 47 1 53 (by simp)
    simp only [List.setIfInBounds_toArray, List.set] at t0 t1
    have hbA := (Below.refl w1.heap.size w1).alloc (Nat.le_refl _) (.cells #[.func (.func 52) #[] #[], .func (.func 53) #[] #[]] 47)
    have HB2 := hide (HB1.out.trans (hbA.mono HB1.out.size))
    have HQ2 := hide (HQ1.out.on hbA HQ1.out.lt)
    have HD2 := hide (heap_alloc_new w1 (.cells #[.func (.func 52) #[] #[], .func (.func 53) #[] #[]] 47))
    clear hbA
    obtain ⟨k0, k1, k2, k3, k4, k5, k6, k7, k8, k9, k10, k11, k12, k13⟩ := HQ2.out.cc
    go_wp2_with fail
    refine (HW1.out _).mono ?_
    rintro e w3 ⟨rfl, hb3⟩
    have HB3 := hide (HB2.out.trans (hb3.mono HB2.out.size))
    have HQ3 := hide (HQ2.out.on hb3 HQ2.out.lt)
    have HD3 := hide ((hb3.block _ (blk_lt HD2.out)).trans HD2.out)
    clear k0 k1 k2 k3 k4 k5 k6 k7 k8 k9 k10 k11 k12 k13
    obtain ⟨k0, k1, k2, k3, k4, k5, k6, k7, k8, k9, k10, k11, k12, k13⟩ := HQ3.out.cc
    have d0 := blk_cell HD3.out 0 rfl
    have d1 := blk_cell HD3.out 1 rfl
    clear hb3
    go_wp2_with fail
    go_ret
    exact ⟨rfl, HB3.out⟩
  | true =>
    cases b2 with
    | false =>
      go_enter Tryz.func9, Tryz.ntmps9
      go_wp2_with fail
      refine (HDO.out _).mono ?_
      rintro e w1 ⟨rfl, hb1⟩
      have HB1 := hide (HB0.out.trans (hb1.mono HB0.out.size))
      have HQ1 := hide (HQ0.out.on hb1 HQ0.out.lt)
      clear hb1
      have t0 := store_newF (P := Tryz.prog) w1 #[.nilFunc, .nilFunc] 47 0 52 (by simp)
      have t1 := store_newF (P := Tryz.prog) w1 #[.func (.func 52) #[] #[], .nilFunc] 47 1 53 (by simp)
      simp only [List.setIfInBounds_toArray, List.set] at t0 t1
      have hbA := (Below.refl w1.heap.size w1).alloc (Nat.le_refl _) (.cells #[.func (.func 52) #[] #[], .func (.func 53) #[] #[]] 47)
      have HB2 := hide (HB1.out.trans (hbA.mono HB1.out.size))
      have HQ2 := hide (HQ1.out.on hbA HQ1.out.lt)
      have HD2 := hide (heap_alloc_new w1 (.cells #[.func (.func 52) #[] #[], .func (.func 53) #[] #[]] 47))
      clear hbA
      obtain ⟨k0, k1, k2, k3, k4, k5, k6, k7, k8, k9, k10, k11, k12, k13⟩ := HQ2.out.cc
      go_wp2_with fail
      refine (HW1.out _).mono ?_
      rintro e w3 ⟨rfl, hb3⟩
      have HB3 := hide (HB2.out.trans (hb3.mono HB2.out.size))
      have HQ3 := hide (HQ2.out.on hb3 HQ2.out.lt)
      have HD3 := hide ((hb3.block _ (blk_lt HD2.out)).trans HD2.out)
      clear k0 k1 k2 k3 k4 k5 k6 k7 k8 k9 k10 k11 k12 k13
      obtain ⟨k0, k1, k2, k3, k4, k5, k6, k7, k8, k9, k10, k11, k12, k13⟩ := HQ3.out.cc
      have d0 := blk_cell HD3.out 0 rfl
      have d1 := blk_cell HD3.out 1 rfl
      clear hb3
      go_wp2_with fail
      refine (HW2.out _).mono ?_
      rintro e w4 ⟨rfl, hb4⟩
      have HB4 := hide (HB3.out.trans (hb4.mono HB3.out.size))
      have HQ4 := hide (HQ3.out.on hb4 HQ3.out.lt)
      have HD4 := hide ((hb4.block _ (blk_lt HD3.out)).trans HD3.out)
      clear k0 k1 k2 k3 k4 k5 k6 k7 k8 k9 k10 k11 k12 k13
      obtain ⟨k0, k1, k2, k3, k4, k5, k6, k7, k8, k9, k10, k11, k12, k13⟩ := HQ4.out.cc
      clear d0 d1
      have d0 := blk_cell HD4.out 0 rfl
      have d1 := blk_cell HD4.out 1 rfl
      clear hb4
      go_wp2_with fail
      go_ret
      exact ⟨rfl, HB4.out⟩
    | true =>
      cases b3 with
      | false =>
        go_enter Tryz.func9, Tryz.ntmps9
        go_wp2_with fail
        refine (HDO.out _).mono ?_
        rintro e w1 ⟨rfl, hb1⟩
        have HB1 := hide (HB0.out.trans (hb1.mono HB0.out.size))
        have HQ1 := hide (HQ0.out.on hb1 HQ0.out.lt)
        clear hb1
        have t0 := store_newF (P := Tryz.prog) w1 #[.nilFunc, .nilFunc] 47 0 52 (by simp)
        have t1 := store_newF (P := Tryz.prog) w1 #[.func (.func 52) #[] #[], .nilFunc] 47 1 53 (by simp)
        simp only [List.setIfInBounds_toArray, List.set] at t0 t1
        have hbA := (Below.refl w1.heap.size w1).alloc (Nat.le_refl _) (.cells #[.func (.func 52) #[] #[], .func (.func 53) #[] #[]] 47)
        have HB2 := hide (HB1.out.trans (hbA.mono HB1.out.size))
        have HQ2 := hide (HQ1.out.on hbA HQ1.out.lt)
        have HD2 := hide (heap_alloc_new w1 (.cells #[.func (.func 52) #[] #[], .func (.func 53) #[] #[]] 47))
        clear hbA
        obtain ⟨k0, k1, k2, k3, k4, k5, k6, k7, k8, k9, k10, k11, k12, k13⟩ := HQ2.out.cc
        go_wp2_with fail
        refine (HW1.out _).mono ?_
        rintro e w3 ⟨rfl, hb3⟩
        have HB3 := hide (HB2.out.trans (hb3.mono HB2.out.size))
        have HQ3 := hide (HQ2.out.on hb3 HQ2.out.lt)
        have HD3 := hide ((hb3.block _ (blk_lt HD2.out)).trans HD2.out)
        clear k0 k1 k2 k3 k4 k5 k6 k7 k8 k9 k10 k11 k12 k13
        obtain ⟨k0, k1, k2, k3, k4, k5, k6, k7, k8, k9, k10, k11, k12, k13⟩ := HQ3.out.cc
        have d0 := blk_cell HD3.out 0 rfl
        have d1 := blk_cell HD3.out 1 rfl
        clear hb3
        go_wp2_with fail
        refine (HW2.out _).mono ?_
        rintro e w4 ⟨rfl, hb4⟩
        have HB4 := hide (HB3.out.trans (hb4.mono HB3.out.size))
        have HQ4 := hide (HQ3.out.on hb4 HQ3.out.lt)
        have HD4 := hide ((hb4.block _ (blk_lt HD3.out)).trans HD3.out)
        clear k0 k1 k2 k3 k4 k5 k6 k7 k8 k9 k10 k11 k12 k13
        obtain ⟨k0, k1, k2, k3, k4, k5, k6, k7, k8, k9, k10, k11, k12, k13⟩ := HQ4.out.cc
        clear d0 d1
        have d0 := blk_cell HD4.out 0 rfl
        have d1 := blk_cell HD4.out 1 rfl
        clear hb4
        go_wp2_with fail
        refine (HR.out _ (HAT.out.below HB4.out) (HBT.out.below HB4.out)).mono ?_
        rintro e w5 ⟨rfl, hb5⟩
        have HB5 := hide (HB4.out.trans (hb5.mono HB4.out.size))
        have HQ5 := hide (HQ4.out.on hb5 HQ4.out.lt)
        have HD5 := hide ((hb5.block _ (blk_lt HD4.out)).trans HD4.out)
        clear k0 k1 k2 k3 k4 k5 k6 k7 k8 k9 k10 k11 k12 k13
        obtain ⟨k0, k1, k2, k3, k4, k5, k6, k7, k8, k9, k10, k11, k12, k13⟩ := HQ5.out.cc
        clear d0 d1
        have d0 := blk_cell HD5.out 0 rfl
        have d1 := blk_cell HD5.out 1 rfl
        clear hb5
        go_wp2_with fail
        go_ret
        exact ⟨rfl, HB5.out⟩
      | true =>
        go_enter Tryz.func9, Tryz.ntmps9
        go_wp2_with fail
        refine (HDO.out _).mono ?_
        rintro e w1 ⟨rfl, hb1⟩
        have HB1 := hide (HB0.out.trans (hb1.mono HB0.out.size))
        have HQ1 := hide (HQ0.out.on hb1 HQ0.out.lt)
        clear hb1
        have t0 := store_newF (P := Tryz.prog) w1 #[.nilFunc, .nilFunc] 47 0 52 (by simp)
        have t1 := store_newF (P := Tryz.prog) w1 #[.func (.func 52) #[] #[], .nilFunc] 47 1 53 (by simp)
        simp only [List.setIfInBounds_toArray, List.set] at t0 t1
        have hbA := (Below.refl w1.heap.size w1).alloc (Nat.le_refl _) (.cells #[.func (.func 52) #[] #[], .func (.func 53) #[] #[]] 47)
        have HB2 := hide (HB1.out.trans (hbA.mono HB1.out.size))
        have HQ2 := hide (HQ1.out.on hbA HQ1.out.lt)
        have HD2 := hide (heap_alloc_new w1 (.cells #[.func (.func 52) #[] #[], .func (.func 53) #[] #[]] 47))
        clear hbA
        obtain ⟨k0, k1, k2, k3, k4, k5, k6, k7, k8, k9, k10, k11, k12, k13⟩ := HQ2.out.cc
        go_wp2_with fail
        refine (HW1.out _).mono ?_
        rintro e w3 ⟨rfl, hb3⟩
        have HB3 := hide (HB2.out.trans (hb3.mono HB2.out.size))
        have HQ3 := hide (HQ2.out.on hb3 HQ2.out.lt)
        have HD3 := hide ((hb3.block _ (blk_lt HD2.out)).trans HD2.out)
        clear k0 k1 k2 k3 k4 k5 k6 k7 k8 k9 k10 k11 k12 k13
        obtain ⟨k0, k1, k2, k3, k4, k5, k6, k7, k8, k9, k10, k11, k12, k13⟩ := HQ3.out.cc
        have d0 := blk_cell HD3.out 0 rfl
        have d1 := blk_cell HD3.out 1 rfl
        clear hb3
        go_wp2_with fail
        refine (HW2.out _).mono ?_
        rintro e w4 ⟨rfl, hb4⟩
        have HB4 := hide (HB3.out.trans (hb4.mono HB3.out.size))
        have HQ4 := hide (HQ3.out.on hb4 HQ3.out.lt)
        have HD4 := hide ((hb4.block _ (blk_lt HD3.out)).trans HD3.out)
        clear k0 k1 k2 k3 k4 k5 k6 k7 k8 k9 k10 k11 k12 k13
        obtain ⟨k0, k1, k2, k3, k4, k5, k6, k7, k8, k9, k10, k11, k12, k13⟩ := HQ4.out.cc
        clear d0 d1
        have d0 := blk_cell HD4.out 0 rfl
        have d1 := blk_cell HD4.out 1 rfl
        clear hb4
        go_wp2_with fail
        refine (HR.out _ (HAT.out.below HB4.out) (HBT.out.below HB4.out)).mono ?_
        rintro e w5 ⟨rfl, hb5⟩
        have HB5 := hide (HB4.out.trans (hb5.mono HB4.out.size))
        have HQ5 := hide (HQ4.out.on hb5 HQ4.out.lt)
        have HD5 := hide ((hb5.block _ (blk_lt HD4.out)).trans HD4.out)
        clear k0 k1 k2 k3 k4 k5 k6 k7 k8 k9 k10 k11 k12 k13
        obtain ⟨k0, k1, k2, k3, k4, k5, k6, k7, k8, k9, k10, k11, k12, k13⟩ := HQ5.out.cc
        clear d0 d1
        have d0 := blk_cell HD5.out 0 rfl
        have d1 := blk_cell HD5.out 1 rfl
        clear hb5
        go_wp2_with fail
        go_ret
        exact ⟨rfl, HB5.out⟩

set_option maxHeartbeats 4000000 in
theorem implCommandOk_5 (tk sq id kd sn us mb dp : Int) (oa : Option Addr) (n cl : Nat) (tx : List UInt8) (ob : Option Addr) (m cp : Nat) (ds up : Int) (zl zp : List Int) (hx : tx.length ≤ 1048576) (w : World) (hat : IntsAt w oa n cl zl) (hbt : IntsAt w ob m cp zp) :
    Calls Tryz.prog 9 #[cmval 5 tk sq id kd sn us mb dp (.slice oa n cl) (.slice ob m cp) tx ds up] w fun e w' => e = .returned (.bool (cmdOk (⟨5, tk, sq, ⟨id, kd, sn, us, mb, zl, tx, zp, dp⟩, ds, up⟩ : CmdV))) ∧ Below w.heap.size w w' := by
  have HB0 := hide ((Below.refl w.heap.size w).alloc (Nat.le_refl _) (.cells #[.int .i64 5, .int .i64 tk, .int .i64 sq, .int .i64 id, .int .i64 kd, .int .i64 sn, .int .i64 us, .int .i64 mb, .slice oa n cl, .string ⟨tx.toArray⟩, .slice ob m cp, .int .i64 dp, .int .i64 ds, .int .i64 up] 31))
  have HQ0 := hide (CB.new w 5 tk sq id kd sn us mb dp oa n cl tx ob m cp ds up)
  have HAT := hide hat
  have HBT := hide hbt
  have HDO := hide (fun w => doingOf_5 w)
  have HR := hide (fun w hat hbt => membersOk_any 5 tk sq id kd sn us mb dp oa n cl tx ob m cp ds up zl zp hx w hat hbt)
  have HW1 := hide (fun w => within_bel tk 0 1000000 w)
  have HW2 := hide (fun w => within_bel sq 0 1000000 w)
  have e0 : cmdOk (⟨5, tk, sq, ⟨id, kd, sn, us, mb, zl, tx, zp, dp⟩, ds, up⟩ : CmdV) = (inR tk 0 1000000 && (inR sq 0 1000000 && membOk (⟨5, tk, sq, ⟨id, kd, sn, us, mb, zl, tx, zp, dp⟩, ds, up⟩ : CmdV))) := by
    unfold cmdOk rightOf
    simp [inR]
  rw [e0]
  clear e0 hat hbt
  generalize inR tk 0 1000000 = b1 at HW1 ⊢
  generalize inR sq 0 1000000 = b2 at HW2 ⊢
  generalize membOk (⟨5, tk, sq, ⟨id, kd, sn, us, mb, zl, tx, zp, dp⟩, ds, up⟩ : CmdV) = b3 at HR ⊢
  cases b1 with
  | false =>
    go_enter Tryz.func9, Tryz.ntmps9
    go_wp2_with fail
    refine (HDO.out _).mono ?_
    rintro e w1 ⟨rfl, hb1⟩
    have HB1 := hide (HB0.out.trans (hb1.mono HB0.out.size))
    have HQ1 := hide (HQ0.out.on hb1 HQ0.out.lt)
    clear hb1
    have t0 := store_newF (P := Tryz.prog) w1 #[.nilFunc, .nilFunc] 47 0 54 (by simp)
    have t1 := store_newF (P := Tryz.prog) w1 #[.func (.func 54) #[] #[], .nilFunc] 47 1 55 (by simp)
    simp only [List.setIfInBounds_toArray, List.set] at t0 t1
    have hbA := (Below.refl w1.heap.size w1).alloc (Nat.le_refl _) (.cells #[.func (.func 54) #[] #[], .func (.func 55) #[] #[]] 47)
    have HB2 := hide (HB1.out.trans (hbA.mono HB1.out.size))
    have HQ2 := hide (HQ1.out.on hbA HQ1.out.lt)
    have HD2 := hide (heap_alloc_new w1 (.cells #[.func (.func 54) #[] #[], .func (.func 55) #[] #[]] 47))
    clear hbA
    obtain ⟨k0, k1, k2, k3, k4, k5, k6, k7, k8, k9, k10, k11, k12, k13⟩ := HQ2.out.cc
    go_wp2_with fail
    refine (HW1.out _).mono ?_
    rintro e w3 ⟨rfl, hb3⟩
    have HB3 := hide (HB2.out.trans (hb3.mono HB2.out.size))
    have HQ3 := hide (HQ2.out.on hb3 HQ2.out.lt)
    have HD3 := hide ((hb3.block _ (blk_lt HD2.out)).trans HD2.out)
    clear k0 k1 k2 k3 k4 k5 k6 k7 k8 k9 k10 k11 k12 k13
    obtain ⟨k0, k1, k2, k3, k4, k5, k6, k7, k8, k9, k10, k11, k12, k13⟩ := HQ3.out.cc
    have d0 := blk_cell HD3.out 0 rfl
    have d1 := blk_cell HD3.out 1 rfl
    clear hb3
    go_wp2_with fail
    go_ret
    exact ⟨rfl, HB3.out⟩
  | true =>
    cases b2 with
    | false =>
      go_enter Tryz.func9, Tryz.ntmps9
      go_wp2_with fail
      refine (HDO.out _).mono ?_
      rintro e w1 ⟨rfl, hb1⟩
      have HB1 := hide (HB0.out.trans (hb1.mono HB0.out.size))
      have HQ1 := hide (HQ0.out.on hb1 HQ0.out.lt)
      clear hb1
      have t0 := store_newF (P := Tryz.prog) w1 #[.nilFunc, .nilFunc] 47 0 54 (by simp)
      have t1 := store_newF (P := Tryz.prog) w1 #[.func (.func 54) #[] #[], .nilFunc] 47 1 55 (by simp)
      simp only [List.setIfInBounds_toArray, List.set] at t0 t1
      have hbA := (Below.refl w1.heap.size w1).alloc (Nat.le_refl _) (.cells #[.func (.func 54) #[] #[], .func (.func 55) #[] #[]] 47)
      have HB2 := hide (HB1.out.trans (hbA.mono HB1.out.size))
      have HQ2 := hide (HQ1.out.on hbA HQ1.out.lt)
      have HD2 := hide (heap_alloc_new w1 (.cells #[.func (.func 54) #[] #[], .func (.func 55) #[] #[]] 47))
      clear hbA
      obtain ⟨k0, k1, k2, k3, k4, k5, k6, k7, k8, k9, k10, k11, k12, k13⟩ := HQ2.out.cc
      go_wp2_with fail
      refine (HW1.out _).mono ?_
      rintro e w3 ⟨rfl, hb3⟩
      have HB3 := hide (HB2.out.trans (hb3.mono HB2.out.size))
      have HQ3 := hide (HQ2.out.on hb3 HQ2.out.lt)
      have HD3 := hide ((hb3.block _ (blk_lt HD2.out)).trans HD2.out)
      clear k0 k1 k2 k3 k4 k5 k6 k7 k8 k9 k10 k11 k12 k13
      obtain ⟨k0, k1, k2, k3, k4, k5, k6, k7, k8, k9, k10, k11, k12, k13⟩ := HQ3.out.cc
      have d0 := blk_cell HD3.out 0 rfl
      have d1 := blk_cell HD3.out 1 rfl
      clear hb3
      go_wp2_with fail
      refine (HW2.out _).mono ?_
      rintro e w4 ⟨rfl, hb4⟩
      have HB4 := hide (HB3.out.trans (hb4.mono HB3.out.size))
      have HQ4 := hide (HQ3.out.on hb4 HQ3.out.lt)
      have HD4 := hide ((hb4.block _ (blk_lt HD3.out)).trans HD3.out)
      clear k0 k1 k2 k3 k4 k5 k6 k7 k8 k9 k10 k11 k12 k13
      obtain ⟨k0, k1, k2, k3, k4, k5, k6, k7, k8, k9, k10, k11, k12, k13⟩ := HQ4.out.cc
      clear d0 d1
      have d0 := blk_cell HD4.out 0 rfl
      have d1 := blk_cell HD4.out 1 rfl
      clear hb4
      go_wp2_with fail
      go_ret
      exact ⟨rfl, HB4.out⟩
    | true =>
      cases b3 with
      | false =>
        go_enter Tryz.func9, Tryz.ntmps9
        go_wp2_with fail
        refine (HDO.out _).mono ?_
        rintro e w1 ⟨rfl, hb1⟩
        have HB1 := hide (HB0.out.trans (hb1.mono HB0.out.size))
        have HQ1 := hide (HQ0.out.on hb1 HQ0.out.lt)
        clear hb1
        have t0 := store_newF (P := Tryz.prog) w1 #[.nilFunc, .nilFunc] 47 0 54 (by simp)
        have t1 := store_newF (P := Tryz.prog) w1 #[.func (.func 54) #[] #[], .nilFunc] 47 1 55 (by simp)
        simp only [List.setIfInBounds_toArray, List.set] at t0 t1
        have hbA := (Below.refl w1.heap.size w1).alloc (Nat.le_refl _) (.cells #[.func (.func 54) #[] #[], .func (.func 55) #[] #[]] 47)
        have HB2 := hide (HB1.out.trans (hbA.mono HB1.out.size))
        have HQ2 := hide (HQ1.out.on hbA HQ1.out.lt)
        have HD2 := hide (heap_alloc_new w1 (.cells #[.func (.func 54) #[] #[], .func (.func 55) #[] #[]] 47))
        clear hbA
        obtain ⟨k0, k1, k2, k3, k4, k5, k6, k7, k8, k9, k10, k11, k12, k13⟩ := HQ2.out.cc
        go_wp2_with fail
        refine (HW1.out _).mono ?_
        rintro e w3 ⟨rfl, hb3⟩
        have HB3 := hide (HB2.out.trans (hb3.mono HB2.out.size))
        have HQ3 := hide (HQ2.out.on hb3 HQ2.out.lt)
        have HD3 := hide ((hb3.block _ (blk_lt HD2.out)).trans HD2.out)
        clear k0 k1 k2 k3 k4 k5 k6 k7 k8 k9 k10 k11 k12 k13
        obtain ⟨k0, k1, k2, k3, k4, k5, k6, k7, k8, k9, k10, k11, k12, k13⟩ := HQ3.out.cc
        have d0 := blk_cell HD3.out 0 rfl
        have d1 := blk_cell HD3.out 1 rfl
        clear hb3
        go_wp2_with fail
        refine (HW2.out _).mono ?_
        rintro e w4 ⟨rfl, hb4⟩
        have HB4 := hide (HB3.out.trans (hb4.mono HB3.out.size))
        have HQ4 := hide (HQ3.out.on hb4 HQ3.out.lt)
        have HD4 := hide ((hb4.block _ (blk_lt HD3.out)).trans HD3.out)
        clear k0 k1 k2 k3 k4 k5 k6 k7 k8 k9 k10 k11 k12 k13
        obtain ⟨k0, k1, k2, k3, k4, k5, k6, k7, k8, k9, k10, k11, k12, k13⟩ := HQ4.out.cc
        clear d0 d1
        have d0 := blk_cell HD4.out 0 rfl
        have d1 := blk_cell HD4.out 1 rfl
        clear hb4
        go_wp2_with fail
        refine (HR.out _ (HAT.out.below HB4.out) (HBT.out.below HB4.out)).mono ?_
        rintro e w5 ⟨rfl, hb5⟩
        have HB5 := hide (HB4.out.trans (hb5.mono HB4.out.size))
        have HQ5 := hide (HQ4.out.on hb5 HQ4.out.lt)
        have HD5 := hide ((hb5.block _ (blk_lt HD4.out)).trans HD4.out)
        clear k0 k1 k2 k3 k4 k5 k6 k7 k8 k9 k10 k11 k12 k13
        obtain ⟨k0, k1, k2, k3, k4, k5, k6, k7, k8, k9, k10, k11, k12, k13⟩ := HQ5.out.cc
        clear d0 d1
        have d0 := blk_cell HD5.out 0 rfl
        have d1 := blk_cell HD5.out 1 rfl
        clear hb5
        go_wp2_with fail
        go_ret
        exact ⟨rfl, HB5.out⟩
      | true =>
        go_enter Tryz.func9, Tryz.ntmps9
        go_wp2_with fail
        refine (HDO.out _).mono ?_
        rintro e w1 ⟨rfl, hb1⟩
        have HB1 := hide (HB0.out.trans (hb1.mono HB0.out.size))
        have HQ1 := hide (HQ0.out.on hb1 HQ0.out.lt)
        clear hb1
        have t0 := store_newF (P := Tryz.prog) w1 #[.nilFunc, .nilFunc] 47 0 54 (by simp)
        have t1 := store_newF (P := Tryz.prog) w1 #[.func (.func 54) #[] #[], .nilFunc] 47 1 55 (by simp)
        simp only [List.setIfInBounds_toArray, List.set] at t0 t1
        have hbA := (Below.refl w1.heap.size w1).alloc (Nat.le_refl _) (.cells #[.func (.func 54) #[] #[], .func (.func 55) #[] #[]] 47)
        have HB2 := hide (HB1.out.trans (hbA.mono HB1.out.size))
        have HQ2 := hide (HQ1.out.on hbA HQ1.out.lt)
        have HD2 := hide (heap_alloc_new w1 (.cells #[.func (.func 54) #[] #[], .func (.func 55) #[] #[]] 47))
        clear hbA
        obtain ⟨k0, k1, k2, k3, k4, k5, k6, k7, k8, k9, k10, k11, k12, k13⟩ := HQ2.out.cc
        go_wp2_with fail
        refine (HW1.out _).mono ?_
        rintro e w3 ⟨rfl, hb3⟩
        have HB3 := hide (HB2.out.trans (hb3.mono HB2.out.size))
        have HQ3 := hide (HQ2.out.on hb3 HQ2.out.lt)
        have HD3 := hide ((hb3.block _ (blk_lt HD2.out)).trans HD2.out)
        clear k0 k1 k2 k3 k4 k5 k6 k7 k8 k9 k10 k11 k12 k13
        obtain ⟨k0, k1, k2, k3, k4, k5, k6, k7, k8, k9, k10, k11, k12, k13⟩ := HQ3.out.cc
        have d0 := blk_cell HD3.out 0 rfl
        have d1 := blk_cell HD3.out 1 rfl
        clear hb3
        go_wp2_with fail
        refine (HW2.out _).mono ?_
        rintro e w4 ⟨rfl, hb4⟩
        have HB4 := hide (HB3.out.trans (hb4.mono HB3.out.size))
        have HQ4 := hide (HQ3.out.on hb4 HQ3.out.lt)
        have HD4 := hide ((hb4.block _ (blk_lt HD3.out)).trans HD3.out)
        clear k0 k1 k2 k3 k4 k5 k6 k7 k8 k9 k10 k11 k12 k13
        obtain ⟨k0, k1, k2, k3, k4, k5, k6, k7, k8, k9, k10, k11, k12, k13⟩ := HQ4.out.cc
        clear d0 d1
        have d0 := blk_cell HD4.out 0 rfl
        have d1 := blk_cell HD4.out 1 rfl
        clear hb4
        go_wp2_with fail
        refine (HR.out _ (HAT.out.below HB4.out) (HBT.out.below HB4.out)).mono ?_
        rintro e w5 ⟨rfl, hb5⟩
        have HB5 := hide (HB4.out.trans (hb5.mono HB4.out.size))
        have HQ5 := hide (HQ4.out.on hb5 HQ4.out.lt)
        have HD5 := hide ((hb5.block _ (blk_lt HD4.out)).trans HD4.out)
        clear k0 k1 k2 k3 k4 k5 k6 k7 k8 k9 k10 k11 k12 k13
        obtain ⟨k0, k1, k2, k3, k4, k5, k6, k7, k8, k9, k10, k11, k12, k13⟩ := HQ5.out.cc
        clear d0 d1
        have d0 := blk_cell HD5.out 0 rfl
        have d1 := blk_cell HD5.out 1 rfl
        clear hb5
        go_wp2_with fail
        go_ret
        exact ⟨rfl, HB5.out⟩

set_option maxHeartbeats 2000000 in
theorem implCommandOk_no (op tk sq id kd sn us mb dp : Int) (oa : Option Addr) (n cl : Nat) (tx : List UInt8) (ob : Option Addr) (m cp : Nat) (ds up : Int) (zl zp : List Int) (hx : tx.length ≤ 1048576) (w : World) (hat : IntsAt w oa n cl zl) (hbt : IntsAt w ob m cp zp) (hop : op < 1 ∨ 5 < op) :
    Calls Tryz.prog 9 #[cmval op tk sq id kd sn us mb dp (.slice oa n cl) (.slice ob m cp) tx ds up] w fun e w' => e = .returned (.bool (cmdOk (⟨op, tk, sq, ⟨id, kd, sn, us, mb, zl, tx, zp, dp⟩, ds, up⟩ : CmdV))) ∧ Below w.heap.size w w' := by
  have HB0 := hide ((Below.refl w.heap.size w).alloc (Nat.le_refl _) (.cells #[.int .i64 op, .int .i64 tk, .int .i64 sq, .int .i64 id, .int .i64 kd, .int .i64 sn, .int .i64 us, .int .i64 mb, .slice oa n cl, .string ⟨tx.toArray⟩, .slice ob m cp, .int .i64 dp, .int .i64 ds, .int .i64 up] 31))
  have HQ0 := hide (CB.new w op tk sq id kd sn us mb dp oa n cl tx ob m cp ds up)
  have HDO := hide (fun w => doingOf_no op hop w)
  have e0 : cmdOk (⟨op, tk, sq, ⟨id, kd, sn, us, mb, zl, tx, zp, dp⟩, ds, up⟩ : CmdV) = false := by
    unfold cmdOk
    have : inR op 1 5 = false := by simp [inR]; omega
    simp [this]
  rw [e0]
  clear e0 hat hbt
  go_enter Tryz.func9, Tryz.ntmps9
  go_wp2_with fail
  refine (HDO.out _).mono ?_
  rintro e w1 ⟨rfl, hb1⟩
  have HB1 := hide (HB0.out.trans (hb1.mono HB0.out.size))
  clear hb1
  have t0 := store_newN (P := Tryz.prog) w1 #[.nilFunc, .nilFunc] 47 0 (by simp)
  have t1 := store_newN (P := Tryz.prog) w1 #[.nilFunc, .nilFunc] 47 1 (by simp)
  simp only [List.setIfInBounds_toArray, List.set] at t0 t1
  have HB2 := hide (HB1.out.trans (((Below.refl w1.heap.size w1).alloc (Nat.le_refl _) (.cells #[.nilFunc, .nilFunc] 47)).mono HB1.out.size))
  go_wp2_with fail
  go_ret
  exact ⟨rfl, HB2.out⟩

theorem implCommandOk_any (op tk sq id kd sn us mb dp : Int) (oa : Option Addr) (n cl : Nat) (tx : List UInt8) (ob : Option Addr) (m cp : Nat) (ds up : Int) (zl zp : List Int) (hx : tx.length ≤ 1048576) (w : World) (hat : IntsAt w oa n cl zl) (hbt : IntsAt w ob m cp zp) :
    Calls Tryz.prog 9 #[cmval op tk sq id kd sn us mb dp (.slice oa n cl) (.slice ob m cp) tx ds up] w fun e w' => e = .returned (.bool (cmdOk (⟨op, tk, sq, ⟨id, kd, sn, us, mb, zl, tx, zp, dp⟩, ds, up⟩ : CmdV))) ∧ Below w.heap.size w w' := by
  by_cases c : op < 1 ∨ 5 < op
  · exact implCommandOk_no op tk sq id kd sn us mb dp oa n cl tx ob m cp ds up zl zp hx w hat hbt c
  · rcases (show op = 1 ∨ op = 2 ∨ op = 3 ∨ op = 4 ∨ op = 5 by omega) with rfl | rfl | rfl | rfl | rfl
    · exact implCommandOk_1 tk sq id kd sn us mb dp oa n cl tx ob m cp ds up zl zp hx w hat hbt
    · exact implCommandOk_2 tk sq id kd sn us mb dp oa n cl tx ob m cp ds up zl zp hx w hat hbt
    · exact implCommandOk_3 tk sq id kd sn us mb dp oa n cl tx ob m cp ds up zl zp hx w hat hbt
    · exact implCommandOk_4 tk sq id kd sn us mb dp oa n cl tx ob m cp ds up zl zp hx w hat hbt
    · exact implCommandOk_5 tk sq id kd sn us mb dp oa n cl tx ob m cp ds up zl zp hx w hat hbt

end Go.Proofs.YtckkfjmjcknjdaaGreatDoor
