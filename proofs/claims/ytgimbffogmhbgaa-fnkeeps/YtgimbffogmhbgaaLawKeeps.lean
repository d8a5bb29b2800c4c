/-
  The law FnKeeps: its walk.
-/
import Derived.Test.YtgimbffogmhbgaaKeeps1
import Derived.Test.YtgimbffogmhbgaaDraw7
namespace Go.Proofs.Ytgimbffogmhbgaa
open Go.RowKit P5 K
set_option linter.unusedVariables false
set_option linter.unusedSimpArgs false

theorem fine_of_ok {f : FileV} (h : fileOk f = true) : Fine f := by
  have h1 := (fileOk_iff f).1 h
  have h2 : f.name.length ≤ 8 := by
    have := h1.1
    unfold nameOk at this
    simp only [Bool.and_eq_true, decide_eq_true_eq] at this
    exact this.2
  refine ⟨by omega, by omega, ?_⟩
  simp [Lit.wf, IntKind.min, IntKind.max, IntKind.signed, IntKind.bits]
  omega

theorem fine_all {fs : List FileV} (h : diskOk fs = true) : ∀ f ∈ fs, Fine f := fun f hf => fine_of_ok (diskOk_mem h f hf)

theorem I64_icell (l : List Nat) : I64 l = (l.map fun n : Nat => (n : Int)).map icell := by
  unfold I64
  rw [List.map_map]
  rfl

set_option maxHeartbeats 8000000 in
theorem FnKeeps_walk (a0 : Option Addr) (len0 cap0 : Nat) (z0 : List Int) (w : World) (w0 : IsRow .u8 w a0 len0 cap0 z0) :
    Calls Try.prog 4 #[.slice a0 len0 cap0] w fun e w' => e = .returned (.bool true) ∧ Below w.heap.size w w' := by
  have HC := hide (codeAt_of_row w0)
  clear w0
  by_cases hbig : 1048576 < len0
  · go_enter Try.func4, Try.ntmps4
    go_wp2_with (go_at_call 10; refine (big_yes a0 len0 cap0 hbig _).mono ?_; rintro e w1 ⟨rfl, rfl⟩)
    go_ret
    exact ⟨rfl, Below.refl _ _⟩
  · have hlen : len0 ≤ 1048576 := by omega
    go_enter Try.func4, Try.ntmps4
    go_wp2_with fail
    refine (big_no a0 len0 cap0 hlen _).mono ?_
    rintro e w1 ⟨rfl, rfl⟩
    go_wp2_with fail
    refine (drawRightDisk_any a0 len0 cap0 hlen _ HC.out).mono ?_
    rintro e w1 ⟨gs, hok, hgl, h30, v1, rfl, ho1, hb1⟩
    obtain ⟨n, hn⟩ : ∃ n, gs.length = n := ⟨_, rfl⟩
    rw [hn] at ho1 hgl
    obtain ⟨od, cd, rfl⟩ := own_form ho1
    obtain ⟨_, _, he, hatD⟩ := filesAt_of_own ho1
    cases he
    have HD := hide hatD
    have HOK := hide hok
    have HN := hide hn
    have B1 := hide hb1
    have s1 := hb1.size
    clear ho1 hatD hok hb1 hn h30
    go_wp2_with fail
    have K1 := (Below.refl w1.heap.size w1).alloc (Nat.le_refl _) (.cells #[.slice od n cd] 29)
    have B1' := hide (B1.out.alloc s1 (.cells #[.slice od n cd] 29))
    have HD1 := hide (HD.out.below K1)
    have d1 : (w1.alloc (.cells #[.slice od n cd] 29)).cell? ⟨w1.heap.size, 0, none⟩ = some (.slice od n cd) := by simp
    clear K1 HD
    refine (drawPlaces_any w.heap.size a0 len0 cap0 _ hlen (by simp; omega) (HC.out.below B1'.out)).mono ?_
    rintro e w2 ⟨l, v2, hl12, hl4, rfl, ho2, hb2⟩
    obtain ⟨op, cp, rfl⟩ := own_form ho2
    rw [I64_icell] at ho2
    have hmem : ∀ z ∈ l.map (fun n : Nat => (n : Int)), 0 ≤ z ∧ z < 10000 := by
      intro z hz
      obtain ⟨x, hx, rfl⟩ := List.mem_map.1 hz
      have := hl4 x hx
      omega
    have hwf : ∀ z ∈ l.map (fun n : Nat => (n : Int)), (Lit.int .i64 z).wf = true := by
      intro z hz
      have := hmem z hz
      simp [Lit.wf, IntKind.min, IntKind.max, IntKind.signed, IntKind.bits]
      omega
    obtain ⟨_, _, he, hatP⟩ := intsAt_of_own ho2 hwf
    cases he
    have HP := hide hatP
    have HM := hide hmem
    have s2 : w1.heap.size < w2.heap.size := by have := hb2.size; simp at this; omega
    have d2 := (hb2.cell (p := ⟨w1.heap.size, 0, none⟩) (by simp)).trans d1
    have HD2 := hide (HD1.out.below hb2)
    have B2 := hide (B1'.out.trans (hb2.mono (by simp; omega)))
    clear ho2 hatP hmem hwf hb2 d1 HD1 hl12 hl4
    go_wp2_with fail
    refine (lefts_any op cp _ HM.out _ HP.out).mono ?_
    rintro e w3 ⟨v3, ls, hls, rfl, ho3, hb3⟩
    obtain ⟨ol, cl, rfl⟩ := own_form ho3
    have hwf : ∀ z ∈ ls, (Lit.int .i64 z).wf = true := by
      intro z hz
      have := hls z hz
      simp [Lit.wf, IntKind.min, IntKind.max, IntKind.signed, IntKind.bits]
      omega
    obtain ⟨_, _, he, hatL⟩ := intsAt_of_own ho3 hwf
    cases he
    have HL := hide hatL
    have s3 : w1.heap.size < w3.heap.size := by have := hb3.size; omega
    have d3 := (hb3.cell (p := ⟨w1.heap.size, 0, none⟩) s2).trans d2
    have HD3 := hide (HD2.out.below hb3)
    have B3 := hide (B2.out.trans (hb3.mono (by omega)))
    clear ho3 hatL hwf hls hb3 d2 HD2 HP HM
    go_wp2_with fail
    refine (implLoseDisk_any od n cd gs ol 6 cl ls _ HD3.out (fine_all HOK.out) HL.out (by omega)).mono ?_
    have hlost : lost gs ls = lose gs ls := by unfold lost; rw [HOK.out]; rfl
    rw [hlost, HOK.out]
    clear hlost
    obtain ⟨es, hes⟩ : ∃ es, lose gs ls = es := ⟨_, rfl⟩
    rw [hes]
    have HES := hide hes
    have HEK := hide (show diskOk es = true by rw [← hes]; exact lose_ok HOK.out ls)
    have HEL := hide (show es.length = n by rw [← hes, lose_length]; exact HN.out)
    have HEA := hide (show allKept es = true by rw [← hes]; exact lose_kept HOK.out ls)
    have HEE := hide (show lost es [] = es by unfold lost; rw [HEK.out]; show lose es [] = es; rw [← hes]; exact lose_again HOK.out ls [])
    clear hes
    rintro e w4 ⟨v4, rfl, ho4, hb4⟩
    rw [HEL.out] at ho4
    obtain ⟨oe, ce, rfl⟩ := own_form ho4
    obtain ⟨_, _, he, hatE⟩ := filesAt_of_own ho4
    cases he
    have HE := hide hatE
    have s4 : w1.heap.size < w4.heap.size := by have := hb4.size; omega
    have d4 := (hb4.cell (p := ⟨w1.heap.size, 0, none⟩) s3).trans d3
    have HD4 := hide (HD3.out.below hb4)
    have B4 := hide (B3.out.trans (hb4.mono (by omega)))
    clear ho4 hatE hb4 d3 HD3 HL
    go_wp2_with fail
    have K4 := ((Below.refl w4.heap.size w4).alloc (Nat.le_refl _) (.cells #[.slice oe n ce] 29)).alloc (by simp) (.cells #[] 3)
    have B5 := hide ((B4.out.alloc (by omega) (.cells #[.slice oe n ce] 29)).alloc (by simp; omega) (.cells #[] 3))
    have hatZ : IntsAt ((w4.alloc (.cells #[.slice oe n ce] 29)).alloc (.cells #[] 3)) (some ⟨w4.heap.size + 1, 0, none⟩) 0 0 [] := ⟨rfl, Nat.le_refl _, by unfold maxLen; omega, by simp, by simp⟩
    refine (implLoseDisk_any oe n ce es _ 0 _ [] _ (HE.out.below K4) (fine_all HEK.out) hatZ (by omega)).mono ?_
    rw [HEE.out, HEK.out]
    rintro e w6 ⟨v6, rfl, ho6, hb6⟩
    rw [HEL.out] at ho6
    obtain ⟨of', cf, rfl⟩ := own_form ho6
    obtain ⟨_, _, he, hatF⟩ := filesAt_of_own ho6
    cases he
    have HF := hide hatF
    have K6 : Below w4.heap.size w4 w6 := K4.trans (hb6.mono (by simp; omega))
    have s6 : w4.heap.size + 1 < w6.heap.size := by have := hb6.size; simp at this; omega
    have d6 := (K6.cell (p := ⟨w1.heap.size, 0, none⟩) s4).trans d4
    have e6 : w6.cell? ⟨w4.heap.size, 0, none⟩ = some (.slice oe n ce) := (hb6.cell (by simp; omega)).trans (by simp)
    have HD6 := hide (HD4.out.below K6)
    have HE6 := hide (HE.out.below K6)
    have B6 := hide (B5.out.trans (hb6.mono (by simp; omega)))
    clear ho6 hatF hb6 hatZ d4 HD4 HE K4 K6
    have l1 : w1.heap.size < w6.heap.size := by omega
    have l4 : w4.heap.size < w6.heap.size := by omega
    go_wp2_with fail
    have K7 := (Below.refl w6.heap.size w6).alloc (Nat.le_refl _) (.cells #[.slice of' n cf] 29)
    have B7 := hide (B6.out.alloc (by omega) (.cells #[.slice of' n cf] 29))
    refine (sameDisk_same oe n ce of' cf es (by omega) _ (HE6.out.below K7) (HF.out.below K7)).mono ?_
    rintro e w8 ⟨rfl, hb8⟩
    have K8 : Below w6.heap.size w6 w8 := K7.trans (hb8.mono (by simp))
    have d8 := (K8.cell (p := ⟨w1.heap.size, 0, none⟩) l1).trans d6
    have e8 := (K8.cell (p := ⟨w4.heap.size, 0, none⟩) l4).trans e6
    have HD8 := hide (HD6.out.below K8)
    have HE8 := hide (HE6.out.below K8)
    have B8 := hide (B7.out.trans (hb8.mono (by simp; omega)))
    have s8 := K8.size
    clear d6 e6 hb8 K7 K8 HD6 HE6 HF l1 l4
    have l1 : w1.heap.size < w8.heap.size := by omega
    have l4 : w4.heap.size < w8.heap.size := by omega
    go_wp2_with fail
    refine (implAllKept_any oe n ce es _ HE8.out (fine_all HEK.out)).mono ?_
    rw [HEA.out]
    rintro e w9 ⟨rfl, hb9⟩
    have d9 := (hb9.cell (p := ⟨w1.heap.size, 0, none⟩) l1).trans d8
    have e9 := (hb9.cell (p := ⟨w4.heap.size, 0, none⟩) l4).trans e8
    have HD9 := hide (HD8.out.below hb9)
    have HE9 := hide (HE8.out.below hb9)
    have B9 := hide (B8.out.trans (hb9.mono (by omega)))
    have s9 := hb9.size
    clear d8 e8 hb9 HD8 HE8 l1 l4
    have l1 : w1.heap.size < w9.heap.size := by omega
    have l4 : w4.heap.size < w9.heap.size := by omega
    go_wp2_with fail
    refine (implDiskOk_any od n cd gs _ HD9.out (fine_all HOK.out)).mono ?_
    rw [HOK.out]
    rintro e w10 ⟨rfl, hb10⟩
    have d10 := (hb10.cell (p := ⟨w1.heap.size, 0, none⟩) l1).trans d9
    have e10 := (hb10.cell (p := ⟨w4.heap.size, 0, none⟩) l4).trans e9
    have HD10 := hide (HD9.out.below hb10)
    have HE10 := hide (HE9.out.below hb10)
    have B10 := hide (B9.out.trans (hb10.mono (by omega)))
    have s10 := hb10.size
    clear d9 e9 hb10 HD9 HE9 l1 l4
    have l1 : w1.heap.size < w10.heap.size := by omega
    have l4 : w4.heap.size < w10.heap.size := by omega
    have D10 := hide d10
    have E10 := hide e10
    clear d10 e10
    go_wp2_with fail
    go_loopw [9] (fun i wr => ∃ (j : Nat), i = .int .i64 (j : Int) ∧ j ≤ n ∧ Below w10.heap.size w10 wr) (fun i _ => n - (intOf i).toNat)
    case atStart => exact ⟨0, rfl, Nat.zero_le _, Below.refl _ _⟩
    case round =>
      obtain ⟨j, rfl, hj, hbr⟩ := hrel
      have dr := (hbr.cell (p := ⟨w1.heap.size, 0, none⟩) l1).trans D10.out
      have er := (hbr.cell (p := ⟨w4.heap.size, 0, none⟩) l4).trans E10.out
      have sr := hbr.size
      have m1 : w1.heap.size < wr.heap.size := by omega
      have m4 : w4.heap.size < wr.heap.size := by omega
      by_cases hlt : j < n
      · have j0 : (j : Int) < (n : Int) := by omega
        obtain ⟨f, b, q, hf, hidx, hb, c0, c1, c2⟩ := (HD10.out.below hbr).get Try.underlying27 infoIF j hlt
        obtain ⟨y, b', q', hy, hidx', hb', c0', c1', c2'⟩ := (HE10.out.below hbr).get Try.underlying27 infoIF j hlt
        have hfo := diskOk_mem HOK.out f (List.mem_of_getElem? hf)
        have hy2 : y = loseF f (ls.getD j 0) := by
          rw [← HES.out, lose_get, hf] at hy
          exact (Option.some.inj hy).symm
        obtain ⟨p1, p2, p3, p4⟩ := lose_begins hfo (ls.getD j 0)
        have hyn : y.name = f.name := by rw [hy2]; rfl
        rw [← hy2] at p1 p2 p3 p4
        rw [hyn] at c0'
        have h20 := ((fileOk_iff f).1 hfo).2
        obtain ⟨k, hk⟩ := Int.eq_ofNat_of_zero_le h20.2.1
        rw [hk] at c2 p3 p4 h20
        simp only [Int.toNat_natCast] at p3 p4
        have hk3 : k ≤ f.text.length := by omega
        have h1 := (fun w => begins_yes y.text f.text p2 p1.symm (by omega) w)
        have h2 := (fun w => begins_yes (f.text.take k) y.text (by rw [List.length_take]; omega) (by rw [List.length_take, Nat.min_eq_left hk3]; exact p4.symm) (by omega) w)
        have hsl : ∀ wx, (Instr.slice 9 (.string ⟨f.text.toArray⟩) none (some (.int .i64 (k : Int))) none).run Try.prog wx = .ok (.string ⟨(f.text.take k).toArray⟩) wx := fun wx => by
          have hx : (⟨f.text.toArray⟩ : ByteArray).extract 0 k = ⟨(f.text.take k).toArray⟩ := by
            apply ByteArray.ext
            rw [ByteArray.data_extract]
            apply Array.ext'
            rw [Array.toList_extract, List.extract_eq_take_drop]
            simp
          have hu := Try.underlying9
          have g2 : (k : Int) ≤ ((⟨f.text.toArray⟩ : ByteArray).size : Int) := by show (k : Int) ≤ (f.text.length : Int); omega
          have := run_slice_string_h wx 9 ⟨f.text.toArray⟩ hu .i64 (k : Int) (by omega) g2
          rw [show ((k : Int)).toNat = k by omega, hx] at this
          exact this
        obtain ⟨Y, hY⟩ : ∃ Y, (⟨y.text.toArray⟩ : ByteArray) = Y := ⟨_, rfl⟩
        obtain ⟨F, hF⟩ : ∃ F, (⟨f.text.toArray⟩ : ByteArray) = F := ⟨_, rfl⟩
        obtain ⟨T, hT⟩ : ∃ T, (⟨(f.text.take k).toArray⟩ : ByteArray) = T := ⟨_, rfl⟩
        rw [hY] at h1 h2 c1'
        rw [hF] at h1 hsl c1
        rw [hT] at h2 hsl
        have H1 := hide h1
        have H2 := hide h2
        clear hf hy hy2 hyn p1 p2 p3 p4 hk h1 h2 hY hF hT
        go_wp2_with fail
        go_quiet (first
          | (go_at_call 18; with_reducible exact Calls.quiet_of_same (H1.out _))
          | (go_at_call 18; with_reducible exact Calls.quiet_of_same (H2.out _)))
        go_wp2_with fail
        go_roundw
        case rel => exact ⟨j + 1, by go_num, by omega, below_drewN ((hbr.alloc (by omega) _).alloc (by simp; omega) _) _⟩
        case measure => simp [intOf]; omega
      · go_wp2_with fail
        go_ret
        exact ⟨rfl, B10.out.trans (hbr.mono (by omega))⟩

end Go.Proofs.Ytgimbffogmhbgaa
