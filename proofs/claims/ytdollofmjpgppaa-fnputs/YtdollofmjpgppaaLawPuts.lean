/-
  The law FnPuts: its walk.
-/
import Derived.Test.YtdollofmjpgppaaDraw15
import Derived.Test.YtdollofmjpgppaaLog4
import Derived.Test.YtdollofmjpgppaaWalk6f
import Derived.Test.YtdollofmjpgppaaWalk6g
namespace Go.Proofs.Ytdollofmjpgppaa
open Go.RowKit P1 P9 K
attribute [local go_sem ↓] Go.wp_at_zero Go.wp_at_succ
set_option linter.unusedVariables false
set_option linter.unusedSimpArgs false

theorem lawLast_any (s u : Int) (oa : Option Addr) (n cap : Nat) (h0 : 0 ≤ s) (h1 : s ≤ 1000000) (hn : n ≤ 60) (w : World) :
    Calls Try.prog 8 #[lgv s u (.slice oa n cap)] w fun e w' => e = .returned (.int .i64 (s + n)) ∧ Below w.heap.size w w' := by
  have HB0 := hide ((Below.refl w.heap.size w).alloc (Nat.le_refl _) (.cells #[.int .i64 s, .int .i64 u, .slice oa n cap] 26))
  go_enter Try.func8, Try.ntmps8
  go_wp2_with fail
  go_ret
  exact ⟨rfl, HB0.out⟩

/-- What is put, told by how many entries stay. -/
theorem putOk_form {s u : Int} {es : List EntV} {ix : Int} {e : EntV} (h : putOk s u es ix e = true) : ∃ k : Nat, ix = s + k + 1 ∧ k ≤ es.length ∧ putL s es ix e = es.take k ++ [e] ∧ lgOk s u (es.take k ++ [e]) = true ∧ 0 ≤ s ∧ s ≤ 1000000 ∧ k + 1 ≤ 60 := by
  unfold putOk at h
  simp only [Bool.and_eq_true, decide_eq_true_eq] at h
  obtain ⟨h1, ⟨h2, h3⟩, h4⟩ := h
  have hl : putL s es ix e = es.take (ix - s - 1).toNat ++ [e] := rfl
  rw [hl] at h4
  have hh := lgOk_hd h1
  have hk := lgOk_hd h4
  have hkl : (ix - s - 1).toNat ≤ es.length := by omega
  refine ⟨(ix - s - 1).toNat, by omega, hkl, rfl, h4, hh.1, hh.2.1, ?_⟩
  have := hk.2.2.2.2.1
  rw [List.length_append, List.length_take, Nat.min_eq_left hkl] at this
  simpa using this

set_option maxRecDepth 100000 in
set_option maxHeartbeats 8000000 in
theorem FnPuts_walk (a0 : Option Addr) (len0 cap0 : Nat) (z0 : List Int) (w : World) (w0 : IsRow .u8 w a0 len0 cap0 z0) :
    Calls Try.prog 3 #[.slice a0 len0 cap0] w fun e w' => e = .returned (.bool true) ∧ Below w.heap.size w w' := by
  have HC := hide (codeAt_of_row w0)
  clear w0
  by_cases hbig : 1048576 < len0
  · go_enter Try.func3, Try.ntmps3
    go_wp2_with (go_at_call 4; refine (big_yes a0 len0 cap0 hbig _).mono ?_; rintro e w1 ⟨rfl, rfl⟩)
    go_ret
    exact ⟨rfl, Below.refl _ _⟩
  · have hlen : len0 ≤ 1048576 := by omega
    go_enter Try.func3, Try.ntmps3
    go_wp2_with fail
    refine (big_no a0 len0 cap0 hlen _).mono ?_
    rintro r w1 ⟨rfl, rfl⟩
    go_wp2_with fail
    refine (drawLogPut_any w.heap.size a0 len0 cap0 _ hlen (Nat.le_refl _) HC.out).mono ?_
    rintro r w1 ⟨s, u, v, es, ix, e, hel, hew, hee, rfl, ho1, hb1⟩
    obtain ⟨ov, cv, rfl⟩ := own_form3 ho1
    have hfi : ∀ f ∈ es, f.data.size ≤ 1048576 := fun f hf => by have := hew f hf; omega
    have hes : e.data.size ≤ 1048576 := by omega
    have HSP0 := hide (fun oa cap w hat => specLogPut_any s u oa es.length cap es ix e w hat hfi hes)
    have HIM0 := hide (fun oa cap w hat => implLogPut_any s u oa es.length cap es ix e w hat hfi hes)
    have L1 := hide (KL.new (s := s) (u := u) ho1)
    have hal := (Below.refl (w1.alloc (.cells #[.int .i64 s, .int .i64 u, .slice ov es.length cv] 26)).heap.size _).alloc (Nat.le_refl _) (.cells #[.int .i64 e.term, .int .i64 e.kind, .string e.data] 28)
    have L2 := hide (L1.out.on hal)
    have E2 : Hid (((w1.alloc (.cells #[.int .i64 s, .int .i64 u, .slice ov es.length cv] 26)).alloc (.cells #[.int .i64 e.term, .int .i64 e.kind, .string e.data] 28)).heap[w1.heap.size + 1]? = some (.cells #[.int .i64 e.term, .int .i64 e.kind, .string e.data] 28 (0, 0))) := hide (blk_new2 _ _ _)
    have B2 := hide ((hb1.alloc hb1.size (.cells #[.int .i64 s, .int .i64 u, .slice ov es.length cv] 26)).alloc (by simp; have := hb1.size; omega) (.cells #[.int .i64 e.term, .int .i64 e.kind, .string e.data] 28))
    have HFI := hide hfi
    have HES := hide hes
    clear hb1 ho1 hfi hes hew hee hal L1 HC
    go_wp2_with fail
    generalize (w1.alloc (Obj.cells #[Value.int IntKind.i64 s, Value.int IntKind.i64 u, Value.slice ov es.length cv] 26)).alloc (Obj.cells #[Value.int IntKind.i64 e.term, Value.int IntKind.i64 e.kind, Value.string e.data] 28) = w2 at L2 E2 B2 ⊢
    obtain ⟨b3, hb3⟩ : ∃ b3, b3 = w1.heap.size := ⟨_, rfl⟩
    rw [← hb3] at L2 E2 ⊢
    clear hb3
    obtain ⟨_, _, heq, hat2⟩ := entsAt_own L2.out.own
    cases heq
    have HA2 := hide hat2
    clear hat2
    cases hp : putOk s u es ix e with
    | false =>
      have hR : putR s u es ix e = (0, 0, [], false) := by rw [putR, if_neg (by rw [hp]; simp)]
      have HIM : Hid (∀ oa cap w, EntsAt w oa es.length cap es → Calls Try.prog 6 #[lgv s u (.slice oa es.length cap), .int .i64 ix, .agg #[.int .i64 e.term, .int .i64 e.kind, .string e.data]] w fun r w' => ∃ v, r = .returned (.tuple #[lgv 0 0 v, .bool false]) ∧ w'.ownsRow w.heap.size 28 3 v 0 [] ∧ Below w.heap.size w w') := hide (fun oa cap w hat => by
        have h := HIM0.out oa cap w hat
        rw [hR] at h
        exact h)
      have HSP : Hid (∀ oa cap w, EntsAt w oa es.length cap es → Calls Try.prog 7 #[lgv s u (.slice oa es.length cap), .int .i64 ix, .agg #[.int .i64 e.term, .int .i64 e.kind, .string e.data]] w fun r w' => ∃ v, r = .returned (.tuple #[lgv 0 0 v, .bool false]) ∧ w'.ownsRow w.heap.size 28 3 v 0 [] ∧ Below w.heap.size w w') := hide (fun oa cap w hat => by
        have h := HSP0.out oa cap w hat
        rw [hR] at h
        exact h)
      clear hR hp HIM0 HSP0
      refine (HIM.out _ _ _ HA2.out).mono ?_
      rintro r w3 ⟨vG, rfl, hoG, hb3⟩
      obtain ⟨oG, cG, rfl⟩ := own_form3 hoG
      have L3 := hide (L2.out.on hb3)
      have E3 := hide ((hb3.block _ (blk_lt E2.out)).trans E2.out)
      have B3 := hide (B2.out.trans (hb3.mono B2.out.size))
      obtain ⟨c0, c1, c2⟩ := L3.out.lv
      have e0 := blk_cell E3.out 0 rfl
      have e1 := blk_cell E3.out 1 rfl
      have e2 := blk_cell E3.out 2 rfl
      simp only [List.getElem_toArray, List.getElem_cons_zero, List.getElem_cons_succ] at e0 e1 e2
      have l3 := L3.out.lt
      have l4 := blk_lt E3.out
      clear hb3 hoG L2 E2 HA2
      go_wp2_with fail
      have hal := (Below.refl w3.heap.size w3).alloc (Nat.le_refl _) (.cells #[.int .i64 0, .int .i64 0, .slice oG 0 cG] 26)
      have L4 := hide (L3.out.on hal)
      have B4 := hide (B3.out.trans (hal.mono B3.out.size))
      obtain ⟨_, _, heq, hat4⟩ := entsAt_own L4.out.own
      cases heq
      have HA4 := hide hat4
      clear hat4 hal
      refine (HSP.out _ _ _ HA4.out).mono ?_
      rintro r w5 ⟨vW, rfl, hoW, hb5⟩
      obtain ⟨oW, cW, rfl⟩ := own_form3 hoW
      have B5 := hide (B4.out.trans (hb5.mono B4.out.size))
      have n2 : w5.cell? ⟨w3.heap.size, 2, none⟩ = some (.slice oG 0 cG) := (hb5.cell (by simp)).trans (by simp)
      have l5 : w3.heap.size < w5.heap.size := by have := hb5.size; simp at this; omega
      clear hb5 hoW HA4 L4 c0 c1 c2 e0 e1 e2
      go_wp2_with fail
      go_ret
      exact ⟨rfl, B5.out.alloc B5.out.size _⟩
    | true =>
      obtain ⟨k, hix, hke, hpl, hlo, s0, s1, hk60⟩ := putOk_form hp
      have HIX := hide hix
      clear hix
      obtain ⟨RS, hRS⟩ : ∃ RS, RS = es.take k ++ [e] := ⟨_, rfl⟩
      have hR : putR s u es ix e = (s, u, RS, true) := by rw [putR, if_pos hp, hpl, hRS]
      have hRl : RS.length = k + 1 := by rw [hRS, List.length_append, List.length_take, Nat.min_eq_left hke]; rfl
      rw [← hRS] at hlo
      have HIM : Hid (∀ oa cap w, EntsAt w oa es.length cap es → Calls Try.prog 6 #[lgv s u (.slice oa es.length cap), .int .i64 ix, .agg #[.int .i64 e.term, .int .i64 e.kind, .string e.data]] w fun r w' => ∃ v, r = .returned (.tuple #[lgv s u v, .bool true]) ∧ w'.ownsRow w.heap.size 28 3 v (k + 1) (RS.flatMap ecells) ∧ Below w.heap.size w w') := hide (fun oa cap w hat => by
        have h := HIM0.out oa cap w hat
        rw [hR] at h
        unfold LogRes2 at h
        rw [show (s, u, RS, true).2.2.1.length = k + 1 from hRl] at h
        exact h)
      have HSP : Hid (∀ oa cap w, EntsAt w oa es.length cap es → Calls Try.prog 7 #[lgv s u (.slice oa es.length cap), .int .i64 ix, .agg #[.int .i64 e.term, .int .i64 e.kind, .string e.data]] w fun r w' => ∃ v, r = .returned (.tuple #[lgv s u v, .bool true]) ∧ w'.ownsRow w.heap.size 28 3 v (k + 1) (RS.flatMap ecells) ∧ Below w.heap.size w w') := hide (fun oa cap w hat => by
        have h := HSP0.out oa cap w hat
        rw [hR] at h
        unfold LogRes2 at h
        rw [show (s, u, RS, true).2.2.1.length = k + 1 from hRl] at h
        exact h)
      have HRS := hide hRS
      have HRL := hide hRl
      have HLO := hide hlo
      have HEL := hide hel
      have HKE := hide hke
      have HK60 := hide hk60
      have HS0 := hide s0
      have HS1 := hide s1
      clear hR hp HIM0 HSP0 hpl hRS hRl hlo hke hk60 s0 s1 hel
      refine (HIM.out _ _ _ HA2.out).mono ?_
      rintro r w3 ⟨vG, rfl, hoG, hb3⟩
      obtain ⟨oG, cG, rfl⟩ := own_form3 hoG
      have L3 := hide (L2.out.on hb3)
      have E3 := hide ((hb3.block _ (blk_lt E2.out)).trans E2.out)
      have B3 := hide (B2.out.trans (hb3.mono B2.out.size))
      have HOG := hide hoG
      obtain ⟨c0, c1, c2⟩ := L3.out.lv
      have e0 := blk_cell E3.out 0 rfl
      have e1 := blk_cell E3.out 1 rfl
      have e2 := blk_cell E3.out 2 rfl
      simp only [List.getElem_toArray, List.getElem_cons_zero, List.getElem_cons_succ] at e0 e1 e2
      have l3 := L3.out.lt
      have l4 := blk_lt E3.out
      clear hb3 hoG L2 E2 HA2
      go_wp2_with fail
      have hal := (Below.refl w3.heap.size w3).alloc (Nat.le_refl _) (.cells #[.int .i64 s, .int .i64 u, .slice oG (k + 1) cG] 26)
      have L4 := hide (L3.out.on hal)
      have E4 := hide ((hal.block _ l4).trans E3.out)
      have N4 := hide (KL.new (s := s) (u := u) HOG.out)
      have B4 := hide (B3.out.trans (hal.mono B3.out.size))
      obtain ⟨_, _, heq, hat4⟩ := entsAt_own L4.out.own
      cases heq
      have HA4 := hide hat4
      clear hat4 hal HOG L3 E3 c0 c1 c2 e0 e1 e2 l3 l4
      refine (HSP.out _ _ _ HA4.out).mono ?_
      rintro r w5 ⟨vW, rfl, hoW, hb5⟩
      obtain ⟨oW, cW, rfl⟩ := own_form3 hoW
      have B5 := hide (B4.out.trans (hb5.mono B4.out.size))
      have L5 := hide (L4.out.on hb5)
      have E5 := hide ((hb5.block _ (blk_lt E4.out)).trans E4.out)
      have N5 := hide (N4.out.on hb5)
      clear hb5 hoW HA4 L4 E4 N4
      have hal := (Below.refl w5.heap.size w5).alloc (Nat.le_refl _) (.cells #[.int .i64 s, .int .i64 u, .slice oW (k + 1) cW] 26)
      have B6 := hide (B5.out.trans (hal.mono B5.out.size))
      have L6 := hide (L5.out.on hal)
      have E6 := hide ((hal.block _ (blk_lt E5.out)).trans E5.out)
      have N6 := hide (N5.out.on hal)
      clear hal L5 E5 N5
      go_wp2_with fail
      generalize w5.alloc (Obj.cells #[Value.int IntKind.i64 s, Value.int IntKind.i64 u, Value.slice oW (k + 1) cW] 26) = w6 at B6 L6 E6 N6 ⊢
      obtain ⟨b6, hb6⟩ : ∃ b6, b6 = w3.heap.size := ⟨_, rfl⟩
      rw [← hb6] at N6 ⊢
      clear hb6
      have hk60 := HK60.out
      have e1 : (((k + 1 : Nat) : Int)) = (k : Int) + 1 := by omega
      have hlast := fun w => lawLast_any s u oG (k + 1) cG HS0.out HS1.out HK60.out w
      have hsx : s + ((k + 1 : Nat) : Int) = ix := by have := HIX.out; omega
      rw [hsx] at hlast
      have HLAST := hide hlast
      have hRW : ∀ f ∈ RS, f.data.size ≤ 1048576 := by
        rw [HRS.out]
        intro f hf
        rcases List.mem_append.1 hf with h | h
        · exact HFI.out f (List.mem_of_mem_take h)
        · rw [List.mem_singleton.1 h]; exact HES.out
      have HOKS := hide (fun w hat => specLogOk_any s u oG (k + 1) cG RS w hat hRW)
      obtain ⟨_, _, heq, hatN⟩ := entsAt_own N6.out.own
      cases heq
      have HAN := hide hatN
      obtain ⟨_, _, heq, hatL⟩ := entsAt_own L6.out.own
      cases heq
      have HAL := hide hatL
      obtain ⟨f, bb, qq, hf, hidx, hbb, d0, d1, d2⟩ := HAN.out.get3 Try.underlying24 infoIE k (Nat.lt_succ_self k)
      have hfe : f = e := by
        rw [HRS.out, List.getElem?_append_right (by rw [List.length_take]; omega), List.length_take, Nat.min_eq_left HKE.out, Nat.sub_self] at hf
        exact (Option.some.inj hf).symm
      subst hfe
      obtain ⟨c0, c1, c2⟩ := N6.out.lv
      have ln := N6.out.lt
      have le := blk_lt E6.out
      have e5 := blk_cell E6.out 0 rfl
      have e6 := blk_cell E6.out 1 rfl
      have e7 := blk_cell E6.out 2 rfl
      simp only [List.getElem_toArray, List.getElem_cons_zero, List.getElem_cons_succ] at e5 e6 e7
      clear hlast hsx hRW hatN hatL hf
      refine wp_region_in (F := (fun w' => Below w6.heap.size w6 w')) (by kernel_rfl) (by kernel_rfl) (Below.refl _ _).drew ?_
      have hne : Nonempty (InW (fun w' => Below w6.heap.size w6 w')) := ⟨⟨_, Below.refl _ _⟩⟩
      have k0 : ∀ m : InW (fun w' => Below w6.heap.size w6 w'), m.w.cell? ⟨b6, 0, none⟩ = some (.int .i64 s) := fun m => (m.h.cell (by simpa using ln)).trans c0
      have k1 : ∀ m : InW (fun w' => Below w6.heap.size w6 w'), m.w.cell? ⟨b6, 1, none⟩ = some (.int .i64 u) := fun m => (m.h.cell (by simpa using ln)).trans c1
      have k2 : ∀ m : InW (fun w' => Below w6.heap.size w6 w'), m.w.cell? ⟨b6, 2, none⟩ = some (.slice oG (k + 1) cG) := fun m => (m.h.cell (by simpa using ln)).trans c2
      have k3 : ∀ m : InW (fun w' => Below w6.heap.size w6 w'), m.w.cell? ⟨b3 + 1, 0, none⟩ = some (.int .i64 f.term) := fun m => (m.h.cell (by simpa using le)).trans e5
      have k4 : ∀ m : InW (fun w' => Below w6.heap.size w6 w'), m.w.cell? ⟨b3 + 1, 1, none⟩ = some (.int .i64 f.kind) := fun m => (m.h.cell (by simpa using le)).trans e6
      have k5 : ∀ m : InW (fun w' => Below w6.heap.size w6 w'), m.w.cell? ⟨b3 + 1, 2, none⟩ = some (.string f.data) := fun m => (m.h.cell (by simpa using le)).trans e7
      have k6 : ∀ m : InW (fun w' => Below w6.heap.size w6 w'), m.w.cell? ⟨bb, qq, none⟩ = some (.int .i64 f.term) := fun m => (m.h.cell hbb).trans d0
      have k7 : ∀ m : InW (fun w' => Below w6.heap.size w6 w'), m.w.cell? ⟨bb, qq + 1, none⟩ = some (.int .i64 f.kind) := fun m => (m.h.cell hbb).trans d1
      have k8 : ∀ m : InW (fun w' => Below w6.heap.size w6 w'), m.w.cell? ⟨bb, qq + 2, none⟩ = some (.string f.data) := fun m => (m.h.cell hbb).trans d2
      have HATW := hide (show ∀ m : InW (fun w' => Below w6.heap.size w6 w'), EntsAt m.w oG (k + 1) cG RS from fun m => HAN.out.below m.h)
      repeat (go_big_quiet_step (first | (go_at_call 8; refine (HLAST.out _).mono ?_; rintro r w9 ⟨rfl, hb9⟩; exact ⟨rfl, ⟨w9, Below.trans (InW.h _) (hb9.mono (Below.size (InW.h (F := (fun w' => Below w6.heap.size w6 w')) ‹_›)))⟩, rfl⟩) | (go_at_call 9; refine (HOKS.out _ (HATW.out _)).mono ?_; rw [HLO.out]; rintro r w9 ⟨rfl, hb9⟩; exact ⟨rfl, ⟨w9, Below.trans (InW.h _) (hb9.mono (Below.size (InW.h (F := (fun w' => Below w6.heap.size w6 w')) ‹_›)))⟩, rfl⟩)))
      refine wpQuiet_nil ?_
      intro _ hw'
      obtain ⟨nq, hw''⟩ := hw'
      subst hw''
      have hb7 := nq.h
      generalize nq.w = w7 at hb7 ⊢
      clear hne k0 k1 k2 k3 k4 k5 k6 k7 k8 HATW c0 c1 c2 d0 d1 d2 e5 e6 e7 hidx hbb
      have B7 := hide (B6.out.trans (hb7.mono B6.out.size))
      have L7 := hide (L6.out.on hb7)
      have N7 := hide (N6.out.on hb7)
      have HAN7 := hide (HAN.out.below hb7)
      have HAL7 := hide (HAL.out.below hb7)
      clear hb7 L6 N6 E6 HAN HAL
      go_wp2_with fail
      go_loopw [10] (fun i wr => ∃ j : Nat, i = .int .i64 (j : Int) ∧ j ≤ k ∧ Below w7.heap.size w7 wr) (fun i _ => k - (intOf i).toNat)
      case atStart => exact ⟨0, rfl, Nat.zero_le _, Below.refl _ _⟩
      case round =>
        obtain ⟨j, rfl, hj, hbr⟩ := hrel
        obtain ⟨n0, n1, n2⟩ := (N7.out.on hbr).lv
        obtain ⟨m0, m1, m2⟩ := (L7.out.on hbr).lv
        have g60 : (j : Int) + 1 ≤ 61 := by omega
        by_cases hlt : j < k
        · have j0 : (j : Int) + 1 < (k : Int) + 1 := by omega
          obtain ⟨f1, b1, q1, hf1, hidx1, hbb1, d0, d1, d2⟩ := (HAN7.out.below hbr).get3 Try.underlying24 infoIE j (by omega)
          obtain ⟨f2, b2, q2, hf2, hidx2, hbb2, e5, e6, e7⟩ := (HAL7.out.below hbr).get3 Try.underlying24 infoIE j (by have := HKE.out; omega)
          have hff : f1 = f2 := by
            rw [HRS.out, List.getElem?_append_left (by rw [List.length_take, Nat.min_eq_left HKE.out]; exact hlt), List.getElem?_take_of_lt hlt, hf2] at hf1
            exact (Option.some.inj hf1).symm
          subst hff
          have HBR := hide hbr
          clear hf1 hf2 hbr
          go_wp2_with fail
          go_quiet (fail)
          go_wp2_with fail
          go_roundw
          case rel => exact ⟨j + 1, by go_num, by omega, by first | exact HBR.out | exact below_drewN HBR.out _ | exact HBR.out.drew⟩
          case measure => simp [intOf]; omega
        · have j0 : ¬ (j : Int) + 1 < (k : Int) + 1 := by omega
          go_wp2_with fail
          go_ret
          exact ⟨rfl, B7.out.trans (hbr.mono B7.out.size)⟩

end Go.Proofs.Ytdollofmjpgppaa
