/-
  Walks and mathematics of Same4.
-/
import Derived.Test.YtckkfjmjcknjdaaSHSame3
namespace Go.Proofs.Ytckkfjmjcknjdaa.P1
end Go.Proofs.Ytckkfjmjcknjdaa.P1
namespace Go.Proofs.Ytckkfjmjcknjdaa.P11
end Go.Proofs.Ytckkfjmjcknjdaa.P11
namespace Go.Proofs.Ytckkfjmjcknjdaa.P14
end Go.Proofs.Ytckkfjmjcknjdaa.P14
namespace Go.Proofs.Ytckkfjmjcknjdaa.P3
end Go.Proofs.Ytckkfjmjcknjdaa.P3
namespace Go.Proofs.Ytckkfjmjcknjdaa.P5
end Go.Proofs.Ytckkfjmjcknjdaa.P5
namespace Go.Proofs.Ytckkfjmjcknjdaa
open Go.RowKit P1 P3 P5 P9 P11 P12 P14 K
set_option linter.unusedVariables false
set_option linter.unusedSimpArgs false

set_option maxRecDepth 100000 in
set_option maxHeartbeats 8000000 in
theorem equalOuts_any (oa : Option Addr) (n cap : Nat) (s : List OutX) (ob : Option Addr) (m cb : Nat) (t : List OutX) (hf : idW s ≤ 1048576) (w : World) (hs : OutsAt w oa n cap s) (ht : OutsAt w ob m cb t) :
    Calls Try.prog 33 #[.slice oa n cap, .slice ob m cb, .func (.func 34) #[] #[]] w fun e w' => e = .returned (.bool (eqB s t)) ∧ Below w.heap.size w w' := by
  have hsl := hs.len
  have htl := ht.len
  have hmx := Nat.le_trans hs.room.1 hs.room.2
  have hmy := Nat.le_trans ht.room.1 ht.room.2
  unfold maxLen at hmx hmy
  by_cases hnm : n = m
  · subst hnm
    have HS := hide hs
    have HT := hide ht
    have HSL := hide hsl
    have HTL := hide htl
    have HF := hide hf
    clear hs ht hsl htl
    go_enter Try.func33, Try.ntmps33
    go_wp2_with fail
    go_loopw [17] (fun x wr => ∃ (j : Nat), x = .int .i64 (j : Int) ∧ j ≤ n ∧ s.take j = t.take j ∧ Below w.heap.size w wr) (fun x _ => n - (intOf x).toNat)
    case atStart => exact ⟨0, rfl, Nat.zero_le _, by simp, Below.refl _ _⟩
    case round =>
      obtain ⟨j, rfl, hj, htk, hbel⟩ := hrel
      have HTK := hide htk
      have hsz := hbel.size
      clear htk
      by_cases hlt : j < n
      · have j0 : (j : Int) < (n : Int) := by omega
        obtain ⟨x, xa, xc, bx, qx, hx, hidx, hbx, c0, c1, c2, hit⟩ := (HS.out.below hbel).get Try.underlying28 infoOI j hlt
        obtain ⟨y, ya, yc, bY, qy, hy, hidy, hby, d0, d1, d2, hit'⟩ := (HT.out.below hbel).get Try.underlying28 infoOI j hlt
        have hxl : x.ids.length ≤ 1048576 := Nat.le_trans (idW_mem (List.mem_of_getElem? hx)) HF.out
        have HX := hide hx
        have HY := hide hy
        have HC := hide (fun (w2 : World) (hb2 : Below wr.heap.size wr w2) => sameOut_any x y xa xc ya yc hxl w2 (hit.below hb2) (hit'.below hb2))
        clear hx hy hit hit'
        by_cases e : x = y
        · have HE := hide e
          have he := eqB_yes e
          rw [he] at HC
          clear e he
          go_wp2_with fail
          refine (HC.out _ (((Below.refl wr.heap.size wr).alloc (Nat.le_refl _) _).alloc (by simp) _)).mono ?_
          rintro e w2 ⟨rfl, hb2⟩
          have hb3 := hbel.trans (((((Below.refl wr.heap.size wr).alloc (Nat.le_refl _) _).alloc (by simp) _).trans (hb2.mono (by simp; omega))).mono hsz)
          clear hb2
          go_wp2_with fail
          go_roundw
          case rel => exact ⟨j + 1, by go_num, by omega, take_same14 HTK.out HX.out (by rw [HE.out]; exact HY.out), hb3⟩
          case measure => simp [intOf]; omega
        · have HE := hide e
          have he := eqB_no e
          rw [he] at HC
          clear e he
          go_wp2_with fail
          refine (HC.out _ (((Below.refl wr.heap.size wr).alloc (Nat.le_refl _) _).alloc (by simp) _)).mono ?_
          rintro e w2 ⟨rfl, hb2⟩
          have hb3 := hbel.trans (((((Below.refl wr.heap.size wr).alloc (Nat.le_refl _) _).alloc (by simp) _).trans (hb2.mono (by simp; omega))).mono hsz)
          clear hb2
          go_wp2_with fail
          go_ret
          refine ⟨?_, hb3⟩
          rw [eqB_no (fun h => HE.out (by
            have h1 := HX.out
            rw [h, HY.out] at h1
            exact (Option.some.inj h1).symm))]
          rfl
      · have hst : s = t := by
          have h1 := HTK.out
          rwa [List.take_of_length_le (by rw [HSL.out]; omega), List.take_of_length_le (by rw [HTL.out]; omega)] at h1
        have HST := hide hst
        clear hst
        go_wp2_with fail
        go_ret
        exact ⟨by rw [eqB_yes HST.out]; rfl, hbel⟩
  · have HNE := hide (show s ≠ t from fun h => hnm (by rw [← hsl, ← htl, h]))
    have q2 : ((n : Int) != (m : Int)) = true := by rw [bne_iff_ne]; omega
    clear hs ht hsl htl hnm
    go_enter Try.func33, Try.ntmps33
    go_wp2_with fail
    go_ret
    exact ⟨by rw [eqB_no HNE.out]; rfl, Below.refl _ _⟩

set_option maxRecDepth 100000 in
set_option maxHeartbeats 8000000 in
theorem equalEvents_any (oa : Option Addr) (n cap : Nat) (s : List EvV) (ob : Option Addr) (m cb : Nat) (t : List EvV) (hf : FineE s) (w : World) (hs : EvsAt w oa n cap s) (ht : EvsAt w ob m cb t) :
    Calls Try.prog 61 #[.slice oa n cap, .slice ob m cb, .func (.func 62) #[] #[]] w fun e w' => e = .returned (.bool (eqB s t)) ∧ Below w.heap.size w w' := by
  have hsl := hs.len
  have htl := ht.len
  have hmx := Nat.le_trans hs.room hs.most
  have hmy := Nat.le_trans ht.room ht.most
  unfold maxLen at hmx hmy
  by_cases hnm : n = m
  · subst hnm
    have HS := hide hs
    have HT := hide ht
    have HSL := hide hsl
    have HTL := hide htl
    have HF := hide hf
    clear hs ht hsl htl
    go_enter Try.func61, Try.ntmps61
    go_wp2_with fail
    go_loopw [17] (fun x wr => ∃ (j : Nat), x = .int .i64 (j : Int) ∧ j ≤ n ∧ s.take j = t.take j ∧ Below w.heap.size w wr) (fun x _ => n - (intOf x).toNat)
    case atStart => exact ⟨0, rfl, Nat.zero_le _, by simp, Below.refl _ _⟩
    case round =>
      obtain ⟨j, rfl, hj, htk, hbel⟩ := hrel
      have HTK := hide htk
      have hsz := hbel.size
      clear htk
      by_cases hlt : j < n
      · have j0 : (j : Int) < (n : Int) := by omega
        obtain ⟨x, bx, qx, xa, xc, ya, yc, hx, hidx, hev⟩ := (HS.out.below hbel).get Try.underlying23 infoIV j hlt
        obtain ⟨y, bY, qy, xa', xc', ya', yc', hy, hidy, hev'⟩ := (HT.out.below hbel).get Try.underlying23 infoIV j hlt
        obtain ⟨l1, l2, l3⟩ := HF.out.one (List.mem_of_getElem? hx)
        have hbx := hev.lt
        have hby := hev'.lt
        obtain ⟨c0, c1, c2, c3, c4, c5, c6, c7, c8⟩ := hev.cs
        obtain ⟨d0, d1, d2, d3, d4, d5, d6, d7, d8⟩ := hev'.cs
        have HX := hide hx
        have HY := hide hy
        have HC := hide (fun (w2 : World) (hb2 : Below wr.heap.size wr w2) => sameEvent_any x y xa xc ya yc xa' xc' ya' yc' l1 l3 w2 (hev.lev.below hb2) (hev'.lev.below hb2) (hev.prv.below hb2) (hev'.prv.below hb2))
        clear hx hy hev hev'
        by_cases e : x = y
        · have HE := hide e
          have he := eqB_yes e
          rw [he] at HC
          clear e he
          go_wp2_with fail
          refine (HC.out _ (((Below.refl wr.heap.size wr).alloc (Nat.le_refl _) _).alloc (by simp) _)).mono ?_
          rintro e w2 ⟨rfl, hb2⟩
          have hb3 := hbel.trans (((((Below.refl wr.heap.size wr).alloc (Nat.le_refl _) _).alloc (by simp) _).trans (hb2.mono (by simp; omega))).mono hsz)
          clear hb2
          go_wp2_with fail
          go_roundw
          case rel => exact ⟨j + 1, by go_num, by omega, take_same14 HTK.out HX.out (by rw [HE.out]; exact HY.out), hb3⟩
          case measure => simp [intOf]; omega
        · have HE := hide e
          have he := eqB_no e
          rw [he] at HC
          clear e he
          go_wp2_with fail
          refine (HC.out _ (((Below.refl wr.heap.size wr).alloc (Nat.le_refl _) _).alloc (by simp) _)).mono ?_
          rintro e w2 ⟨rfl, hb2⟩
          have hb3 := hbel.trans (((((Below.refl wr.heap.size wr).alloc (Nat.le_refl _) _).alloc (by simp) _).trans (hb2.mono (by simp; omega))).mono hsz)
          clear hb2
          go_wp2_with fail
          go_ret
          refine ⟨?_, hb3⟩
          rw [eqB_no (fun h => HE.out (by
            have h1 := HX.out
            rw [h, HY.out] at h1
            exact (Option.some.inj h1).symm))]
          rfl
      · have hst : s = t := by
          have h1 := HTK.out
          rwa [List.take_of_length_le (by rw [HSL.out]; omega), List.take_of_length_le (by rw [HTL.out]; omega)] at h1
        have HST := hide hst
        clear hst
        go_wp2_with fail
        go_ret
        exact ⟨by rw [eqB_yes HST.out]; rfl, hbel⟩
  · have HNE := hide (show s ≠ t from fun h => hnm (by rw [← hsl, ← htl, h]))
    have q2 : ((n : Int) != (m : Int)) = true := by rw [bne_iff_ne]; omega
    clear hs ht hsl htl hnm
    go_enter Try.func61, Try.ntmps61
    go_wp2_with fail
    go_ret
    exact ⟨by rw [eqB_no HNE.out]; rfl, Below.refl _ _⟩

set_option maxRecDepth 100000 in
set_option maxHeartbeats 8000000 in
theorem equalStates_any (oa : Option Addr) (n cap : Nat) (s : List (List (Int × Int))) (ob : Option Addr) (m cb : Nat) (t : List (List (Int × Int))) (hf : stW s ≤ 1048576) (w : World) (hs : StsAt w oa n cap s) (ht : StsAt w ob m cb t) :
    Calls Try.prog 63 #[.slice oa n cap, .slice ob m cb, .func (.func 64) #[] #[]] w fun e w' => e = .returned (.bool (eqB s t)) ∧ Below w.heap.size w w' := by
  have hsl := hs.len
  have htl := ht.len
  have hmx := Nat.le_trans hs.room hs.most
  have hmy := Nat.le_trans ht.room ht.most
  unfold maxLen at hmx hmy
  by_cases hnm : n = m
  · subst hnm
    have HS := hide hs
    have HT := hide ht
    have HSL := hide hsl
    have HTL := hide htl
    have HF := hide hf
    clear hs ht hsl htl
    go_enter Try.func63, Try.ntmps63
    go_wp2_with fail
    go_loopw [17] (fun x wr => ∃ (j : Nat), x = .int .i64 (j : Int) ∧ j ≤ n ∧ s.take j = t.take j ∧ Below w.heap.size w wr) (fun x _ => n - (intOf x).toNat)
    case atStart => exact ⟨0, rfl, Nat.zero_le _, by simp, Below.refl _ _⟩
    case round =>
      obtain ⟨j, rfl, hj, htk, hbel⟩ := hrel
      have HTK := hide htk
      have hsz := hbel.size
      clear htk
      by_cases hlt : j < n
      · have j0 : (j : Int) < (n : Int) := by omega
        obtain ⟨x, bx, qx, xa, xc, hx, hidx, c0, hit⟩ := (HS.out.below hbel).get Try.underlying24 infoSS1 j hlt
        obtain ⟨y, bY, qy, ya, yc, hy, hidy, d0, hit'⟩ := (HT.out.below hbel).get Try.underlying24 infoSS1 j hlt
        have hbx := cell_lt c0
        have hby := cell_lt d0
        have hxl : x.length ≤ 1048576 := Nat.le_trans (stW_mem (List.mem_of_getElem? hx)) HF.out
        have HX := hide hx
        have HY := hide hy
        have HC := hide (fun (w2 : World) (hb2 : Below wr.heap.size wr w2) => sameState_any xa xc x ya yc y hxl w2 (hit.below hb2) (hit'.below hb2))
        clear hx hy hit hit'
        by_cases e : x = y
        · have HE := hide e
          have he := eqB_yes e
          rw [he] at HC
          clear e he
          go_wp2_with fail
          refine (HC.out _ (Below.refl wr.heap.size wr)).mono ?_
          rintro e w2 ⟨rfl, hb2⟩
          have hb3 := hbel.trans (((Below.refl wr.heap.size wr).trans (hb2.mono (Nat.le_refl _))).mono hsz)
          clear hb2
          go_wp2_with fail
          go_roundw
          case rel => exact ⟨j + 1, by go_num, by omega, take_same14 HTK.out HX.out (by rw [HE.out]; exact HY.out), hb3⟩
          case measure => simp [intOf]; omega
        · have HE := hide e
          have he := eqB_no e
          rw [he] at HC
          clear e he
          go_wp2_with fail
          refine (HC.out _ (Below.refl wr.heap.size wr)).mono ?_
          rintro e w2 ⟨rfl, hb2⟩
          have hb3 := hbel.trans (((Below.refl wr.heap.size wr).trans (hb2.mono (Nat.le_refl _))).mono hsz)
          clear hb2
          go_wp2_with fail
          go_ret
          refine ⟨?_, hb3⟩
          rw [eqB_no (fun h => HE.out (by
            have h1 := HX.out
            rw [h, HY.out] at h1
            exact (Option.some.inj h1).symm))]
          rfl
      · have hst : s = t := by
          have h1 := HTK.out
          rwa [List.take_of_length_le (by rw [HSL.out]; omega), List.take_of_length_le (by rw [HTL.out]; omega)] at h1
        have HST := hide hst
        clear hst
        go_wp2_with fail
        go_ret
        exact ⟨by rw [eqB_yes HST.out]; rfl, hbel⟩
  · have HNE := hide (show s ≠ t from fun h => hnm (by rw [← hsl, ← htl, h]))
    have q2 : ((n : Int) != (m : Int)) = true := by rw [bne_iff_ne]; omega
    clear hs ht hsl htl hnm
    go_enter Try.func63, Try.ntmps63
    go_wp2_with fail
    go_ret
    exact ⟨by rw [eqB_no HNE.out]; rfl, Below.refl _ _⟩

end Go.Proofs.Ytckkfjmjcknjdaa
