/-
  The laws FnExactSumMore, FnExactSumOf, FnExactSealed and FnExactUnsealed, walked out of the contracts; the table of halves as the rows list it.
-/
import Derived.Test.YtgblmnlomcfjhaaDoorWalk2d
import Derived.Test.YtgblmnlomcfjhaaDoorTab
import Derived.LaidSub
import Derived.Stop.Joined
import Derived.LaidMore
namespace Go.Proofs.YtgblmnlomcfjhaaDoor
open Go.RowKit P1 K P3
set_option linter.unusedVariables false

theorem sums_of_laid {row : List (String × DataW Unit)} {w : World} (e : row.filter (fun x => x.1 == "loop.example/g00127/impl.sumHalves") = [("loop.example/g00127/impl.sumHalves", Lib.tabData .u32 sumTab)]) (h : laidMetH Tryd.prog row w) : SumTabIs w := by
  have h1 := laidMetH.filter (fun x => x.1 == "loop.example/g00127/impl.sumHalves") h
  rw [e, MakeChecks.laidMetH_plain _ _ _ (by kernel_rfl)] at h1
  exact Lib.tabIs_of_head (rest := []) (g := 0) (by kernel_rfl) (t := 60) (by kernel_rfl) Tryd.underlying60 Tryd.underlying38 (by kernel_rfl) (by kernel_rfl) h1

set_option maxHeartbeats 1000000 in
theorem FnExactSumMore_walk (a0 : Int) (a1 : ByteArray) (w0 : (Lit.int .u32 a0).wf = true) (w1 : a1.size ≤ maxLen) (w : World) (hL : laidMetH Tryd.prog Rows.fnExactSumMoreRow.laid w) :
    Calls Tryd.prog 5 #[.int .u32 a0, .string a1] w fun e w' => e = .returned (.bool true) ∧ Below w.heap.size w w' := by
  unfold maxLen at w1
  have HT := hide (sums_of_laid (by kernel_rfl) hL)
  clear hL
  have hx : 0 ≤ a0 ∧ a0 ≤ 4294967295 := by simpa [Lit.wf, IntKind.min, IntKind.max, IntKind.signed, IntKind.bits] using w0
  obtain ⟨u0, u1⟩ := hx
  clear w0
  obtain ⟨n, rfl⟩ := Int.eq_ofNat_of_zero_le u0
  have hn : n < 4294967296 := by omega
  by_cases hbig : 1048576 < a1.size
  · go_enter Tryd.func5, Tryd.ntmps5
    go_wp2_with fail
    go_ret
    exact ⟨rfl, Below.refl _ _⟩
  · have hs : a1.size ≤ 281474976710656 := by omega
    go_enter Tryd.func5, Tryd.ntmps5
    go_wp2_with (first
      | (go_at_call 26; refine (specSumMore_any n hn a1 hs _).mono ?_; rintro e w1 ⟨rfl, rfl⟩)
      | (go_at_call 24; refine (implSumMore_any n hn a1 hs _ HT.out).mono ?_; rintro e w1 ⟨rfl, rfl⟩))
    go_ret
    exact ⟨rfl, Below.refl _ _⟩

set_option maxHeartbeats 1000000 in
theorem FnExactSumOf_walk (a0 : ByteArray) (w0 : a0.size ≤ maxLen) (w : World) (hL : laidMetH Tryd.prog Rows.fnExactSumOfRow.laid w) :
    Calls Tryd.prog 6 #[.string a0] w fun e w' => e = .returned (.bool true) ∧ Below w.heap.size w w' := by
  unfold maxLen at w0
  have HT := hide (sums_of_laid (by kernel_rfl) hL)
  clear hL
  by_cases hbig : 1048576 < a0.size
  · go_enter Tryd.func6, Tryd.ntmps6
    go_wp2_with fail
    go_ret
    exact ⟨rfl, Below.refl _ _⟩
  · have hs : a0.size ≤ 281474976710656 := by omega
    go_enter Tryd.func6, Tryd.ntmps6
    go_wp2_with (first
      | (go_at_call 27; refine (specSumOf_any a0 hs _).mono ?_; rintro e w1 ⟨rfl, rfl⟩)
      | (go_at_call 25; refine (implSumOf_any a0 hs _ HT.out).mono ?_; rintro e w1 ⟨rfl, rfl⟩))
    go_ret
    exact ⟨rfl, Below.refl _ _⟩

set_option maxHeartbeats 1000000 in
theorem FnExactSealed_walk (a0 : ByteArray) (w0 : a0.size ≤ maxLen) (w : World) (hL : laidMetH Tryd.prog Rows.fnExactSealedRow.laid w) :
    Calls Tryd.prog 7 #[.string a0] w fun e w' => e = .returned (.bool true) ∧ Below w.heap.size w w' := by
  unfold maxLen at w0
  have HT := hide (sums_of_laid (by kernel_rfl) hL)
  clear hL
  by_cases hbig : 1048576 < a0.size
  · go_enter Tryd.func7, Tryd.ntmps7
    go_wp2_with fail
    go_ret
    exact ⟨rfl, Below.refl _ _⟩
  · have hs : a0.size ≤ 281474976710656 := by omega
    by_cases hl : (bl a0).length ≤ 20000
    · have V := hide (sealVal_yes hl)
      go_enter Tryd.func7, Tryd.ntmps7
      go_wp2_with (first
        | (go_at_call 28; refine (specSealed_any a0 hs _).mono ?_; rw [V.out]; rintro e w1 ⟨rfl, hb1⟩)
        | (go_at_call 22; refine (implSealed_any a0 hs _ (tab_below HT.out hb1)).mono ?_; rw [V.out]; rintro e w2 ⟨rfl, hb2⟩))
      go_ret
      exact ⟨rfl, hb1.trans (hb2.mono hb1.size)⟩
    · have V := hide (sealVal_no (show 20000 < (bl a0).length by omega))
      go_enter Tryd.func7, Tryd.ntmps7
      go_wp2_with (first
        | (go_at_call 28; refine (specSealed_any a0 hs _).mono ?_; rw [V.out]; rintro e w1 ⟨rfl, hb1⟩)
        | (go_at_call 22; refine (implSealed_any a0 hs _ (tab_below HT.out hb1)).mono ?_; rw [V.out]; rintro e w2 ⟨rfl, hb2⟩))
      go_ret
      exact ⟨rfl, hb1.trans (hb2.mono hb1.size)⟩

set_option maxHeartbeats 1000000 in
theorem FnExactUnsealed_walk (a0 : ByteArray) (w0 : a0.size ≤ maxLen) (w : World) (hL : laidMetH Tryd.prog Rows.fnExactUnsealedRow.laid w) :
    Calls Tryd.prog 8 #[.string a0] w fun e w' => e = .returned (.bool true) ∧ Below w.heap.size w w' := by
  unfold maxLen at w0
  have HT := hide (sums_of_laid (by kernel_rfl) hL)
  clear hL
  by_cases hbig : 1048576 < a0.size
  · go_enter Tryd.func8, Tryd.ntmps8
    go_wp2_with fail
    go_ret
    exact ⟨rfl, Below.refl _ _⟩
  · have hs : a0.size ≤ 281474976710656 := by omega
    cases hr : unsealL (bl a0) with
    | none =>
      have V := hide (show unsealVal (unsealL (bl a0)) = .tuple #[.string ⟨#[]⟩, .bool false] by rw [hr]; rfl)
      clear hr
      go_enter Tryd.func8, Tryd.ntmps8
      go_wp2_with (first
        | (go_at_call 29; refine (specUnsealed_any a0 hs _).mono ?_; rw [V.out]; rintro e w1 ⟨rfl, hb1⟩)
        | (go_at_call 23; refine (implUnsealed_any a0 hs _ (tab_below HT.out hb1)).mono ?_; rw [V.out]; rintro e w2 ⟨rfl, hb2⟩))
      go_ret
      exact ⟨rfl, hb1.trans (hb2.mono hb1.size)⟩
    | some l =>
      have V := hide (show unsealVal (unsealL (bl a0)) = .tuple #[.string ⟨l.toArray⟩, .bool true] by rw [hr]; rfl)
      clear hr
      go_enter Tryd.func8, Tryd.ntmps8
      go_wp2_with (first
        | (go_at_call 29; refine (specUnsealed_any a0 hs _).mono ?_; rw [V.out]; rintro e w1 ⟨rfl, hb1⟩)
        | (go_at_call 23; refine (implUnsealed_any a0 hs _ (tab_below HT.out hb1)).mono ?_; rw [V.out]; rintro e w2 ⟨rfl, hb2⟩))
      go_ret
      exact ⟨rfl, hb1.trans (hb2.mono hb1.size)⟩

end Go.Proofs.YtgblmnlomcfjhaaDoor
