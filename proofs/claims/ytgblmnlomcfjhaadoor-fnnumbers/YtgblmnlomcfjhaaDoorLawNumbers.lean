/-
  The law FnNumbers, walked out of the contracts.
-/
import Derived.Test.YtgblmnlomcfjhaaDoorDraw4
import Derived.Test.YtgblmnlomcfjhaaDoorPlain4
import Derived.Test.YtgblmnlomcfjhaaDoorWalk1e
import Derived.Test.YtgblmnlomcfjhaaDoorWalk1f
import Derived.Test.YtgblmnlomcfjhaaDoorWalk1h
import Derived.Test.YtgblmnlomcfjhaaDoorWalk1j
import Derived.Test.YtgblmnlomcfjhaaDoorTab
namespace Go.Proofs.YtgblmnlomcfjhaaDoor
open Go.RowKit P1 K
set_option linter.unusedVariables false

theorem pow_of_laid {row : List (String × DataW Unit)} {w : World} (e : row.filter (fun x => x.1 == "internal/strconv.uint64pow10") = [("internal/strconv.uint64pow10", Lib.tabData .u64 Lib.pow10Tab)]) (h : laidMetH Tryd.prog row w) : Lib.TabIs Tryd.prog w "internal/strconv.uint64pow10" .u64 Lib.pow10Tab := by
  have h1 := laidMetH.filter (fun x => x.1 == "internal/strconv.uint64pow10") h
  rw [e, MakeChecks.laidMetH_plain _ _ _ (by kernel_rfl)] at h1
  exact Lib.tabIs_of_head (rest := []) (g := 1) (by kernel_rfl) (t := 71) (by kernel_rfl) Tryd.underlying71 Tryd.underlying64 (by kernel_rfl) (by kernel_rfl) h1

/-- The second half: the drawn text comes back from ShortText and from Hex. -/
theorem short_back (l : List UInt8) (h : l.length ≤ 20000) : rsVal ((⟨(varB l.length).toArray⟩ : ByteArray) ++ ⟨l.toArray⟩) 0 (rdGo 5 [] ((bl ((⟨(varB l.length).toArray⟩ : ByteArray) ++ ⟨l.toArray⟩)).drop 0)) =
    .tuple #[.string ⟨l.toArray⟩, .int .i64 (((varB l.length).length + l.length : Nat) : Int), .bool true] := by
  have e : bl ((⟨(varB l.length).toArray⟩ : ByteArray) ++ ⟨l.toArray⟩) = varB l.length ++ l := by simp
  rw [e, List.drop_zero, rdGo_varB _ (by omega)]
  have hs : ((⟨(varB l.length).toArray⟩ : ByteArray) ++ ⟨l.toArray⟩).size = (varB l.length).length + l.length := by
    rw [← bl_length, e, List.length_append]
  simp only [rsVal]
  rw [if_pos ⟨h, by rw [hs]; omega⟩]
  have hx : ((⟨(varB l.length).toArray⟩ : ByteArray) ++ ⟨l.toArray⟩).extract (0 + (varB l.length).length) (0 + (varB l.length).length + l.length) = ⟨l.toArray⟩ := by
    apply ByteArray.ext
    apply Array.ext'
    rw [ByteArray.data_extract, Array.toList_extract, List.extract_eq_take_drop]
    show List.take _ (List.drop _ (bl ((⟨(varB l.length).toArray⟩ : ByteArray) ++ ⟨l.toArray⟩))) = l
    rw [e]
    simp
  rw [hx, Nat.zero_add]

set_option maxHeartbeats 4000000 in
theorem FnNumbers_walk (a0 : Option Addr) (len0 cap0 : Nat) (z0 : List Int) (w : World) (w0 : IsRow .u8 w a0 len0 cap0 z0) (hL : laidMetH Tryd.prog Rows.fnNumbersRow.laid w) :
    Calls Tryd.prog 3 #[.slice a0 len0 cap0] w fun e w' => e = .returned (.bool true) ∧ Below w.heap.size w w' := by
  have HT := hide (pow_of_laid (by kernel_rfl) hL)
  have HC := hide (codeAt_of_row w0)
  clear hL w0
  by_cases hbig : 1048576 < len0
  · go_enter Tryd.func3, Tryd.ntmps3
    go_wp2_with (go_at_call 9; refine (big_yes a0 len0 cap0 hbig _).mono ?_; rintro e w1 ⟨rfl, rfl⟩)
    go_ret
    exact ⟨rfl, Below.refl _ _⟩
  · have hlen : len0 ≤ 1048576 := by omega
    go_enter Tryd.func3, Tryd.ntmps3
    go_wp2_with fail
    refine (big_no a0 len0 cap0 hlen _).mono ?_
    rintro e w1 ⟨rfl, rfl⟩
    go_wp2_with fail
    refine (drawVarText_any w.heap.size a0 len0 cap0 _ hlen (Nat.le_refl _) HC.out).mono ?_
    rintro e w1 ⟨x, hx0, hx1, rfl, hb1⟩
    have HT1 := hide (tab_below HT.out hb1)
    have HC1 := hide (HC.out.below hb1)
    have HB1 := hide hb1
    have hs1 := hb1.size
    clear hb1 HT HC
    obtain ⟨n, hn, hcase⟩ : ∃ n : Nat, n ≤ 1000000000 ∧ (x = (n : Int) ∨ (x < 0 ∧ (12345 : Int) = (n : Int)) ∨ (1000000000 < x ∧ (12345 : Int) = (n : Int))) := by
      by_cases h1 : x < 0
      · exact ⟨12345, by decide, Or.inr (Or.inl ⟨h1, rfl⟩)⟩
      · by_cases h2 : 1000000000 < x
        · exact ⟨12345, by decide, Or.inr (Or.inr ⟨h2, rfl⟩)⟩
        · exact ⟨x.toNat, by omega, Or.inl (by omega)⟩
    rcases hcase with rfl | ⟨hlo, e5⟩ | ⟨hhi, e5⟩
    case' inl =>
      have g1 : decide ((n : Int) < 0) = false := by simp
      have g2 : decide ((1000000000 : Int) < (n : Int)) = false := by simp; omega
      clear hx0 hx1
      go_wp2_with fail
      clear g1 g2
    case' inr.inl =>
      have E5 := hide e5
      have g1 : decide (x < 0) = true := by simp; omega
      clear e5
      go_wp2_with fail
      rw [E5.out]
      clear g1 E5
    case' inr.inr =>
      have E5 := hide e5
      have g1 : decide (x < 0) = false := by simp; omega
      have g2 : decide ((1000000000 : Int) < x) = true := by simp; omega
      clear e5
      go_wp2_with fail
      rw [E5.out]
      clear g1 g2 E5
    all_goals
      refine (implVarText_yes n hn _).mono ?_
      rintro e w2 ⟨rfl, hb2⟩
      have HB2 := hide (HB1.out.trans (hb2.mono hs1))
      have HT2 := hide (tab_below HT1.out hb2)
      have hs2 := HB2.out.size
      have HC2 := hide (HC1.out.below (hb2.mono hs1))
      clear hb2 HB1 HT1 HC1
      have hvl := varB_length n
      have hS1 : (⟨(varB n).toArray⟩ : ByteArray).size = (varB n).length := rfl
      obtain ⟨L, hL⟩ : ∃ L, (varB n).length = L := ⟨_, rfl⟩
      rw [hL] at hvl hS1
      have HLn := hide hL
      clear hL
      obtain ⟨Y, hY⟩ : ∃ Y : ByteArray, (⟨#[120]⟩ : ByteArray) ++ (⟨(varB n).toArray⟩ : ByteArray) = Y := ⟨_, rfl⟩
      obtain ⟨Z, hZ⟩ : ∃ Z : ByteArray, Y ++ (⟨#[121]⟩ : ByteArray) = Z := ⟨_, rfl⟩
      have hblZ := hide (show bl Z = 120 :: (varB n ++ [121]) by rw [← hZ, ← hY]; simp)
      have hYs : Y.size = L + 1 := by rw [← hY, ByteArray.size_append, hS1]; show 1 + L = L + 1; omega
      have hZs : Z.size = L + 2 := by rw [← hZ, ByteArray.size_append, hYs]; rfl
      have hk1 : (⟨#[120]⟩ : ByteArray).size = 1 := rfl
      have hk2 : (⟨#[121]⟩ : ByteArray).size = 1 := rfl
      have RV := hide (show rvVal 1 (rdGo 5 [] ((bl Z).drop 1)) = .tuple #[.int .i64 (n : Int), .int .i64 ((1 + L : Nat) : Int), .bool true] by
        rw [hblZ.out, List.drop_one, List.tail_cons, rdGo_varB n hn, HLn.out]; rfl)
      go_wp2_with fail
      refine (implReadVar_any Z (by omega) 1 (by omega) _).mono ?_
      rw [RV.out]
      rintro e w3 ⟨rfl, rfl⟩
      clear hYs hY hZ
      have RD := hide (show rdVal (rdDec (bl (⟨(Lib.itoa (n : Int)).toArray⟩ : ByteArray))) = .tuple #[.int .i64 (n : Int), .bool true] by
        show rdVal (rdDec (Lib.itoa (n : Int))) = _
        rw [Lib.itoa_nonneg, rdDec_dec n hn]; rfl)
      have hDs : (⟨(Lib.itoa (n : Int)).toArray⟩ : ByteArray).size ≤ 1048576 := by
        show (Lib.itoa (n : Int)).length ≤ _
        rw [Lib.itoa_nonneg]
        have := dec_length n (by omega)
        omega
      go_wp2_with fail
      refine (implDecimal_any (n : Int) (by omega) (by omega) _ HT2.out).mono ?_
      rintro e w4 ⟨rfl, hb4⟩
      have HB4 := hide (HB2.out.trans (hb4.mono hs2))
      have HT4 := hide (tab_below HT2.out hb4)
      have hs4 := HB4.out.size
      have HC4 := hide (HC2.out.below (hb4.mono hs2))
      clear hb4 HB2 HT2 HC2
      go_wp2_with fail
      refine (implReadDecimal_any _ hDs _ HT4.out).mono ?_
      rw [RD.out]
      rintro e w5 ⟨rfl, hb5⟩
      have HB5 := hide (HB4.out.trans (hb5.mono hs4))
      have hs5 := HB5.out.size
      have HC5 := hide (HC4.out.below (hb5.mono hs4))
      clear hb5 HB4 HT4 HC4 RD hDs
      go_wp2_with fail
      refine (drawHex_any w.heap.size a0 len0 cap0 _ hlen hs5 HC5.out).mono ?_
      rintro e w6 ⟨l0, hl0, rfl, hb6⟩
      have HB6 := hide (HB5.out.trans (hb6.mono hs5))
      clear hb6 HB5 HC5 hs5 hs4 hs2
      obtain ⟨l, hl, hcase2⟩ : ∃ l : List UInt8, l.length ≤ 300 ∧ (l = l0 ∨ (300 < l0.length ∧ (⟨#[97, 98, 99]⟩ : ByteArray) = ⟨l.toArray⟩)) := by
        by_cases h1 : 300 < l0.length
        · exact ⟨[97, 98, 99], by decide, Or.inr ⟨h1, rfl⟩⟩
        · exact ⟨l0, by omega, Or.inl rfl⟩
      have hl0s : (⟨l0.toArray⟩ : ByteArray).size = l0.length := rfl
      rcases hcase2 with rfl | ⟨hlong, e6⟩
      case' inl =>
        have g1 : decide ((300 : Int) < (l.length : Int)) = false := by simp; omega
        go_wp2_with fail
        clear g1
      case' inr =>
        have E6 := hide e6
        have g1 : decide ((300 : Int) < (l0.length : Int)) = true := by simp; omega
        clear e6
        go_wp2_with fail
        rw [E6.out]
        clear g1 E6
    all_goals
      have SB := hide (short_back l (by omega))
      have hs6 := HB6.out.size
      obtain ⟨A, hA⟩ : ∃ A : ByteArray, (⟨(varB l.length).toArray⟩ : ByteArray) ++ ⟨l.toArray⟩ = A := ⟨_, rfl⟩
      have hv2 := varB_length l.length
      have hAs : A.size = (varB l.length).length + l.length := by rw [← hA, ByteArray.size_append]; rfl
      rw [hA] at SB
      obtain ⟨M, hM⟩ : ∃ M, (varB l.length).length + l.length = M := ⟨_, rfl⟩
      have hMb : M ≤ 310 := by omega
      rw [hM] at SB hAs
      clear hM hv2 hl0s
      have ST := hide (implShortText_yes ⟨l.toArray⟩ (show l.length ≤ 20000 by omega))
      refine (ST.out _).mono ?_
      rw [show (⟨(varB (⟨l.toArray⟩ : ByteArray).size).toArray⟩ : ByteArray) ++ ⟨l.toArray⟩ = A from hA]
      rintro e w7 ⟨rfl, hb7⟩
      have HB7 := hide (HB6.out.trans (hb7.mono hs6))
      have hs7 := HB7.out.size
      clear hb7 HB6 ST hA
      go_wp2_with fail
      refine (implReadShort_any A (by omega) 0 (by omega) _).mono ?_
      rw [SB.out]
      rintro e w8 ⟨rfl, hb8⟩
      have HB8 := hide (HB7.out.trans (hb8.mono hs7))
      have hs8 := HB8.out.size
      clear hb8 HB7 SB
      go_wp2_with fail
      refine (implHex_yes ⟨l.toArray⟩ (show l.length ≤ 20000 by omega) _).mono ?_
      rw [show bl (⟨l.toArray⟩ : ByteArray) = l from rfl]
      rintro e w9 ⟨rfl, hb9⟩
      have HB9 := hide (HB8.out.trans (hb9.mono hs8))
      have hs9 := HB9.out.size
      clear hb9 HB8
      have hhl := hexL_length l
      go_wp2_with fail
      refine (implUnhex_yes ⟨(hexL l).toArray⟩ (show (hexL l).length ≤ 40000 by omega) (show (hexL l).length % 2 = 0 by omega) _).mono ?_
      rintro e w10 ⟨⟨v, rfl, hv⟩, hb10⟩
      have HB10 := hide (HB9.out.trans (hb10.mono hs9))
      have hv' : v = .tuple #[.string ⟨l.toArray⟩, .bool true] := by
        rcases hv with ⟨_, h2⟩ | ⟨h1, _⟩
        · rw [h2, show bl (⟨(hexL l).toArray⟩ : ByteArray) = hexL l from rfl, hhl, show 2 * l.length / 2 = l.length by omega, uhL_hexL]
        · exact absurd (hexTo_hexL l) h1
      subst hv'
      clear hv hb10 HB9
      have q1 : (l == l) = true := by simp
      have q2 : (((1 + L : Nat) : Int) == (L : Int) + 1) = true := by rw [beq_iff_eq]; omega
      go_wp2_with fail
      go_ret
      exact ⟨rfl, HB10.out⟩

end Go.Proofs.YtgblmnlomcfjhaaDoor
