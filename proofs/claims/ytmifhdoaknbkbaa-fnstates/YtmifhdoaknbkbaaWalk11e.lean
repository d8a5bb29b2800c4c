/-
  Walks of chapter 11 of the specification: a number put into an ascending list (made by wip/tools/gen11e.py).
-/
import Derived.Test.YtmifhdoaknbkbaaWalk11c
import Derived.Deep.Cut
namespace Go.Proofs.Ytmifhdoaknbkbaa
open Go.RowKit P1 P5 P9 P11 P12 P14 P15 K
set_option linter.unusedVariables false
set_option linter.unusedSimpArgs false

theorem addGo_at {x : Int} {l : List Int} {j : Nat} {y : Int} (d : Bool) (h : l[j]? = some y) : addGo x (l.drop j) d = (if decide (x ≤ y) && !d then [x] else []) ++ ((if y = x then [] else [y]) ++ addGo x (l.drop (j + 1)) (d || decide (x ≤ y))) := by
  obtain ⟨hj, rfl⟩ := List.getElem?_eq_some_iff.1 h
  rw [List.drop_eq_getElem_cons hj]
  rfl

set_option maxRecDepth 100000 in
set_option maxHeartbeats 8000000 in
theorem l11Add_any (oa : Option Addr) (n cap : Nat) (l : List Int) (x : Int) (hn20 : n ≤ 1048576) (w : World) (hat : IntsAt w oa n cap l) :
    Calls Try.prog 67 #[.slice oa n cap, .int .i64 x] w (IntPost w (addI l x)) := by
  have HN := hide hat.len
  have HAT := hide hat
  have hal := addI_len l x
  rw [hat.len] at hal
  obtain ⟨R, hR⟩ : ∃ R, addI l x = R := ⟨_, rfl⟩
  rw [hR] at hal ⊢
  have HR0 := hide (show addGo x l false = R from hR)
  have HO0 := hide (OutN.new w)
  clear hat hR
  go_enter Try.func67, Try.ntmps67
  go_wp2_with fail
  go_loopw [5, 6, 7] (fun v dv i wr => ∃ (j : Nat) (d : Bool) (oo : Option Addr) (m co : Nat) (L : List Int), i = .int .i64 (j : Int) ∧ dv = .bool d ∧ v = .slice oo m co ∧ j ≤ n ∧ L ++ addGo x (l.drop j) d = R ∧ OutN w wr (.slice oo m co) L) (fun _ _ i _ => n - (intOf i).toNat)
  case atStart => exact ⟨0, false, _, _, _, [], rfl, rfl, rfl, Nat.zero_le _, HR0.out, HO0.out⟩
  case round =>
    obtain ⟨j, d, oo, m, co, L, rfl, rfl, rfl, hj, hrest, hO⟩ := hrel
    have HO := hide hO
    have hbel := hO.bel
    have hsz := hbel.size
    have hLl : L.length ≤ n + 1 := by
      have := congrArg List.length hrest
      rw [List.length_append] at this
      omega
    clear hO HO0
    by_cases hlt : j < n
    · have j0 : (j : Int) < (n : Int) := by omega
      obtain ⟨y, b, q, hy, hidx, hb, c0w, hwy⟩ := HAT.out.get Try.underlying38 infoI j hlt
      have HCY := hide (show ∀ w1, Below w.heap.size w w1 → w1.cell? ⟨b, q, none⟩ = some (.int .i64 y) from fun w1 h => (h.cell hb).trans c0w)
      have c0 := HCY.out wr hbel
      clear c0w
      rw [addGo_at d hy] at hrest
      have HREST := hide hrest
      clear hy hrest
      by_cases hxy : x ≤ y
      · cases d
        · by_cases hyx : y = x
          · have g1 : (y != x) = false := by simp [hyx]
            have HE := hide (show (L ++ [x]) ++ addGo x (l.drop (j + 1)) true = R by rw [← HREST.out]; simp [hxy, hyx])
            have hown := HO.out.own
            clear hyx
            go_upto_region 9 with (at_builtin; refine wpList_pushK (W := w) (cs := #[.int .i64 x]) rfl _ _ 38 rfl (by decide) Try.underlying38 infoIz rfl rfl hown rfl rfl (by simp [Value.oneCell']) hbel hsz (by unfold maxLen; omega) (by omega) ?_; intro v' w1 how1 hbw1 hsA1; obtain ⟨o1, c1, rfl⟩ := row_form how1)
            have HO1 := hide (OutN.snoc (x := x) how1 hbw1)
            have c01 := HCY.out w1 hbw1
            clear how1 hbw1 hown
            go_wp2_with fail
            go_roundw
            case rel => exact ⟨j + 1, true, _, _, _, (L ++ [x]), by go_num, rfl, rfl, by omega, HE.out, HO1.out⟩
            case measure => simp [intOf]; omega
          · have g1 : (y != x) = true := by simp [hyx]
            have HE := hide (show (L ++ [x] ++ [y]) ++ addGo x (l.drop (j + 1)) true = R by rw [← HREST.out]; simp [hxy, hyx])
            have hown := HO.out.own
            go_upto_region 9 with (at_builtin; refine wpList_pushK (W := w) (cs := #[.int .i64 x]) rfl _ _ 38 rfl (by decide) Try.underlying38 infoIz rfl rfl hown rfl rfl (by simp [Value.oneCell']) hbel hsz (by unfold maxLen; omega) (by omega) ?_; intro v' w1 how1 hbw1 hsA1; obtain ⟨o1, c1, rfl⟩ := row_form how1)
            have HO1 := hide (OutN.snoc (x := x) how1 hbw1)
            have c01 := HCY.out w1 hbw1
            have hown1 := HO1.out.own
            have hbel1 := hbw1
            have hsz1 := hbel1.size
            have hl1 : (L ++ [x]).length ≤ n + 2 := by simp; omega
            clear how1 hbw1 hown
            go_wp2_with (at_builtin; refine wpList_pushK (W := w) (cs := #[.int .i64 y]) rfl _ _ 38 rfl (by decide) Try.underlying38 infoIz rfl rfl hown1 rfl rfl (by simp [Value.oneCell']) hbel1 hsz1 (by unfold maxLen; omega) (by omega) ?_; intro v' w2 how2 hbw2 hsw2; obtain ⟨o2, c2, rfl⟩ := row_form how2)
            have HO2 := hide (OutN.snoc (x := y) how2 hbw2)
            clear how2 hbw2 hown1
            go_roundw
            case rel => exact ⟨j + 1, true, _, _, _, (L ++ [x] ++ [y]), by go_num, rfl, rfl, by omega, HE.out, (by have h2 := HO2.out; rw [len_snoc] at h2; exact h2)⟩
            case measure => simp [intOf]; omega
        · by_cases hyx : y = x
          · have g1 : (y != x) = false := by simp [hyx]
            have HE := hide (show L ++ addGo x (l.drop (j + 1)) true = R by rw [← HREST.out]; simp [hxy, hyx])
            clear hyx
            go_wp2_with fail
            go_roundw
            case rel => exact ⟨j + 1, true, _, _, _, L, by go_num, rfl, rfl, by omega, HE.out, HO.out⟩
            case measure => simp [intOf]; omega
          · have g1 : (y != x) = true := by simp [hyx]
            have HE := hide (show (L ++ [y]) ++ addGo x (l.drop (j + 1)) true = R by rw [← HREST.out]; simp [hxy, hyx])
            have hown := HO.out.own
            go_wp2_with (at_builtin; refine wpList_pushK (W := w) (cs := #[.int .i64 y]) rfl _ _ 38 rfl (by decide) Try.underlying38 infoIz rfl rfl hown rfl rfl (by simp [Value.oneCell']) hbel hsz (by unfold maxLen; omega) (by omega) ?_; intro v' w2 how2 hbw2 hsw2; obtain ⟨o2, c2, rfl⟩ := row_form how2)
            have HO2 := hide (OutN.snoc (x := y) how2 hbw2)
            clear how2 hbw2 hown
            go_roundw
            case rel => exact ⟨j + 1, true, _, _, _, (L ++ [y]), by go_num, rfl, rfl, by omega, HE.out, HO2.out⟩
            case measure => simp [intOf]; omega
      · have hyx : ¬ y = x := by omega
        have g1 : (y != x) = true := by simp [hyx]
        have HE := hide (show (L ++ [y]) ++ addGo x (l.drop (j + 1)) d = R by rw [← HREST.out]; simp [hxy, hyx])
        have hown := HO.out.own
        go_wp2_with (at_builtin; refine wpList_pushK (W := w) (cs := #[.int .i64 y]) rfl _ _ 38 rfl (by decide) Try.underlying38 infoIz rfl rfl hown rfl rfl (by simp [Value.oneCell']) hbel hsz (by unfold maxLen; omega) (by omega) ?_; intro v' w2 how2 hbw2 hsw2; obtain ⟨o2, c2, rfl⟩ := row_form how2)
        have HO2 := hide (OutN.snoc (x := y) how2 hbw2)
        clear how2 hbw2 hown
        go_roundw
        case rel => exact ⟨j + 1, d, _, _, _, (L ++ [y]), by go_num, rfl, rfl, by omega, HE.out, HO2.out⟩
        case measure => simp [intOf]; omega
    · have hdr : l.drop j = [] := List.drop_eq_nil_of_le (by rw [HN.out]; omega)
      rw [hdr] at hrest
      have HREST := hide hrest
      clear hdr hrest
      cases d
      · have HE := hide (show L ++ [x] = R from HREST.out)
        have hown := HO.out.own
        go_wp2_with (at_builtin; refine wpList_pushK (W := w) (cs := #[.int .i64 x]) rfl _ _ 38 rfl (by decide) Try.underlying38 infoIz rfl rfl hown rfl rfl (by simp [Value.oneCell']) hbel hsz (by unfold maxLen; omega) (by omega) ?_; intro v' w2 how2 hbw2 hsw2; obtain ⟨o2, c2, rfl⟩ := row_form how2)
        have HO2 := hide (OutN.snoc (x := x) how2 hbw2)
        clear how2 hbw2 hown
        go_ret
        refine ⟨_, rfl, ?_, HO2.out.bel⟩
        rw [← HE.out]
        simpa using HO2.out.own
      · have HE := hide (show L = R by rw [← HREST.out]; simp [addGo])
        go_wp2_with fail
        go_ret
        refine ⟨_, rfl, ?_, hbel⟩
        rw [← HE.out]
        exact HO.out.own

end Go.Proofs.Ytmifhdoaknbkbaa
