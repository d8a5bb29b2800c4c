/-
  Walks of chapter 3: LoseDisk of the program.
-/
import Derived.Test.YtdcdlfkbdeogeaaWalk3k
namespace Go.Proofs.Ytdcdlfkbdeogeaa
open Go.RowKit P5 K
set_option linter.unusedVariables false
set_option linter.unusedSimpArgs false

set_option maxRecDepth 100000 in
set_option maxHeartbeats 4000000 in
theorem implLoseDisk_any (oa : Option Addr) (n cap : Nat) (fs : List FileV) (ob : Option Addr) (m cap' : Nat) (left : List Int) (w : World) (hat : FilesAt w oa n cap fs) (hw : ∀ f ∈ fs, Fine f) (hbt : IntsAt w ob m cap' left) (hm20 : m ≤ 1048576) :
    Calls Try.prog 25 #[.agg #[.slice oa n cap], .slice ob m cap'] w fun e w' => DiskRes w (lost fs left) (diskOk fs) e w' := by
  unfold lost
  have hb0 := ((Below.refl w.heap.size w).alloc (Nat.le_refl _) (.cells #[.slice oa n cap] 26)).alloc (by simp) (.cells #[.slice none 0 0] 26)
  have hn := hat.len
  have HN := hide hn
  have HAT := hide hat
  have HBT := hide hbt
  have HB0 := hide hb0
  have HW := hide hw
  clear hn hat hbt hb0 hw
  cases hok : diskOk fs with
  | false =>
    have HOK := hide hok
    clear hok
    go_enter Try.func25, Try.ntmps25
    go_wp2_with fail
    refine (implDiskOk_any oa n cap fs _ (HAT.out.below HB0.out) HW.out).mono ?_
    rw [HOK.out]
    rintro e w2 ⟨rfl, hb2⟩
    have k1 := hb2.cell (p := ⟨w.heap.size + 1, 0, none⟩) (by simp)
    have q1 := hb2.frozen (p := ⟨w.heap.size + 1, 0, none⟩) (by simp)
    go_wp2_with fail
    refine bodyPost_ret (v := .tuple #[.agg #[.slice none 0 0], .bool false]) (by simp [results, Try.results25, go_sem, k1, q1]) rfl ⟨_, rfl, World.ownsRow_nil _ _ _ _, ?_⟩
    exact (HB0.out.trans (hb2.mono (by simp; omega))).setCell (by simp) _
  | true =>
    have HOK := hide hok
    clear hok
    have hn30 : n ≤ 30 := by
      have h1 := HOK.out
      unfold diskOk at h1
      simp only [Bool.and_eq_true, decide_eq_true_eq] at h1
      rw [← HN.out]
      exact h1.1
    go_enter Try.func25, Try.ntmps25
    go_wp2_with fail
    refine (implDiskOk_any oa n cap fs _ (HAT.out.below HB0.out) HW.out).mono ?_
    rw [HOK.out]
    rintro e w2 ⟨rfl, hb2⟩
    have k0 : w2.cell? ⟨w.heap.size, 0, none⟩ = some (.slice oa n cap) := (hb2.cell (by simp; omega)).trans (by simp)
    have k1 : w2.cell? ⟨w.heap.size + 1, 0, none⟩ = some (.slice none 0 0) := (hb2.cell (by simp)).trans (by simp)
    have q1 : w2.frozen? ⟨w.heap.size + 1, 0, none⟩ = false := (hb2.frozen (by simp)).trans (by simp)
    have s2 : w.heap.size + 2 ≤ w2.heap.size := by have := hb2.size; simp at this; omega
    have B2 := hide (HB0.out.trans (hb2.mono (by simp; omega)))
    have s3 : w.heap.size < w2.heap.size := by omega
    clear hb2
    go_wp2_with fail
    have hrow0 : Row1 w w.heap.size w2.heap.size (w2.heap.size + 1) (w2.alloc (.cells #[.slice none 0 0] 26)) (.slice none 0 0) 0 [] :=
      ⟨B2.out.alloc (by omega) _, by simp, by omega, by simp, by simp, World.ownsRow_nil _ _ _ _⟩
    have HR0 := hide hrow0
    clear hrow0
    go_loopw [17] (fun i wr => ∃ (j : Nat) (ov : Option Addr) (cv : Nat), i = .int .i64 (j : Int) ∧ j ≤ n ∧ Row1 w w.heap.size w2.heap.size (w2.heap.size + 1) wr (.slice ov j cv) j ((LF fs left j).flatMap fcells) ∧ Below (w.heap.size + 2) w2 wr) (fun i _ => n - (intOf i).toNat)
    case atStart => exact ⟨0, none, 0, rfl, Nat.zero_le _, HR0.out, (Below.refl _ _).alloc (by omega) _⟩
    case round =>
      obtain ⟨j, ov, cv, rfl, hj, hrow, hbel2⟩ := hrel
      have c0 : wr.cell? ⟨w.heap.size, 0, none⟩ = some (.slice oa n cap) := (hbel2.cell (by simp)).trans k0
      have HR := hide hrow
      have HB2 := hide hbel2
      clear hrow hbel2 HR0
      by_cases hlt : j < n
      · have j0 : (j : Int) < (n : Int) := by omega
        obtain ⟨f, b, q, hf, hidx, hb, e0, e1, e2⟩ := (HAT.out.below HR.out.bel).get Try.underlying24 infoIF j hlt
        have hfo := diskOk_mem HOK.out f (List.mem_of_getElem? hf)
        have HF := hide hf
        clear hf
        have hk := fileOk_kept hfo
        have hnt : f.name.length ≤ 8 ∧ f.text.length ≤ 20000 := by simp [fileOk, nameOk] at hfo; omega
        have hwn := hnt.1
        have hwt := hnt.2
        have d1 := HR.out.cell
        have d2 := HR.out.free
        have d3 : w2.heap.size < wr.heap.size := by have := HR.out.big; omega
        obtain ⟨T, hT⟩ : ∃ T : Int, left.getD j 0 = T := ⟨_, rfl⟩
        have HT := hide hT
        clear hT
        go_upto_if 25 with fail
        go_cut [9] (fun s wx => s = .int .i64 T ∧ wx = wr.alloc (.cells #[.string ⟨f.name.toArray⟩, .string ⟨f.text.toArray⟩, .int .i64 f.kept] 49))
        case first =>
          by_cases hjm : j < m
          · have g1 : decide (j < m) = true := by simpa using hjm
            obtain ⟨z, b', q', hz, hidx', hb', z0, hwf⟩ := (HBT.out.below HR.out.bel).get Try.underlying28 infoI j hjm
            have hTz : z = T := by rw [← HT.out]; simp [List.getD_eq_getElem?_getD, hz]
            subst hTz
            go_wp2_with fail
            go_meet
            exact ⟨rfl, rfl⟩
          · have g1 : decide (j < m) = false := by simpa using hjm
            have hTz : T = 0 := by
              rw [← HT.out]
              have := HBT.out.len
              simp [List.getD_eq_getElem?_getD, List.getElem?_eq_none (show left.length ≤ j by omega)]
            subst hTz
            go_wp2_with fail
            go_meet
            exact ⟨rfl, rfl⟩
        case rest =>
          obtain ⟨rfl, rfl⟩ := hcut
          have HFO := hide hfo
          clear hfo
          go_upto_region 10 with fail
          go_region_law (first
            | (refine step_push3 (by rfl) _ _ 24 (by rfl) Try.underlying24 infoIFz (by rfl) (cs := #[.string ⟨(loseF f T).name.toArray⟩, .string ⟨(loseF f T).text.toArray⟩, .int .i64 (loseF f T).kept]) (by rfl) (by exact own_below HR.out.own (hB4.alloc hB4.size _)) (by rfl) (by rfl) (by exact heap_alloc_new _ _) (by simp [Value.oneCell']) (by have := HR.out.big; have := hB4.size; simp; omega) (by unfold maxLen; omega) (by omega) ?_; intro v' w3 ho3 hg3; obtain ⟨ov', cv', rfl⟩ := own_form ho3; obtain ⟨d4, f4⟩ := HR.out.mid (hB4.alloc hB4.size _) hg3)
            | (rw [if_pos (by rfl)]; go_simp; go_at_call 50; refine (lost_any f HFO.out T _).mono ?_; unfold fval; rintro e w4 ⟨rfl, hb4⟩; have hB4 : Below wr.heap.size wr w4 := ((Below.refl wr.heap.size wr).alloc (Nat.le_refl _) _).drew.trans (hb4.mono (by simp)); have d5 := (hB4.cell (p := ⟨w2.heap.size, 0, none⟩) d3).trans d1; have d6 : w2.heap.size < w4.heap.size := Nat.lt_of_lt_of_le d3 hB4.size))
          all_goals
            have hrow' : Row1 w w.heap.size w2.heap.size (w2.heap.size + 1) (w3.setCell ⟨w2.heap.size, 0, none⟩ (.slice ov' (j + 1) cv')) (.slice ov' (j + 1) cv') (j + 1) ((LF fs left (j + 1)).flatMap fcells) := by
              have hst : (LF fs left (j + 1)).flatMap fcells = (LF fs left j).flatMap fcells ++ [.string ⟨(loseF f T).name.toArray⟩, .string ⟨(loseF f T).text.toArray⟩, .int .i64 (loseF f T).kept] := by
                rw [LF_step HF.out, HT.out]
                rfl
              rw [hst]
              exact HR.out.next (hB4.alloc hB4.size _) ho3 hg3
            have hbel' : Below (w.heap.size + 2) w2 (w3.setCell ⟨w2.heap.size, 0, none⟩ (.slice ov' (j + 1) cv')) :=
              ((HB2.out.trans ((hB4.alloc hB4.size _).mono (by have := HB2.out.size; omega))).grown hg3 (by have := HB2.out.size; have := hB4.size; simp; omega) (fun k hk => by have := (HR.out.own.lt k hk).1; omega)).setCell (by simp; omega) _
            clear ho3 hg3 d4 f4
            go_wp2_with fail
            go_roundw
            case rel => exact ⟨j + 1, ov', cv', by go_num, by omega, hrow', hbel'⟩
            case measure => simp [intOf]; omega
      · obtain rfl : j = n := by omega
        have c1 : wr.cell? ⟨w.heap.size + 1, 0, none⟩ = some (.slice none 0 0) := (HB2.out.cell (by simp)).trans k1
        have r1 : wr.frozen? ⟨w.heap.size + 1, 0, none⟩ = false := (HB2.out.frozen (by simp)).trans q1
        have d1 := HR.out.cell
        have HL := hide (show LF fs left j = lose fs left by rw [← HN.out]; exact LF_all fs left)
        go_wp2_with fail
        refine bodyPost_ret (v := .tuple #[.agg #[.slice ov j cv], .bool true]) (by simp [results, Try.results25, go_sem, c1, r1]) rfl ⟨.slice ov j cv, rfl, ?_, HR.out.bel.setCell (by simp) _⟩
        have h1 := own_setCell HR.out.own (p := ⟨w.heap.size + 1, 0, none⟩) (by simp; omega) (.slice ov j cv)
        rw [HL.out] at h1
        have h2 : (lose fs left).length = j := by rw [lose_length, HN.out]
        show World.ownsRow _ _ _ _ _ (lose fs left).length ((lose fs left).flatMap fcells)
        rw [h2]
        exact own_base h1 (by omega)

end Go.Proofs.Ytdcdlfkbdeogeaa
