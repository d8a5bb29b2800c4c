/-
  Walks of chapter 3: DoActs of the program.
-/
import Derived.Test.YtdcdlfkbdeogeaaPack20
import Derived.Test.YtdcdlfkbdeogeaaPack36
namespace Go.Proofs.Ytdcdlfkbdeogeaa
open Go.RowKit P5 K
set_option linter.unusedVariables false
set_option linter.unusedSimpArgs false

/-- A disk of the call's own memory, and a number. -/
def DiskNum (w : World) (ds : List FileV) (k : Nat) (e : Ending) (w' : World) : Prop := ∃ v, e = .returned (.tuple #[.agg #[v], .int .i64 (k : Int)]) ∧ w'.ownsRow w.heap.size 49 3 v ds.length (ds.flatMap fcells) ∧ Below w.heap.size w w'

theorem doActsL_off {fs : List FileV} (h : diskOk fs = false) (acs : List ActV) : doActsL fs acs = (fs, 0) := by
  cases acs with
  | nil => rfl
  | cons a r =>
    have e : actL fs a = none := by unfold actL; rw [if_neg (by rw [h]; simp)]
    unfold doActsL
    rw [e]

theorem doActsL_none {fs : List FileV} {a : ActV} (h : actL fs a = none) (r : List ActV) : doActsL fs (a :: r) = (fs, 0) := by
  unfold doActsL; rw [h]
theorem doActsL_some {fs gs : List FileV} {a : ActV} (h : actL fs a = some gs) (r : List ActV) : doActsL fs (a :: r) = ((doActsL gs r).1, (doActsL gs r).2 + 1) := by
  rw [doActsL]; rw [h]

/-- So far: j acts done, the disk is gs. -/
def SoFar (fs : List FileV) (acs : List ActV) (j : Nat) (gs : List FileV) : Prop := doActsL fs acs = ((doActsL gs (acs.drop j)).1, j + (doActsL gs (acs.drop j)).2)

theorem soFar_zero (fs : List FileV) (acs : List ActV) : SoFar fs acs 0 fs := by unfold SoFar; simp

theorem dropA_at {acs : List ActV} {j : Nat} {a : ActV} (h : acs[j]? = some a) : acs.drop j = a :: acs.drop (j + 1) := by
  have hj : j < acs.length := (List.getElem?_eq_some_iff.1 h).1
  rw [List.drop_eq_getElem_cons hj]
  congr 1
  exact (List.getElem?_eq_some_iff.1 h).2

theorem SoFar.next {fs gs hs : List FileV} {acs : List ActV} {j : Nat} {a : ActV} (h : SoFar fs acs j gs) (ha : acs[j]? = some a) (hd : actL gs a = some hs) : SoFar fs acs (j + 1) hs := by
  unfold SoFar at *
  rw [dropA_at ha, doActsL_some hd] at h
  rw [h]
  simp
  omega

theorem SoFar.stop {fs gs : List FileV} {acs : List ActV} {j : Nat} {a : ActV} (h : SoFar fs acs j gs) (ha : acs[j]? = some a) (hd : actL gs a = none) : doActsL fs acs = (gs, j) := by
  unfold SoFar at *
  rw [dropA_at ha, doActsL_none hd] at h
  exact h

theorem SoFar.all {fs gs : List FileV} {acs : List ActV} {j : Nat} (h : SoFar fs acs j gs) (hj : acs.length = j) : doActsL fs acs = (gs, j) := by
  unfold SoFar at h
  rw [← hj, List.drop_length] at h
  rw [h, ← hj]
  rfl

set_option maxRecDepth 100000 in
set_option maxHeartbeats 2000000 in
theorem implDoActs_any (oa : Option Addr) (n cap : Nat) (fs : List FileV) (ob : Option Addr) (m cap' : Nat) (acs : List ActV) (w : World) (hat : FilesAt w oa n cap fs) (hw : ∀ f ∈ fs, Fine f) (hbt : ActsAt w ob m cap' acs) (ha : ∀ a ∈ acs, ActFine a) (hn20 : n ≤ 1048576) (hm20 : m ≤ 1048576) :
    Calls Try.prog 6 #[.agg #[.slice oa n cap], .slice ob m cap'] w fun e w' => DiskNum w (doActsL fs acs).1 (doActsL fs acs).2 e w' := by
  have hb0 := ((Below.refl w.heap.size w).alloc (Nat.le_refl _) (.cells #[.slice oa n cap] 26)).alloc (by simp) (.cells #[.slice none 0 0] 26)
  have hn := hat.len
  have HN := hide hn
  have HAT := hide hat
  have HBT := hide hbt
  have HB0 := hide hb0
  have HW := hide hw
  have HA := hide ha
  clear hn hat hbt hb0 hw ha
  cases hok : diskOk fs with
  | false =>
    have HOK := hide hok
    have R := hide (doActsL_off hok acs)
    rw [doActsL_off hok acs]
    clear hok
    go_enter Try.func6, Try.ntmps6
    go_wp2_with fail
    refine (implDiskOk_any oa n cap fs _ (HAT.out.below HB0.out) HW.out).mono ?_
    rw [HOK.out]
    rintro e w2 ⟨rfl, hb2⟩
    have k0 : w2.cell? ⟨w.heap.size, 0, none⟩ = some (.slice oa n cap) := (hb2.cell (by simp; omega)).trans (by simp)
    have k1 : w2.cell? ⟨w.heap.size + 1, 0, none⟩ = some (.slice none 0 0) := (hb2.cell (by simp)).trans (by simp)
    have q1 : w2.frozen? ⟨w.heap.size + 1, 0, none⟩ = false := (hb2.frozen (by simp)).trans (by simp)
    have s2 : w.heap.size + 2 ≤ w2.heap.size := by have := hb2.size; simp at this; omega
    have B2 := hide (HB0.out.trans (hb2.mono (by simp; omega)))
    have s3 : w.heap.size < w2.heap.size := by omega
    clear hb2
    go_wp2_with fail
    have hrow0 : Row1 w w.heap.size w2.heap.size (w2.heap.size + 1) (w2.alloc (.cells #[.slice none 0 0] 26)) (.slice none 0 0) 0 [] :=
      ⟨B2.out.alloc (by omega) _, by simp, by omega, by simp, by simp, World.ownsRow_nil _ _ _ _⟩
    have HR0 := hide hrow0
    clear hrow0
    go_loopw [17] (fun i wr => ∃ (j : Nat) (ov : Option Addr) (cv : Nat), i = .int .i64 (j : Int) ∧ j ≤ n ∧ Row1 w w.heap.size w2.heap.size (w2.heap.size + 1) wr (.slice ov j cv) j ((fs.take j).flatMap fcells) ∧ Below (w.heap.size + 2) w2 wr) (fun i _ => n - (intOf i).toNat)
    case atStart => exact ⟨0, none, 0, rfl, Nat.zero_le _, HR0.out, (Below.refl _ _).alloc (by omega) _⟩
    case round =>
      obtain ⟨j, ov, cv, rfl, hj, hrow, hbel2⟩ := hrel
      have c0 : wr.cell? ⟨w.heap.size, 0, none⟩ = some (.slice oa n cap) := (hbel2.cell (by simp)).trans k0
      have HR := hide hrow
      have HB2 := hide hbel2
      clear hrow hbel2 HR0
      by_cases hlt : j < n
      · have j0 : (j : Int) < (n : Int) := by omega
        obtain ⟨f, b, q, hf, hidx, hb, e0, e1, e2⟩ := (HAT.out.below HR.out.bel).get Try.underlying24 infoIF j hlt
        have hfw := HW.out f (List.mem_of_getElem? hf)
        have hCP := hide (copied_any f (by have := hfw.1; omega) (by have := hfw.2.1; omega))
        have HF := hide hf
        clear hf hfw
        have d1 := HR.out.cell
        have d2 := HR.out.free
        have d3 : w2.heap.size < wr.heap.size := by have := HR.out.big; omega
        go_upto_region 6 with fail
        go_region_law (first
          | (refine step_push3 (by rfl) _ _ 24 (by rfl) Try.underlying24 infoIFz (by rfl) (cs := #[.string ⟨f.name.toArray⟩, .string ⟨f.text.toArray⟩, .int .i64 f.kept]) (by rfl) (by exact own_below HR.out.own (hB4.alloc hB4.size _)) (by rfl) (by rfl) (by exact heap_alloc_new _ _) (by simp [Value.oneCell']) (by have := HR.out.big; have := hB4.size; simp; omega) (by unfold maxLen; omega) (by omega) ?_; intro v' w3 ho3 hg3; obtain ⟨ov', cv', rfl⟩ := own_form ho3; obtain ⟨d4, f4⟩ := HR.out.mid (hB4.alloc hB4.size _) hg3)
          | (rw [if_pos (by rfl)]; go_simp; go_at_call 19; refine (hCP.out _).mono ?_; unfold fval; rintro e w4 ⟨rfl, hb4⟩; have hB4 : Below wr.heap.size wr w4 := ((Below.refl wr.heap.size wr).alloc (Nat.le_refl _) _).drew.trans (hb4.mono (by simp)); have d5 := (hB4.cell (p := ⟨w2.heap.size, 0, none⟩) d3).trans d1; have d6 : w2.heap.size < w4.heap.size := Nat.lt_of_lt_of_le d3 hB4.size))
        all_goals
          have hrow' : Row1 w w.heap.size w2.heap.size (w2.heap.size + 1) (w3.setCell ⟨w2.heap.size, 0, none⟩ (.slice ov' (j + 1) cv')) (.slice ov' (j + 1) cv') (j + 1) ((fs.take (j + 1)).flatMap fcells) := by
            rw [take_flat HF.out]
            exact HR.out.next (hB4.alloc hB4.size _) ho3 hg3
          have hbel' : Below (w.heap.size + 2) w2 (w3.setCell ⟨w2.heap.size, 0, none⟩ (.slice ov' (j + 1) cv')) :=
            ((HB2.out.trans ((hB4.alloc hB4.size _).mono (by have := HB2.out.size; omega))).grown hg3 (by have := HB2.out.size; have := hB4.size; simp; omega) (fun k hk => by have := (HR.out.own.lt k hk).1; omega)).setCell (by simp; omega) _
          clear ho3 hg3 d4 f4
          go_wp2_with fail
          go_roundw
          case rel => exact ⟨j + 1, ov', cv', by go_num, by omega, hrow', hbel'⟩
          case measure => simp [intOf]; omega
      · obtain rfl : j = n := by omega
        have c1 : wr.cell? ⟨w.heap.size + 1, 0, none⟩ = some (.slice none 0 0) := (HB2.out.cell (by simp)).trans k1
        have r1 : wr.frozen? ⟨w.heap.size + 1, 0, none⟩ = false := (HB2.out.frozen (by simp)).trans q1
        have d1 := HR.out.cell
        go_wp2_with fail
        refine bodyPost_ret (v := .tuple #[.agg #[.slice ov j cv], .int .i64 0]) (by simp [results, Try.results6, go_sem, c1, r1]) rfl ⟨.slice ov j cv, rfl, ?_, HR.out.bel.setCell (by simp) _⟩
        have h1 := own_setCell HR.out.own (p := ⟨w.heap.size + 1, 0, none⟩) (by simp; omega) (.slice ov j cv)
        rw [← HN.out, List.take_length] at h1
        have h2 := own_base h1 (by omega : w.heap.size ≤ w2.heap.size + 1)
        rw [HN.out] at h2
        show World.ownsRow _ _ _ _ _ fs.length (fs.flatMap fcells)
        rw [HN.out]
        exact h2
  | true =>
    have HOK := hide hok
    clear hok
    go_enter Try.func6, Try.ntmps6
    go_wp2_with fail
    refine (implDiskOk_any oa n cap fs _ (HAT.out.below HB0.out) HW.out).mono ?_
    rw [HOK.out]
    rintro e w2 ⟨rfl, hb2⟩
    have k0 : w2.cell? ⟨w.heap.size, 0, none⟩ = some (.slice oa n cap) := (hb2.cell (by simp; omega)).trans (by simp)
    have k1 : w2.cell? ⟨w.heap.size + 1, 0, none⟩ = some (.slice none 0 0) := (hb2.cell (by simp)).trans (by simp)
    have q1 : w2.frozen? ⟨w.heap.size + 1, 0, none⟩ = false := (hb2.frozen (by simp)).trans (by simp)
    have s2 : w.heap.size + 2 ≤ w2.heap.size := by have := hb2.size; simp at this; omega
    have B2 := hide (HB0.out.trans (hb2.mono (by simp; omega)))
    clear hb2
    go_wp2_with fail
    refine (tableOf_any oa n cap fs _ (HAT.out.below B2.out) HOK.out).mono ?_
    rintro e w3 ⟨b, rfl, hT3, hb3⟩
    have HT3 := hide hT3
    have HB3 := hide hb3
    clear hT3 hb3
    have HTAIL := hide (fun (gs : List FileV) (hg : diskOk gs = true) (wx : World) (hT : TabOk wx w2.heap.size b gs) => tabDisk_any gs hg wx w2.heap.size b hT)
    go_wp2_with fail
    go_loopw [10] (fun i wr => ∃ (j : Nat) (gs : List FileV), i = .int .i64 (j : Int) ∧ j ≤ m ∧ SoFar fs acs j gs ∧ diskOk gs = true ∧ TabOk wr w2.heap.size b gs ∧ Below w2.heap.size w2 wr) (fun i _ => m - (intOf i).toNat)
    case atStart => exact ⟨0, fs, rfl, Nat.zero_le _, soFar_zero _ _, HOK.out, HT3.out, HB3.out⟩
    case round =>
      obtain ⟨j, gs, rfl, hj, hso, hgs, hT, hbel⟩ := hrel
      have HSO := hide hso
      have HGS := hide hgs
      have HT := hide hT
      have HBE := hide hbel
      have sr := hbel.size
      clear hso hgs hT
      by_cases hlt : j < m
      · have j0 : (j : Int) < (m : Int) := by omega
        have j1 : decide ((j : Int) < (m : Int)) = true := by simpa using j0
        obtain ⟨a, bq, q, hf, hidx, hb, c0, c1', c2, c3⟩ := (HBT.out.below (B2.out.trans (hbel.mono (by omega)))).get Try.underlying27 infoIA j hlt
        have HF := hide hf
        have hDO := hide (tabDo_any gs HGS.out a (HA.out a (List.mem_of_getElem? hf)) wr w2.heap.size b sr HT.out)
        have hal : actL gs a = doL gs a := by unfold actL; rw [if_pos HGS.out]
        unfold aval at hDO
        clear hf hbel
        cases hd : doL gs a with
        | none =>
          rw [hd] at hDO hal
          have RD := hide (HSO.out.stop HF.out hal)
          clear hd hal
          go_wp2_with (go_at_call 21; refine hDO.out.mono ?_; rintro e w4 ⟨rfl, hT4, hb4⟩)
          have hT4' : TabOk w4 w2.heap.size b gs := hT4
          refine (HTAIL.out gs HGS.out _ hT4').mono ?_
          rintro e w5 ⟨v, rfl, ho5, hb5⟩
          obtain ⟨ov, cv, rfl⟩ := own_form ho5
          have hB4 : Below w2.heap.size w2 w4 := HBE.out.trans hb4
          have hB5 : Below w2.heap.size w2 w5 := hB4.trans (hb5.mono hB4.size)
          have r0 : w5.cell? ⟨w.heap.size + 1, 0, none⟩ = some (.slice none 0 0) := (hB5.cell (by simp; omega)).trans k1
          have r1 : w5.frozen? ⟨w.heap.size + 1, 0, none⟩ = false := (hB5.frozen (by simp; omega)).trans q1
          go_wp2_with fail
          refine bodyPost_ret (v := .tuple #[.agg #[.slice ov gs.length cv], .int .i64 (j : Int)]) (by simp [results, Try.results6, go_sem, r0, r1]) rfl ?_
          show DiskNum w (doActsL fs acs).1 (doActsL fs acs).2 _ _
          rw [RD.out]
          exact ⟨_, rfl, own_base (own_setCell ho5 (by have := hB4.size; simp; omega) _) (by have := hB4.size; omega), (B2.out.trans (hB5.mono (by omega))).setCell (by simp) _⟩
        | some hs =>
          rw [hd] at hDO hal
          have RD := hide (HSO.out.next HF.out hal)
          have HHS := hide (doL_ok hd)
          clear hd hal
          go_wp2_with (go_at_call 21; refine hDO.out.mono ?_; rintro e w4 ⟨rfl, hT4, hb4⟩)
          go_roundw
          case rel => exact ⟨j + 1, hs, by go_num, by omega, RD.out, HHS.out, hT4, HBE.out.trans hb4⟩
          case measure => simp [intOf]; omega
      · obtain rfl : j = m := by omega
        have j1 : decide ((j : Int) < (j : Int)) = false := by simp
        have RD := hide (HSO.out.all HBT.out.len)
        clear hbel
        go_wp2_with fail
        refine (HTAIL.out gs HGS.out _ HT.out).mono ?_
        rintro e w5 ⟨v, rfl, ho5, hb5⟩
        obtain ⟨ov, cv, rfl⟩ := own_form ho5
        have hB5 : Below w2.heap.size w2 w5 := HBE.out.trans (hb5.mono sr)
        have r0 : w5.cell? ⟨w.heap.size + 1, 0, none⟩ = some (.slice none 0 0) := (hB5.cell (by simp; omega)).trans k1
        have r1 : w5.frozen? ⟨w.heap.size + 1, 0, none⟩ = false := (hB5.frozen (by simp; omega)).trans q1
        go_wp2_with fail
        refine bodyPost_ret (v := .tuple #[.agg #[.slice ov gs.length cv], .int .i64 (j : Int)]) (by simp [results, Try.results6, go_sem, r0, r1]) rfl ?_
        show DiskNum w (doActsL fs acs).1 (doActsL fs acs).2 _ _
        rw [RD.out]
        exact ⟨_, rfl, own_base (own_setCell ho5 (by simp; omega) _) (by omega), (B2.out.trans (hB5.mono (by omega))).setCell (by simp) _⟩

end Go.Proofs.Ytdcdlfkbdeogeaa
