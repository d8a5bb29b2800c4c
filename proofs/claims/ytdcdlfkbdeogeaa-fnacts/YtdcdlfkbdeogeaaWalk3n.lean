/-
  Walks of chapter 3: the acts on the table of the program, on: add, move, drop.
-/
import Derived.Test.YtdcdlfkbdeogeaaPack10
namespace Go.Proofs.Ytdcdlfkbdeogeaa
open Go.RowKit P5 K
set_option linter.unusedVariables false
set_option linter.unusedSimpArgs false

theorem turned_below {w w' : World} {H b : Nat} (h : w.mapTurned w' b) (hH : H ≤ w.heap.size) (hb : H ≤ b) : Below H w w' := (Below.refl H w).grown h.grown hH (fun k e => by cases e; exact hb)

theorem tabOk_without {w : World} {H b m : Nat} {D : DataW Unit} {p : List UInt8 → Nat} {fs : List FileV} {nm : List UInt8} (hA : Asc fs) (h : Tab w H b (upd (fileAt fs) nm none) m D p) (hm : m = if (fileAt fs nm).isSome then fs.length - 1 else fs.length) : TabOk w H b (without fs nm) := by
  refine ⟨D, p, ?_⟩
  have e1 : fileAt (without fs nm) = upd (fileAt fs) nm none := funext fun x => fileAt_without fs nm x
  have e2 : (without fs nm).length = m := by
    have := length_without fs nm hA
    rw [hm]
    split at this <;> simp_all <;> omega
  rw [e1, e2]
  exact h

set_option maxHeartbeats 1000000 in
theorem tabDrop_any (fs : List FileV) (hok : diskOk fs = true) (nm : List UInt8) (hs : nm.length ≤ 1048576) (w : World) (H b : Nat) (hH : H ≤ w.heap.size) (hT : TabOk w H b fs) :
    Calls Try.prog 42 #[.map (some b), .string ⟨nm.toArray⟩] w fun e w' => DoRes w H b fs (dropR fs nm) e w' := by
  obtain ⟨D, p, hT⟩ := hT
  obtain ⟨o1, o2, o3⟩ := (diskOk_iff fs).1 hok
  have hkey := keyNm nm (by omega)
  have hown := hT.own
  have hbase := hT.base
  have HTT := hide hT
  cases hf : fileAt fs nm with
  | none =>
    have R := hide (show dropR fs nm = none by unfold dropR; rw [hf])
    have hlk := hT.lookNo (by omega) hf
    have HF := hide hf
    clear hf hT
    go_enter Try.func42, Try.ntmps42
    go_wp2_with (at_delete; refine wpList_delete_own _ rfl _ _ 52 9 rfl 72 (Maps.string_keyed Try.underlying9) Try.underlying52 ptrElem b fs.length D rfl hown _ _ rfl hkey ?_; intro w1 hown1 hturn1)
    go_ret
    refine DoRes.no R.out ?_ (turned_below hturn1 hH hbase)
    have h2 := HTT.out.drop hown1 hturn1
    rw [HF.out] at h2
    have e1 : upd (fileAt fs) nm none = fileAt fs := by
      funext x
      unfold upd
      split
      · rename_i e; rw [e, HF.out]
      · rfl
    rw [e1] at h2
    exact ⟨_, p, h2⟩
  | some f =>
    have R := hide (show dropR fs nm = some (without fs nm) by unfold dropR; rw [hf])
    have hlk := hT.lookYes (by omega) hf
    have HF := hide hf
    clear hf hT
    obtain ⟨q, hq⟩ : ∃ q, p nm = q := ⟨_, rfl⟩
    rw [hq] at hlk
    clear hq
    go_enter Try.func42, Try.ntmps42
    go_wp2_with (at_delete; refine wpList_delete_own _ rfl _ _ 52 9 rfl 72 (Maps.string_keyed Try.underlying9) Try.underlying52 ptrElem b fs.length D rfl hown _ _ rfl hkey ?_; intro w1 hown1 hturn1)
    go_ret
    refine DoRes.yes R.out ?_ (turned_below hturn1 hH hbase)
    exact tabOk_without o3 (HTT.out.drop hown1 hturn1) rfl

theorem cat_list (x y : List UInt8) : (⟨x.toArray⟩ : ByteArray) ++ ⟨y.toArray⟩ = ⟨(x ++ y).toArray⟩ := by
  apply ByteArray.ext
  simp

set_option maxHeartbeats 2000000 in
theorem tabAdd_any (fs : List FileV) (hok : diskOk fs = true) (nm tx : List UInt8) (hs : nm.length ≤ 1048576) (ht : tx.length ≤ 1048576) (w : World) (H b : Nat) (hH : H ≤ w.heap.size) (hT : TabOk w H b fs) :
    Calls Try.prog 39 #[.map (some b), .string ⟨nm.toArray⟩, .string ⟨tx.toArray⟩] w fun e w' => DoRes w H b fs (addR fs nm tx) e w' := by
  obtain ⟨D, p, hT⟩ := hT
  obtain ⟨o1, o2, o3⟩ := (diskOk_iff fs).1 hok
  have hkey := keyNm nm (by omega)
  have hbase := hT.base
  have HTT := hide hT
  cases hf : fileAt fs nm with
  | some f =>
    obtain ⟨hm, hn⟩ := fileAt_some hf
    have hfo := (fileOk_iff f).1 (o2 f hm)
    have hlk := hT.lookYes (by omega) hf
    obtain ⟨k1, k2, k3, k4⟩ := hT.yes nm f hf
    have c1 := k4.c1
    have z1 := k4.fz 1
    have hl := hfo.2.1
    by_cases hle : f.text.length + tx.length ≤ 20000
    · have R := hide (show addR fs nm tx = some (put fs (addTo f tx)) by unfold addR; rw [hf]; simp only [if_pos hle])
      have hw := hT.write hf 1 (.string ⟨(f.text ++ tx).toArray⟩) (g := addTo f tx) rfl
      have hblk := (hw.yes nm (addTo f tx) (upd_same _ _ _)).2.2.2
      have HF := hide hf
      have HN := hide hn
      have g1 : decide ((20000 : Int) < (f.text.length : Int) + (tx.length : Int)) = false := by simp; omega
      have hcat := cat_list f.text tx
      have HI := hide hT.inj
      have hB1 : Below H w (w.setCell ⟨p nm, 1, none⟩ (.string ⟨(f.text ++ tx).toArray⟩)) := (Below.refl H w).setCell k3 _
      clear hf hT hn k1 k2 k4 hfo
      obtain ⟨q, hq⟩ : ∃ q, p nm = q := ⟨_, rfl⟩
      have HQ := hide hq
      rw [hq] at hlk c1 z1 k3 hblk hw hB1
      clear hq
      have hown1 := hw.own
      have HW := hide hw
      clear hw
      go_enter Try.func39, Try.ntmps39
      go_wp2_with (at_mapUpdate; refine wpList_mapUpdate_in _ rfl _ _ _ 52 rfl 9 72 (Maps.string_keyed Try.underlying9) Try.underlying52 ptrElem b fs.length D rfl hown1 (by unfold maxLen; omega) _ _ (.string nm) rfl rfl hkey (ptrD q) [] (ptrElem_mk q) ?_; intro w1 hown2 hturn2)
      go_ret
      refine DoRes.yes R.out ?_ (hB1.trans (turned_below hturn2 (Nat.le_trans hH hB1.size) hbase))
      have h3 := HW.out.store hblk k3 (fun x f' hx hne => by
        rw [upd_other _ _ hne] at hx
        intro e
        exact hne (HI.out x nm f' f hx HF.out (e.trans HQ.out.symm))) hown2 hturn2
      rw [upd_same, upd_twice] at h3
      refine tabOk_put (f := addTo f tx) o3 (m' := fs.length) (D := D.put (.string nm) (ptrD q)) (p := upd p nm q) ?_ ?_
      · show Tab _ H b (upd (fileAt fs) f.name _) _ _ _
        rw [HN.out]; exact h3
      · show _ = if (fileAt fs f.name).isSome then _ else _
        rw [HN.out, HF.out]; rfl
    · have R := hide (show addR fs nm tx = none by unfold addR; rw [hf]; simp only [if_neg hle])
      have g1 : decide ((20000 : Int) < (f.text.length : Int) + (tx.length : Int)) = true := by simp; omega
      clear hf hT hn k1 k2 k4 hfo
      obtain ⟨q, hq⟩ : ∃ q, p nm = q := ⟨_, rfl⟩
      rw [hq] at hlk c1 z1 k3
      clear hq
      go_enter Try.func39, Try.ntmps39
      go_wp2_with fail
      go_ret
      exact DoRes.no R.out ⟨D, p, HTT.out⟩ (Below.refl _ _)
  | none =>
    have hlk := hT.lookNo (by omega) hf
    have hlen : (Builtin.len_ #[52] 3 #[.map (some b)]).run Try.prog w = .ok (.int .i64 (fs.length : Int)) w := by
      have := hT.own.len (t := 52) Try.underlying52 3
      rw [hT.size] at this
      exact this
    have HF := hide hf
    by_cases hnm : nameOk nm = true
    · by_cases h30 : fs.length = 30
      · have R := hide (show addR fs nm tx = none by unfold addR; rw [hf]; simp only [if_neg (show ¬ (nameOk nm = true ∧ fs.length ≠ 30 ∧ tx.length ≤ 20000) from fun h => h.2.1 h30)])
        have g1 : ((fs.length : Int) == 30) = true := by simp [h30]
        have HNM := hide hnm
        clear hf hT hnm h30
        go_enter Try.func39, Try.ntmps39
        go_wp2_with (go_at_call 53; refine (implNameOk_any nm (by omega) _).mono ?_; rw [HNM.out]; rintro e w1 ⟨rfl, hw1⟩; obtain rfl := hw1.symm)
        go_ret
        exact DoRes.no R.out ⟨D, p, HTT.out⟩ (Below.refl _ _)
      · have g1 : ((fs.length : Int) == 30) = false := by simp; omega
        have hba := (Below.refl w.heap.size w).alloc (Nat.le_refl _) (.cells #[.string ⟨nm.toArray⟩, .string ⟨#[]⟩, .int .i64 0] 49)
        have hbb := (Below.refl w.heap.size w).alloc (Nat.le_refl _) (.cells #[.string ⟨nm.toArray⟩, .string ⟨tx.toArray⟩, .int .i64 0] 49)
        have hHa : Below H w (w.alloc (.cells #[.string ⟨nm.toArray⟩, .string ⟨tx.toArray⟩, .int .i64 0] 49)) := (Below.refl H w).alloc hH _
        by_cases h20 : tx.length ≤ 20000
        · have R := hide (show addR fs nm tx = some (put fs ⟨nm, tx, 0⟩) by unfold addR; rw [hf]; simp only [if_pos (And.intro hnm (And.intro h30 h20))])
          have g2 : decide ((20000 : Int) < (tx.length : Int)) = false := by simp; omega
          have HNM := hide hnm
          have hown1 := (hT.below hbb).own
          have hcat : (⟨#[]⟩ : ByteArray) ++ ⟨tx.toArray⟩ = ⟨tx.toArray⟩ := cat_list [] tx
          have HBB := hide hbb
          clear hf hT hnm h30 h20 hba hbb
          go_enter Try.func39, Try.ntmps39
          go_wp2_with (first
            | (go_at_call 53; refine (implNameOk_any nm (by omega) _).mono ?_; rw [HNM.out]; rintro e w1 ⟨rfl, hw1⟩; obtain rfl := hw1.symm)
            | (at_mapUpdate; refine wpList_mapUpdate_in _ rfl _ _ _ 52 rfl 9 72 (Maps.string_keyed Try.underlying9) Try.underlying52 ptrElem b fs.length D rfl hown1 (by unfold maxLen; omega) _ _ (.string nm) rfl rfl hkey (ptrD _) [] (ptrElem_mk _) ?_; intro w1 hown2 hturn2))
          go_ret
          refine DoRes.yes R.out ?_ (hHa.trans (turned_below hturn2 (Nat.le_trans hH hHa.size) hbase))
          have hblk : FileBlk (w.alloc (.cells #[.string ⟨nm.toArray⟩, .string ⟨tx.toArray⟩, .int .i64 0] 49)) w.heap.size ⟨nm, tx, 0⟩ := heap_alloc_new w _
          have h3 := (HTT.out.below HBB.out).store hblk hH (fun x f' hx hne e => by
            have := (HTT.out.yes x f' hx).2.2.2.lt
            omega) hown2 hturn2
          rw [HF.out] at h3
          refine tabOk_put (f := ⟨nm, tx, 0⟩) o3 (m' := fs.length + 1) (D := D.put (.string nm) (ptrD w.heap.size)) (p := upd p nm w.heap.size) h3 ?_
          show _ = if (fileAt fs nm).isSome then _ else _
          rw [HF.out]; rfl
        · have R := hide (show addR fs nm tx = none by unfold addR; rw [hf]; simp only [if_neg (show ¬ (nameOk nm = true ∧ fs.length ≠ 30 ∧ tx.length ≤ 20000) from fun h => h20 h.2.2)])
          have g2 : decide ((20000 : Int) < (tx.length : Int)) = true := by simp; omega
          have HNM := hide hnm
          have hTb := hide (hT.below hba)
          have hBH := (Below.refl H w).alloc hH (.cells #[.string ⟨nm.toArray⟩, .string ⟨#[]⟩, .int .i64 0] 49)
          clear hf hT hnm h30 h20 hba hbb
          go_enter Try.func39, Try.ntmps39
          go_wp2_with (go_at_call 53; refine (implNameOk_any nm (by omega) _).mono ?_; rw [HNM.out]; rintro e w1 ⟨rfl, hw1⟩; obtain rfl := hw1.symm)
          go_ret
          exact DoRes.no R.out ⟨D, p, hTb.out⟩ hBH
    · have R := hide (show addR fs nm tx = none by unfold addR; rw [hf]; simp only [if_neg (show ¬ (nameOk nm = true ∧ fs.length ≠ 30 ∧ tx.length ≤ 20000) from fun h => hnm h.1)])
      have HNM := hide (Bool.eq_false_iff.2 hnm)
      clear hf hT hnm
      go_enter Try.func39, Try.ntmps39
      go_wp2_with (go_at_call 53; refine (implNameOk_any nm (by omega) _).mono ?_; rw [HNM.out]; rintro e w1 ⟨rfl, hw1⟩; obtain rfl := hw1.symm)
      go_ret
      exact DoRes.no R.out ⟨D, p, HTT.out⟩ (Below.refl _ _)

end Go.Proofs.Ytdcdlfkbdeogeaa
