/-
  Walks of chapter 3: the acts on the table of the program, on: move, and each act by its kind.
-/
import Derived.Test.YtdcdlfkbdeogeaaWalk3n
namespace Go.Proofs.Ytdcdlfkbdeogeaa
open Go.RowKit P5 K
set_option linter.unusedVariables false
set_option linter.unusedSimpArgs false

set_option maxHeartbeats 2000000 in
theorem tabMove_no (fs : List FileV) (nm to : List UInt8) (hs : nm.length ≤ 1048576) (ht : to.length ≤ 1048576) (w : World) (H b : Nat) (hH : H ≤ w.heap.size) (hT : TabOk w H b fs) (hf : fileAt fs nm = none) :
    Calls Try.prog 41 #[.map (some b), .string ⟨nm.toArray⟩, .string ⟨to.toArray⟩] w fun e w' => DoRes w H b fs (moveR fs nm to) e w' := by
  obtain ⟨D, p, hT⟩ := hT
  have R := hide (show moveR fs nm to = none by unfold moveR; rw [hf])
  have hlk := hT.lookNo (by omega) hf
  have HTT := hide hT
  clear hf hT
  go_enter Try.func41, Try.ntmps41
  go_wp2_with fail
  go_ret
  exact DoRes.no R.out ⟨D, p, HTT.out⟩ (Below.refl _ _)

set_option maxHeartbeats 4000000 in
theorem tabMove_some (fs : List FileV) (hok : diskOk fs = true) (nm to : List UInt8) (hs : nm.length ≤ 1048576) (ht : to.length ≤ 1048576) (w : World) (H b : Nat) (hH : H ≤ w.heap.size) (hT : TabOk w H b fs) (f : FileV) (hf : fileAt fs nm = some f) :
    Calls Try.prog 41 #[.map (some b), .string ⟨nm.toArray⟩, .string ⟨to.toArray⟩] w fun e w' => DoRes w H b fs (moveR fs nm to) e w' := by
  obtain ⟨D, p, hT⟩ := hT
  obtain ⟨o1, o2, o3⟩ := (diskOk_iff fs).1 hok
  have hkey := keyNm nm (by omega)
  have hkey2 := keyNm to (by omega)
  have hbase := hT.base
  have HTT := hide hT
  obtain ⟨hm, hn⟩ := fileAt_some hf
  have hfo := (fileOk_iff f).1 (o2 f hm)
  have hlk := hT.lookYes (by omega) hf
  obtain ⟨k1, k2, k3, k4⟩ := hT.yes nm f hf
  have c0 := k4.c0
  have c1 := k4.c1
  have c2 := k4.c2
  have hl := hfo.2.1
  have hlt := k4.lt
  have hAK := hide (fileAllKept_any f (by omega))
  have hown := hT.own
  have K4 := hide k4
  have HF := hide hf
  have HN := hide hn
  have HI := hide hT.inj
  obtain ⟨q, hq⟩ : ∃ q, p nm = q := ⟨_, rfl⟩
  have HQ := hide hq
  rw [hq] at hlk c0 c1 c2 k3 hlt K4
  clear hq k1 k2 k4 hfo hn hT
  have hfv : fval f = .agg #[.string ⟨f.name.toArray⟩, .string ⟨f.text.toArray⟩, .int .i64 f.kept] := rfl
  rw [hfv] at hAK
  clear hfv
  cases hk : keptF f with
  | false =>
    have R := hide (show moveR fs nm to = none by unfold moveR; rw [hf]; simp only [if_neg (show ¬ (f.kept = (f.text.length : Int) ∧ to ≠ nm ∧ nameOk to = true) from fun h => by unfold keptF at hk; rw [h.1] at hk; simp at hk)])
    have HK := hide hk
    clear hk hf
    go_enter Try.func41, Try.ntmps41
    go_wp2_with (go_at_call 54; refine (hAK.out _).mono ?_; rw [HK.out]; rintro e w1 ⟨rfl, hb1⟩)
    go_ret
    exact DoRes.no R.out ⟨D, p, HTT.out.below hb1⟩ (hb1.mono hH)
  | true =>
    have hke : f.kept = (f.text.length : Int) := by unfold keptF at hk; simpa using hk
    have HK := hide hk
    clear hk
    by_cases heq : to = nm
    · have R := hide (show moveR fs nm to = none by unfold moveR; rw [hf]; simp only [if_neg (show ¬ (f.kept = (f.text.length : Int) ∧ to ≠ nm ∧ nameOk to = true) from fun h => h.2.1 heq)])
      clear hf hke hkey2
      subst heq
      go_enter Try.func41, Try.ntmps41
      go_wp2_with (go_at_call 54; refine (hAK.out _).mono ?_; rw [HK.out]; rintro e w1 ⟨rfl, hb1⟩)
      go_ret
      exact DoRes.no R.out ⟨D, p, HTT.out.below hb1⟩ (hb1.mono hH)
    · have q1 : (to == nm) = false := by simp [heq]
      cases hno : nameOk to with
      | false =>
        have R := hide (show moveR fs nm to = none by unfold moveR; rw [hf]; simp only [if_neg (show ¬ (f.kept = (f.text.length : Int) ∧ to ≠ nm ∧ nameOk to = true) from fun h => by rw [h.2.2] at hno; cases hno)])
        have HNO := hide hno
        clear hf hke hno heq
        go_enter Try.func41, Try.ntmps41
        go_wp2_with (first
          | (go_at_call 54; refine (hAK.out _).mono ?_; rw [HK.out]; rintro e w1 ⟨rfl, hb1⟩)
          | (go_at_call 53; refine (implNameOk_any to (by omega) _).mono ?_; rw [HNO.out]; rintro e w2 ⟨rfl, hw2⟩; obtain rfl := hw2.symm))
        go_ret
        exact DoRes.no R.out ⟨D, p, HTT.out.below hb1⟩ (hb1.mono hH)
      | true =>
        have R := hide (show moveR fs nm to = some (put (without fs nm) (named f to)) by unfold moveR; rw [hf]; simp only [if_pos (And.intro hke (And.intro heq hno))])
        have HNO := hide hno
        have HEQ := hide heq
        clear hf hke hno heq
        go_enter Try.func41, Try.ntmps41
        go_wp2_with (first
          | (go_at_call 54; refine (hAK.out _).mono ?_; rw [HK.out]; rintro e w1 ⟨rfl, hb1⟩; have hT1 := hide (HTT.out.below hb1); have hownA := hT1.out.own; have hB1 := hb1.mono hH)
          | (go_at_call 53; refine (implNameOk_any to (by omega) _).mono ?_; rw [HNO.out]; rintro e w2 ⟨rfl, hw2⟩; obtain rfl := hw2.symm)
          | (at_delete; refine wpList_delete_own _ rfl _ _ 52 9 rfl 72 (Maps.string_keyed Try.underlying9) Try.underlying52 ptrElem b fs.length D rfl hownA _ _ rfl hkey ?_; intro w3 hown3 hturn3; have hT3 := hide (hT1.out.drop hown3 hturn3); have hblk3 := hide ((K4.out.kept (grown_below (row := none) hb1) (by simp)).kept hturn3.grown (fun e => own_not_cells hT1.out.own (K4.out.kept (grown_below (row := none) hb1) (by simp)) (Option.some.inj e))); have d0 := hblk3.out.c0; have d1 := hblk3.out.fz 0; have hT4 := hide (hT3.out.kept (grownBy_set w3 q 0 (.string ⟨to.toArray⟩)) (fun r e => by
              cases e
              refine ⟨own_not_cells hown3 hblk3.out, fun x f' hx => ?_⟩
              by_cases ex : x = nm
              · subst ex; rw [upd_same] at hx; cases hx
              · rw [upd_other _ _ ex] at hx
                intro e2
                exact ex (HI.out x nm f' f hx HF.out (e2.trans HQ.out.symm)))); have hown4 := hT4.out.own)
          | (at_mapUpdate; refine wpList_mapUpdate_in _ rfl _ _ _ 52 rfl 9 72 (Maps.string_keyed Try.underlying9) Try.underlying52 ptrElem b _ _ rfl hown4 (by unfold maxLen; first | omega | (split <;> omega)) _ _ (.string to) rfl rfl hkey2 (ptrD q) [] (ptrElem_mk q) ?_; intro w5 hown5 hturn5))
        go_ret
        have hblk4 : FileBlk (w3.setCell ⟨q, 0, none⟩ (.string ⟨to.toArray⟩)) q (named f to) := hblk3.out.set 0 _ rfl
        have h5 := hT4.out.store hblk4 k3 (fun x f' hx hne e => by
          by_cases ex : x = nm
          · subst ex; rw [upd_same] at hx; cases hx
          · rw [upd_other _ _ ex] at hx
            exact ex (HI.out x nm f' f hx HF.out (e.trans HQ.out.symm))) hown5 hturn5
        have hB3 : Below H w w3 := hB1.trans (turned_below hturn3 (Nat.le_trans hH hB1.size) hbase)
        have hB4 : Below H w (w3.setCell ⟨q, 0, none⟩ (.string ⟨to.toArray⟩)) := hB3.setCell k3 _
        refine DoRes.yes R.out ?_ (hB4.trans (turned_below hturn5 (Nat.le_trans hH hB4.size) hbase))
        have hTw : TabOk w3 H b (without fs nm) := tabOk_without o3 hT3.out rfl
        have eF : upd (fileAt fs) nm none = fileAt (without fs nm) := (funext fun x => fileAt_without fs nm x).symm
        have hlw : (if (fileAt fs nm).isSome then fs.length - 1 else fs.length) = (without fs nm).length := by
          have := length_without fs nm o3
          rw [HF.out] at this ⊢
          simp at this ⊢
          omega
        rw [eF, hlw] at h5
        exact tabOk_put (f := named f to) (asc_without o3 nm) h5 rfl

theorem tabMove_any (fs : List FileV) (hok : diskOk fs = true) (nm to : List UInt8) (hs : nm.length ≤ 1048576) (ht : to.length ≤ 1048576) (w : World) (H b : Nat) (hH : H ≤ w.heap.size) (hT : TabOk w H b fs) :
    Calls Try.prog 41 #[.map (some b), .string ⟨nm.toArray⟩, .string ⟨to.toArray⟩] w fun e w' => DoRes w H b fs (moveR fs nm to) e w' := by
  cases hf : fileAt fs nm with
  | none => exact tabMove_no fs nm to hs ht w H b hH hT hf
  | some f => exact tabMove_some fs hok nm to hs ht w H b hH hT f hf

end Go.Proofs.Ytdcdlfkbdeogeaa
