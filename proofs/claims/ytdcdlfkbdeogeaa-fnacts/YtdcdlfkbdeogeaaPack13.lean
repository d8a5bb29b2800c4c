/-
  Walks of chapter 3: an act on the table, by its kind.
  Walks of chapter 3: the table made of a disk.
-/
import Derived.Test.YtdcdlfkbdeogeaaWalk3o
import Derived.Carry
namespace Go.Proofs.Ytdcdlfkbdeogeaa
open Go.RowKit P5 K
set_option linter.unusedVariables false
set_option linter.unusedSimpArgs false

/-- An act as a value. -/
def aval (a : ActV) : Value := .agg #[.int .i64 a.kind, .string ⟨a.name.toArray⟩, .string ⟨a.text.toArray⟩, .string ⟨a.to.toArray⟩]

def ActFine (a : ActV) : Prop := a.name.length ≤ 1048576 ∧ a.text.length ≤ 1048576 ∧ a.to.length ≤ 1048576 ∧ (Lit.int .i64 a.kind).wf = true

theorem DoRes.of {w w1 w' : World} {H b : Nat} {fs : List FileV} {r r' : Option (List FileV)} {e : Ending} (h : DoRes w1 H b fs r' e w') (hr : r = r') (hb : Below H w w1) : DoRes w H b fs r e w' := by
  subst hr; exact ⟨h.1, h.2.1, hb.trans h.2.2⟩

set_option maxHeartbeats 4000000 in
theorem tabDo_any (fs : List FileV) (hok : diskOk fs = true) (a : ActV) (ha : ActFine a) (w : World) (H b : Nat) (hH : H ≤ w.heap.size) (hT : TabOk w H b fs) :
    Calls Try.prog 21 #[.map (some b), aval a] w fun e w' => DoRes w H b fs (doL fs a) e w' := by
  obtain ⟨kd, nm, tx, to⟩ := a
  obtain ⟨a1, a2, a3, a4⟩ := ha
  simp only at a1 a2 a3
  unfold aval
  simp only
  have hb0 := (Below.refl w.heap.size w).alloc (Nat.le_refl _) (.cells #[.int .i64 kd, .string ⟨nm.toArray⟩, .string ⟨tx.toArray⟩, .string ⟨to.toArray⟩] 37)
  have hB0 := (Below.refl H w).alloc hH (.cells #[.int .i64 kd, .string ⟨nm.toArray⟩, .string ⟨tx.toArray⟩, .string ⟨to.toArray⟩] 37)
  have hT1 := hT.below hb0
  have hH1 : H ≤ (w.alloc (.cells #[.int .i64 kd, .string ⟨nm.toArray⟩, .string ⟨tx.toArray⟩, .string ⟨to.toArray⟩] 37)).heap.size := by simp; omega
  have HOK := hide hok
  have HT1 := hide hT1
  have HT := hide hT
  clear hT1 hT hb0 a4
  by_cases k1 : kd = 1
  · subst k1
    cases to with
    | nil =>
      have R := hide (do_add HOK.out ⟨1, nm, tx, []⟩ rfl rfl)
      have hA := hide (tabAdd_any fs HOK.out nm tx a1 a2 _ H b hH1 HT1.out)
      clear hok
      go_enter Try.func21, Try.ntmps21
      go_wp2_with (go_at_call 39; refine hA.out.mono ?_; rintro e w1 hd; have hd1 := hd.1; subst hd1)
      go_ret
      exact hd.of R.out hB0
    | cons c r =>
      have R := hide (do_off (fs := fs) ⟨1, nm, tx, c :: r⟩ (.inr (.inl ⟨by simp, by simp⟩)))
      clear hok
      go_enter Try.func21, Try.ntmps21
      go_wp2_with fail
      go_ret
      exact DoRes.no R.out HT1.out hB0
  have g1 : (kd == 1) = false := by simp [k1]
  by_cases k2 : kd = 2
  · subst k2
    cases tx with
    | cons c r =>
      have R := hide (do_off (fs := fs) ⟨2, nm, c :: r, to⟩ (.inr (.inr ⟨by simp, by simp⟩)))
      clear hok
      go_enter Try.func21, Try.ntmps21
      go_wp2_with fail
      go_ret
      exact DoRes.no R.out HT1.out hB0
    | nil =>
      cases to with
      | cons c r =>
        have R := hide (do_off (fs := fs) ⟨2, nm, [], c :: r⟩ (.inr (.inl ⟨by simp, by simp⟩)))
        clear hok
        go_enter Try.func21, Try.ntmps21
        go_wp2_with fail
        go_ret
        exact DoRes.no R.out HT1.out hB0
      | nil =>
        have R := hide (do_keep HOK.out ⟨2, nm, [], []⟩ rfl rfl rfl)
        have hA := hide (tabKeep_any fs HOK.out nm a1 _ H b hH1 HT1.out)
        clear hok
        go_enter Try.func21, Try.ntmps21
        go_wp2_with (go_at_call 40; refine hA.out.mono ?_; rintro e w1 hd; have hd1 := hd.1; subst hd1)
        go_ret
        exact hd.of R.out hB0
  have g2 : (kd == 2) = false := by simp [k2]
  by_cases k3 : kd = 3
  · subst k3
    cases tx with
    | cons c r =>
      have R := hide (do_off (fs := fs) ⟨3, nm, c :: r, to⟩ (.inr (.inr ⟨by simp, by simp⟩)))
      clear hok
      go_enter Try.func21, Try.ntmps21
      go_wp2_with fail
      go_ret
      exact DoRes.no R.out HT1.out hB0
    | nil =>
      have R := hide (do_move HOK.out ⟨3, nm, [], to⟩ rfl rfl)
      have hA := hide (tabMove_any fs HOK.out nm to a1 a3 _ H b hH1 HT1.out)
      clear hok
      go_enter Try.func21, Try.ntmps21
      go_wp2_with (go_at_call 41; refine hA.out.mono ?_; rintro e w1 hd; have hd1 := hd.1; subst hd1)
      go_ret
      exact hd.of R.out hB0
  have g3 : (kd == 3) = false := by simp [k3]
  by_cases k4 : kd = 4
  · subst k4
    cases tx with
    | cons c r =>
      have R := hide (do_off (fs := fs) ⟨4, nm, c :: r, to⟩ (.inr (.inr ⟨by simp, by simp⟩)))
      clear hok
      go_enter Try.func21, Try.ntmps21
      go_wp2_with fail
      go_ret
      exact DoRes.no R.out HT1.out hB0
    | nil =>
      cases to with
      | cons c r =>
        have R := hide (do_off (fs := fs) ⟨4, nm, [], c :: r⟩ (.inr (.inl ⟨by simp, by simp⟩)))
        clear hok
        go_enter Try.func21, Try.ntmps21
        go_wp2_with fail
        go_ret
        exact DoRes.no R.out HT1.out hB0
      | nil =>
        have R := hide (do_drop HOK.out ⟨4, nm, [], []⟩ rfl rfl rfl)
        have hA := hide (tabDrop_any fs HOK.out nm a1 _ H b hH1 HT1.out)
        clear hok
        go_enter Try.func21, Try.ntmps21
        go_wp2_with (go_at_call 42; refine hA.out.mono ?_; rintro e w1 hd; have hd1 := hd.1; subst hd1)
        go_ret
        exact hd.of R.out hB0
  have g4 : (kd == 4) = false := by simp [k4]
  have R := hide (do_off (fs := fs) ⟨kd, nm, tx, to⟩ (.inl ⟨k1, k2, k3, k4⟩))
  clear hok k1 k2 k3 k4
  go_enter Try.func21, Try.ntmps21
  go_wp2_with fail
  go_ret
  exact DoRes.no R.out HT1.out hB0

end Go.Proofs.Ytdcdlfkbdeogeaa

namespace Go.Proofs.Ytdcdlfkbdeogeaa
open Go.RowKit P5 K
set_option linter.unusedVariables false
set_option linter.unusedSimpArgs false

theorem run_makeMap_hint (n : Int) (w : World) : (Instr.makeMap 52 (some (.int .i64 n))).run Try.prog w = .ok (.map (some w.heap.size)) (w.alloc (.map #[] 0)) := by
  simp [Instr.makeMap, Sem.run_bind, run_underlying Try.underlying52 w, asInt, Result.andThen, newObj]
  try rfl

theorem take_file {fs : List FileV} (hA : Asc fs) {j : Nat} {f : FileV} (hf : fs[j]? = some f) :
    fileAt (fs.take (j + 1)) = upd (fileAt (fs.take j)) f.name (some f) ∧ fileAt (fs.take j) f.name = none := by
  have hn : fileAt (fs.take j) f.name = none := by
    rw [fileAt_none]
    intro g hg e
    obtain ⟨i, hi, rfl⟩ := List.mem_iff_getElem.1 hg
    rw [List.length_take] at hi
    have hj : j < fs.length := (List.getElem?_eq_some_iff.1 hf).1
    have h1 := List.pairwise_iff_getElem.1 hA i j (by omega) hj (by omega)
    have h2 : fs[j] = f := (List.getElem?_eq_some_iff.1 hf).2
    rw [List.getElem_take] at e
    rw [h2] at h1
    exact name_ne h1 e
  refine ⟨?_, hn⟩
  funext x
  rw [List.take_add_one, hf, Option.toList_some, fileAt_append, fileAt_cons]
  unfold upd
  by_cases e : x = f.name
  · subst e; rw [if_pos rfl, if_pos rfl, hn]; rfl
  · rw [if_neg e, if_neg (fun h => e h.symm)]
    show (fileAt (fs.take j) x).or (fileAt [] x) = _
    cases fileAt (fs.take j) x <;> rfl

set_option maxRecDepth 100000 in
set_option maxHeartbeats 4000000 in
theorem tableOf_any (oa : Option Addr) (n cap : Nat) (fs : List FileV) (w : World) (hat : FilesAt w oa n cap fs) (hok : diskOk fs = true) :
    Calls Try.prog 20 #[.agg #[.slice oa n cap]] w fun e w' => ∃ b, e = .returned (.map (some b)) ∧ TabOk w' w.heap.size b fs ∧ Below w.heap.size w w' := by
  obtain ⟨o1, o2, o3⟩ := (diskOk_iff fs).1 hok
  have hmm := run_makeMap_hint (n : Int)
  have hn := hat.len
  have hn30 : n ≤ 30 := by omega
  have HN := hide hn
  have HAT := hide hat
  have HO2 := hide o2
  have HO3 := hide o3
  clear hn hat o2 o3 hok
  go_enter Try.func20, Try.ntmps20
  go_wp2_with fail
  have ht0 : TabOk ((w.alloc (.cells #[.slice oa n cap] 26)).alloc (.map #[] 0)) w.heap.size (w.heap.size + 1) (fs.take 0) := by
    have hm := World.ownsMap_made (w.alloc (.cells #[.slice oa n cap] 26)) Try.prog 9 ptrElem
    rw [World.size_alloc] at hm
    refine ⟨.map [], fun _ => 0, ⟨by omega, hm, rfl, fun nm _ => rfl, fun nm f hf => ?_, fun nm nm' f f' hf => ?_⟩⟩
    · simp [fileAt] at hf
    · simp [fileAt] at hf
  have hb0 : Below w.heap.size w ((w.alloc (.cells #[.slice oa n cap] 26)).alloc (.map #[] 0)) := ((Below.refl _ w).alloc (Nat.le_refl _) _).alloc (by simp) _
  have HT0 := hide ht0
  have HB0 := hide hb0
  clear ht0 hb0
  go_loopw [13] (fun i wr => ∃ j : Nat, i = .int .i64 (j : Int) ∧ j ≤ n ∧ TabOk wr w.heap.size (w.heap.size + 1) (fs.take j) ∧ Below w.heap.size w wr) (fun i _ => n - (intOf i).toNat)
  case atStart => exact ⟨0, rfl, Nat.zero_le _, HT0.out, HB0.out⟩
  case round =>
    obtain ⟨j, rfl, hj, hT, hbel⟩ := hrel
    have HTR := hide hT
    have HBR := hide hbel
    have hsz := hbel.size
    clear hT hbel
    by_cases hlt : j < n
    · have j0 : (j : Int) < (n : Int) := by omega
      obtain ⟨f, b, q, hf, hidx, hb, e0, e1, e2⟩ := (HAT.out.below HBR.out).get Try.underlying24 infoIF j hlt
      have hfo := (fileOk_iff f).1 (HO2.out f (List.mem_of_getElem? hf))
      have hnl : f.name.length ≤ 8 := by have := hfo.1; simp [P5.nameOk] at this; omega
      have htk := take_file HO3.out hf
      have hkey := keyNm f.name (by omega)
      have HFO := hide hfo
      have HK := hide htk
      clear hf hfo htk
      obtain ⟨D, p, hT⟩ := HTR.out
      have hba : Below wr.heap.size wr ((wr.alloc (.cells (fileCs f) 49)).alloc (.cells (fileCs f) 49)) := ((Below.refl _ wr).alloc (Nat.le_refl _) _).alloc (by simp) _
      have hTa := hT.below hba
      have hown1 := hTa.own
      have hll : (fs.take j).length = j := by rw [List.length_take, HN.out]; omega
      rw [hll] at hown1
      have HTA := hide hTa
      have HBA := hide hba
      have HT := hide hT
      clear hTa hba hT HTR
      go_wp2_with (at_mapUpdate; refine wpList_mapUpdate_in _ rfl _ _ _ 52 rfl 9 72 (Maps.string_keyed Try.underlying9) Try.underlying52 ptrElem (w.heap.size + 1) j D rfl hown1 (by unfold maxLen; omega) _ _ (.string f.name) rfl rfl hkey (ptrD _) [] (ptrElem_mk _) ?_; intro w1 hown2 hturn2)
      have hblk : FileBlk ((wr.alloc (.cells (fileCs f) 49)).alloc (.cells (fileCs f) 49)) (wr.heap.size + 1) f := by
        have := heap_alloc_new (wr.alloc (.cells (fileCs f) 49)) (.cells (fileCs f) 49)
        rwa [World.size_alloc] at this
      have h3 := HTA.out.store hblk (by omega) (fun x f' hx hne e => by
        have := (HT.out.yes x f' hx).2.2.2.lt
        omega) hown2 hturn2
      rw [HK.out.2, ← HK.out.1, hll] at h3
      have hT' : TabOk w1 w.heap.size (w.heap.size + 1) (fs.take (j + 1)) := ⟨_, _, by
        have e : (fs.take (j + 1)).length = j + 1 := by rw [List.length_take, HN.out]; omega
        rw [e]; exact h3⟩
      have hB' : Below w.heap.size w w1 := (HBR.out.trans (HBA.out.mono hsz)).trans (turned_below hturn2 (by simp; omega) (by omega))
      clear h3 hown2 hturn2 hown1
      go_wp2_with fail
      go_roundw
      case rel => exact ⟨j + 1, by go_num, by omega, hT', hB'⟩
      case measure => simp [intOf]; omega
    · have hall : fs.take j = fs := List.take_of_length_le (by rw [HN.out]; omega)
      have HA := hide hall
      clear hall
      go_wp2_with fail
      go_ret
      exact ⟨_, rfl, by rw [← HA.out]; exact HTR.out, HBR.out⟩

end Go.Proofs.Ytdcdlfkbdeogeaa
