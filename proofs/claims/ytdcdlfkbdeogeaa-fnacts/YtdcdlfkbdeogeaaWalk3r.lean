/-
  Walks of chapter 3: the disk of a table.
-/
import Derived.Test.YtdcdlfkbdeogeaaPack13
import Derived.Test.YtdcdlfkbdeogeaaWalk3k
import Derived.Test.YtdcdlfkbdeogeaaIter
import Derived.Sort.KeysCollected
import Derived.RangeFuncBox
namespace Go.Proofs.Ytdcdlfkbdeogeaa
open Go.RowKit P5 K
set_option linter.unusedVariables false
set_option linter.unusedSimpArgs false

def names (fs : List FileV) : List (List UInt8) := fs.map (·.name)

theorem names_nodup {fs : List FileV} (h : Asc fs) : (names fs).Nodup := by
  unfold names
  exact List.pairwise_map.2 (h.imp fun {a b} hab => name_ne hab)

theorem mem_names {fs : List FileV} {x : List UInt8} : x ∈ names fs ↔ (fileAt fs x).isSome = true := by
  unfold names
  rw [List.mem_map]
  constructor
  · rintro ⟨f, hf, rfl⟩
    rw [Option.isSome_iff_ne_none]
    intro hn
    exact fileAt_none.1 hn f hf rfl
  · intro h
    obtain ⟨f, hf⟩ := Option.isSome_iff_exists.1 h
    obtain ⟨h1, h2⟩ := fileAt_some hf
    exact ⟨f, h1, h2⟩

theorem names_sorted {fs : List FileV} (h : Asc fs) : (names fs).mergeSort leB = names fs := by
  refine List.mergeSort_of_pairwise ?_
  unfold names
  refine List.pairwise_map.2 (h.imp fun {a b} hab => ?_)
  simp only [leB, decide_eq_true_eq]
  exact List.le_of_lt hab

theorem Tab.sorted {w : World} {H b : Nat} {fs : List FileV} {D : DataW Unit} {p : List UInt8 → Nat} (h : Tab w H b (fileAt fs) fs.length D p) (hA : Asc fs) {ss : List (List UInt8)} (hs : ss.Perm (strKeys D)) : ss.mergeSort leB = names fs := by
  have hc : Collected D (fun _ => false) (names fs) := by
    refine ⟨names_nodup hA, fun x => ?_⟩
    rw [mem_names]
    cases hf : fileAt fs x with
    | none => rw [h.no x hf]; simp
    | some f => rw [(h.yes x f hf).1]; simp
  have hp := hc.perm h.own (Maps.string_keyed Try.underlying9) Try.underlying9 (fun _ => rfl)
  rw [mergeSort_of_perm (hs.trans hp.symm), names_sorted hA]

/-- New blocks, and a step of one that is new or the same. -/
theorem grown_on {a b c : World} {d : Nat} {row : Option Nat} (h : a.grownBy b (some d)) (k : b.grownBy c row) (hr : ∀ r, row = some r → a.heap.size ≤ r ∨ r = d) : a.grownBy c (some d) :=
  ⟨k.os.trans h.os, k.tape.trans h.tape, k.output.trans h.output, Nat.le_trans h.size k.size, fun i hi hne => (k.block i (Nat.lt_of_lt_of_le hi h.size) (fun e => by
    rcases hr i e.symm with h1 | h1
    · omega
    · exact hne (by rw [h1]))).trans (h.block i hi hne)⟩

/-- A disk of the call's own memory. -/
def DiskOne (w : World) (ds : List FileV) (e : Ending) (w' : World) : Prop := ∃ v, e = .returned (.agg #[v]) ∧ w'.ownsRow w.heap.size 49 3 v ds.length (ds.flatMap fcells) ∧ Below w.heap.size w w'

theorem take_flat {fs : List FileV} {j : Nat} {f : FileV} (hf : fs[j]? = some f) : (fs.take (j + 1)).flatMap fcells = (fs.take j).flatMap fcells ++ [.string ⟨f.name.toArray⟩, .string ⟨f.text.toArray⟩, .int .i64 f.kept] := by
  rw [List.take_add_one, hf, List.flatMap_append]
  simp [fcells]

/-- A row of texts that the call owns, as a slice. -/
theorem strs_of_own {w : World} {base : Nat} {v : Value} {n : Nat} {xs : List (List UInt8)} (h : w.ownsRow base 9 1 v n (xs.map Go.Proofs.encStr)) :
    ∃ oa cap, v = .slice oa n cap ∧ ∀ j, j < n → ∃ x g, xs[j]? = some x ∧ base ≤ g ∧ (∀ wx, (Instr.indexAt 66 (.slice oa n cap) (.int .i64 (j : Int))).run Try.prog wx = .ok (.pointer (some ⟨g, j, none⟩)) wx) ∧ w.cell? ⟨g, j, none⟩ = some (.string ⟨x.toArray⟩) := by
  have hl : xs.length = n := by have := h.1; simpa using this
  rcases h.2 with ⟨rfl, rfl⟩ | ⟨g, cap, cur, rfl, hb, _⟩
  · exact ⟨none, 0, rfl, fun j hj => absurd hj (Nat.not_lt_zero _)⟩
  · refine ⟨some ⟨g, 0, none⟩, cap, rfl, fun j hj => ?_⟩
    refine ⟨xs[j]'(by omega), g, List.getElem?_eq_getElem (by omega), hb, fun wx => ?_, ?_⟩
    · have := run_indexAt_slice (P := Try.prog) wx 66 9 1 Try.underlying66 (by kernel_rfl) g 0 n cap j hj
      rwa [Nat.zero_add, Nat.mul_one] at this
    · exact own_at h j _ (by rw [List.getElem?_map, List.getElem?_eq_getElem (show j < xs.length by omega)]; rfl)

set_option maxRecDepth 100000 in
set_option maxHeartbeats 4000000 in
theorem tabDisk_any (fs : List FileV) (hok : diskOk fs = true) (w : World) (H b : Nat) (hT : TabOk w H b fs) :
    Calls Try.prog 22 #[.map (some b)] w fun e w' => DiskOne w fs e w' := by
  obtain ⟨D, p, hT⟩ := hT
  obtain ⟨o1, o2, o3⟩ := (diskOk_iff fs).1 hok
  have hbl := hT.own.lt
  have hb0 : Below w.heap.size w ((w.alloc (.cells #[.slice none 0 0] 26)).alloc (.cells #[.slice none 0 0] 26)) := ((Below.refl _ w).alloc (Nat.le_refl _) _).alloc (by simp) _
  have hT0 := hT.below hb0
  have HTT := hide hT
  have HB0 := hide hb0
  have HO2 := hide o2
  have HO3 := hide o3
  clear hb0 o2 o3 hok hT
  go_enter Try.func22, Try.ntmps22
  go_wp2_with fail
  refine (callsIn_wide.1 (Try.maps_Keys_44 _ _)).mono ?_
  rintro e w1 ⟨rfl, rfl⟩
  go_wp2_with fail
  have hsort := Try.slices_Sorted_keys_43_44 b fs.length D ptrElem _ hT0.own (by rw [hT0.size]; unfold maxLen; omega) (by rw [hT0.size]; omega)
  simp only [World.size_alloc] at hsort
  have HT0 := hide hT0
  clear hT0
  refine (callsIn_wide.1 hsort).mono ?_
  rintro e w2 ⟨v, ss, rfl, hperm, hkeys, _, hb2⟩
  have hsn := HT0.out.sorted HO3.out hperm
  have hnl : ss.length = fs.length := by
    have h1 := congrArg List.length hsn
    simpa [names] using h1
  have hkeys' : w2.ownsRow (w.heap.size + 1 + 1 + 1) 9 1 v fs.length ((names fs).map Go.Proofs.encStr) := by
    rw [← hsn, ← hnl]; exact hkeys
  obtain ⟨oa, cap, rfl, hk⟩ := strs_of_own hkeys'
  have HK := hide hk
  have hs2 : w.heap.size + 3 ≤ w2.heap.size := by have := hb2.size; simp at this; omega
  have b0 : Boxed (((w.alloc (.cells #[.slice none 0 0] 26)).alloc (.cells #[.slice none 0 0] 26)).alloc (.cells #[.map (some b)] 52)) w.heap.size 26 (.slice none 0 0) := ((Boxed.new w 26 (.slice none 0 0)).alloc _).alloc _
  have b1 : Boxed (((w.alloc (.cells #[.slice none 0 0] 26)).alloc (.cells #[.slice none 0 0] 26)).alloc (.cells #[.map (some b)] 52)) (w.heap.size + 1) 26 (.slice none 0 0) := by
    have := Boxed.new (w.alloc (.cells #[.slice none 0 0] 26)) 26 (.slice none 0 0)
    rw [World.size_alloc] at this
    exact this.alloc _
  have b0' : Boxed w2 w.heap.size 26 (.slice none 0 0) := (hb2.block _ (by omega)).trans b0
  have b1' : Boxed w2 (w.heap.size + 1) 26 (.slice none 0 0) := (hb2.block _ (by omega)).trans b1
  have c1 := b1'.cell
  have z1 := b1'.frozen
  have BX0 := hide b0'
  clear b0 b1 b0' b1'
  have hB2 : Below w.heap.size w w2 := (HB0.out.alloc (by simp; omega) _).trans (hb2.mono (by omega))
  have hT2 := HTT.out.kept (w' := w2) (row := none) (grown_below hB2) (fun r e => by cases e)
  have hrow0 : Row1 w w.heap.size (w.heap.size + 1) w2.heap.size w2 (.slice none 0 0) 0 [] := ⟨hB2, Nat.le_refl _, by omega, c1, z1, World.ownsRow_nil _ _ _ _⟩
  have HR0 := hide hrow0
  have HT2 := hide hT2
  have hgr0 : w2.grownBy w2 (some (w.heap.size + 1)) := World.grownBy.refl _ _
  have HG0 := hide hgr0
  clear hkeys hkeys' hk hb2 hrow0 hT2 hsort hsn hperm hgr0 HT0
  go_wp2_with fail
  go_loopw [10] (fun i wr => ∃ (j : Nat) (ov : Option Addr) (cv : Nat), i = .int .i64 (j : Int) ∧ j ≤ fs.length ∧ Row1 w w.heap.size (w.heap.size + 1) w2.heap.size wr (.slice ov j cv) j ((fs.take j).flatMap fcells) ∧ w2.grownBy wr (some (w.heap.size + 1))) (fun i _ => fs.length - (intOf i).toNat)
  case atStart => exact ⟨0, none, 0, rfl, Nat.zero_le _, by simpa using HR0.out, HG0.out⟩
  case round =>
    obtain ⟨j, ov, cv, rfl, hj, hrow, hgr⟩ := hrel
    have HR := hide hrow
    have HG := hide hgr
    clear hrow hgr HR0 HG0
    by_cases hlt : j < fs.length
    · have j0 : (j : Int) < (fs.length : Int) := by omega
      obtain ⟨x, g, hx, hg0, hidx, hc⟩ := HK.out j hlt
      have hcr : wr.cell? ⟨g, j, none⟩ = some (.string ⟨x.toArray⟩) := HG.out.cell hc (fun e => by have := Option.some.inj e; simp at this; omega)
      obtain ⟨f, hf⟩ : ∃ f, fs[j]? = some f := ⟨_, List.getElem?_eq_getElem hlt⟩
      have hxn : x = f.name := by
        unfold names at hx
        rw [List.getElem?_map, hf] at hx
        exact (Option.some.inj hx).symm
      subst hxn
      have hfm := List.mem_of_getElem? hf
      have hfa := fileAt_mem HO3.out hfm
      have hfo := (fileOk_iff f).1 (HO2.out f hfm)
      have hnl8 : f.name.length ≤ 8 := by have := hfo.1; simp [P5.nameOk] at this; omega
      have htl : f.text.length ≤ 20000 := hfo.2.1
      have hTr := HT2.out.kept (w' := wr) HG.out (fun r e => by
        cases e
        refine ⟨by omega, fun nm f' hnm => ?_⟩
        have := (HTT.out.yes nm f' hnm).2.2.2.lt
        omega)
      have hlk := (hTr.below ((Below.refl _ wr).drew)).lookOne (by omega) hfa
      obtain ⟨_, _, _, hblk⟩ := hTr.yes f.name f hfa
      obtain ⟨q, hq⟩ : ∃ q, p f.name = q := ⟨_, rfl⟩
      rw [hq] at hlk hblk
      have e0 := hblk.c0
      have e1 := hblk.c1
      have e2 := hblk.c2
      have hCP := hide (copied_any f (by omega) (by omega))
      have HF := hide hf
      have d1 := HR.out.cell
      have d2 := HR.out.free
      have d3 : w.heap.size + 1 < wr.heap.size := by have := HR.out.big; omega
      clear hTr hblk hq hfa hfo hfm hf hx hc
      go_upto_region 5 with fail
      go_region_law (first
        | (refine step_push3 (by rfl) _ _ 24 (by rfl) Try.underlying24 infoIFz (by rfl) (cs := #[.string ⟨f.name.toArray⟩, .string ⟨f.text.toArray⟩, .int .i64 f.kept]) (by rfl) (by exact own_below HR.out.own (hB4.alloc hB4.size _)) (by rfl) (by rfl) (by exact heap_alloc_new _ _) (by simp [Value.oneCell']) (by have := HR.out.big; have := hB4.size; simp; omega) (by unfold maxLen; omega) (by omega) ?_; intro v' w3 ho3 hg3; obtain ⟨ov', cv', rfl⟩ := own_form ho3; obtain ⟨d4, f4⟩ := HR.out.mid (hB4.alloc hB4.size _) hg3)
        | (rw [if_pos (by rfl)]; go_simp; go_at_call 19; refine (hCP.out _).mono ?_; unfold fval; rintro e w4 ⟨rfl, hb4⟩; have hB4 : Below wr.heap.size wr w4 := (Below.refl wr.heap.size wr).drew.trans hb4; have d5 := (hB4.cell (p := ⟨w.heap.size + 1, 0, none⟩) d3).trans d1; have d6 : w.heap.size + 1 < w4.heap.size := Nat.lt_of_lt_of_le d3 hB4.size))
      all_goals
        have hrow' : Row1 w w.heap.size (w.heap.size + 1) w2.heap.size (w3.setCell ⟨w.heap.size + 1, 0, none⟩ (.slice ov' (j + 1) cv')) (.slice ov' (j + 1) cv') (j + 1) ((fs.take (j + 1)).flatMap fcells) := by
          rw [take_flat HF.out]
          exact HR.out.next (hB4.alloc hB4.size _) ho3 hg3
        have hgr' : w2.grownBy (w3.setCell ⟨w.heap.size + 1, 0, none⟩ (.slice ov' (j + 1) cv')) (some (w.heap.size + 1)) := by
          refine grown_on (grown_on (grown_on HG.out (grown_below (row := none) (hB4.alloc hB4.size _)) (fun r e => by cases e)) hg3 (fun r e => ?_)) (grownBy_set _ _ _ _) (fun r e => by cases e; exact .inr rfl)
          exact .inl ((HR.out.own.lt r e).1)
        clear ho3 hg3 d4 f4
        go_wp2_with fail
        go_roundw
        case rel => exact ⟨j + 1, ov', cv', by go_num, by omega, hrow', hgr'⟩
        case measure => simp [intOf]; omega
    · obtain rfl : j = fs.length := by omega
      have b0r : Boxed wr w.heap.size 26 (.slice none 0 0) := BX0.out.kept HG.out (fun e => by have := Option.some.inj e; omega)
      have k0 := b0r.cell
      have q0 := b0r.frozen
      have d1 := HR.out.cell
      go_wp2_with fail
      refine bodyPost_ret (v := .agg #[.slice ov fs.length cv]) (by simp [results, Try.results22, go_sem, k0, q0]) rfl ⟨.slice ov fs.length cv, rfl, ?_, HR.out.bel.setCell (by simp) _⟩
      have h1 := own_setCell HR.out.own (p := ⟨w.heap.size, 0, none⟩) (by simp; omega) (.slice ov fs.length cv)
      rw [List.take_length] at h1
      exact own_base h1 (by omega)

end Go.Proofs.Ytdcdlfkbdeogeaa
